import Derived.Test.YtajaekfdcpjjfaaGreatDoorDZDC
set_option maxHeartbeats 0
set_option maxRecDepth 99999
namespace Go.Proofs.YtajaekfdcpjjfaaGreatDoor
open Da bS Rd
open Go.Proofs.Tryz
open Go.RowKit Go.Maps Go.WideMaps
theorem atP{x:Mo}(h:xH 8196 x<=1048576):x.name.size<=maxLen:=by
 unfold xH at h;have:(1048576:Nat)<=maxLen:=by decide
 omega
structure Lpx(w wr:World)(P:Nat->Bool)(d mp LB cnt:Nat)(cL:Array Value)(ss:List ByteArray)(G:Nat)(L:Nat->Nat)(Z:Nat->Nat->Bool)(T:ByteArray->Option Value)(l:List Mo):Prop where
 da:dO P wr d ss G L Z l
 map:qo wr mp cnt (.string ⟨#[]⟩) T
 told:Da.Told T l
 lat:wr.heap[LB]?=some (.cells cL 25 (0,0))
 wB:Below w.heap.size w wr
 dw:w.heap.size<=d
 mw:w.heap.size<=mp
 dm:d≠mp
 ld:LB≠d
 lm:LB≠mp
 pm:P mp=false
section
variable {w wr wx wy : World} {P : Nat → Bool} {d mp LB cnt cnt' : Nat} {cL : Array Value} {ss : List ByteArray} {G : Nat} {L : Nat → Nat} {Z : Nat → Nat → Bool} {T T' : ByteArray → Option Value} {l l' : List Mo}
theorem Lpx.below(a:Lpx w wr P d mp LB cnt cL ss G L Z T l)(b:bK wr wx):Lpx w wx P d mp LB cnt cL ss G L Z T l:=
 ⟨a.da.below b,a.map.below b,a.told,bH a.lat b,up a.wB b,a.dw,a.mw,a.dm,a.ld,a.lm,a.pm⟩
theorem Lpx.more(a:Lpx w wr P d mp LB cnt cL ss G L Z T l)(b:cnt<=cnt'):Lpx w wr P d mp LB cnt' cL ss G L Z T l:=⟨a.da,a.map.mono b,a.told,a.lat,a.wB,a.dw,a.mw,a.dm,a.ld,a.lm,a.pm⟩
theorem Lpx.but(a:Lpx w wr P d mp LB cnt cL ss G L Z T l)(b:But d wr wx)(e:dO P wx d ss G L Z l')(g:Da.Told T l'):Lpx w wx P d mp LB cnt cL ss G L Z T l':=
 ⟨e,a.map.same<|b.block mp a.map.lt (λc=>a.dm c.symm),g,b.at a.ld a.lat,a.wB.trans<|b.below a.dw a.wB.size,a.dw,a.mw,a.dm,a.ld,a.lm,a.pm⟩
theorem Lpx.both(a:Lpx w wr P d mp LB cnt cL ss G L Z T l)(e:But d wr wx)(g:dO P wx d ss G L Z l')(b:But mp wx wy)(h:qo wy mp cnt' (A ⟨#[]⟩) T')(i:Da.Told T' l'):Lpx w wy P d mp LB cnt' cL ss G L Z T' l':=
 have c:=a.wB.trans<|e.below a.dw a.wB.size
 ⟨g.but b a.pm a.dm,h,i,b.at a.lm<|e.at a.ld a.lat,c.trans<|b.below a.mw c.size,a.dw,a.mw,a.dm,a.ld,a.lm,a.pm⟩
end
structure Lqx(w wr:World)(P:Nat->Bool)(d f mp cnt:Nat)(vn:Value)(ss:List ByteArray)(G:Nat)(L:Nat->Nat)(Z:Nat->Nat->Bool)(T:ByteArray->Option Value)(l l':List Mo):Prop where
 da:dO P wr d ss G L Z l
 fa:dO P wr f ss G L Z l'
 map:qo wr mp cnt (.string ⟨#[]⟩) T
 nm:Strs (only P wr) vn (l.map λx=>x.name)
 wB:Below w.heap.size w wr
 fw:w.heap.size<=f
 df:d≠f
 mf:mp≠f
section
variable {w wr wx : World} {P : Nat → Bool} {d f mp cnt : Nat} {vn : Value} {ss : List ByteArray} {G : Nat} {L : Nat → Nat} {Z : Nat → Nat → Bool} {T : ByteArray → Option Value} {l l' l9 : List Mo}
theorem Lqx.but(a:Lqx w wr P d f mp cnt vn ss G L Z T l l')(b:But f wr wx)(c:dO P wx f ss G L Z l9):Lqx w wx P d f mp cnt vn ss G L Z T l l9:=
 ⟨a.da.but b a.fa.no a.df,c,a.map.same<|b.block mp a.map.lt a.mf,a.nm.sub<|b.sub a.fa.no,a.wB.trans<|b.below a.fw a.wB.size,a.fw,a.df,a.mf⟩
end
theorem atW{w:bI}{v:aC}{ss:aJ}(g:Strs w v ss):∃(a:Option Addr) (b off cap:Nat),v=X a ss.length cap/\(0<ss.length->a=some (aN b off))/\∀(j:Nat) s,ss[j]?=some s->s.size<=maxLen/\bJ w b (off+j)=some (A s):=by obtain⟨a,b,off,cap,e,h,n,m,i⟩:=g;refine⟨a,b,off,cap,e,h,λj s c=>⟨m s<|dG c,?_⟩⟩;have k:=(cO.1 c).1;exact(i j k).trans (by rw[xK,c];rfl)
theorem auG(w:bI):(zeroValue 9).run prog w=.ok (A ⟨#[]⟩) w:=by kernel_rfl
theorem zB(w:World)(vn vl vc:Value)(ss:List aS)(G:Nat)(L:Nat->Nat)(Z:Nat->Nat->Bool)(cs:List Cl)(name:aS)(hS:Strs w vn ss)(hR:EX w vl G L Z)(hC:auY w vc cs)(ht:Tab w)(he:Qo w)(hn:name.size<=maxLen):Calls prog 5 #[.agg #[vn,vl],vc,A name] w λe w'=>e=dz (.bool true)/\bK w w':=by
 have HTW:=Y (λwx=>ZQ wx);have hmm:=@run_makeMap prog;have HNW:=Y (λwx (hb:bK w wx)=>aul wx vn vl ss G L Z (hS.below hb) (hR.below hb));have HSU:Hid (∀P wx b ss G L Z l t,bK w wx->dO P wx b ss G L Z l->(∀k,wx.heap.size<=k->P k=true)->t.size<=maxLen->Calls prog 20 #[gK b,A t] wx λe w'=>auN P wx b ss G L Z l t e w'):=Y (λP wx b ss G L Z l t hb hd hp hs=>auf P wx b ss G L Z l t hd hp (ht.below hb) (he.below hb) hs);have OJ:Hid (∀P wx b ss G L Z l s,dO P wx b ss G L Z l->(∀k,wx.heap.size<=k->P k=true)->Calls prog 22 #[gK b,A s] wx λe w'=>auP P wx b ss G L Z l s e w'):=Y (λP wx b ss G L Z l s hd hp=>aug P wx b ss G L Z l s hd hp);have HQU:Hid (∀P wx b ss G L Z l s,bK w wx->dO P wx b ss G L Z l->s.size<=maxLen->Calls prog 21 #[gK b,A s] wx λe w'=>∃vs vd,e=dz (.tuple #[.agg #[vs,vd],O (Ck.an ⟨8196,ss,G,L,Z,l⟩ s).2.2])/\Hid (xO w' vs (Ck.an ⟨8196,ss,G,L,Z,l⟩ s).1/\jg w' vd (Ck.an ⟨8196,ss,G,L,Z,l⟩ s).2.1/\bK wx w')):=Y (λP wx b ss G L Z l s hb hd hs=>aut P wx b ss G L Z l s hd (ht.below hb) hs);obtain⟨HN,HC⟩:=bV hn hC;obtain⟨a0,b0,o0,c0,rfl,-⟩:=hS;obtain⟨a1,b1,o1,c1,_,_,_,_,rfl,-⟩:=hR;obtain⟨ca,cb,co,cc,rfl,hc0,hcl,ah9⟩:=hC;obtain⟨nc,hnc⟩:=aV cs.length;have HNC:=Y hnc;rw[<-hnc]at hc0 hcl HC ⊢;obtain⟨Vi,avF⟩:=bV hc0 ah9;generalize ss.length=n0 at *;clear hn ht he hnc hc0 ah9;obtain⟨iO,HKL⟩:=sO w (aY #[X a0 n0 c0,X a1 G c1] 25);go_enter func5,ntmps5;go_upto_region 1 with fail;generalize w.alloc (aY #[X a0 n0 c0,X a1 G c1] 25)=W0 at *;obtain⟨LB,hLB⟩:=aV w.heap.size;have YN:=Y hLB;rw[<-hLB]at HKL ⊢;clear hLB;go_wp2_with fail;refine(HTW W0).mono ?_;rintro e w1 ⟨vt,vz,rfl,hts,htr,hb1⟩;obtain⟨HNT,HB1,avf⟩:=fE (aul w1 vt vz _ _ _ _ hts htr) (up iO hb1) (bH HKL hb1);clear hts htr hb1;go_wp2_with fail;refine HNT.mono ?_;intro e w2 WL;rcases WL with⟨h0,-⟩|⟨-,d,rfl,hge,hb2,hda⟩;·exact aM Om h0
 obtain⟨HB2,avG⟩:=bV (up HB1 hb2) (bH avf hb2);have HDW:Hid (w.heap.size<=d):=Y (bE HB1.out.size hge);have LZ:Hid (LB≠d):=Y (by have:=aR avf;omega);have HD0:=Y (hda (λk=>decide (k≠d)) (by simp) (λk _ _ h=>by simpa using h));clear hge hb2 hda;have MF:=Y (HSU _ w2 d _ _ _ _ _ Rd.t1 HB2 HD0 (λk hk=>by have:=HD0.lt;simp;omega) (by decide));go_wp2_with fail;refine MF.mono ?_;rintro e w3 ⟨nm,pos,er,l3,rfl,hh3⟩;obtain⟨hd3,avb,hor,hok⟩:=hh3.out;obtain rfl:=hok ZT.1 (by simp);rcases hor with⟨h0,-⟩|⟨-,-,rfl,hm3⟩;·exact aM rfl h0
 rw[ZT.2]at hm3 ⊢;rw[show Rd.s1.name=(⟨#[109]⟩:aS)from rfl];obtain rfl:l3=[Rd.s1]:=aub hd3.up (List.pairwise_singleton _ _) (λy=>by rw[hm3 y];simp);have HD3:=Y hd3;have HB3:Hid (bK w w3):=Y (HB2.trans (avb.below HDW HB2.size));have avH:=Y (avb.at LZ avG);clear hh3 hd3 avb hok hm3;have HQM:=Y (HQU _ w3 d _ _ _ _ _ ⟨#[109]⟩ HB3 HD3 (by decide));rw[at0]at HQM;go_wp2_with fail;refine HQM.mono ?_;rintro e w4 ⟨vs,vd,rfl,hh4⟩;obtain⟨a2,b2,o2,c2,rfl,-⟩:=hh4.1;obtain⟨a3,b3,o3,c3,rfl,-⟩:=hh4.2.1;obtain⟨xU,avI⟩:=bV (up HB3 hh4.2.2) (bH avH hh4.2.2);clear hh4;obtain⟨HBA,HKA⟩:=sO w4 (aY #[X a2 1 c2,X a3 0 c3] 64);obtain⟨eD,avc⟩:=bV (up xU HBA) (bH avI HBA);have hl1:([Sm.y1]:List Sc).length=1:=rfl;have hl0:([]:List Dg).length=0:=rfl;simp only[hl1,hl0];go_upto_region 8 with fail;generalize w4.alloc (aY #[X a2 1 c2,X a3 0 c3] 64)=w5 at *;generalize w4.heap.size=AB at *;obtain⟨x0,x1⟩:=jv HKA;obtain⟨y0,y1⟩:=jv avc;go_wp2_with fail;refine(HNW w5 eD).mono ?_;intro e w6 G9;rcases G9 with⟨h0,rfl,hb6⟩|⟨hE,d6,rfl,hge,hb6,hda⟩;·have fD:=Y (up eD hb6);generalize dD ss G L Z=E at *;clear x0 x1 y0 y1 hb6;go_wp2_with fail;go_ret;exact⟨rfl,fD⟩
 obtain⟨fD,avg⟩:=bV (up eD hb6) (bH avc hb6);have HDE:Hid (w.heap.size<=d6):=Y (bE eD.out.size hge);have jP:Hid (LB≠d6):=Y (by have:=aR avc;omega);obtain⟨HD6,HE0⟩:=bV (hda (λk=>decide (k≠d6)) (by simp) (λk _ _ h=>by simpa using h)) hE;clear hge hb6 hda x0 x1 y0 y1 hE;by_cases h30:30<nc;·go_wp2_with fail;go_ret;exact⟨rfl,fD⟩
 have HM0:Hid (qo (w6.alloc (.map #[] 0)) w6.heap.size 0 (A ⟨#[]⟩) (λ_=>none)):=Y (qo.new _ _);have HBM:=Y (aH w6 (.map #[] 0));have avJ:Hid (Lpx w (w6.alloc (.map #[] 0)) (λk=>decide (k≠d6)&&decide (k≠w6.heap.size)) d6 w6.heap.size LB 0 #[X a0 n0 c0,X a1 G c1] ss G L Z (λ_=>none) []):=Y (by have hlt:=HD6.lt;refine⟨HD6.see (at5 HBM (λk hk hp=>?_)) (HBM.block d6 hlt) (by simp),HM0,λx hx=>(by cases hx),bH avg HBM,up fD HBM,HDE,fD.size,by omega,jP,by have:=aR avg;omega,by simp⟩;simp at hp ⊢;exact⟨hp,by omega⟩);go_upto_region 14 with fail;generalize w6.alloc (.map #[] 0)=w7 at *;generalize w6.heap.size=mp at *;have HPF:Hid (∀wr:World,d6<wr.heap.size->mp<wr.heap.size->∀k,wr.heap.size<=k->(decide (k≠d6)&&decide (k≠mp))=true):=Y (λwr h1 h2 k hk=>by simp;omega);generalize hPP:(λk=>decide (k≠d6)&&decide (k≠mp))=P1 at *;have HPQ:Hid (∀wr:World,d6<wr.heap.size->mp<wr.heap.size->∀k,wr.heap.size<=k->P1 k=true):=Y (λwr h1 h2 k hk=>by rw[<-hPP];exact HPF wr h1 h2 k hk);go_wp2_with fail;go_loopw[16,17,18,19,90] (λcp s1 s2 s3 i wr=>∃(v1 v2 v3 v4:Value) (j:Nat) (T:aS->Option Value) (l:List Mo),v1=cp/\v2=s1/\v3=s2/\v4=s3/\j<=nc/\i=O j/\Hid (Lpx w wr P1 d6 mp LB j #[X a0 n0 c0,X a1 G c1] ss G L Z T l)) (λ_ _ _ _ i _=>nc - (intOf i).toNat);exact⟨_,_,_,_,0,_,_,rfl,rfl,rfl,rfl,bN _,rfl,avJ⟩
 obtain⟨v1,v2,v3,v4,j,T,l,rfl,rfl,rfl,rfl,hj,rfl,HR⟩:=hrel;by_cases hjl:j<nc
 ·obtain⟨c,hc⟩:∃c,cs[j]?=some c:=⟨_,aZ (by rw[<-HNC];exact hjl)⟩;obtain⟨hz,g0,g1⟩:=avF j c hc;obtain rfl:=Vi (by omega);obtain⟨HBC,HKC⟩:=sO wr (aY #[O c.kind,A c.text] 69);have HZ:=Y hz;obtain⟨u0,u1⟩:=eY (aG g0 HR.wB) (aG g1 HR.wB);have YR:=Y (HR.below HBC);clear g0 g1 hz hc;go_upto_region 17 with fail;have HCD:Hid (wr.heap.size≠d6):=Y (by have:=HR.da.lt;omega);generalize wr.alloc (aY #[O c.kind,A c.text] 69)=w8 at *;generalize wr.heap.size=CB at *;obtain⟨x0,x1⟩:=jv HKC;clear u0 u1;by_cases k0:c.kind=0
  ·have vZ:=Y (HSU P1 w8 d6 _ _ _ _ l c.text YR.wB YR.da (HPQ w8 YR.da.lt YR.map.lt) HZ);go_wp2_with fail;refine vZ.mono ?_;rintro e w9 ⟨nm,pos2,er,l9,rfl,KH⟩;obtain⟨hd9,vV,aui,-⟩:=KH.out;obtain⟨HD9,Ac⟩:=bV hd9 vV;clear KH hd9 x0 x1;by_cases e0:er=0
   ·rcases aui with⟨h0,-⟩|⟨-,hE9,rfl,hm9⟩;·exact aM e0 h0
    subst e0;obtain⟨w10,UP,auH,avh⟩:=(YR.map.same (vV.block mp YR.map.lt (λe=>YR.dm e.symm))).put underlying67 (by unfold maxLen;omega) (atP (HD9.small _ ((hm9 _).2 (aO rfl)))) (A c.text);obtain⟨-,x1⟩:=jv (vV.at HCD HKC);have HL:=Y (Lpx.both YR vV HD9 (But.agp avh) auH (Da.Told.put YR.told hE9 HZ hm9));clear vV hE9 hm9 auH avh;go_wp2_with fail;go_roundw;exact⟨_,_,_,_,j+1,_,_,rfl,rfl,rfl,rfl,by omega,by go_num,HL⟩;simp[intOf];omega
   ·rcases aui with⟨-,rfl⟩|⟨h0,-⟩
    ·have HL:=Y ((Lpx.but YR vV HD9 YR.told).more (dN j));clear vV;go_wp2_with fail;go_roundw;exact⟨_,_,_,_,j+1,_,_,rfl,rfl,rfl,rfl,by omega,by go_num,HL⟩;simp[intOf];omega
    ·exact aM h0 e0
  ·by_cases k1:c.kind=1
   ·have vZ:=Y (OJ P1 w8 d6 _ _ _ _ l c.text YR.da (HPQ w8 YR.da.lt YR.map.lt));go_wp2_with fail;refine vZ.mono ?_;rintro e w9 ⟨er,l9,rfl,KH⟩;obtain⟨hd9,vV,aui⟩:=KH.out;obtain⟨HD9,Ac,HM9⟩:=fE hd9 vV (YR.map.same (vV.block mp YR.map.lt (λe=>YR.dm e.symm)));clear KH hd9 x0 x1;obtain⟨-,x1⟩:=jv (vV.at HCD HKC);clear vV;by_cases e0:er=0
    ·rcases aui with⟨h0,-⟩|⟨-,hm9⟩;·exact aM e0 h0
     subst e0;have HTD:=Y (Da.Told.del YR.told hm9);clear hm9
     go_wp2_with (first
      | (at_delete;refine qo.drop rfl _ _ 67 9 rfl underlying67 rfl HM9 HZ rfl ?_;intro w10 auH avi;have HL:=Y ((Lpx.both YR Ac HD9 (But.agp avi.grown) auH HTD).more (dN j));clear auH avi)
      | fail)
     go_roundw;exact⟨_,_,_,_,j+1,_,_,rfl,rfl,rfl,rfl,by omega,by go_num,HL⟩;simp[intOf];omega
    ·rcases aui with⟨-,rfl⟩|⟨h0,-⟩
     ·have HL:=Y ((Lpx.but YR Ac HD9 YR.told).more (dN j));go_wp2_with fail;go_roundw;exact⟨_,_,_,_,j+1,_,_,rfl,rfl,rfl,rfl,by omega,by go_num,HL⟩;simp[intOf];omega
     ·exact aM h0 e0
   ·by_cases k2:c.kind=2
    ·have vZ:=Y (HQU P1 w8 d6 _ _ _ _ l c.text YR.wB YR.da HZ);go_wp2_with fail;refine vZ.mono ?_;rintro e w9 ⟨vs,vd,rfl,KH⟩;have HL:=Y ((YR.below KH.2.2).more (dN j));clear KH x0 x1;go_wp2_with fail;go_roundw;exact⟨_,_,_,_,j+1,_,_,rfl,rfl,rfl,rfl,by omega,by go_num,HL⟩;simp[intOf];omega
    ·have HL:=Y (YR.more (dN j));go_wp2_with fail;go_roundw;exact⟨_,_,_,_,j+1,_,_,rfl,rfl,rfl,rfl,by omega,by go_num,HL⟩;simp[intOf];omega
 ·obtain rfl:j=nc:=by omega
  obtain⟨y0,y1⟩:=eY ((aj HR.lat 0).trans (rfl:_=some (X a0 n0 c0))) ((aj HR.lat 1).trans (rfl:_=some (X a1 G c1)));go_wp2_with fail;refine(HNW wr HR.wB).mono ?_;intro e wf hhf;rcases hhf with⟨h0,-⟩|⟨-,f,rfl,hge,hbf,avj⟩;·exact aM HE0.out h0
  obtain⟨P2,hP2⟩:∃P2:Nat->Bool,P2=λk=>P1 k&&decide (k≠f):=⟨_,rfl⟩;have HP2:Hid (∀k,wr.heap.size<=k->k≠f->P2 k=true):=Y (λk hk hne=>by rw[hP2];simp only[dK,iy];exact⟨HPQ wr HR.da.lt HR.map.lt k hk,hne⟩);have HDA:Hid (dO P2 wf d6 ss G L Z l):=Y (HR.da.see (at5 hbf (λk hk hp=>by rw[hP2];simp only[dK,iy];exact⟨hp,by omega⟩)) (hbf.block d6 HR.da.lt) (by rw[hP2];simp only[HR.out.da.no,Bl]));have QB:Hid (dO P2 wf f ss G L Z []):=Y (avj P2 (by rw[hP2];simp) (λk h1 _ hne=>HP2 k h1 hne));obtain⟨HMF,ZA⟩:=bV (HR.map.below hbf) (up HR.wB hbf);have HFW:Hid (w.heap.size<=f/\wr.heap.size<=f/\d6≠f/\mp≠f):=Y (by have h1:=HR.da.lt;have h2:=HR.map.lt;have h3:=HR.wB.size;omega);obtain⟨IX,Cb⟩:=bV HR.out.told (Ce P2 wf d6 ss G L Z l HDA);have HWF:Hid (wr.heap.size<=wf.heap.size/\f<wf.heap.size):=Y ⟨hbf.size,QB.lt⟩;clear hP2 hge hbf avj y0 y1;obtain⟨ws,rfl⟩:=aV wr;go_wp2_with fail;refine Cb.mono ?_;rintro e wn ⟨eU,rfl,hhn⟩;have Md:Hid ((l.map λx=>x.name).length=l.length):=Y (by simp);have HLQ:Hid (Lqx w wn P2 d6 f mp j eU ss G L Z T l []):=Y ⟨HDA.below hhn.2,QB.below hhn.2,HMF.below hhn.2,Own.auX hhn.1 (λk h1 _=>HP2 k (bE HWF.out.1 h1) (by have:=HWF.2;omega)) (λs hs=>by obtain⟨x,hx,rfl⟩:=iZ.1 hs;exact atP (HDA.small x hx)) (by rw[Md];have:=HDA.six;omega),up ZA hhn.2,HFW.1,HFW.2.2.1,HFW.2.2.2⟩;obtain⟨va,vb,vo,vcp,avk,hv0,avK⟩:=atW HLQ.nm;rw[Md]at avk hv0;subst avk;have HV0:=Y hv0;obtain⟨nl,hnl⟩:=aV l.length;have YS:=Y hnl;have PU:nl<=6:=by rw[hnl];exact HDA.six
  rw[<-hnl]at HLQ HV0;clear hhn hv0 avK hnl;have hzs:=auG;rw[<-YS];go_wp2_with fail;go_loopw[23,24,25,26,137] (λs0 s1 s2 s3 i wr=>∃(v1 v2 v3 v4:Value) (k:Nat),v1=s0/\v2=s1/\v3=s2/\v4=s3/\k<=nl/\i=O k/\Hid (Lqx w wr P2 d6 f mp j (X va nl vcp) ss G L Z T l (l.take k))) (λ_ _ _ _ i _=>nl - (intOf i).toNat);exact⟨_,_,_,_,0,rfl,rfl,rfl,rfl,bN _,rfl,HLQ⟩
  obtain⟨v1,v2,v3,v4,k,rfl,rfl,rfl,rfl,hk,rfl,HR⟩:=hrel;obtain⟨va',vb',vo',vc',avl,avd,auZ⟩:=atW HR.nm;rw[Md,<-YS]at avl avd;injection avl with q1 q2 q3;subst q1 q3;have avL:=Y avd;have avM:=Y auZ;clear avd auZ q2;by_cases hkl:k<nl
  ·obtain⟨x,hx⟩:∃x,l[k]?=some x:=⟨_,aZ (by rw[<-YS];exact hkl)⟩;have HX:=Y hx;obtain⟨hxz,hxc⟩:=avM k x.name (by rw[pq,hx];rfl);obtain rfl:=avL.out (by omega);have u0:=C9 _ _ _ _ hxc;obtain⟨t,hT,hpe,hpx,hts⟩:=IX x (dG hx);have hlk:=HR.map.look underlying67 hzs hxz;rw[hT]at hlk;simp only[gD]at hlk;have vZ:=Y (HSU P2 wr f _ _ _ _ (l.take k) t HR.wB HR.fa (λq hq=>HP2 q (by have:=HR.fa.lt;have:=HFW.2.1;omega) (by have:=HR.fa.lt;omega)) hts);have e1:(x.name.toList==x.name.toList)=true:=by simp
   obtain⟨HPE,HPX⟩:=bV hpe hpx;clear hx hxc hT hpe hpx hts;go_wp2_with fail;refine vZ.mono ?_;rintro e w9 ⟨nm,pos2,er,l9,rfl,KH⟩;obtain⟨hd9,vV,aui,avm⟩:=KH.out;obtain rfl:=avm HPE (by rw[iA,<-YS];omega);rcases aui with⟨h0,-⟩|⟨-,-,rfl,hm9⟩;·exact aM rfl h0
   rw[HPX]at hm9 ⊢;obtain rfl:=auR HR.da.up hd9.up HX hm9;have HL:=Y (Lqx.but HR vV hd9);clear KH hd9 vV hm9 avm u0 hlk;go_wp2_with fail;go_roundw;exact⟨_,_,_,_,k+1,rfl,rfl,rfl,rfl,by omega,by go_num,HL⟩;simp[intOf];omega
  ·obtain rfl:k=nl:=by omega
   have HTA:Hid (l.take k=l):=Y (by rw[YS,jQ]);rw[HTA]at HR;have HNB:=Y (Ce P2 wr d6 ss G L Z l HR.da);obtain⟨wq,rfl⟩:=aV wr;go_wp2_with fail;refine HNB.mono ?_;rintro e wm ⟨vm,rfl,hhm⟩;obtain⟨HOM,HBM,HNM⟩:=fE (fM hhm.1 (aH wm (aY #[A name] 9))) (up hhm.2 (aH wm (aY #[A name] 9))) (bF wm (aY #[A name] 9));obtain⟨ma,mc,hvm⟩:=hhm.1.NM;rw[Md,<-YS]at hvm;subst hvm;have Vf:Hid ((l.map (λx=>x.name)++[name]).length=k+1):=Y (by rw[bg,Md,<-YS];rfl);clear hhm
   go_wp2_with (first
    | (at_builtin;refine lg rfl _ _ rfl wq.heap.size (X ma k mc) _ rfl HOM _ name rfl ((aj HNM 0).trans rfl) (by rw[Md,<-YS];omega) HBM.size ?_;intro v8 w8 qG jB;have HO8:=Y qG;have xW:=Y (HBM.grown jB HBM.size (λq e=>(Fp HOM q e).1));obtain⟨a8,c8,e8⟩:=qG.NM;rw[Vf]at e8;subst e8;clear qG jB)
    | fail)
   have Bd:Hid (dO P2 w8 d6 ss G L Z l/\dO P2 w8 f ss G L Z l/\Strs w8 (X a8 (k+1) c8) (l.map (λx=>x.name)++[name])/\bK w w8):=Y ⟨HR.da.below xW,HR.fa.below xW,Own.strs HO8 (λs hs=>by
    rcases bX.1 hs with hs|hs;·obtain⟨x,hx,rfl⟩:=iZ.1 hs;exact atP (HR.da.small x hx)
    ·rw[dh.1 hs];exact HN) (by rw[Vf];omega),up HR.wB xW⟩
   go_loopw[28,29,30,31,32,164] (λs0 s1 s2 s3 s4 i wr=>∃(v1 v2 v3 v4 v5:Value) (q:Nat),v1=s0/\v2=s1/\v3=s2/\v4=s3/\v5=s4/\q<=k+1/\i=O q/\Hid (dO P2 wr d6 ss G L Z l/\dO P2 wr f ss G L Z l/\Strs wr (X a8 (k+1) c8) (l.map (λx=>x.name)++[name])/\bK w wr)) (λ_ _ _ _ _ i _=>k+1 - (intOf i).toNat);exact⟨_,_,_,_,_,0,rfl,rfl,rfl,rfl,rfl,bN _,rfl,Bd⟩
   obtain⟨v1,v2,v3,v4,v5,q,rfl,rfl,rfl,rfl,rfl,hq,rfl,HR⟩:=hrel;by_cases hql:q<k+1
   ·obtain⟨s,hs⟩:∃s,(l.map (λx=>x.name)++[name])[q]?=some s:=⟨_,aZ (by rw[Vf];exact hql)⟩;obtain⟨pa,pb,po,pc,hpe,hp0,avn⟩:=atW HR.2.2.1;rw[Vf]at hpe hp0;injection hpe with q1 q2 q3;subst q1 q3;obtain⟨hsz,hsc⟩:=avn q s hs;obtain rfl:=hp0 (by omega);have HQ1:=Y (HQU P2 wr d6 _ _ _ _ l s HR.2.2.2 HR.1 hsz);have HQ2:=Y (λwx (hb:bK wr wx)=>HQU P2 wx f _ _ _ _ l s (up HR.2.2.2 hb) (HR.2.1.below hb) hsz);obtain⟨Zk,hA⟩:=aV (Ck.an ⟨8196,ss,G,L,Z,l⟩ s);rw[<-hA]at HQ1 HQ2;obtain⟨S,D,E⟩:=Zk;clear hA hs avn hp0 q2 hsz;go_wp2_with fail;refine HQ1.mono ?_;rintro e w9 ⟨vs,vd,rfl,KH⟩;obtain⟨HS9,HD9,Ac⟩:=fE KH.out.1 KH.out.2.1 KH.out.2.2;obtain⟨sa,_,_,sc,rfl,-⟩:=KH.1;obtain⟨da,_,_,dc,rfl,-⟩:=KH.2.1;obtain⟨sn,hsn⟩:=aV S.length;obtain⟨dn,hdn⟩:=aV D.length;rw[<-hsn]at HS9 ⊢;rw[<-hdn]at HD9 ⊢;obtain⟨HBA,HKA⟩:=sO w9 (aY #[X sa sn sc,X da dn dc] 64);obtain⟨HSN,HDN⟩:=bV hsn hdn;obtain⟨arL,avN,avO⟩:=fE (up Ac HBA) (HS9.below HBA) (HD9.below HBA);clear KH hsn hdn hsc;go_upto_region 40 with fail;generalize w9.alloc (aY #[X sa sn sc,X da dn dc] 64)=w10 at *;generalize w9.heap.size=R1 at *;go_wp2_with fail;refine(HQ2 w10 arL).mono ?_;rintro e w11 ⟨us,ud,rfl,auj⟩;obtain⟨avo,aqc,akC,avp⟩:=lD auj.out.1 auj.out.2.1 auj.out.2.2 (bH HKA auj.2.2);obtain⟨ta,_,_,tc,rfl,-⟩:=auj.1;obtain⟨ua,_,_,uc,rfl,-⟩:=auj.2.1;rw[<-HSN]at avo ⊢;rw[<-HDN]at aqc ⊢;obtain⟨QZ,HKB⟩:=sO w11 (aY #[X ta sn tc,X ua dn uc] 64);have arP:=Y (up akC QZ);obtain⟨VX,avq,alQ⟩:=fE (aua _ _ _ _ _ S D (avN.below arP) (avO.below arP) (avo.below QZ) (aqc.below QZ)) (bH avp QZ) (up arL arP);have hee:(E != E)=false:=by simp
    clear auj;go_upto_region 41 with fail;generalize w11.alloc (aY #[X ta sn tc,X ua dn uc] 64)=w12 at *;generalize w11.heap.size=R2 at *;obtain⟨x0,x1⟩:=jv avq;obtain⟨z0,z1⟩:=jv HKB;go_wp2_with fail;refine VX.mono ?_;rintro e w13 ⟨rfl,avr⟩;have alR:=Y (up alQ avr);clear avr x0 x1 z0 z1;go_wp2_with fail;go_roundw;exact⟨_,_,_,_,_,q+1,rfl,rfl,rfl,rfl,rfl,by omega,by go_num,Y ⟨HR.1.below alR,HR.2.1.below alR,HR.2.2.1.below alR,up HR.2.2.2 alR⟩⟩;simp[intOf];omega
   ·go_wp2_with fail;go_ret;exact⟨rfl,HR.2.2.2⟩
