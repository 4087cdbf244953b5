import Derived.Test.YtageneidjnbedaaGreatDoorTZBA
set_option maxHeartbeats 0
set_option maxRecDepth 99999
namespace Go.Proofs.YtageneidjnbedaaGreatDoor
open bS Sv
open Go.Proofs.Tryz
open Go.RowKit
variable{v a t k n s f i N:Nat}{S S1:Nat->Nat}
def Ho(n:Nat)(S:Nat->Nat):Prop:=∀i,i<n->S i<1099511627776
theorem FR(b:v<40):2 ^ v<1099511627776:=by have h:2 ^ v<2 ^ 40:=Nat.pow_lt_pow_right bM b;exact h
theorem alg(b:a<1099511627776)(d:v<40):a ||| 2 ^ v<1099511627776:=Nat.or_lt_two_pow (n:=40) b<|FR d
theorem aff(d:v<40):IntKind.u64.wrap (2 ^ v)=((2 ^ v:Nat):Int):=by
 have h:=FR d;have b:(2:Int) ^ v=((2 ^ v:Nat):Int):=by simp
 rw[b];generalize 2 ^ v=q at h ⊢;simp[IntKind.wrap,IntKind.bits,IntKind.signed];omega
theorem or_bit(e:a<1099511627776)(d:v<40):bits .or .u64 (a:Int) ((2:Int) ^ v)=((a ||| 2 ^ v:Nat):Int):=by
 have h:=FR d;have b:(2:Int) ^ v=((2 ^ v:Nat):Int):=by simp
 rw[b];exact u64_or_nat a (2 ^ v) bC bC
theorem alh(a v j:Nat):(a ||| 2 ^ v).testBit j=(a.testBit j||decide (v=j)):=by rw[Nat.testBit_or,Nat.testBit_two_pow]
theorem afg{fr:List Int}(h:∀i j,(S1 i).testBit j=((S i).testBit j||(decide (i=t)&&(fr.take k).contains (j:Int))))(e:fr[k]?=some (v:Int)):∀i j,(X6 S1 t (S1 t ||| 2 ^ v) i).testBit j=((S i).testBit j||(decide (i=t)&&(fr.take<|k+1).contains (j:Int))):=by
 intro i j;have d:(fr.take<|k+1).contains (j:Int)=((fr.take k).contains (j:Int)||decide (v=j)):=by
  rw[gy,e,List.contains_eq_mem,List.contains_eq_mem,vG];simp;constructor
  ·rintro(h|h);·exact aO h
   ·exact aQ bC
  ·rintro(h|h);·exact aO h
   ·exact aQ bC
 unfold X6;by_cases b:i=t;·subst b;rw[aK rfl,alh,h,d];simp[Bool.or_assoc]
 ·rw[aI b,h];simp[b]
theorem abt(h:Ho n S)(d:t<n)(e:v<40):Ho n (X6 S t<|S t ||| 2 ^ v):=λi b=>by
 unfold X6;split;·exact alg (h t d) e
 ·exact h i b
theorem afh(w0 w:bI)(c:Cf)(V:Nat->Nat × Nat)(S:Nat->Nat)(ss:aJ)(G:Nat)(L:Nat->Nat)(Z:aL)(t:Nat)(fr:List Int)(x:Nat × Nat)(vf:aC)(hL:nC w0 c.vn c.vl ss G L Z)(h:jq w0 w c V S)(hV:yS ss.length c.n V)(ht:t<c.n)(hx:Sv.Ok ss.length x)(hfr:∀f∈fr,uf c.n f=true)(hn:c.n<=40)(hF:Ints w0 vf fr)(hS:Ho c.n S):aD 169 #[gK c.p,.agg #[O t,vf,O (x.1:Nat),O (x.2:Nat)]] w λe w'=>e=dz (.tuple #[])/\∃S',jq w0 w' c (Sv.up Z ss.length V t x) S'/\Ho c.n S'/\∀i j,(S' i).testBit j=((S i).testBit j||(decide (i=t)&&fr.contains (j:Int))):=by
 obtain⟨fa,fb,fo,fc,rfl,hf0,hfl,hfe⟩:=hF;obtain⟨len,hlen⟩:=aV fr.length;have HLn:=Y hlen;rw[<-hlen]at hf0 hfl ⊢;obtain⟨W,hW⟩:∃W,W=w.alloc (aY #[O t,X fa len fc,O (x.1:Nat),O (x.2:Nat)] 242):=⟨_,rfl⟩;have hB:bK w W:=by rw[hW];exact aH w _
 have bx:dR W w.heap.size (aY #[O t,X fa len fc,O (x.1:Nat),O (x.2:Nat)] 242):=by rw[hW];exact bF w _
 obtain⟨q0,q1,q2,q3⟩:=xX bx;obtain⟨Mc,eT,Az,uK,HFR,HS0⟩:=vC (NQ w0 W c V S ss G L Z t x hL (h.below hB) hV ht hx hn) bx hfe hf0 hfr hS;obtain⟨V',hV'⟩:∃V',V'=Sv.up Z ss.length V t x:=⟨_,rfl⟩;rw[<-hV']at Mc ⊢;have lG:J (w.heap.size≠c.lb):=Y (λe=>by obtain⟨cs,h1,_⟩:=h.lab;have:=aR h1;omega);have D8:J (w.heap.size≠c.sb):=Y (λe=>by obtain⟨cs,h1,_⟩:=h.src;have:=aR h1;omega);clear hB bx h hL hV hx hfr hS hfe hf0 hlen hV';obtain⟨p,lb,sb,n,vn,vl⟩:=c;simp only at Mc HFR HS0 ht hn lG D8 ⊢;go_enter func169,ntmps169;go_wp2_with fail;rw[<-hW];clear hW;refine Mc.mono ?_;rintro e w1 ⟨rfl,hh⟩;obtain⟨h1,hb1⟩:=hh.out;have HSY:=Y h1;have b1:=hb1.at lG eT;have HB1:=Y b1;replace q0:=(aj b1 0).trans rfl;replace q1:=(aj b1 1).trans rfl;clear h1 hb1 b1 hh q2 q3;go_wp2_with fail;clear q0 q1;go_loopw[15] (λi wx=>∃k:Nat,k<=len/\i=O k/\dR wx w.heap.size (aY #[O t,X fa len fc,O (x.1:Nat),O (x.2:Nat)] 242)/\∃S',jq w0 wx ⟨p,lb,sb,n,vn,vl⟩ V' S'/\Ho n S'/\∀i j,(S' i).testBit j=((S i).testBit j||(decide (i=t)&&(fr.take k).contains (j:Int)))) (λi _=>len - (intOf i).toNat);exact⟨0,bN _,rfl,HB1,S,HSY,HS0,λi j=>by simp⟩
 obtain⟨k,hk,rfl,hbx,S1,hsy,hsk,hbit⟩:=hrel;obtain⟨K5,ali,HBT,zH⟩:=lD hsy hsk hbit hbx;clear hbit hsk;by_cases hlt:k<len
 ·obtain⟨f,hf⟩:∃f,fr[k]?=some f:=⟨_,aZ (by rw[<-HLn];exact hlt)⟩;have HFK:=Y hf;obtain⟨-,hfv,anS⟩:=lU (HFR f (dG hf));obtain⟨v,hv⟩:=aV f.toNat;have g:=aG (Az k f hf) hsy.since;rw[<-hv]at hfv anS;subst anS;obtain rfl:=uK bC;obtain⟨c0,c1,c2,c3⟩:=hsy.cell;obtain⟨s0,z0⟩:=hsy.Nc (i:=t) ht;have q0:=aj hbx 0;simp only at c0 c1 c2 c3 s0 z0;have hti:(0:Int)<=(t:Int):=by omega
  have htn:(t:Int)<(n:Int):=by omega
  have HOR:=Y (or_bit (v:=v) (ali t ht) bC);have hsh:=aff (v:=v) bC;clear hsy hbx hf hv;replace q0:=bD q0;replace c3:=bD c3;replace s0:=bD s0;clear z0 c0 c1 c2;go_wp2_with fail;refine gq 12 dw dw ?_;dsimp only[List.take,List.drop];repeat(quiet_step (fail))
  refine wpQuiet_nil ?_;intro w6 hw';obtain⟨⟨nq,osq⟩,hw''⟩:=hw';have fD:=Y (show bK wr w6 by rw[hw''];exact bU wr nq osq);have xS:=Y (K5.out.below fD.out);obtain⟨m0,y0⟩:=xS.out.Nc (i:=t) ht;simp only at m0 y0;clear hw'' q0 c3 s0;go_wp2_with fail;rw[HOR.out];go_roundw;exact⟨k+1,by omega,by go_num,aX (bH zH.out fD.out) D8.out _,_,xS.out.akz ht _,abt ali.out ht bC,afg HBT.out HFK.out⟩;exact gV
 ·clear hsy hbx;go_wp2_with fail;go_end0;refine⟨rfl,S1,K5,ali,λi j=>?_⟩;rw[HBT i j,fQ (by rw[<-HLn];omega)]
theorem afi(e:s<1099511627776):(bits .and .u64 ((s:Int) / 2 ^ f) 1==1)=s.testBit f:=by
 have b:(s:Int) / 2 ^ f=((s / 2 ^ f:Nat):Int):=by simp
 have d:s / 2 ^ f<=s:=Nat.div_le_self _ _;rw[b,show(1:Int)=((1:Nat):Int)from rfl,u64_and_nat (s / 2 ^ f) 1 bC bM,Nat.and_one_is_mod,Nat.testBit_eq_decide_div_mod_eq,vG];simp;omega
theorem abu(w0 w:bI)(c:Cf)(V:Nat->Nat × Nat)(S:Nat->Nat)(ss:aJ)(G:Nat)(L:Nat->Nat)(Z:aL)(U:nC w0 c.vn c.vl ss G L Z)(h:jq w0 w c V S)(hV:yS ss.length c.n V)(hn:c.n<=40)(hS:Ho c.n S):aD 216 #[gK c.p] w λd w'=>∃r e,d=dz (.bool r)/\jq w0 w' c e S/\Sv.Rd Z ss.length c.n S V e r/\(r=false->Sv.Closed Z c.n S e):=by
 obtain⟨HJ,ad,M,HS⟩:=lD U.joins h hV hS;have Mc:=Y (λw1 E i a (R:jq w0 w1 c E S) ah hi ha=>NQ w0 w1 c E S ss G L Z i a U R ah hi ha hn);obtain⟨p,lb,sb,n,vn,vl⟩:=c;simp only at Mc M HS hn ⊢;obtain⟨u,y,z,B⟩:=ad.cell;simp only at u y z B;clear U h hV hS;go_enter func216,ntmps216;go_wp2_with fail;clear u y z B;go_loopw[3,12] (λrs i wx=>∃k:Nat,k<=n/\i=O k/\∃r e,rs=.bool r/\jq w0 wx ⟨p,lb,sb,n,vn,vl⟩ e S/\Sv.Rd Z ss.length n S V e r/\(r=false->∀t f,t<k->f<n->(S t).testBit f=true->Sv.le Z (e f) (e t)=true)) (λ_ i _=>n - (intOf i).toNat);exact⟨0,bN _,rfl,false,V,rfl,ad,Sv.Rd.refl HJ M,λ_ t f ht=>aM ht<|fU _⟩
 obtain⟨k,hk,rfl,r,E,rfl,q,H,F⟩:=hrel;obtain⟨j,l,K5⟩:=fE H F q;obtain⟨u,y,z,B⟩:=q.cell;simp only at u y z B;clear H F q;by_cases K:k<n
 ·go_wp2_with fail;clear u y z B;go_loopw[3,20] (λrs i wx=>∃m:Nat,m<=n/\i=O m/\∃r e,rs=.bool r/\jq w0 wx ⟨p,lb,sb,n,vn,vl⟩ e S/\Sv.Rd Z ss.length n S V e r/\(r=false->(∀t f,t<k->f<n->(S t).testBit f=true->Sv.le Z (e f) (e t)=true)/\∀f,f<m->(S k).testBit f=true->Sv.le Z (e f) (e k)=true)) (λ_ i _=>n - (intOf i).toNat);exact⟨0,bN _,rfl,r,E,rfl,K5,j,λd=>⟨l d,λf C=>aM C<|fU _⟩⟩
  obtain⟨m,hm,rfl,r,D,rfl,q,H,F⟩:=hrel;obtain⟨j,l,ag⟩:=fE H F q;clear H F;by_cases ab:m<n
  ·obtain⟨l0,l1,-,-⟩:=q.mJ (i:=m) ab;obtain⟨x,hx⟩:=aV<|D m;have P:=Y hx;simp only at l0 l1;rw[<-hx]at l0 l1;have I:=q.below<|aH wr<|aY #[O (x.1:Nat),O (x.2:Nat)] 31;have ae:=Y I;obtain⟨u,y,z,B⟩:=I.cell;obtain⟨s0,-⟩:=I.Nc (i:=k) K;simp only at u y z B s0;obtain⟨b,W⟩:=aV<|(S k).testBit m;have ac:=Y W;have ai:=afi (f:=m)<|HS k K;rw[<-W]at ai;clear q I hx W;cases b
   ·go_wp2;go_roundw;exact⟨m+1,by omega,by go_num,r,D,rfl,ae,j,λd=>⟨(l d).1,λf C g=>by
     by_cases Q:f=m;·subst Q;rw[<-ac]at g;cases g
     ·exact(l d).2 f bC g⟩⟩
    exact gV
   ·go_wp2_with fail;refine(Mc _ D k x ae j.ok K (by rw[P];exact j.ok m ab)).mono ?_;rintro d w3 ⟨rfl,hh⟩;have af:=Y hh.out.1;clear hh;cases aa:Sv.le Z x (D k)
    ·go_wp2;go_roundw;exact⟨m+1,by omega,by go_num,true,_,rfl,af,by have R:=P.out;subst R;exact j.up HJ M K ab ac.symm aa,(λd=>by cases d)⟩;exact gV
    ·go_wp2;go_roundw;exact⟨m+1,by omega,by go_num,r,D,rfl,by have:=af.out;rwa[Qe aa]at this,j,λd=>⟨(l d).1,λf C g=>by
      by_cases Q:f=m;·subst Q;rw[<-P];exact aa
      ·exact(l d).2 f bC g⟩⟩
     exact gV
  ·clear q;go_wp2;go_roundw;exact⟨k+1,by omega,by go_num,r,D,rfl,ag,j,λd t f ht C g=>by
    by_cases et:t=k;·subst et;exact(l d).2 f bC g
    ·exact(l d).1 t f bC C g⟩
   exact gV
 ·go_wp2;go_ret;exact⟨r,E,rfl,K5,j,λd t f ht C g=>l d t f bC C g⟩
theorem Xp(w0 w:bI)(c:Cf)(V:Nat->Nat × Nat)(S:Nat->Nat)(ss:aJ)(G:Nat)(L:Nat->Nat)(Z:aL)(x:nC w0 c.vn c.vl ss G L Z)(h:jq w0 w c V S)(E:yS ss.length c.n V)(hn:c.n<=40)(D:Ho c.n S):aD 170 #[gK c.p] w λC w'=>∃V',C=dz (.tuple #[])/\jq w0 w' c V' S/\Y0 Z ss.length c.n S V V':=by
 obtain⟨p,W,l⟩:=fE x.joins h E;have Mc:=Y (λw1 m (h1:jq w0 w1 c m S) aa=>abu w0 w1 c m S ss G L Z x h1 aa hn D);clear x h E D;go_enter func170,ntmps170;go_wp2_with fail;go_loopg [] (Sv.left Z ss.length c.n V) (λg wx=>∃V',g=Sv.left Z ss.length c.n V'/\jq w0 wx c V' S/\yS ss.length c.n V'/\OY Z c.n V V'/\∀b,yS ss.length c.n b->Sv.Closed Z c.n S b->OY Z c.n V b->OY Z c.n V' b);exact⟨V,rfl,W,l,RQ p l,λ_ _ _ h=>h⟩
 obtain⟨m,rfl,P,K,H,I⟩:=hrel;obtain⟨K5,q,z,R⟩:=lD P K H I;clear P K H I;go_wp2_with fail;refine(Mc _ m K5 q).mono ?_;rintro C w2 ⟨r,u,rfl,Q,M,F⟩;obtain⟨B,d,U⟩:=fE Q M F;clear Q M F;cases r;·go_wp2_with fail;go_end0;exact⟨u,rfl,B,d.ok,FC p l q d.ok z d.ge,U cK,λb e j y=>d.least b e j<|R b e j y⟩
 ·go_wp2;go_roundg (Sv.left Z ss.length c.n u);case measure=>exact d.less rfl
  case rel=>exact⟨u,rfl,B,d.ok,FC p l q d.ok z d.ge,λb e j y=>d.least b e j<|R b e j y⟩
def Sv.list(n:Nat)(V:Nat->Nat × Nat):List (Int × Int):=(List.range n).map λi=>(((V i).1:Int),((V i).2:Int))
theorem Sv.Ew(n:Nat)(V:Nat->Nat × Nat):(Sv.list n V).length=n:=by simp[Sv.list]
theorem Sv.TR(V:Nat->Nat × Nat)(b:i<n):(Sv.list n V)[i]?=some (((V i).1:Int),((V i).2:Int)):=by simp[Sv.list,b]
theorem jq.las{w0 w:bI}{c:Cf}{V:Nat->Nat × Nat}(h:jq w0 w c V S)(j:c.n<=40):mM w (Tc c.lb c.n c.n) (Sv.list c.n V):=by
 refine⟨some<|aN c.lb 0,c.lb,0,c.n,by rw[Ew],λ_=>rfl,by rw[Ew];omega,λi x b=>?_⟩;have d:i<c.n:=by have:=(cO.1 b).1;rwa[Ew]at this
 rw[TR V d]at b;cases b;obtain⟨e,g,-,-⟩:=h.mJ d;rw[d9];exact⟨e,g⟩
theorem abv{α:Type}{l:List α}{x:α}(h:l[k]?=some x):l.take (k+1)=l.take k++[x]:=by rw[gy,h];rfl
theorem air{b:Int}{cs:List Co}(h:Kk N b cs=0):∃n:Nat,b=n/\n<=40/\cs.length<=1000/\∀c∈cs,Ms N n c=true:=by
 unfold Kk at h;by_cases d:b<0;·rw[aK d]at h;omega
 rw[aI d]at h;by_cases e:40<b;·rw[aK e]at h;omega
 rw[aI e]at h;by_cases g:1000<cs.length;·rw[aK g]at h;omega
 rw[aI g]at h;by_cases j:cs.all (Ms N b.toNat)=true;·exact⟨b.toNat,by omega,by omega,by omega,iB.1 j⟩
 ·rw[aI j]at h;omega
theorem afk(w:bI)(g e vc:aC)(ss:aJ)(G:Nat)(L:Nat->Nat)(Z:aL)(n:Nat)(cs:List Co)(h:nC w g e ss G L Z)(hC:NA w vc cs)(M:Kk ss.length n cs=0):aD 111 #[.agg #[g,e],O n,vc] w λl w'=>∃V j,l=dz (.tuple #[Tc j n n,O 0])/\mM w' (Tc j n n) (Sv.list n V)/\Bf Z ss.length n cs V/\bK w w':=by
 obtain⟨W,P⟩:=aV<|w.alloc<|aY #[g,e] 25;obtain⟨b0,u⟩:=YW w g e W P;obtain⟨HB,au,HL,HC,ax,GQ⟩:=vC u b0 h hC (Pn W g e ss G L Z (h.strs.below u) (h.Q5.below u) h.ok) M;obtain⟨n',a3,z,a1,ag⟩:=air M;obtain rfl:n=n':=by omega
 obtain⟨K,HJ,uK⟩:=fE ag h.joins<|Fed.nil (n:=n) h.meets (qF h.ok).pos;obtain⟨a,b,off,cap,rfl,h0,hl,al⟩:=hC;obtain⟨j5,ES⟩:=bV al h0;obtain⟨len,U⟩:∃n,n=cs.length:=⟨_,rfl⟩;have ad:=Y U;rw[<-U]at HC ES hl a1 ⊢;clear u b0 h M al h0 ag a3 U;go_enter func111,ntmps111;go_wp2_with fail;rw[<-P];refine ax.mono ?_;rintro l w1 ⟨rfl,Q⟩;obtain⟨C,D⟩:=bV (up HB Q)<|bH au Q;obtain⟨q0,q1⟩:=jv D;clear Q P;go_wp2_with fail;refine(agw w1 g e _ ss n cs (HL.strs.below C)<|HC.below C).mono ?_;rintro l B ⟨rfl,x⟩;rw[GQ];have r:=Y<|up C x;replace q0:=(aj (bH D x) 0).trans rfl;replace q1:=(aj (bH D x) 1).trans rfl;clear x;go_wp2_with fail;refine(apB B g e n (xR Z ss.length) z).mono ?_;rintro l w3 ⟨p,j,sb,rfl,q⟩;obtain⟨az,ac⟩:=bV q<|HL.below r;clear q q0 q1;go_wp2_with fail;go_loopw[37] (λi wx=>∃k:Nat,k<=len/\i=O k/\∃V S,jq B wx ⟨p,j,sb,n,g,e⟩ V S/\Ho n S/\Fed Z ss.length n (cs.take k) V S) (λi _=>len - (intOf i).toNat);exact⟨0,bN _,rfl,_,_,az,λi _=>by show(0:Nat)<1099511627776;omega,uK⟩
 obtain⟨k,hk,rfl,F,S1,q,ap,ae⟩:=hrel;obtain⟨E,WE,H⟩:=fE q ap ae;clear q ap ae;by_cases a2:k<len
 ·obtain⟨c,y⟩:∃c,cs[k]?=some c:=⟨_,aZ (by rw[<-ad];exact a2)⟩;have wV:=Y y;have R:=K c<|dG y;have aw:=Y R;obtain⟨ah,ak,ai⟩:=Dt R;obtain⟨-,aa,ht⟩:=lU ak;obtain⟨ar,hm,am⟩:=wX ai;obtain⟨VR,HX⟩:=bV ah ar;have m:=up r E.since;obtain⟨vf,aq,g0,g1,g2,g3⟩:=j5 k c y;have aA:=Y<|aq.below r;replace g0:=aG g0 m;replace g1:=aG g1 m;replace g2:=aG g2 m;replace g3:=aG g3 m;obtain⟨fa,fb,fo,fc,rfl,-⟩:=aq;obtain rfl:=ES bC;obtain⟨Ns,a4⟩:=bV (E.below<|aH wr<|aY #[O c.to,X fa c.fr.length fc,O c.mask,O c.level] 242) aa;have ab:=Y<|afh B (wr.alloc<|aY #[O c.to,X fa c.fr.length fc,O c.mask,O c.level] 242) ⟨p,j,sb,n,g,e⟩ F S1 ss G L Z c.to.toNat c.fr (c.mask.toNat,c.level.toNat) _ ac Ns H.ok aa HX VR z aA WE;rw[<-ht,<-hm,<-am]at ab;clear y R ah ak ai ar m aa ht hm am;go_wp2_with fail;refine ab.mono ?_;rintro l w4 ⟨rfl,S2,h1,h2,h3⟩;obtain⟨ay,aE,av⟩:=fE h1 h2 h3;clear h1 h2 h3;go_wp2;go_roundw;exact⟨k+1,by omega,by go_num,_,S2,ay,aE,by rw[abv wV];exact H.more HJ (λd hd=>K d<|N8 hd) aw av⟩;exact gV
 ·have Az:J (Fed Z ss.length n cs F S1):=Y (by have:=H.out;rwa[fQ (by rw[<-ad];omega)]at this);go_wp2_with fail;refine(Xp B _ ⟨p,j,sb,n,g,e⟩ F S1 ss G L Z ac E Az.ok z WE).mono ?_;rintro l w5 ⟨V2,rfl,I,ao⟩;obtain⟨af,a0⟩:=bV I ao;obtain⟨-,-,c2,-⟩:=I.cell;simp only at c2;clear I ao;go_wp2;go_ret2;exact⟨V2,j,rfl,af.las z,Az.done HJ K a0,up r af.since⟩
