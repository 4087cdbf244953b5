/- part -/
import Derived.Test.YtbgkpehhdibaoaaGreatDoorBZBA
set_option maxHeartbeats 0
set_option maxRecDepth 99999
namespace Go.Proofs.YtbgkpehhdibaoaaGreatDoor
open bN Sv
open Go.Proofs.Tryz
open Go.RowKit
variable{v a t k n s f i N:Nat}{S S1:Nat->Nat}
def Eo(n:Nat)(S:Nat->Nat):Prop:=∀i,i<n->S i<1099511627776
theorem pow40(hv:v<40):2 ^ v<1099511627776:=by have h:2 ^ v<2 ^ 40:=Nat.pow_lt_pow_right bO hv;exact h
theorem src_or(ha:a<1099511627776)(hv:v<40):a ||| 2 ^ v<1099511627776:=Nat.or_lt_two_pow (n:=40) ha (pow40 hv)
theorem wrap_shl(hv:v<40):IntKind.u64.wrap (2 ^ v)=((2 ^ v:Nat):Int):=by
 have h:=pow40 hv;have e:(2:Int) ^ v=((2 ^ v:Nat):Int):=by simp
 rw[e];generalize 2 ^ v=q at h ⊢;simp[IntKind.wrap,IntKind.bits,IntKind.signed];omega
theorem or_bit(ha:a<1099511627776)(hv:v<40):bits .or .u64 (a:Int) ((2:Int) ^ v)=((a ||| 2 ^ v:Nat):Int):=by
 have h:=pow40 hv;have e:(2:Int) ^ v=((2 ^ v:Nat):Int):=by simp
 rw[e];exact u64_or_nat a (2 ^ v) aX aX
theorem bit_or(a v j:Nat):(a ||| 2 ^ v).testBit j=(a.testBit j||decide (v=j)):=by rw[Nat.testBit_or,Nat.testBit_two_pow]
theorem src_step{fr:List Int}(h:∀i j,(S1 i).testBit j=((S i).testBit j||(decide (i=t)&&(fr.take k).contains (j:Int))))(hk:fr[k]?=some (v:Int)):∀i j,(Xr S1 t (S1 t ||| 2 ^ v) i).testBit j=((S i).testBit j||(decide (i=t)&&(fr.take (k+1)).contains (j:Int))):=by
 intro i j;have hc:(fr.take (k+1)).contains (j:Int)=((fr.take k).contains (j:Int)||decide (v=j)):=by
  rw[gy,hk,List.contains_eq_mem,List.contains_eq_mem,sK];simp;constructor
  ·rintro(h|h);·exact aR h
   ·exact aV aX
  ·rintro(h|h);·exact aR h
   ·exact aV aX
 unfold Xr;by_cases e:i=t;·subst e;rw[aL rfl,bit_or,h,hc];simp[Bool.or_assoc]
 ·rw[aJ e,h];simp[e]
theorem Yi(h:Eo n S)(ht:t<n)(hv:v<40):Eo n (Xr S t (S t ||| 2 ^ v)):=λi hi=>by
 unfold Xr;split;·exact src_or (h t ht) hv
 ·exact h i hi
theorem sadd_any(w0 w:World)(c:Cf)(V:Nat->Nat × Nat)(S:Nat->Nat)(ss:List aY)(G:Nat)(L:Nat->Nat)(Z:Nat->Nat->Bool)(t:Nat)(fr:List Int)(x:Nat × Nat)(vf:Value)(hL:lT w0 c.vn c.vl ss G L Z)(h:iK w0 w c V S)(hV:wI ss.length c.n V)(ht:t<c.n)(hx:Sv.Ok ss.length x)(hfr:∀f∈fr,rz c.n f=true)(hn:c.n<=40)(hF:Ints w0 vf fr)(hS:Eo c.n S):Calls prog 173 #[iO c.p,.agg #[O t,vf,O (x.1:Nat),O (x.2:Nat)]] w λe w'=>e=dz (.tuple #[])/\∃S',iK w0 w' c (Sv.up Z ss.length V t x) S'/\Eo c.n S'/\∀i j,(S' i).testBit j=((S i).testBit j||(decide (i=t)&&fr.contains (j:Int))):=by
 obtain⟨fa,fb,fo,fc,rfl,hf0,hfl,hfe⟩:=hF;obtain⟨len,hlen⟩:=bC fr.length;have XE:=I hlen;rw[<-hlen]at hf0 hfl ⊢;obtain⟨W,hW⟩:∃W,W=w.alloc (aW #[O t,Y fa len fc,O (x.1:Nat),O (x.2:Nat)] 261):=⟨_,rfl⟩;have hB:bG w W:=by rw[hW];exact aH w _
 have bx:W.heap[w.heap.size]?=some (aW #[O t,Y fa len fc,O (x.1:Nat),O (x.2:Nat)] 261):=by rw[hW];exact aZ w _
 obtain⟨q0,q1,q2,q3⟩:=Mq bx;obtain⟨Kk,dQ,zO,ug,XQ,UG⟩:=vP (KA w0 W c V S ss G L Z t x hL (h.below hB) hV ht hx hn) bx hfe hf0 hfr hS;obtain⟨V',hV'⟩:∃V',V'=Sv.up Z ss.length V t x:=⟨_,rfl⟩;rw[<-hV']at Kk ⊢;have og:Hid (w.heap.size≠c.lb):=I (λe=>by obtain⟨cs,h1,_⟩:=h.lab;have:=bq h1;omega);have Fz:Hid (w.heap.size≠c.sb):=I (λe=>by obtain⟨cs,h1,_⟩:=h.src;have:=bq h1;omega);clear hB bx h hL hV hx hfr hS hfe hf0 hlen hV';obtain⟨p,lb,sb,n,vn,vl⟩:=c;simp only at Kk XQ UG ht hn og Fz ⊢;go_enter func173,ntmps173;go_wp2_with fail;rw[<-hW];clear hW;refine Kk.mono ?_;rintro e w1 ⟨rfl,hh⟩;obtain⟨h1,hb1⟩:=hh.out;have Zo:=I h1;have b1:=hb1.at og dQ;have HB1:=I b1;replace q0:=(aj b1 0).trans rfl;replace q1:=(aj b1 1).trans rfl;clear h1 hb1 b1 hh q2 q3;go_wp2_with fail;clear q0 q1;go_loopw[15] (λi wx=>∃k:Nat,k<=len/\i=O k/\wx.heap[w.heap.size]?=some (aW #[O t,Y fa len fc,O (x.1:Nat),O (x.2:Nat)] 261)/\∃S',iK w0 wx ⟨p,lb,sb,n,vn,vl⟩ V' S'/\Eo n S'/\∀i j,(S' i).testBit j=((S i).testBit j||(decide (i=t)&&(fr.take k).contains (j:Int)))) (λi _=>len - (intOf i).toNat);case atStart=>exact⟨0,bL _,rfl,HB1,S,Zo,UG,λi j=>by simp⟩
 case round=>
  obtain⟨k,hk,rfl,hbx,S1,hsy,hsk,hbit⟩:=hrel;obtain⟨Ir,HSK1,HBT,HBX1⟩:=lY hsy hsk hbit hbx;clear hbit hsk;by_cases hlt:k<len
  ·obtain⟨f,hf⟩:∃f,fr[k]?=some f:=⟨_,bD (by rw[<-XE];exact hlt)⟩;have HFK:=I hf;obtain⟨-,hfv,hfe'⟩:=kH (XQ f (eT hf));obtain⟨v,hv⟩:=bC f.toNat;have g:=aD (zO k f hf) hsy.since;rw[<-hv]at hfv hfe';subst hfe';obtain rfl:=ug aX;obtain⟨c0,c1,c2,c3⟩:=hsy.cell;obtain⟨s0,z0⟩:=hsy.srcc (i:=t) ht;have q0:=aj hbx 0;simp only at c0 c1 c2 c3 s0 z0;have hti:(0:Int)<=(t:Int):=by omega
   have htn:(t:Int)<(n:Int):=by omega
   have HOR:=I (or_bit (v:=v) (HSK1 t ht) aX);have hsh:=wrap_shl (v:=v) aX;clear hsy hbx hf hv;replace q0:=aS q0;replace c3:=aS c3;replace s0:=aS s0;clear z0 c0 c1 c2;go_wp2_with fail;refine eU 12 bR bR ?_;dsimp only[List.take,List.drop];repeat(quiet_step (fail))
   refine wpQuiet_nil ?_;intro w6 hw';obtain⟨⟨nq,osq⟩,hw''⟩:=hw';have dX:=I (show bG wr w6 by rw[hw''];exact bQ wr nq osq);have vG:=I (Ir.out.below dX.out);obtain⟨m0,y0⟩:=vG.out.srcc (i:=t) ht;simp only at m0 y0;clear hw'' q0 c3 s0;go_wp2_with fail;rw[HOR.out];go_roundw;case rel=>exact⟨k+1,by omega,by go_num,bI (aU HBX1.out dX.out) Fz.out _,_,vG.out.putSrc ht _,Yi HSK1.out ht aX,src_step HBT.out HFK.out⟩
   case measure=>simp[intOf];omega
  ·clear hsy hbx;go_wp2_with fail;go_end0;refine⟨rfl,S1,Ir,HSK1,λi j=>?_⟩;rw[HBT i j,fU (by rw[<-XE];omega)]
theorem bit_test(hs:s<1099511627776):(bits .and .u64 ((s:Int) / 2 ^ f) 1==1)=s.testBit f:=by
 have e:(s:Int) / 2 ^ f=((s / 2 ^ f:Nat):Int):=by simp
 have hq:s / 2 ^ f<=s:=Nat.div_le_self _ _;rw[e,show(1:Int)=((1:Nat):Int)from rfl,u64_and_nat (s / 2 ^ f) 1 aX bO,Nat.and_one_is_mod,Nat.testBit_eq_decide_div_mod_eq,sK];simp;omega
theorem Yj(w0 w:World)(c:Cf)(V:Nat->Nat × Nat)(S:Nat->Nat)(ss:List aY)(G:Nat)(L:Nat->Nat)(Z:Nat->Nat->Bool)(hL:lT w0 c.vn c.vl ss G L Z)(h:iK w0 w c V S)(hV:wI ss.length c.n V)(hn:c.n<=40)(hS:Eo c.n S):Calls prog 221 #[iO c.p] w λe w'=>∃r V',e=dz (.bool r)/\iK w0 w' c V' S/\Sv.Rd Z ss.length c.n S V V' r/\(r=false->Sv.Closed Z c.n S V'):=by
 obtain⟨HJ,Zo,HV,HS⟩:=lY hL.joins h hV hS;have Kk:=I (λw1 V1 i a (h1:iK w0 w1 c V1 S) hV1 hi ha=>KA w0 w1 c V1 S ss G L Z i a hL h1 hV1 hi ha hn);obtain⟨p,lb,sb,n,vn,vl⟩:=c;simp only at Kk HV HS hn ⊢;obtain⟨c0,c1,c2,c3⟩:=Zo.cell;simp only at c0 c1 c2 c3;clear hL h hV hS;go_enter func221,ntmps221;go_wp2_with fail;clear c0 c1 c2 c3;go_loopw[3,12] (λrs i wx=>∃k:Nat,k<=n/\i=O k/\∃r V',rs=.bool r/\iK w0 wx ⟨p,lb,sb,n,vn,vl⟩ V' S/\Sv.Rd Z ss.length n S V V' r/\(r=false->∀t f,t<k->f<n->(S t).testBit f=true->Sv.le Z (V' f) (V' t)=true)) (λ_ i _=>n - (intOf i).toNat);case atStart=>exact⟨0,bL _,rfl,false,V,rfl,Zo,Sv.Rd.refl HJ HV,λ_ t f ht=>aM ht (fT _)⟩
 case round=>
  obtain⟨k,hk,rfl,r,V1,rfl,hsy,hrd,hvis⟩:=hrel;obtain⟨Ad,Na,Ir⟩:=fD hrd hvis hsy;obtain⟨c0,c1,c2,c3⟩:=hsy.cell;simp only at c0 c1 c2 c3;clear hrd hvis hsy;by_cases hlt:k<n
  ·go_wp2_with fail;clear c0 c1 c2 c3;go_loopw[3,20] (λrs i wx=>∃m:Nat,m<=n/\i=O m/\∃r V',rs=.bool r/\iK w0 wx ⟨p,lb,sb,n,vn,vl⟩ V' S/\Sv.Rd Z ss.length n S V V' r/\(r=false->(∀t f,t<k->f<n->(S t).testBit f=true->Sv.le Z (V' f) (V' t)=true)/\∀f,f<m->(S k).testBit f=true->Sv.le Z (V' f) (V' k)=true)) (λ_ i _=>n - (intOf i).toNat);case atStart=>exact⟨0,bL _,rfl,r,V1,rfl,Ir,Ad,λe=>⟨Na e,λf hf=>aM hf (fT _)⟩⟩
   case round=>
    obtain⟨m,hm,rfl,r,V2,rfl,hsy,hrd,hvis⟩:=hrel;obtain⟨Ad,Na,HSY2⟩:=fD hrd hvis hsy;clear hrd hvis;by_cases hml:m<n
    ·obtain⟨l0,l1,-,-⟩:=hsy.Xq (i:=m) hml;obtain⟨x,hx⟩:=bC (V2 m);have HX:=I hx;simp only at l0 l1;rw[<-hx]at l0 l1;have hsy3:=hsy.below (aH wr (aW #[O (x.1:Nat),O (x.2:Nat)] 33));have HSY3:=I hsy3;obtain⟨c0,c1,c2,c3⟩:=hsy3.cell;obtain⟨s0,-⟩:=hsy3.srcc (i:=k) hlt;simp only at c0 c1 c2 c3 s0;obtain⟨b,hb⟩:=bC ((S k).testBit m);have HBE:=I hb;have hbt:=bit_test (f:=m) (HS k hlt);rw[<-hb]at hbt;clear hsy hsy3 hx hb;cases b
     ·go_wp2_with fail;go_roundw;case rel=>exact⟨m+1,by omega,by go_num,r,V2,rfl,HSY3,Ad,λe=>⟨(Na e).1,λf hf hbf=>by
       by_cases ef:f=m;·subst ef;rw[<-HBE]at hbf;cases hbf
       ·exact(Na e).2 f aX hbf⟩⟩
      case measure=>simp[intOf];omega
     ·go_wp2_with fail;refine(Kk _ V2 k x HSY3 Ad.ok hlt (by rw[HX];exact Ad.ok m hml)).mono ?_;rintro e w3 ⟨rfl,hh⟩;have HSY4:=I hh.out.1;clear hh;cases hle:Sv.le Z x (V2 k)
      ·go_wp2_with fail;go_roundw;case rel=>exact⟨m+1,by omega,by go_num,true,_,rfl,HSY4,by have h1:=HX.out;subst h1;exact Ad.up HJ HV hlt hml HBE.symm hle,(λe=>by cases e)⟩
       case measure=>simp[intOf];omega
      ·go_wp2_with fail;go_roundw;case rel=>exact⟨m+1,by omega,by go_num,r,V2,rfl,by have:=HSY4.out;rwa[up_yes hle]at this,Ad,λe=>⟨(Na e).1,λf hf hbf=>by
        by_cases ef:f=m;·subst ef;rw[<-HX];exact hle
        ·exact(Na e).2 f aX hbf⟩⟩
       case measure=>simp[intOf];omega
    ·clear hsy;go_wp2_with fail;go_roundw;case rel=>exact⟨k+1,by omega,by go_num,r,V2,rfl,HSY2,Ad,λe t f ht hf hbf=>by
      by_cases et:t=k;·subst et;exact(Na e).2 f aX hbf
      ·exact(Na e).1 t f aX hf hbf⟩
     case measure=>simp[intOf];omega
  ·go_wp2_with fail;go_ret;exact⟨r,V1,rfl,Ir,Ad,λe t f ht hf hbf=>Na e t f aX hf hbf⟩
theorem Tw(w0 w:World)(c:Cf)(V:Nat->Nat × Nat)(S:Nat->Nat)(ss:List aY)(G:Nat)(L:Nat->Nat)(Z:Nat->Nat->Bool)(hL:lT w0 c.vn c.vl ss G L Z)(h:iK w0 w c V S)(hV:wI ss.length c.n V)(hn:c.n<=40)(hS:Eo c.n S):Calls prog 174 #[iO c.p] w λe w'=>∃V',e=dz (.tuple #[])/\iK w0 w' c V' S/\Vg Z ss.length c.n S V V':=by
 obtain⟨HJ,Zo,HV⟩:=fD hL.joins h hV;have Kk:=I (λw1 V1 (h1:iK w0 w1 c V1 S) hV1=>Yj w0 w1 c V1 S ss G L Z hL h1 hV1 hn hS);clear hL h hV hS;go_enter func174,ntmps174;go_wp2_with fail;go_loopg [] (Sv.left Z ss.length c.n V) (λg wx=>∃V',g=Sv.left Z ss.length c.n V'/\iK w0 wx c V' S/\wI ss.length c.n V'/\LH Z c.n V V'/\∀U,wI ss.length c.n U->Sv.Closed Z c.n S U->LH Z c.n V U->LH Z c.n V' U);case atStart=>exact⟨V,rfl,Zo,HV,OA HJ HV,λ_ _ _ h=>h⟩
 case round=>
  obtain⟨V1,rfl,hsy,hok,hge,hle⟩:=hrel;obtain⟨Ir,IZ,HGE,jH⟩:=lY hsy hok hge hle;clear hsy hok hge hle;go_wp2_with fail;refine(Kk _ V1 Ir IZ).mono ?_;rintro e w2 ⟨r,V2,rfl,hsy2,hrd,hcl⟩;obtain⟨HSY2,Ad,HCL⟩:=fD hsy2 hrd hcl;clear hsy2 hrd hcl;cases r;·go_wp2_with fail;go_end0;exact⟨V2,rfl,HSY2,Ad.ok,CJ HJ HV IZ Ad.ok HGE Ad.ge,HCL dx,λU hU hc hVU=>Ad.least U hU hc (jH U hU hc hVU)⟩
  ·go_wp2_with fail;go_roundg (Sv.left Z ss.length c.n V2);case measure=>exact Ad.less rfl
   case rel=>exact⟨V2,rfl,HSY2,Ad.ok,CJ HJ HV IZ Ad.ok HGE Ad.ge,λU hU hc hVU=>Ad.least U hU hc (jH U hU hc hVU)⟩
def Sv.list(n:Nat)(V:Nat->Nat × Nat):List (Int × Int):=(List.range n).map λi=>(((V i).1:Int),((V i).2:Int))
theorem Sv.BN(n:Nat)(V:Nat->Nat × Nat):(Sv.list n V).length=n:=by simp[Sv.list]
theorem Sv.PY(V:Nat->Nat × Nat)(hi:i<n):(Sv.list n V)[i]?=some (((V i).1:Int),((V i).2:Int)):=by simp[Sv.list,hi]
theorem iK.las{w0 w:World}{c:Cf}{V:Nat->Nat × Nat}(h:iK w0 w c V S)(hn:c.n<=40):lD w (Y (some (X c.lb 0)) c.n c.n) (Sv.list c.n V):=by
 refine⟨some (X c.lb 0),c.lb,0,c.n,by rw[BN],λ_=>rfl,by rw[BN];omega,λi x hx=>?_⟩;have hi:i<c.n:=by have:=(dK.1 hx).1;rwa[BN]at this
 rw[PY V hi]at hx;cases hx;obtain⟨l0,l1,-,-⟩:=h.Xq hi;rw[eD];exact⟨l0,l1⟩
theorem Yk{α:Type}{l:List α}{x:α}(h:l[k]?=some x):l.take (k+1)=l.take k++[x]:=by rw[gy,h];rfl
theorem sysE_ok{ni:Int}{cs:List Co}(h:GX N ni cs=0):∃n:Nat,ni=n/\n<=40/\cs.length<=1000/\∀c∈cs,Jq N n c=true:=by
 unfold GX at h;by_cases h0:ni<0;·rw[aL h0]at h;omega
 rw[aJ h0]at h;by_cases h1:40<ni;·rw[aL h1]at h;omega
 rw[aJ h1]at h;by_cases h2:1000<cs.length;·rw[aL h2]at h;omega
 rw[aJ h2]at h;by_cases h3:cs.all (Jq N ni.toNat)=true;·exact⟨ni.toNat,by omega,by omega,by omega,iB.1 h3⟩
 ·rw[aJ h3]at h;omega
theorem least_ok(w:World)(vn vl vc:Value)(ss:List aY)(G:Nat)(L:Nat->Nat)(Z:Nat->Nat->Bool)(n:Nat)(cs:List Co)(hL:lT w vn vl ss G L Z)(hC:Ko w vc cs)(hE:GX ss.length n cs=0):Calls prog 109 #[.agg #[vn,vl],O n,vc] w λe w'=>∃V lb,e=dz (.tuple #[Y (some (X lb 0)) n n,O 0])/\lD w' (Y (some (X lb 0)) n n) (Sv.list n V)/\yQ Z ss.length n cs V/\bG w w':=by
 obtain⟨W,hW⟩:=bC (w.alloc (aW #[vn,vl] 25));obtain⟨b0,hB⟩:=Vd w vn vl W hW;obtain⟨HB,HB0,HL,HC,HEN,Q6⟩:=vP hB b0 hL hC (Mj W vn vl ss G L Z (hL.strs.below hB) (hL.NS.below hB) hL.ok) hE;obtain⟨n',hn',hn,hlen,hall⟩:=sysE_ok hE;obtain rfl:n=n':=by omega
 obtain⟨fF,HJ,ug⟩:=fD hall hL.joins (Fed.nil (n:=n) hL.meets (pU hL.ok).pos);obtain⟨a,b,off,cap,rfl,h0,hl,hel⟩:=hC;obtain⟨lK,Ef⟩:=bU hel h0;obtain⟨len,hlen'⟩:∃n,n=cs.length:=⟨_,rfl⟩;have XE:=I hlen';rw[<-hlen']at HC Ef hl hlen ⊢;clear hB b0 hL hE hel h0 hall hn' hlen';go_enter func109,ntmps109;go_wp2_with fail;rw[<-hW];refine HEN.mono ?_;rintro e w1 ⟨rfl,hb1⟩;obtain⟨HB1,HP0⟩:=bU (up HB hb1) (aU HB0 hb1);obtain⟨q0,q1⟩:=iV HP0;clear hb1 hW;go_wp2_with fail;refine(EK w1 vn vl _ ss n cs (HL.strs.below HB1) (HC.below HB1)).mono ?_;rintro e w2 ⟨rfl,hb2⟩;rw[Q6];have HB2:=I (up HB1 hb2);replace q0:=(aj (aU HP0 hb2) 0).trans rfl;replace q1:=(aj (aU HP0 hb2) 1).trans rfl;clear hb2;go_wp2_with fail;refine(JB w2 vn vl n (vE Z ss.length) hn).mono ?_;rintro e w3 ⟨p,lb,sb,rfl,hsy⟩;obtain⟨Zo,HL2⟩:=bU hsy (HL.below HB2);clear hsy q0 q1;go_wp2_with fail;go_loopw[37] (λi wx=>∃k:Nat,k<=len/\i=O k/\∃V S,iK w2 wx ⟨p,lb,sb,n,vn,vl⟩ V S/\Eo n S/\Fed Z ss.length n (cs.take k) V S) (λi _=>len - (intOf i).toNat);case atStart=>exact⟨0,bL _,rfl,_,_,Zo,λi _=>by show(0:Nat)<1099511627776;omega,ug⟩
 case round=>
  obtain⟨k,hk,rfl,V1,S1,hsy,hsk,hfed⟩:=hrel;obtain⟨Ir,SG,HFED⟩:=fD hsy hsk hfed;clear hsy hsk hfed;by_cases hlt:k<len
  ·obtain⟨c,hc⟩:∃c,cs[k]?=some c:=⟨_,bD (by rw[<-XE];exact hlt)⟩;have uI:=I hc;have hco:=fF c (eT hc);have HCO:=I hco;obtain⟨hcf,hct,hcl⟩:=AV hco;obtain⟨-,ht',ht⟩:=kH hct;obtain⟨hx',hm,hlv⟩:=uK hcl;obtain⟨RJ,HX⟩:=bU hcf hx';have hbx:=up HB2 Ir.since;obtain⟨vf,hvf,g0,g1,g2,g3⟩:=lK k c hc;have HVF:=I (hvf.below HB2);replace g0:=aD g0 hbx;replace g1:=aD g1 hbx;replace g2:=aD g2 hbx;replace g3:=aD g3 hbx;obtain⟨fa,fb,fo,fc,rfl,-⟩:=hvf;obtain rfl:=Ef aX;obtain⟨OT,HTN⟩:=bU (Ir.below (aH wr (aW #[O c.to,Y fa c.fr.length fc,O c.mask,O c.level] 261))) ht';have HAD:=I (sadd_any w2 (wr.alloc (aW #[O c.to,Y fa c.fr.length fc,O c.mask,O c.level] 261)) ⟨p,lb,sb,n,vn,vl⟩ V1 S1 ss G L Z c.to.toNat c.fr (c.mask.toNat,c.level.toNat) _ HL2 OT HFED.ok ht' HX RJ hn HVF SG);rw[<-ht,<-hm,<-hlv]at HAD;clear hc hco hcf hct hcl hx' hbx ht' ht hm hlv;go_wp2_with fail;refine HAD.mono ?_;rintro e w4 ⟨rfl,S2,h1,h2,h3⟩;obtain⟨HS4,HSK2,HBT⟩:=fD h1 h2 h3;clear h1 h2 h3;go_wp2_with fail;go_roundw;case rel=>exact⟨k+1,by omega,by go_num,_,S2,HS4,HSK2,by rw[Yk uI];exact HFED.more HJ (λd hd=>fF d (PZ hd)) HCO HBT⟩
   case measure=>simp[intOf];omega
  ·have zO:Hid (Fed Z ss.length n cs V1 S1):=I (by have:=HFED.out;rwa[fU (by rw[<-XE];omega)]at this);go_wp2_with fail;refine(Tw w2 _ ⟨p,lb,sb,n,vn,vl⟩ V1 S1 ss G L Z HL2 Ir zO.ok hn SG).mono ?_;rintro e w5 ⟨V2,rfl,hsy5,hset⟩;obtain⟨HSY5,HSET⟩:=bU hsy5 hset;obtain⟨-,-,c2,-⟩:=hsy5.cell;simp only at c2;clear hsy5 hset;go_wp2_with fail;go_ret2;exact⟨V2,lb,rfl,HSY5.las hn,zO.done HJ fF HSET,up HB2 HSY5.since⟩
end Go.Proofs.YtbgkpehhdibaoaaGreatDoor
