/- part -/
import Derived.Test.YtbgkpehhdibaoaaGreatDoorMZBA
set_option maxHeartbeats 0
set_option maxRecDepth 99999
namespace Go.Proofs.YtbgkpehhdibaoaaGreatDoor
open bO Sv
open Go.Proofs.Tryz
open Go.RowKit
variable{v a t k n s f i N:Nat}{S S1:Nat->Nat}
def F8(n:Nat)(S:Nat->Nat):Prop:=∀i,i<n->S i<1099511627776
theorem pow40(hv:v<40):2 ^ v<1099511627776:=by have h:2 ^ v<2 ^ 40:=Nat.pow_lt_pow_right bP hv;exact h
theorem src_or(ha:a<1099511627776)(hv:v<40):a ||| 2 ^ v<1099511627776:=Nat.or_lt_two_pow (n:=40) ha (pow40 hv)
theorem wrap_shl(hv:v<40):IntKind.u64.wrap (2 ^ v)=((2 ^ v:Nat):Int):=by
 have h:=pow40 hv;have e:(2:Int) ^ v=((2 ^ v:Nat):Int):=by simp
 rw[e];generalize 2 ^ v=q at h ⊢;simp[IntKind.wrap,IntKind.bits,IntKind.signed];omega
theorem or_bit(ha:a<1099511627776)(hv:v<40):bits .or .u64 (a:Int) ((2:Int) ^ v)=((a ||| 2 ^ v:Nat):Int):=by
 have h:=pow40 hv;have e:(2:Int) ^ v=((2 ^ v:Nat):Int):=by simp
 rw[e];exact u64_or_nat a (2 ^ v) aV aV
theorem bit_or(a v j:Nat):(a ||| 2 ^ v).testBit j=(a.testBit j||decide (v=j)):=by rw[Nat.testBit_or,Nat.testBit_two_pow]
theorem src_step{fr:List Int}(h:∀i j,(S1 i).testBit j=((S i).testBit j||(decide (i=t)&&(fr.take k).contains (j:Int))))(hk:fr[k]?=some (v:Int)):∀i j,(ZH S1 t (S1 t ||| 2 ^ v) i).testBit j=((S i).testBit j||(decide (i=t)&&(fr.take (k+1)).contains (j:Int))):=by
 intro i j;have hc:(fr.take (k+1)).contains (j:Int)=((fr.take k).contains (j:Int)||decide (v=j)):=by
  rw[gH,hk,List.contains_eq_mem,List.contains_eq_mem,qH];simp;constructor
  ·rintro(h|h);·exact aR h
   ·exact aT aV
  ·rintro(h|h);·exact aR h
   ·exact aT aV
 unfold ZH;by_cases e:i=t;·subst e;rw[aL rfl,bit_or,h,hc];simp[Bool.or_assoc]
 ·rw[aJ e,h];simp[e]
theorem srcOk_put(h:F8 n S)(ht:t<n)(hv:v<40):F8 n (ZH S t (S t ||| 2 ^ v)):=λi hi=>by
 unfold ZH;split;·exact src_or (h t ht) hv
 ·exact h i hi
theorem sadd_any(w0 w:World)(c:Cf)(V:Nat->Nat × Nat)(S:Nat->Nat)(ss:List aZ)(G:Nat)(L:Nat->Nat)(Z:Nat->Nat->Bool)(t:Nat)(fr:List Int)(x:Nat × Nat)(vf:Value)(hL:mK w0 c.vn c.vl ss G L Z)(h:iZ w0 w c V S)(hV:xW ss.length c.n V)(ht:t<c.n)(hx:Sv.Ok ss.length x)(hfr:∀f∈fr,sZ c.n f=true)(hn:c.n<=40)(hF:Ints w0 vf fr)(hS:F8 c.n S):Calls prog 173 #[jk c.p,.agg #[O t,vf,O (x.1:Nat),O (x.2:Nat)]] w λe w'=>e=cO (.tuple #[])/\∃S',iZ w0 w' c (Sv.up Z ss.length V t x) S'/\F8 c.n S'/\∀i j,(S' i).testBit j=((S i).testBit j||(decide (i=t)&&fr.contains (j:Int))):=by
 obtain⟨fa,fb,fo,fc,rfl,hf0,hfl,hfe⟩:=hF;obtain⟨len,hlen⟩:=bC fr.length;have ZQ:=I hlen;rw[<-hlen]at hf0 hfl ⊢;obtain⟨W,hW⟩:∃W,W=w.alloc (aY #[O t,Y fa len fc,O (x.1:Nat),O (x.2:Nat)] 261):=⟨_,rfl⟩;have hB:bG w W:=by rw[hW];exact aH w _
 have bx:W.heap[w.heap.size]?=some (aY #[O t,Y fa len fc,O (x.1:Nat),O (x.2:Nat)] 261):=by rw[hW];exact bD w _
 obtain⟨q0,q1,q2,q3⟩:=Js bx;obtain⟨Qd,dO,uO,vD,Z6,UE⟩:=vC (MJ w0 W c V S ss G L Z t x hL (h.below hB) hV ht hx hn) bx hfe hf0 hfr hS;obtain⟨V',hV'⟩:∃V',V'=Sv.up Z ss.length V t x:=⟨_,rfl⟩;rw[<-hV']at Qd ⊢;have nZ:Hid (w.heap.size≠c.lb):=I (λe=>by obtain⟨cs,h1,_⟩:=h.lab;have:=bE h1;omega);have G8:Hid (w.heap.size≠c.sb):=I (λe=>by obtain⟨cs,h1,_⟩:=h.src;have:=bE h1;omega);clear hB bx h hL hV hx hfr hS hfe hf0 hlen hV';obtain⟨p,lb,sb,n,vn,vl⟩:=c;simp only at Qd Z6 UE ht hn nZ G8 ⊢;go_enter func173,ntmps173;go_wp2_with fail;rw[<-hW];clear hW;refine Qd.mono ?_;rintro e w1 ⟨rfl,hh⟩;obtain⟨h1,hb1⟩:=hh.out;have HSY:=I h1;have b1:=hb1.at nZ dO;have HB1:=I b1;replace q0:=(aj b1 0).trans rfl;replace q1:=(aj b1 1).trans rfl;clear h1 hb1 b1 hh q2 q3;go_wp2_with fail;clear q0 q1;go_loopw[15] (λi wx=>∃k:Nat,k<=len/\i=O k/\wx.heap[w.heap.size]?=some (aY #[O t,Y fa len fc,O (x.1:Nat),O (x.2:Nat)] 261)/\∃S',iZ w0 wx ⟨p,lb,sb,n,vn,vl⟩ V' S'/\F8 n S'/\∀i j,(S' i).testBit j=((S i).testBit j||(decide (i=t)&&(fr.take k).contains (j:Int)))) (λi _=>len - (intOf i).toNat);case atStart=>exact⟨0,bI _,rfl,HB1,S,HSY,UE,λi j=>by simp⟩
 case round=>
  obtain⟨k,hk,rfl,hbx,S1,hsy,hsk,hbit⟩:=hrel;obtain⟨J6,HSK1,HBT,HBX1⟩:=mg hsy hsk hbit hbx;clear hbit hsk;by_cases hlt:k<len
  ·obtain⟨f,hf⟩:∃f,fr[k]?=some f:=⟨_,bg (by rw[<-ZQ];exact hlt)⟩;have HFK:=I hf;obtain⟨-,hfv,hfe'⟩:=lg (Z6 f (dN hf));obtain⟨v,hv⟩:=bC f.toNat;have g:=aC (uO k f hf) hsy.since;rw[<-hv]at hfv hfe';subst hfe';obtain rfl:=vD aV;obtain⟨c0,c1,c2,c3⟩:=hsy.cell;obtain⟨s0,z0⟩:=hsy.srcc (i:=t) ht;have q0:=aj hbx 0;simp only at c0 c1 c2 c3 s0 z0;have hti:(0:Int)<=(t:Int):=by omega
   have htn:(t:Int)<(n:Int):=by omega
   have HOR:=I (or_bit (v:=v) (HSK1 t ht) aV);have hsh:=wrap_shl (v:=v) aV;clear hsy hbx hf hv;replace q0:=aX q0;replace c3:=aX c3;replace s0:=aX s0;clear z0 c0 c1 c2;go_wp2_with fail;refine fI 12 bU bU ?_;dsimp only[List.take,List.drop];repeat(quiet_step (fail))
   refine wpQuiet_nil ?_;intro w6 hw';obtain⟨⟨nq,osq⟩,hw''⟩:=hw';have eF:=I (show bG wr w6 by rw[hw''];exact bR wr nq osq);have wX:=I (J6.out.below eF.out);obtain⟨m0,y0⟩:=wX.out.srcc (i:=t) ht;simp only at m0 y0;clear hw'' q0 c3 s0;go_wp2_with fail;rw[HOR.out];go_roundw;case rel=>exact⟨k+1,by omega,by go_num,bL (aU HBX1.out eF.out) G8.out _,_,wX.out.putSrc ht _,srcOk_put HSK1.out ht aV,src_step HBT.out HFK.out⟩
   case measure=>simp[intOf];omega
  ·clear hsy hbx;go_wp2_with fail;go_end0;refine⟨rfl,S1,J6,HSK1,λi j=>?_⟩;rw[HBT i j,fJ (by rw[<-ZQ];omega)]
theorem bit_test(hs:s<1099511627776):(bits .and .u64 ((s:Int) / 2 ^ f) 1==1)=s.testBit f:=by
 have e:(s:Int) / 2 ^ f=((s / 2 ^ f:Nat):Int):=by simp
 have hq:s / 2 ^ f<=s:=Nat.div_le_self _ _;rw[e,show(1:Int)=((1:Nat):Int)from rfl,u64_and_nat (s / 2 ^ f) 1 aV bP,Nat.and_one_is_mod,Nat.testBit_eq_decide_div_mod_eq,qH];simp;omega
theorem round_any(w0 w:World)(c:Cf)(V:Nat->Nat × Nat)(S:Nat->Nat)(ss:List aZ)(G:Nat)(L:Nat->Nat)(Z:Nat->Nat->Bool)(hL:mK w0 c.vn c.vl ss G L Z)(h:iZ w0 w c V S)(hV:xW ss.length c.n V)(hn:c.n<=40)(hS:F8 c.n S):Calls prog 221 #[jk c.p] w λe w'=>∃r V',e=cO (.bool r)/\iZ w0 w' c V' S/\Sv.Rd Z ss.length c.n S V V' r/\(r=false->Sv.Closed Z c.n S V'):=by
 obtain⟨HJ,HSY,HV,HS⟩:=mg hL.joins h hV hS;have Qd:=I (λw1 V1 i a (h1:iZ w0 w1 c V1 S) hV1 hi ha=>MJ w0 w1 c V1 S ss G L Z i a hL h1 hV1 hi ha hn);obtain⟨p,lb,sb,n,vn,vl⟩:=c;simp only at Qd HV HS hn ⊢;obtain⟨c0,c1,c2,c3⟩:=HSY.cell;simp only at c0 c1 c2 c3;clear hL h hV hS;go_enter func221,ntmps221;go_wp2_with fail;clear c0 c1 c2 c3;go_loopw[3,12] (λrs i wx=>∃k:Nat,k<=n/\i=O k/\∃r V',rs=.bool r/\iZ w0 wx ⟨p,lb,sb,n,vn,vl⟩ V' S/\Sv.Rd Z ss.length n S V V' r/\(r=false->∀t f,t<k->f<n->(S t).testBit f=true->Sv.le Z (V' f) (V' t)=true)) (λ_ i _=>n - (intOf i).toNat);case atStart=>exact⟨0,bI _,rfl,false,V,rfl,HSY,Sv.Rd.refl HJ HV,λ_ t f ht=>aN ht (fK _)⟩
 case round=>
  obtain⟨k,hk,rfl,r,V1,rfl,hsy,hrd,hvis⟩:=hrel;obtain⟨BG,Pn,J6⟩:=fq hrd hvis hsy;obtain⟨c0,c1,c2,c3⟩:=hsy.cell;simp only at c0 c1 c2 c3;clear hrd hvis hsy;by_cases hlt:k<n
  ·go_wp2_with fail;clear c0 c1 c2 c3;go_loopw[3,20] (λrs i wx=>∃m:Nat,m<=n/\i=O m/\∃r V',rs=.bool r/\iZ w0 wx ⟨p,lb,sb,n,vn,vl⟩ V' S/\Sv.Rd Z ss.length n S V V' r/\(r=false->(∀t f,t<k->f<n->(S t).testBit f=true->Sv.le Z (V' f) (V' t)=true)/\∀f,f<m->(S k).testBit f=true->Sv.le Z (V' f) (V' k)=true)) (λ_ i _=>n - (intOf i).toNat);case atStart=>exact⟨0,bI _,rfl,r,V1,rfl,J6,BG,λe=>⟨Pn e,λf hf=>aN hf (fK _)⟩⟩
   case round=>
    obtain⟨m,hm,rfl,r,V2,rfl,hsy,hrd,hvis⟩:=hrel;obtain⟨BG,Pn,HSY2⟩:=fq hrd hvis hsy;clear hrd hvis;by_cases hml:m<n
    ·obtain⟨l0,l1,-,-⟩:=hsy.ZG (i:=m) hml;obtain⟨x,hx⟩:=bC (V2 m);have HX:=I hx;simp only at l0 l1;rw[<-hx]at l0 l1;have hsy3:=hsy.below (aH wr (aY #[O (x.1:Nat),O (x.2:Nat)] 33));have HSY3:=I hsy3;obtain⟨c0,c1,c2,c3⟩:=hsy3.cell;obtain⟨s0,-⟩:=hsy3.srcc (i:=k) hlt;simp only at c0 c1 c2 c3 s0;obtain⟨b,hb⟩:=bC ((S k).testBit m);have HBE:=I hb;have hbt:=bit_test (f:=m) (HS k hlt);rw[<-hb]at hbt;clear hsy hsy3 hx hb;cases b
     ·go_wp2_with fail;go_roundw;case rel=>exact⟨m+1,by omega,by go_num,r,V2,rfl,HSY3,BG,λe=>⟨(Pn e).1,λf hf hbf=>by
       by_cases ef:f=m;·subst ef;rw[<-HBE]at hbf;cases hbf
       ·exact(Pn e).2 f aV hbf⟩⟩
      case measure=>simp[intOf];omega
     ·go_wp2_with fail;refine(Qd _ V2 k x HSY3 BG.ok hlt (by rw[HX];exact BG.ok m hml)).mono ?_;rintro e w3 ⟨rfl,hh⟩;have HSY4:=I hh.out.1;clear hh;cases hle:Sv.le Z x (V2 k)
      ·go_wp2_with fail;go_roundw;case rel=>exact⟨m+1,by omega,by go_num,true,_,rfl,HSY4,by have h1:=HX.out;subst h1;exact BG.up HJ HV hlt hml HBE.symm hle,(λe=>by cases e)⟩
       case measure=>simp[intOf];omega
      ·go_wp2_with fail;go_roundw;case rel=>exact⟨m+1,by omega,by go_num,r,V2,rfl,by have:=HSY4.out;rwa[up_yes hle]at this,BG,λe=>⟨(Pn e).1,λf hf hbf=>by
        by_cases ef:f=m;·subst ef;rw[<-HX];exact hle
        ·exact(Pn e).2 f aV hbf⟩⟩
       case measure=>simp[intOf];omega
    ·clear hsy;go_wp2_with fail;go_roundw;case rel=>exact⟨k+1,by omega,by go_num,r,V2,rfl,HSY2,BG,λe t f ht hf hbf=>by
      by_cases et:t=k;·subst et;exact(Pn e).2 f aV hbf
      ·exact(Pn e).1 t f aV hf hbf⟩
     case measure=>simp[intOf];omega
  ·go_wp2_with fail;go_ret;exact⟨r,V1,rfl,J6,BG,λe t f ht hf hbf=>Pn e t f aV hf hbf⟩
theorem VP(w0 w:World)(c:Cf)(V:Nat->Nat × Nat)(S:Nat->Nat)(ss:List aZ)(G:Nat)(L:Nat->Nat)(Z:Nat->Nat->Bool)(hL:mK w0 c.vn c.vl ss G L Z)(h:iZ w0 w c V S)(hV:xW ss.length c.n V)(hn:c.n<=40)(hS:F8 c.n S):Calls prog 174 #[jk c.p] w λe w'=>∃V',e=cO (.tuple #[])/\iZ w0 w' c V' S/\XR Z ss.length c.n S V V':=by
 obtain⟨HJ,HSY,HV⟩:=fq hL.joins h hV;have Qd:=I (λw1 V1 (h1:iZ w0 w1 c V1 S) hV1=>round_any w0 w1 c V1 S ss G L Z hL h1 hV1 hn hS);clear hL h hV hS;go_enter func174,ntmps174;go_wp2_with fail;go_loopg [] (Sv.left Z ss.length c.n V) (λg wx=>∃V',g=Sv.left Z ss.length c.n V'/\iZ w0 wx c V' S/\xW ss.length c.n V'/\N8 Z c.n V V'/\∀U,xW ss.length c.n U->Sv.Closed Z c.n S U->N8 Z c.n V U->N8 Z c.n V' U);case atStart=>exact⟨V,rfl,HSY,HV,QZ HJ HV,λ_ _ _ h=>h⟩
 case round=>
  obtain⟨V1,rfl,hsy,hok,hge,hle⟩:=hrel;obtain⟨J6,wV,HGE,jR⟩:=mg hsy hok hge hle;clear hsy hok hge hle;go_wp2_with fail;refine(Qd _ V1 J6 wV).mono ?_;rintro e w2 ⟨r,V2,rfl,hsy2,hrd,hcl⟩;obtain⟨HSY2,BG,HCL⟩:=fq hsy2 hrd hcl;clear hsy2 hrd hcl;cases r;·go_wp2_with fail;go_end0;exact⟨V2,rfl,HSY2,BG.ok,Ed HJ HV wV BG.ok HGE BG.ge,HCL cZ,λU hU hc hVU=>BG.least U hU hc (jR U hU hc hVU)⟩
  ·go_wp2_with fail;go_roundg (Sv.left Z ss.length c.n V2);case measure=>exact BG.less rfl
   case rel=>exact⟨V2,rfl,HSY2,BG.ok,Ed HJ HV wV BG.ok HGE BG.ge,λU hU hc hVU=>BG.least U hU hc (jR U hU hc hVU)⟩
def Sv.list(n:Nat)(V:Nat->Nat × Nat):List (Int × Int):=(List.range n).map λi=>(((V i).1:Int),((V i).2:Int))
theorem Sv.Dt(n:Nat)(V:Nat->Nat × Nat):(Sv.list n V).length=n:=by simp[Sv.list]
theorem Sv.Sw(V:Nat->Nat × Nat)(hi:i<n):(Sv.list n V)[i]?=some (((V i).1:Int),((V i).2:Int)):=by simp[Sv.list,hi]
theorem iZ.las{w0 w:World}{c:Cf}{V:Nat->Nat × Nat}(h:iZ w0 w c V S)(hn:c.n<=40):lZ w (Y (some (X c.lb 0)) c.n c.n) (Sv.list c.n V):=by
 refine⟨some (X c.lb 0),c.lb,0,c.n,by rw[Dt],λ_=>rfl,by rw[Dt];omega,λi x hx=>?_⟩;have hi:i<c.n:=by have:=(dz.1 hx).1;rwa[Dt]at this
 rw[Sw V hi]at hx;cases hx;obtain⟨l0,l1,-,-⟩:=h.ZG hi;rw[eu];exact⟨l0,l1⟩
theorem take_snoc{α:Type}{l:List α}{x:α}(h:l[k]?=some x):l.take (k+1)=l.take k++[x]:=by rw[gH,h];rfl
theorem sysE_ok{ni:Int}{cs:List Co}(h:Jt N ni cs=0):∃n:Nat,ni=n/\n<=40/\cs.length<=1000/\∀c∈cs,La N n c=true:=by
 unfold Jt at h;by_cases h0:ni<0;·rw[aL h0]at h;omega
 rw[aJ h0]at h;by_cases h1:40<ni;·rw[aL h1]at h;omega
 rw[aJ h1]at h;by_cases h2:1000<cs.length;·rw[aL h2]at h;omega
 rw[aJ h2]at h;by_cases h3:cs.all (La N ni.toNat)=true;·exact⟨ni.toNat,by omega,by omega,by omega,gY.1 h3⟩
 ·rw[aJ h3]at h;omega
theorem least_ok(w:World)(vn vl vc:Value)(ss:List aZ)(G:Nat)(L:Nat->Nat)(Z:Nat->Nat->Bool)(n:Nat)(cs:List Co)(hL:mK w vn vl ss G L Z)(hC:Mv w vc cs)(hE:Jt ss.length n cs=0):Calls prog 109 #[.agg #[vn,vl],O n,vc] w λe w'=>∃V lb,e=cO (.tuple #[Y (some (X lb 0)) n n,O 0])/\lZ w' (Y (some (X lb 0)) n n) (Sv.list n V)/\Ac Z ss.length n cs V/\bG w w':=by
 obtain⟨W,hW⟩:=bC (w.alloc (aY #[vn,vl] 25));obtain⟨b0,hB⟩:=XO w vn vl W hW;obtain⟨HB,HB0,HL,HC,HEN,Ua⟩:=vC hB b0 hL hC (Oz W vn vl ss G L Z (hL.strs.below hB) (hL.Qg.below hB) hL.ok) hE;obtain⟨n',hn',hn,hlen,hall⟩:=sysE_ok hE;obtain rfl:n=n':=by omega
 obtain⟨dU,HJ,vD⟩:=fq hall hL.joins (Fed.nil (n:=n) hL.meets (qj hL.ok).pos);obtain⟨a,b,off,cap,rfl,h0,hl,hel⟩:=hC;obtain⟨kg,FZ⟩:=bT hel h0;obtain⟨len,hlen'⟩:∃n,n=cs.length:=⟨_,rfl⟩;have ZQ:=I hlen';rw[<-hlen']at HC FZ hl hlen ⊢;clear hB b0 hL hE hel h0 hall hn' hlen';go_enter func109,ntmps109;go_wp2_with fail;rw[<-hW];refine HEN.mono ?_;rintro e w1 ⟨rfl,hb1⟩;obtain⟨HB1,HP0⟩:=bT (up HB hb1) (aU HB0 hb1);obtain⟨q0,q1⟩:=jm HP0;clear hb1 hW;go_wp2_with fail;refine(Gr w1 vn vl _ ss n cs (HL.strs.below HB1) (HC.below HB1)).mono ?_;rintro e w2 ⟨rfl,hb2⟩;rw[Ua];have HB2:=I (up HB1 hb2);replace q0:=(aj (aU HP0 hb2) 0).trans rfl;replace q1:=(aj (aU HP0 hb2) 1).trans rfl;clear hb2;go_wp2_with fail;refine(Lm w2 vn vl n (wU Z ss.length) hn).mono ?_;rintro e w3 ⟨p,lb,sb,rfl,hsy⟩;obtain⟨HSY,HL2⟩:=bT hsy (HL.below HB2);clear hsy q0 q1;go_wp2_with fail;go_loopw[37] (λi wx=>∃k:Nat,k<=len/\i=O k/\∃V S,iZ w2 wx ⟨p,lb,sb,n,vn,vl⟩ V S/\F8 n S/\Fed Z ss.length n (cs.take k) V S) (λi _=>len - (intOf i).toNat);case atStart=>exact⟨0,bI _,rfl,_,_,HSY,λi _=>by show(0:Nat)<1099511627776;omega,vD⟩
 case round=>
  obtain⟨k,hk,rfl,V1,S1,hsy,hsk,hfed⟩:=hrel;obtain⟨J6,Vn,HFED⟩:=fq hsy hsk hfed;clear hsy hsk hfed;by_cases hlt:k<len
  ·obtain⟨c,hc⟩:∃c,cs[k]?=some c:=⟨_,bg (by rw[<-ZQ];exact hlt)⟩;have vW:=I hc;have hco:=dU c (dN hc);have HCO:=I hco;obtain⟨hcf,hct,hcl⟩:=Cy hco;obtain⟨-,ht',ht⟩:=lg hct;obtain⟨hx',hm,hlv⟩:=wh hcl;obtain⟨Oe,HX⟩:=bT hcf hx';have hbx:=up HB2 J6.since;obtain⟨vf,hvf,g0,g1,g2,g3⟩:=kg k c hc;have HVF:=I (hvf.below HB2);replace g0:=aC g0 hbx;replace g1:=aC g1 hbx;replace g2:=aC g2 hbx;replace g3:=aC g3 hbx;obtain⟨fa,fb,fo,fc,rfl,-⟩:=hvf;obtain rfl:=FZ aV;obtain⟨DL,HTN⟩:=bT (J6.below (aH wr (aY #[O c.to,Y fa c.fr.length fc,O c.mask,O c.level] 261))) ht';have HAD:=I (sadd_any w2 (wr.alloc (aY #[O c.to,Y fa c.fr.length fc,O c.mask,O c.level] 261)) ⟨p,lb,sb,n,vn,vl⟩ V1 S1 ss G L Z c.to.toNat c.fr (c.mask.toNat,c.level.toNat) _ HL2 DL HFED.ok ht' HX Oe hn HVF Vn);rw[<-ht,<-hm,<-hlv]at HAD;clear hc hco hcf hct hcl hx' hbx ht' ht hm hlv;go_wp2_with fail;refine HAD.mono ?_;rintro e w4 ⟨rfl,S2,h1,h2,h3⟩;obtain⟨HS4,HSK2,HBT⟩:=fq h1 h2 h3;clear h1 h2 h3;go_wp2_with fail;go_roundw;case rel=>exact⟨k+1,by omega,by go_num,_,S2,HS4,HSK2,by rw[take_snoc vW];exact HFED.more HJ (λd hd=>dU d (Sy hd)) HCO HBT⟩
   case measure=>simp[intOf];omega
  ·have uO:Hid (Fed Z ss.length n cs V1 S1):=I (by have:=HFED.out;rwa[fJ (by rw[<-ZQ];omega)]at this);go_wp2_with fail;refine(VP w2 _ ⟨p,lb,sb,n,vn,vl⟩ V1 S1 ss G L Z HL2 J6 uO.ok hn Vn).mono ?_;rintro e w5 ⟨V2,rfl,hsy5,hset⟩;obtain⟨HSY5,HSET⟩:=bT hsy5 hset;obtain⟨-,-,c2,-⟩:=hsy5.cell;simp only at c2;clear hsy5 hset;go_wp2_with fail;go_ret2;exact⟨V2,lb,rfl,HSY5.las hn,uO.done HJ dU HSET,up HB2 HSY5.since⟩
end Go.Proofs.YtbgkpehhdibaoaaGreatDoor
