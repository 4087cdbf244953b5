/- Names, as plain data: what a call means; lists -/
import Derived.Test.YtfnboapebijcpaaGreatDoorMZAB
import Derived.Test.YtfnboapebijcpaaGreatDoorMZAC
import Derived.Test.YtfnboapebijcpaaGreatDoorMShelf
import Derived.Lib.IndexLaws
set_option maxHeartbeats 16000000
set_option maxRecDepth 100000
namespace Go.Proofs.YtfnboapebijcpaaGreatDoor
open bC
open Go.Proofs.Tryz
open Go.RowKit
def kV(w:World)(m:Nat)(v:Value)(l:List Mo):Prop:=
 ∃(a:Option Addr) (b off cap:Nat),v=.slice a l.length cap/\(0<l.length->a=some ⟨b,off,none⟩)/\l.length<=9223372036854775807/\
  ∀i x,l[i]?=some x->∃vi vv vf,w.cell? ⟨b,off+i*4,none⟩=some (.string x.name)/\w.cell? ⟨b,off+i*4+1,none⟩=some vi/\w.cell? ⟨b,off+i*4+2,none⟩=some vv/\w.cell? ⟨b,off+i*4+3,none⟩=some vf/\jK w m (.agg #[.string x.name,vi,vv,vf]) x
theorem kV.below{w w':World}{m:Nat}{v:Value}{l:List Mo}(h:kV w m v l)(hb:Below w.heap.size w w'):kV w' m v l:=by obtain⟨a,b,off,cap,e,h0,hl,h1⟩:=h;refine⟨a,b,off,cap,e,h0,hl,λi x hx=>?_⟩;obtain⟨vi,vv,vf,g0,g1,g2,g3,hm⟩:=h1 i x hx;exact⟨vi,vv,vf,aA g0 hb,aA g1 hb,aA g2 hb,aA g3 hb,hm.below hb⟩
namespace aI
def aZ(s t:ByteArray):Bool:=s.toList==t.toList
def sZ(l:List Fu)(s:ByteArray)(n:Nat):Option Nat:=(List.range n).find? λi=>match l[i]? with|some f=>aZ f.name s|none=>false
def jk(l:List Mo)(s:ByteArray):Option Nat:=(List.range l.length).find? λi=>match l[i]? with|some x=>aZ x.name s|none=>false
def tgt(x:Mo)(k:Nat)(call:ByteArray)(known:List Mo):Int × Int × Bool:=
 match fB call with
 | none=>match sZ x.aR call k with
  | some i=>(-1,i,true)
  | none=>(-1,0,false)
 | some _=>
  if 0<=bD x.imports (bC.preS call)then
   match jk known (bC.preS call)with
   | none=>(0,0,false)
   | some i=>match sZ ((known[i]?.map (·.aR)).getD []) (jW call) ((known[i]?.map (·.aR)).getD []).length with
    | some j=>(i,j,true)
    | none=>(i,0,false)
  else (0,0,false)
theorem Fy{l:List Fu}{s:ByteArray}{n i:Nat}{f:Fu}(hi:i<n)(hf:l[i]?=some f)(h:aZ f.name s=true)(h0:∀d g,d<i->l[d]?=some g->aZ g.name s=false):sZ l s n=some i:=by
 refine oZ hi (λc hc=>?_) (by simp only[hf];exact h);cases hg:l[c]? with
 | none=>rfl
 | some g=>exact h0 c g hc hg
theorem BU{l:List Fu}{s:ByteArray}{n:Nat}(h0:∀d g,d<n->l[d]?=some g->aZ g.name s=false):sZ l s n=none:=by
 refine jV (λc hc=>?_);cases hg:l[c]? with
 | none=>rfl
 | some g=>exact h0 c g hc hg
theorem Np{l:List Mo}{s:ByteArray}{i:Nat}{x:Mo}(hx:l[i]?=some x)(h:aZ x.name s=true)(h0:∀d g,d<i->l[d]?=some g->aZ g.name s=false):jk l s=some i:=by
 refine oZ (dG.1 hx).1 (λc hc=>?_) (by simp only[hx];exact h);cases hg:l[c]? with
 | none=>rfl
 | some g=>exact h0 c g hc hg
theorem Jf{l:List Mo}{s:ByteArray}(h0:∀(d:Nat) (g:Mo),l[d]?=some g->aZ g.name s=false):jk l s=none:=by
 refine jV (λc hc=>?_);cases hg:l[c]? with
 | none=>rfl
 | some g=>exact h0 c g hg
end aI
open aI
namespace aI
theorem Nq{x:Mo}{k:Nat}{call:ByteArray}{known:List Mo}{i:Nat}(hd:fB call=none)(hf:sZ x.aR call k=some i):tgt x k call known=(-1,(i:Int),true):=by simp[tgt,hd,hf]
theorem Jg{x:Mo}{k:Nat}{call:ByteArray}{known:List Mo}(hd:fB call=none)(hf:sZ x.aR call k=none):tgt x k call known=(-1,0,false):=by simp[tgt,hd,hf]
theorem Nr{x:Mo}{k:Nat}{call:ByteArray}{known:List Mo}{d:Nat}(hd:fB call=some d)(hi:decide (0<=bD x.imports (bC.preS call))=false):tgt x k call known=(0,0,false):=by have:=of_decide_eq_false hi;simp[tgt,hd,this]
theorem Tv{x:Mo}{k:Nat}{call:ByteArray}{known:List Mo}{d:Nat}(hd:fB call=some d)(hi:decide (0<=bD x.imports (bC.preS call))=true)(hm:jk known (bC.preS call)=none):tgt x k call known=(0,0,false):=by have:=of_decide_eq_true hi;simp[tgt,hd,this,hm]
theorem Xm{x y:Mo}{k:Nat}{call:ByteArray}{known:List Mo}{d i j:Nat}(hd:fB call=some d)(hi:decide (0<=bD x.imports (bC.preS call))=true)(hm:jk known (bC.preS call)=some i)(hy:known[i]?=some y)(hf:sZ y.aR (jW call) y.aR.length=some j):tgt x k call known=((i:Int),(j:Int),true):=by have:=of_decide_eq_true hi;simp[tgt,hd,this,hm,hy,hf]
theorem Ns{x y:Mo}{k:Nat}{call:ByteArray}{known:List Mo}{d i:Nat}(hd:fB call=some d)(hi:decide (0<=bD x.imports (bC.preS call))=true)(hm:jk known (bC.preS call)=some i)(hy:known[i]?=some y)(hf:sZ y.aR (jW call) y.aR.length=none):tgt x k call known=((i:Int),0,false):=by have:=of_decide_eq_true hi;simp[tgt,hd,this,hm,hy,hf]
end aI
theorem boxN1(w:World)(c0 c1 c2 c3:Value)(t:TypeId):(w.alloc (.cells #[c0,c1,c2,c3] t)).cell? ⟨w.heap.size,1,none⟩=some c1:=by simp[go_sem]
theorem Dy(w:World)(c0 c1 c2 c3:Value)(t:TypeId):(w.alloc (.cells #[c0,c1,c2,c3] t)).cell? ⟨w.heap.size,3,none⟩=some c3:=by simp[go_sem]
theorem qL{P:Prop}{R:Int × Int × Bool}{a b:Int}{c:Bool}(h:R=(a,b,c))(hb:P):(Ending.returned (.tuple #[.int .i64 a,.int .i64 b,.bool c])=Ending.returned (.tuple #[.int .i64 R.1,.int .i64 R.2.1,.bool R.2.2]))/\P:=by subst h;exact⟨rfl,hb⟩
theorem Dz(m:Nat)(w:World)(v vk:Value)(x:Mo)(k:Nat)(call:ByteArray)(known:List Mo)(h:jK w m v x)(hk:k<=x.aR.length)(hc:call.size<=maxLen)(hK:kV w m vk known):Calls prog 18 #[v,.int .i64 k,.string call,vk] w λe w'=>e=.returned (.tuple #[.int .i64 (aI.tgt x k call known).1,.int .i64 (aI.tgt x k call known).2.1,.bool (aI.tgt x k call known).2.2])/\Below w.heap.size w w':=by
 obtain⟨vi,vv,vf,rfl,hnm,hI,hV,hF⟩:=h;have HI:=hide hI;obtain⟨ai,bi,oi,ci,rfl,hI'⟩:=hI;obtain⟨av,bv,ov,cv,rfl,hV'⟩:=hV;obtain⟨af,bf,of,cf,rfl,BD,hlf,hcf⟩:=hF;obtain⟨ak,bk,ok,ck,rfl,hak,hlk,hck⟩:=hK;have Eh:=hide hcf;have qM:=hide hck;have BF:=hide BD;have Nt:=hide hak;have uZ:Hid (∀w,Calls prog 81 #[.string call] w λe w'=>e=.returned (.tuple #[.string (bC.preS call),.string (jW call),.bool (fB call).isSome])/\Below w.heap.size w w'):=λw=>Fp w call hc;obtain⟨ni,hni⟩:=aG x.imports.length;obtain⟨nv,mR⟩:=aG x.vars.length;obtain⟨nf,hnf⟩:=aG x.aR.length;obtain⟨nk,hnk⟩:=aG known.length;have og:=hide hnf;have Kt:=hide hnk;rw[<-hni,<-mR,<-hnf,<-hnk];rw[<-hni]at HI;rw[<-hnf]at hk hlf BF;rw[<-hnk]at hlk Nt;clear BD hak hcf hck hI' hV' hni mR hnf hnk hnm hc;have q1:=boxN1 w (.string x.name) (.slice ai ni ci) (.slice av nv cv) (.slice af nf cf) 26;have q3:=Dy w (.string x.name) (.slice ai ni ci) (.slice av nv cv) (.slice af nf cf) 26;have HB0:=hide (aB w (.cells #[.string x.name,.slice ai ni ci,.slice av nv cv,.slice af nf cf] 26));cases hd:fB call with
 | none=>
  have Qx:Hid (bC.preS call=call):=hide (by simp[bC.preS,hd]);rw[hd]at uZ;have HD:=hide hd;clear hd;obtain⟨R,hR⟩:=aG (aI.tgt x k call known);have HR:=hide hR;rw[<-hR];clear hR;rw[Qx]at uZ;generalize jW call=suf at *;go_enter func18,ntmps18;go_wp2_with fail;refine(uZ _).mono ?_;rintro e w1 ⟨rfl,hb1⟩;replace q3:=aA q3 hb1;have HB1:=hide (up HB0 hb1);clear hb1 q1;go_wp2_with fail;go_loop [14] (λi=>∃j:Nat,j<=k/\i=.int .i64 j/\∀d g,d<j->x.aR[d]?=some g->aI.aZ g.name call=false) (λi=>k - (intOf i).toNat);case atStart=>exact⟨0,bJ _,rfl,λd g hd=>absurd hd (dY _)⟩
  case round=>
   obtain⟨j,hj,rfl,hall⟩:=hrel;have HA:=hide hall;clear hall;by_cases hlt:j<k
   ·obtain⟨f,hf⟩:∃f,x.aR[j]?=some f:=⟨_,aU (by have:=og.out;omega)⟩;have HF:=hide hf;obtain⟨hfn,vp,vb,e0,e1,e2,e3,g0,-⟩:=Eh j f hf;obtain rfl:=BF (by omega);have c0:=aA g0 HB1;clear hf g0;cases hh:(f.name.toList==call.toList)
    ·have HH:=hide hh;go_wp2;go_round;case rel=>exact⟨j+1,by omega,by go_num,λd g hd hg=>by
      by_cases e:d=j;·subst e;rw[HF]at hg;cases hg;exact HH
      ·exact HA d g (by omega) hg⟩
     case measure=>simp[intOf];omega
    ·have HH:=hide hh;go_wp2;go_ret3;exact qL (by rw[HR];exact Nq HD (Fy hlt HF HH HA)) HB1
   ·go_wp2;go_ret3;exact qL (by rw[HR];exact Jg HD (BU λd g hd hg=>HA d g (by omega) hg)) HB1
 | some dd=>
  rw[hd]at uZ;have HD:=hide hd;clear hd;obtain⟨R,hR⟩:=aG (aI.tgt x k call known);have HR:=hide hR;rw[<-hR];clear hR;obtain⟨pre,hpre⟩:=aG (bC.preS call);obtain⟨suf,Qy⟩:=aG (jW call);have HP:=hide hpre;have HS:=hide Qy;rw[<-hpre,<-Qy]at uZ;clear hpre Qy;go_enter func18,ntmps18;go_wp2_with fail;refine(uZ _).mono ?_;rintro e w1 ⟨rfl,hb1⟩;replace q1:=aA q1 hb1;have HB1:=hide (up HB0 hb1);clear hb1 q3;go_wp2_with fail;refine(dh w1 _ x.imports pre (HI.below HB1)).mono ?_;rintro e w' ⟨rfl,hw'⟩;subst hw';obtain⟨is,his⟩:=aG (decide (0<=bD x.imports pre));have HIS:=hide his;rw[<-his];clear his;cases is;·go_wp2;go_ret3;exact qL (by rw[HR];exact Nr HD (by rw[<-HP];exact HIS.symm)) HB1
  ·go_wp2_with fail;go_loop [15] (λi=>∃j:Nat,j<=nk/\i=.int .i64 j/\∀d g,d<j->known[d]?=some g->aI.aZ g.name pre=false) (λi=>nk - (intOf i).toNat);case atStart=>exact⟨0,bJ _,rfl,λd g hd=>absurd hd (dY _)⟩
   case round=>
    obtain⟨j,hj,rfl,hall⟩:=hrel;have HA:=hide hall;clear hall;by_cases hlt:j<nk
    ·obtain⟨y,hy⟩:∃y,known[j]?=some y:=⟨_,aU (by have:=Kt.out;omega)⟩;have HY:=hide hy;obtain⟨yi,yv,yf,g0,g1,g2,g3,hm⟩:=qM j y hy;obtain rfl:=Nt (by omega);have c0:=aA g0 HB1;have c3:=aA g3 HB1;obtain⟨zi,zv,zf,hz,-,-,-,hzf⟩:=hm;injection hz with hz;injection hz with hz;injection hz with _ hz;injection hz with _ hz;injection hz with _ hz;injection hz with hz _;subst hz;obtain⟨ay,bY,oy,cy,rfl,hay,hly,hcy⟩:=hzf;obtain⟨ny,hny⟩:=aG y.aR.length;have HNY:=hide hny;have HCY:=hide hcy;rw[<-hny]at hay hly c3;have HAY:=hide hay;clear hy g0 g1 g2 g3 hny hcy hay;cases hh:(y.name.toList==pre.toList)
     ·have HH:=hide hh;go_wp2;go_round;case rel=>exact⟨j+1,by omega,by go_num,λd g hd hg=>by
       by_cases e:d=j;·subst e;rw[HY]at hg;cases hg;exact HH
       ·exact HA d g (by omega) hg⟩
      case measure=>simp[intOf];omega
     ·have HM:Hid (jk known pre=some j):=hide (Np HY hh HA);go_wp2;go_loop [16] (λi=>∃t:Nat,t<=ny/\i=.int .i64 t/\∀d g,d<t->y.aR[d]?=some g->aI.aZ g.name suf=false) (λi=>ny - (intOf i).toNat);case atStart=>exact⟨0,bJ _,rfl,λd g hd=>absurd hd (dY _)⟩
      case round=>
       obtain⟨t,ht,rfl,hall⟩:=hrel;have HAT:=hide hall;clear hall;by_cases hlt2:t<ny
       ·obtain⟨f,hf⟩:∃f,y.aR[t]?=some f:=⟨_,aU (by have:=HNY.out;omega)⟩;have HF:=hide hf;obtain⟨hfn,vp,vb,e0,e1,e2,e3,g0,-⟩:=HCY t f hf;obtain rfl:=HAY (by omega);have c7:=aA g0 HB1;clear hf g0;cases hh2:(f.name.toList==suf.toList)
        ·have HH:=hide hh2;go_wp2;go_round;case rel=>exact⟨t+1,by omega,by go_num,λd g hd hg=>by
          by_cases e:d=t;·subst e;rw[HF]at hg;cases hg;exact HH
          ·exact HAT d g (by omega) hg⟩
         case measure=>simp[intOf];omega
        ·have HH:=hide hh2;go_wp2;go_ret3;exact qL (by rw[HR];exact Xm HD (by rw[<-HP];exact HIS.symm) (by rw[<-HP];exact HM) HY (Fy (by rw[<-HNY];exact hlt2) HF (by rw[<-HS];exact HH) (by rw[<-HS];exact HAT))) HB1
       ·go_wp2;go_ret3;exact qL (by rw[HR];exact Ns HD (by rw[<-HP];exact HIS.symm) (by rw[<-HP];exact HM) HY (BU λd g hd hg=>by rw[<-HS];exact HAT d g (by have:=HNY.out;omega) hg)) HB1
    ·go_wp2;go_ret3;exact qL (by rw[HR];exact Tv HD (by rw[<-HP];exact HIS.symm) (Jf λd g hg=>by rw[<-HP];exact HA d g (by have:=(dG.1 hg).1;have:=Kt.out;omega) hg)) HB1
theorem Ku{s:ByteArray}(h:¬s.size=1):Qd s=false:=by
 unfold Qd;have:bD opS s=-1:=by
  unfold bD;rw[jV (p:=BQ opS s) (λc hc=>?_)];have hc':c<5:=hc;unfold BQ;rw[beq_eq_false_iff_ne];intro e;rw[ByteArray.toList_eq,ByteArray.toList_eq]at e;have e2:=congrArg List.length e;rw[fA,fA]at e2;apply h;rw[e2];obtain rfl|rfl|rfl|rfl|rfl:c=0\/c=1\/c=2\/c=3\/c=4:=by omega
  all_goals rfl
 rw[this];rfl
theorem Xn:∀c:Fin 256,decide (0<=Lib.indexByte [43,45,42,60,61] (UInt8.ofFin c))=Qd ⟨#[UInt8.ofFin c]⟩:=by decide +kernel
theorem op_one(c:UInt8):decide (0<=Lib.indexByte [43,45,42,60,61] c)=Qd ⟨#[c]⟩:=Xn c.toFin
theorem one_byte{s:ByteArray}(h:s.size=1):∃c,s=⟨#[c]⟩:=by
 obtain⟨⟨l⟩⟩:=s;match l,h with
 | [c],_=>exact⟨c,rfl⟩
theorem Fz(w:World)(s:ByteArray)(hs:s.size<=maxLen):Calls prog 341 #[.string s] w λe w'=>e=.returned (.bool (Qd s))/\w'=w:=by
 unfold maxLen at hs;by_cases h1:s.size=1;·obtain⟨c,rfl⟩:=one_byte h1;clear h1;have h1':(((⟨#[c]⟩:ByteArray).size:Int)==1)=true:=rfl;have HO:=hide (op_one c);go_enter func341,ntmps341;go_wp2_with fail;refine(Tryz.strings_Contains_one _ c _).mono ?_;rintro e w' ⟨rfl,hw⟩;subst hw;rw[show decide (0<=Lib.indexByte (⟨#[43,45,42,60,61]⟩:ByteArray).data.toList c)=Qd ⟨#[c]⟩from HO.out];go_wp2;go_ret;exact⟨rfl,rfl⟩
 ·have h1':((s.size:Int)==1)=false:=by simp;omega
  have HO:=hide (Ku h1);clear h1;go_enter func341,ntmps341;go_wp2;go_ret;exact⟨aH HO.symm,rfl⟩
theorem UY(s:ByteArray):Lib.indexByte s.data.toList 46=match fB s with|some i=>(i:Int)|none=>-1:=by
 have hge:=Lib.indexByte_ge s.data.toList 46;by_cases h:Lib.indexByte s.data.toList 46=-1;·have hn:=Lib.indexByte_none h;have:fB s=none:=jV (λd hd=>by have hd':d<s.data.toList.length:=hd;have h':=hn d;rw[List.getD,aU hd'];rw[aU hd']at h';simpa using h');rw[h,this]
 ·obtain⟨o,ho⟩:∃o:Nat,Lib.indexByte s.data.toList 46=o:=⟨(Lib.indexByte s.data.toList 46).toNat,by omega⟩;obtain⟨h1,h2⟩:=Lib.indexByte_some ho;have ho':o<s.size:=(dG.1 h1).1;have:fB s=some o:=oZ ho' (λc hc=>by have hc':c<s.data.toList.length:=Nat.lt_trans hc ho';have h':=h2 c hc;rw[List.getD,aU hc'];rw[aU hc']at h';simpa using h') (by rw[List.getD,h1];rfl);rw[ho,this]
theorem Nu{s:ByteArray}{k:Nat}(h:fB s=some k):k<s.size:=(bC.find_spec h).1
theorem Xo(w:World)(s:ByteArray)(hs:s.size<=maxLen):Calls prog 233 #[.string s,.string ⟨#[46]⟩] w λe w'=>e=.returned (.tuple #[.string (bC.preS s),.string (jW s),.bool (fB s).isSome])/\Below w.heap.size w w':=by
 unfold maxLen at hs;have HI:=hide (UY s);cases hd:fB s;·rw[hd]at HI;have HD:=hide hd;clear hd;go_enter func233,ntmps233;go_wp2_with fail;refine(Tryz.stringslite_Index_one s 46 _).mono ?_;rintro e w' ⟨rfl,hw⟩;subst hw;rw[HI];go_wp2;go_ret3;exact⟨by simp[bC.preS,jW,HD.out],aX _ _⟩
 ·rename_i k;rw[hd]at HI;have hk:=Nu hd;have HD:=hide hd;have b1:(0:Int)<=(k:Int):=by omega
  have b2:(k:Int)<=(s.size:Int):=by omega
  have b3:(k:Int)+1<=(s.size:Int):=by omega
  clear hd;go_enter func233,ntmps233;go_wp2_with fail;refine(Tryz.stringslite_Index_one s 46 _).mono ?_;rintro e w' ⟨rfl,hw⟩;subst hw;rw[HI];go_wp2_with fail;go_quiet (fail);go_wp2;go_ret3;exact⟨by simp[bC.preS,jW,HD.out],iP (aX _ _) _⟩
theorem Tw(w:World)(s:ByteArray)(hs:s.size<=maxLen):Calls prog 166 #[.string s,.string ⟨#[46]⟩] w λe w'=>e=.returned (.tuple #[.string (bC.preS s),.string (jW s),.bool (fB s).isSome])/\Below w.heap.size w w':=by have HC:=hide (Xo w s hs);generalize bC.preS s=pre at *;generalize jW s=suf at *;generalize (fB s).isSome=dot at *;go_enter func166,ntmps166;go_wp2_with fail;refine HC.mono ?_;rintro e w1 ⟨rfl,hb1⟩;have HB:=hide hb1;clear hb1;go_wp2;go_ret3;exact⟨rfl,HB⟩
theorem Kv(w:World)(s:ByteArray)(hs:s.size<=maxLen):Calls prog 342 #[.string s] w λe w'=>e=.returned (.bool (o9 s))/\Below w.heap.size w w':=by
 have HC:=hide (Tw w s hs);have hp1:(bC.preS s).size<=maxLen:=Nat.le_trans (Tn s) hs;have hp2:(jW s).size<=maxLen:=Nat.le_trans (Tp s) hs;have HE:Hid (o9 s=(bL (bC.preS s).data.toList&&(!(fB s).isSome||bL (jW s).data.toList))):=rfl;generalize bC.preS s=pre at *;generalize jW s=suf at *;generalize (fB s).isSome=dot at *;go_enter func342,ntmps342;go_wp2_with fail;refine HC.out.mono ?_;rintro e w1 ⟨rfl,hb1⟩;have HB:=hide hb1;clear hb1;go_wp2_with fail;refine(iZ _ pre hp1).mono ?_;rintro e w' ⟨rfl,hw⟩;subst hw;cases hb:bL pre.data.toList;·have HB1:=hide hb;go_wp2;go_ret;exact⟨aH (by rw[HE.out,HB1.out];rfl),HB.out⟩
 ·have HB1:=hide hb;cases dot;·go_wp2;go_ret;exact⟨aH (by rw[HE.out,HB1.out];rfl),HB.out⟩
  ·go_wp2_with fail;refine(iZ _ suf hp2).mono ?_;rintro e w' ⟨rfl,hw⟩;subst hw;generalize bL suf.data.toList=b2 at *;go_wp2;go_ret;exact⟨aH (by rw[HE.out,HB1.out];simp),HB.out⟩
namespace bC
structure Ord(Z:Nat->Nat->Bool)(n:Nat):Prop where
 refl:∀a,a<n->Z a a=true
 anti:∀a b,a<n->b<n->Z a b=true->Z b a=true->a=b
 trans:∀a b c,a<n->b<n->c<n->Z a b=true->Z b c=true->Z a c=true
theorem FC{Z:Nat->Nat->Bool}{n:Nat}(h:o7 Z n=true):Ord Z n:=by
 have hp:∀a,a<n->Z a a=true/\∀b,b<n->Z a b=true->(a≠b->Z b a=false)/\∀c,c<n->Z b c=true->Z a c=true:=by
  intro a ha;have h1:=jU h ha;unfold uV at h1;obtain⟨h2,h3⟩:=DC.1 h1;refine⟨h2,λb hb hab=>?_⟩;have h4:=jU h3 hb;unfold uU at h4;rw[hab]at h4;have h5:fH Z n a b=true:=by simpa using h4
  unfold fH at h5;obtain⟨h6,h7⟩:=DC.1 h5;refine⟨λhne=>?_,λc hc hbc=>?_⟩;·simpa[hne]using h6
  ·have h8:=jU h7 hc;unfold zI at h8;rw[hbc]at h8;simpa using h8
 refine⟨λa ha=>(hp a ha).1,λa b ha hb hab hba=>?_,λa b c ha hb hc hab hbc=>((hp a ha).2 b hb hab).2 c hc hbc⟩;by_cases e:a=b;·exact e
 ·have:=((hp a ha).2 b hb hab).1 e;rw[this]at hba;cases hba
theorem Ord.turn{Z:Nat->Nat->Bool}{n:Nat}(h:Ord Z n):Ord (tr Z) n:=
 ⟨h.refl,λa b ha hb hab hba=>h.anti a b ha hb hba hab,λa b c ha hb hc hab hbc=>h.trans c b a hc hb ha hbc hab⟩
structure yc(Z:Nat->Nat->Bool)(n a b c:Nat):Prop where
 lt:c<n
 left:Z a c=true
 right:Z b c=true
 least:∀d,d<n->Z a d=true->Z b d=true->Z c d=true
theorem Jh{Z:Nat->Nat->Bool}{n a b c:Nat}(h:kT Z n a b=some c):yc Z n a b c:=by obtain⟨h1,h2⟩:=find_spec h;unfold uT at h2;simp only[eB]at h2;refine⟨h1,h2.1.1,h2.1.2,λd hd had hbd=>?_⟩;have:=jU h2.2 hd;rw[had,hbd]at this;simpa using this
theorem Xp{Z:Nat->Nat->Bool}{n a b c:Nat}(h:yc Z n a b c):uT Z n a b c=true:=by unfold uT;rw[h.left,h.right];simp only[Bool.and_self,gV];refine all_true λd hd=>?_;cases had:Z a d<;>cases hbd:Z b d<;>simp;exact h.least d hd had hbd
theorem yc.symm{Z:Nat->Nat->Bool}{n a b c:Nat}(h:yc Z n a b c):yc Z n b a c:=
 ⟨h.lt,h.right,h.left,λd hd hb ha=>h.least d hd ha hb⟩
theorem vD{Z:Nat->Nat->Bool}{n a b c:Nat}(h:yc Z n a b c):∃d,kT Z n a b=some d:=by
 cases hj:kT Z n a b with
 | some d=>exact⟨d,rfl⟩
 | none =>exfalso;have:=xH.1 hj c (j6.2 h.lt);exact this (Xp h)
structure Joins(Z:Nat->Nat->Bool)(n:Nat):Prop extends Ord Z n where
 has:∀a b,a<n->b<n->∃c,kT Z n a b=some c
theorem vE{Z:Nat->Nat->Bool}{n:Nat}(o:Ord Z n)(h:jJ Z n=true):Joins Z n:=by
 have hlt:∀a b,a<n->b<a->∃c,kT Z n a b=some c:=by intro a b ha hb;have h1:=jU (jU h ha) hb;unfold uW at h1;exact Kw.1 h1
 refine⟨o,λa b ha hb=>?_⟩;rcases Nat.lt_trichotomy b a with hba|hba|hba;·exact hlt a b ha hba
 ·subst hba;exact vD (c:=b) ⟨hb,o.refl b hb,o.refl b hb,λd _ h _=>h⟩
 ·obtain⟨c,hc⟩:=hlt b a hb hba;exact vD (Jh hc).symm
variable {Z : Nat → Nat → Bool} {n : Nat}
theorem Joins.spec(h:Joins Z n){a b:Nat}(ha:a<n)(hb:b<n):yc Z n a b (l9 Z n a b):=by obtain⟨c,hc⟩:=h.has a b ha hb;unfold l9;rw[hc];exact Jh hc
theorem Joins.lt(h:Joins Z n){a b:Nat}(ha:a<n)(hb:b<n):l9 Z n a b<n:=(h.spec ha hb).lt
theorem Nv(k:Joins (tr Z) n)(hn:0<n):sQ Z n<n/\∀a,a<n->Z (sQ Z n) a=true:=by
 have main:∀m,0<m->m<=n->∃c,c<n/\∀a,a<m->Z c a=true:=by
  intro m;induction m with
  | zero=>intro h;omega
  | succ m ih=>
   intro _ hm;by_cases h0:m=0
   ·subst h0;exact⟨0,hn,λa ha=>by
     have:a=0:=by omega
     subst this;exact k.refl 0 hn⟩
   ·obtain⟨c,hc,hall⟩:=ih (by omega) (by omega);have p:=k.spec hc (show m<n by omega);refine⟨_,p.lt,λa ha=>?_⟩;by_cases e:a=m;·subst e;exact p.right
    ·exact k.trans a c _ (by omega) hc p.lt (hall a (by omega)) p.left
 obtain⟨c,hc,hall⟩:=main n hn (bM _);have hP:Qq Z n c=true:=all_true (λa ha=>hall a ha);cases hf:(List.range n).find? (Qq Z n)with
 | none=>exact absurd hP (by have:=xH.1 hf c (j6.2 hc);simpa using this)
 | some d=>
  have e:sQ Z n=d:=by unfold sQ;rw[hf];rfl
  obtain⟨h1,h2⟩:=find_spec hf;rw[e];exact⟨h1,λa ha=>jU h2 ha⟩
theorem tr_tr:tr (tr Z)=Z:=rfl
end bC
namespace Sv
def Ok(N:Nat)(x:Nat × Nat):Prop:=x.1<16/\x.2<N
def join(Z:Nat->Nat->Bool)(N:Nat)(x y:Nat × Nat):Nat × Nat:=(x.1 ||| y.1,l9 Z N x.2 y.2)
variable {Z : Nat → Nat → Bool} {N : Nat}
structure Co where
 to:Int
 fr:List Int
 mask:Int
 level:Int
def yg(N:Nat)(m l:Int):Bool:=decide (0<=m)&&decide (m<=15)&&decide (0<=l)&&decide (l<N)
end Sv
theorem FD(w:World)(v:Value)(n a b:Nat)(Z:Nat->Nat->Bool)(hG:mO w v n Z)(hn:n<=6)(ha:a<n)(hb:b<n):Calls prog 274 #[v,.int .i64 a,.int .i64 b] w λe w'=>e=.returned (.tuple #[.int .i64 (l9 Z n a b:Nat),.int .i64 (Tk Z n a b)])/\w'=w:=by
 have hG':=hG;obtain⟨gb,go,gc,RB,RO,C,rfl,h1,h2⟩:=hG;have HG:Hid (mO w (.slice (some ⟨gb,go,none⟩) n gc) n Z):=hG';clear hG';have ra:=h1 a ha;have rb:=h1 b hb;go_enter func274,ntmps274;go_wp2;go_loop [11] (λi=>∃k:Nat,k<=n/\i=.int .i64 k/\∀d,d<k->uT Z n a b d=false) (λi=>n - (intOf i).toNat);case atStart=>exact⟨0,Nat.zero_le _,rfl,λd hd=>absurd hd (Nat.not_lt_zero _)⟩
 case round=>
  obtain⟨k,hk,rfl,hall⟩:=hrel;have HA:Hid (∀d,d<k->uT Z n a b d=false):=hall;clear hall;by_cases hlt:k<n
  ·have ca:=h2 a k ha hlt;have cb:=h2 b k hb hlt;clear h1 h2;cases za:Z a k
   ·rw[za]at ca;go_wp2;go_round;case rel=>exact⟨k+1,by omega,by go_num,λd hd=>by
     by_cases e:d=k;·subst e;simp[uT,za]
     ·exact HA.out d (by omega)⟩
    case measure=>simp[intOf];omega
   ·rw[za]at ca;cases zb:Z b k
    ·rw[zb]at cb;go_wp2;go_round;case rel=>exact⟨k+1,by omega,by go_num,λd hd=>by
      by_cases e:d=k;·subst e;simp[uT,zb]
      ·exact HA.out d (by omega)⟩
     case measure=>simp[intOf];omega
    ·rw[zb]at cb;go_wp2_with fail;refine(Ef w _ n a b k Z HG.out hn ha hb hlt).mono ?_;rintro e w' ⟨rfl,rfl⟩;cases zc:Fj Z n a b k
     ·go_wp2;go_round;case rel=>exact⟨k+1,by omega,by go_num,λd hd=>by
       by_cases e:d=k;·subst e;simp[uT,zc]
       ·exact HA.out d (by omega)⟩
      case measure=>simp[intOf];omega
     ·go_wp2;go_ret2;have hj:kT Z n a b=some k:=oZ hlt HA.out (by simp[uT,za,zb,zc]);exact⟨Tm (by simp[l9,hj]) (by simp[Tk,hj]),rfl⟩
  ·go_wp2;go_ret2;have hj:kT Z n a b=none:=jV (λd hd=>HA.out d (by omega));exact⟨Tm (by simp[l9,hj]) (by simp[Tk,hj]),rfl⟩
theorem Xq{Z:Nat->Nat->Bool}{n a b:Nat}:Tk Z n a b=if uW Z n a b then 0 else 5:=rfl
theorem zQ(w:World)(v:Value)(n:Nat)(Z:Nat->Nat->Bool)(hG:mO w v n Z)(hn:n<=6):Calls prog 200 #[v] w λe w'=>e=.returned (.bool (jJ Z n))/\w'=w:=by
 have HG:Hid (mO w v n Z):=hG;obtain⟨gb,go,gc,RB,RO,C,rfl,h1,h2⟩:=hG;clear h1 h2;go_enter func200,ntmps200;go_wp2;go_loop [9] (λi=>∃k:Nat,k<=n/\i=.int .i64 k/\∀d,d<k->(List.range d).all (uW Z n d)=true) (λi=>n - (intOf i).toNat);case atStart=>exact⟨0,Nat.zero_le _,rfl,λd hd=>absurd hd (Nat.not_lt_zero _)⟩
 case round=>
  obtain⟨k,hk,rfl,hall⟩:=hrel;have HA:Hid (∀d,d<k->(List.range d).all (uW Z n d)=true):=hall;clear hall;by_cases hlt:k<n
  ·go_wp2;go_loop [13] (λi=>∃m:Nat,m<=k/\i=.int .i64 m/\∀d,d<m->uW Z n k d=true) (λi=>k - (intOf i).toNat);case atStart=>exact⟨0,Nat.zero_le _,rfl,λd hd=>absurd hd (Nat.not_lt_zero _)⟩
   case round=>
    obtain⟨m,hm,rfl,hall⟩:=hrel;have HB:Hid (∀d,d<m->uW Z n k d=true):=hall;clear hall;by_cases hml:m<k
    ·go_wp2_with fail;refine(FD w _ n k m Z HG.out hn hlt (by omega)).mono ?_;rintro e w' ⟨rfl,rfl⟩;rw[Xq];cases zj:uW Z n k m;·rw[if_neg (by simp)];go_wp2;go_ret;exact⟨aH (bC.all_false hlt (bC.all_false hml zj)).symm,rfl⟩
     ·rw[if_pos rfl];go_wp2;go_round;case rel=>exact⟨m+1,by omega,by go_num,λd hd=>by
       by_cases e:d=m;·subst e;exact zj
       ·exact HB.out d (by omega)⟩
      case measure=>simp[intOf];omega
    ·go_wp2;go_round;case rel=>exact⟨k+1,by omega,by go_num,λd hd=>by
      by_cases e:d=k;·subst e;exact bC.all_true (λc hc=>HB.out c (by omega))
      ·exact HA.out d (by omega)⟩
     case measure=>simp[intOf];omega
  ·go_wp2;go_ret;exact⟨aH (bC.all_true (λd hd=>HA.out d (by omega))).symm,rfl⟩
theorem Nw(w:World)(v:Value)(n:Nat)(Z:Nat->Nat->Bool)(hG:mO w v n Z)(hn:n<=6):Calls prog 199 #[v] w λe w'=>e=.returned (.bool (o7 Z n))/\w'=w:=by
 have HG:Hid (mO w v n Z):=hG;obtain⟨gb,go,gc,RB,RO,C,rfl,h1,h2⟩:=hG;go_enter func199,ntmps199;go_wp2;go_loop [7] (λi=>∃k:Nat,k<=n/\i=.int .i64 k/\∀d,d<k->uV Z n d=true) (λi=>n - (intOf i).toNat);case atStart=>exact⟨0,Nat.zero_le _,rfl,λd hd=>absurd hd (Nat.not_lt_zero _)⟩
 case round=>
  obtain⟨k,hk,rfl,hall⟩:=hrel;have HA:Hid (∀d,d<k->uV Z n d=true):=hall;clear hall;by_cases hlt:k<n
  ·have ra:=h1 k hlt;have caa:=h2 k k hlt hlt;cases zkk:Z k k;·rw[zkk]at caa;go_wp2;go_ret;exact⟨aH (bC.all_false hlt (by simp[uV,zkk])).symm,rfl⟩
   ·rw[zkk]at caa;go_wp2;clear caa;go_loop [20] (λi=>∃m:Nat,m<=n/\i=.int .i64 m/\∀d,d<m->uU Z n k d=true) (λi=>n - (intOf i).toNat);case atStart=>exact⟨0,Nat.zero_le _,rfl,λd hd=>absurd hd (Nat.not_lt_zero _)⟩
    case round=>
     obtain⟨m,hm,rfl,hall⟩:=hrel;have HB:Hid (∀d,d<m->uU Z n k d=true):=hall;clear hall;by_cases hml:m<n
     ·have cab:=h2 k m hlt hml;cases zkm:Z k m
      ·rw[zkm]at cab;go_wp2;go_round;case rel=>exact⟨m+1,by omega,by go_num,λd hd=>by
        by_cases e:d=m;·subst e;simp[uU,zkm]
        ·exact HB.out d (by omega)⟩
       case measure=>simp[intOf];omega
      ·rw[zkm]at cab;go_wp2_with fail;refine(Xk w _ n k m Z HG.out hn hlt hml).mono ?_;rintro e w' ⟨rfl,rfl⟩;cases zf:bC.fH Z n k m;·go_wp2;go_ret;exact⟨aH (bC.all_false hlt (by unfold uV;rw[bC.all_false hml (by simp[uU,zkm,zf])];simp)).symm,rfl⟩
       ·go_wp2;go_round;case rel=>exact⟨m+1,by omega,by go_num,λd hd=>by
         by_cases e:d=m;·subst e;simp[uU,zf]
         ·exact HB.out d (by omega)⟩
        case measure=>simp[intOf];omega
     ·go_wp2;go_round;case rel=>exact⟨k+1,by omega,by go_num,λd hd=>by
       by_cases e:d=k;·subst e;unfold uV;rw[zkk,bC.all_true (λc hc=>HB.out c (by omega))];rfl
       ·exact HA.out d (by omega)⟩
      case measure=>simp[intOf];omega
  ·go_wp2;go_ret;exact⟨aH (bC.all_true (λd hd=>HA.out d (by omega))).symm,rfl⟩
theorem FI(w:World)(v:Value)(n:Nat)(Z:Nat->Nat->Bool)(hG:mO w v n Z)(hn:n<=6):Calls prog 270 #[v] w λe w'=>e=.returned (.int .i64 (sQ Z n:Nat))/\w'=w:=by
 obtain⟨gb,go,gc,RB,RO,C,rfl,h1,h2⟩:=hG;go_enter func270,ntmps270;go_wp2;go_loop [6] (λi=>∃k:Nat,k<=n/\i=.int .i64 k/\∀d,d<k->Qq Z n d=false) (λi=>n - (intOf i).toNat);case atStart=>exact⟨0,Nat.zero_le _,rfl,λd hd=>absurd hd (Nat.not_lt_zero _)⟩
 case round=>
  obtain⟨k,hk,rfl,hall⟩:=hrel;have HA:Hid (∀d,d<k->Qq Z n d=false):=hall;clear hall;by_cases hlt:k<n
  ·have ra:=h1 k hlt;have H2:Hid (∀c,c<n->w.cell? ⟨RB k,RO k+c,none⟩=some (.bool (Z k c))):=λc hc=>h2 k c hlt hc;go_wp2_with fail;refine(IB w (RB k) (RO k) n (C k) (Z k) hn H2.out).mono ?_;rintro e w' ⟨rfl,rfl⟩;rw[show(List.range n).all (Z k)=Qq Z n k from rfl];cases zf:Qq Z n k
   ·go_wp2;go_round;case rel=>exact⟨k+1,by omega,by go_num,λd hd=>by
     by_cases e:d=k;·subst e;exact zf
     ·exact HA.out d (by omega)⟩
    case measure=>simp[intOf];omega
   ·go_wp2;go_ret;exact⟨bA (by unfold sQ;rw[oZ hlt HA.out zf];rfl),rfl⟩
  ·go_wp2;go_ret;exact⟨bA (by unfold sQ;rw[jV (λd hd=>HA.out d (by omega))];rfl),rfl⟩
namespace bC
def mJ(L:Nat->Nat)(n r:Nat):Bool:=L r==n
def fG(G:Nat)(L:Nat->Nat)(n:Nat):Bool:=G==n&&(List.range G).all (mJ L n)
end bC
theorem Ky(w:World)(v:Value)(G n:Nat)(L:Nat->Nat)(Z:Nat->Nat->Bool)(hR:Qb w v G L Z)(hn:n<=6):Calls prog 198 #[v,.int .i64 n] w λe w'=>e=.returned (.bool (fG G L n))/\w'=w:=by
 obtain⟨ga,gb,go,gc,A,RB,RO,C,rfl,hg,Wx,hLm,h1,h2⟩:=hR;clear h2;by_cases hGn:G=n
 ·subst hGn;have HF:Hid (fG G L G=(List.range G).all (mJ L G)):=by show fG G L G=_;unfold fG;simp
  go_enter func198,ntmps198;go_wp2;go_loop [13] (λi=>∃k:Nat,k<=G/\i=.int .i64 k/\∀d,d<k->mJ L G d=true) (λi=>G - (intOf i).toNat);case atStart=>exact⟨0,Nat.zero_le _,rfl,λd hd=>absurd hd (Nat.not_lt_zero _)⟩
  case round=>
   obtain⟨k,hk,rfl,hall⟩:=hrel;have HA:Hid (∀d,d<k->mJ L G d=true):=hall;clear hall;by_cases hlt:k<G
   ·obtain rfl:=hg (by omega);have ra:=h1 k hlt;have rl:=hLm k hlt;by_cases hs:L k=G
    ·have hs':((L k:Int) != (G:Int))=false:=by rw[wK];simp[hs]
     have HS:Hid (L k=G):=hs;clear hs;go_wp2;go_round;case rel=>exact⟨k+1,by omega,by go_num,λd hd=>by
      by_cases e:d=k;·subst e;simp[mJ,HS.out]
      ·exact HA.out d (by omega)⟩
     case measure=>simp[intOf];omega
    ·have hs':((L k:Int) != (G:Int))=true:=by rw[wK];simp[hs]
     have HS:Hid (¬L k=G):=hs;clear hs;go_wp2;go_ret;exact⟨aH (by rw[HF.out];exact(bC.all_false hlt (by simp[mJ,HS.out])).symm),rfl⟩
   ·go_wp2;go_ret;exact⟨aH (by rw[HF.out];exact(bC.all_true (λd hd=>HA.out d (by omega))).symm),rfl⟩
 ·have hs':((G:Int) != (n:Int))=true:=by rw[wK];simp[hGn]
  have HS:Hid (¬G=n):=hGn;clear hGn;go_enter func198,ntmps198;go_wp2;go_ret;exact⟨aH (by simp[fG,HS.out]),rfl⟩
theorem vF(w:World)(va:Option Addr)(vl:Value)(n cap:Nat)(a:Int):Calls prog 312 #[.agg #[.slice va n cap,vl],.int .i64 a] w λe w'=>e=.returned (.bool (decide (0<=a)&&decide (a<n)))/\Below w.heap.size w w':=by
 by_cases h0:0<=a
 ·by_cases h1:a<n;·go_enter func312,ntmps312;go_wp2;go_ret;exact⟨aH (by simp[h0,h1]),(Below.refl _ _).alloc (Nat.le_refl _) _⟩
  ·go_enter func312,ntmps312;go_wp2;go_ret;exact⟨aH (by simp[h1]),(Below.refl _ _).alloc (Nat.le_refl _) _⟩
 ·go_enter func312,ntmps312;go_wp2;go_ret;exact⟨aH (by rw[decide_eq_false (by omega:¬0<=a)];rfl),(Below.refl _ _).alloc (Nat.le_refl _) _⟩
theorem DF(w:World)(s:ByteArray)(hs:s.size<=maxLen):Calls prog 136 #[.string s] w λe w'=>e=.returned (.bool (bL s.data.toList))/\w'=w:=by
 unfold maxLen at hs;by_cases h1:s.size<1
 ·have HF:Hid (bL s.data.toList=false):=by show bL s.data.toList=false;unfold bL;rw[fA];simp;omega
  go_enter func136,ntmps136;go_wp2;go_ret;exact⟨aH HF.out.symm,rfl⟩
 ·by_cases h8:8<s.size
  ·have HF:Hid (bL s.data.toList=false):=by show bL s.data.toList=false;unfold bL;rw[fA];simp;omega
   go_enter func136,ntmps136;go_wp2;go_ret;exact⟨aH HF.out.symm,rfl⟩
  ·have HF:Hid (bL s.data.toList=s.data.toList.all fF):=by show bL s.data.toList=_;unfold bL;rw[fA];rw[decide_eq_true (by omega:1<=s.size),decide_eq_true (by omega:s.size<=8)];rfl
   go_enter func136,ntmps136;go_wp2;go_loop [14] (λi=>∃k:Nat,k<=s.size/\i=.int .i64 k/\∀j (hj:j<s.size),j<k->fF s[j]=true) (λi=>s.size - (intOf i).toNat);case atStart=>exact⟨0,Nat.zero_le _,rfl,λj hj hd=>absurd hd (Nat.not_lt_zero _)⟩
   case round=>
    obtain⟨k,hk,rfl,hall⟩:=hrel;have HA:Hid (∀j (hj:j<s.size),j<k->fF s[j]=true):=hall;clear hall;by_cases hlt:k<s.size
    ·go_wp2;·go_ret;exact⟨aH (by rw[HF.out,qj s k hlt (by simp[fF];omega)]),rfl⟩
     ·go_round;case rel=>exact⟨k+1,by omega,by go_num,λj hj hd=>by
       by_cases e:j=k;·subst e;simp[fF];omega
       ·exact HA.out j hj (by omega)⟩
      case measure=>simp[intOf];omega
     ·go_ret;exact⟨aH (by rw[HF.out,qj s k hlt (by simp[fF];omega)]),rfl⟩
    ·go_wp2;go_ret;exact⟨aH (by rw[HF.out,Dw s (λj hj=>HA.out j hj (by omega))]),rfl⟩
end Go.Proofs.YtfnboapebijcpaaGreatDoor
