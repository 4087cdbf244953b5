/- Least labels, plain: what rounds keep, and what -/
import Derived.Test.YtfnboapebijcpaaGreatDoorMZAG
import Derived.Test.YtfnboapebijcpaaGreatDoorMZAI
import Derived.Test.YtfnboapebijcpaaGreatDoorMZAH
set_option maxHeartbeats 16000000
set_option maxRecDepth 100000
namespace Go.Proofs.YtfnboapebijcpaaGreatDoor
open bC
open Go.Proofs.Tryz
namespace Sv
variable {Z : Nat → Nat → Bool} {N n : Nat} {S : Nat → Nat}
end Sv
open Go.RowKit
namespace Rn
structure Vr where
 val:Int
 rd:Bool
 st:Bool
structure TR where
 fuel:Nat
 vs:List Vr
 pr:List (ByteArray × Int)
abbrev Own:=ByteArray->Option Int
def put(o:Own)(n:ByteArray)(v:Int):Own:=λs=>if aI.aZ s n=true then some v else o s
def pos(nm:List (ByteArray × ByteArray))(mod name:ByteArray):Option Nat:=(List.range nm.length).find? λi=>match nm[i]? with|some v=>aI.aZ v.1 mod&&aI.aZ v.2 name|none=>false
def sh(nm:List (ByteArray × ByteArray))(mn:ByteArray)(o:Own)(n:ByteArray):Option Nat:=if (o n).isSome=true then none else pos nm mn n
def gt(nm:List (ByteArray × ByteArray))(mn:ByteArray)(o:Own)(n:ByteArray)(s:TR):Int × TR:=
 match sh nm mn o n with
 | none=>((o n).getD 0,s)
 | some i=>((s.vs[i]?.map (·.val)).getD 0,{ s with vs:=s.vs.modify i λv=>{ v with rd:=true } })
def pt(nm:List (ByteArray × ByteArray))(mn:ByteArray)(o:Own)(n:ByteArray)(x:Int)(s:TR):Own × TR:=
 match sh nm mn o n with
 | none=>(put o n x,s)
 | some i=>(o,{ s with vs:=s.vs.modify i λv=>{ v with val:=x,st:=true } })
def burn(s:TR):Option TR:=if s.fuel=0 then none else some { s with fuel:=s.fuel - 1 }
def mn(l:List Mo)(at':Nat):ByteArray:=(l[at']?.map (·.name)).getD ⟨#[]⟩
structure Mea(μ:TR->Nat):Prop where
 vs:∀s v,μ { s with vs:=v }=μ s
 burn:∀s s1,burn s=some s1->μ s1+1<=μ s
 pr:∀s d,μ { s with pr:=s.pr++[d] }<=μ s+1
section
variable {μ : TR → Nat} (U : Mea μ)
include U
end
end Rn
open Rn
structure Cf where
 p:Nat
 lb:Nat
 sb:Nat
 n:Nat
 vn:Value
 vl:Value
section
variable {w0 w w' : World} {c : Cf} {V : Nat → Nat × Nat} {S : Nat → Nat}
end
theorem boxF0(w:World)(c0 c1 c2 c3 c4 c5 c6:Value)(t:TypeId):(w.alloc (.cells #[c0,c1,c2,c3,c4,c5,c6] t)).cell? ⟨w.heap.size,0,none⟩=some c0:=by simp[go_sem]
theorem boxF1(w:World)(c0 c1 c2 c3 c4 c5 c6:Value)(t:TypeId):(w.alloc (.cells #[c0,c1,c2,c3,c4,c5,c6] t)).cell? ⟨w.heap.size,1,none⟩=some c1:=by simp[go_sem]
theorem boxF2(w:World)(c0 c1 c2 c3 c4 c5 c6:Value)(t:TypeId):(w.alloc (.cells #[c0,c1,c2,c3,c4,c5,c6] t)).cell? ⟨w.heap.size,2,none⟩=some c2:=by simp[go_sem]
theorem boxF3(w:World)(c0 c1 c2 c3 c4 c5 c6:Value)(t:TypeId):(w.alloc (.cells #[c0,c1,c2,c3,c4,c5,c6] t)).cell? ⟨w.heap.size,3,none⟩=some c3:=by simp[go_sem]
theorem boxF4(w:World)(c0 c1 c2 c3 c4 c5 c6:Value)(t:TypeId):(w.alloc (.cells #[c0,c1,c2,c3,c4,c5,c6] t)).cell? ⟨w.heap.size,4,none⟩=some c4:=by simp[go_sem]
theorem boxF5(w:World)(c0 c1 c2 c3 c4 c5 c6:Value)(t:TypeId):(w.alloc (.cells #[c0,c1,c2,c3,c4,c5,c6] t)).cell? ⟨w.heap.size,5,none⟩=some c5:=by simp[go_sem]
theorem boxF6(w:World)(c0 c1 c2 c3 c4 c5 c6:Value)(t:TypeId):(w.alloc (.cells #[c0,c1,c2,c3,c4,c5,c6] t)).cell? ⟨w.heap.size,6,none⟩=some c6:=by simp[go_sem]
theorem Gn(l:List ByteArray)(acc:ByteArray)(j:Nat):nV l acc (j+1)=(if 0<j then nV l acc j++(⟨#[32]⟩:ByteArray)else nV l acc j)++l.getD j ByteArray.empty:=rfl
theorem Gp{α:Type}{f:ByteArray->α->ByteArray}{l:List α}{acc:ByteArray}{n j:Nat}(h:n=l.length)(e:j=n):(l.take j).foldl f acc=l.foldl f acc:=by rw[eP (by omega)]
theorem Ye(m:Nat)(w:World)(v:Value)(x:Mo)(h:jK w m v x)(hw:uM m x<=1048576)(ht:Tab w):Calls prog 146 #[v] w λe w'=>e=.returned (.string (TL m x))/\Below w.heap.size w w':=by
 obtain⟨vi,vv,vf,rfl,hnm,hI,hV,hF⟩:=h;have U8:x.name.size+2+gY x.imports+BX x.vars+p8 m x.aR<=1048576:=hw;clear hw;have hnz:x.name.size<=1048576:=by omega
 have HI1:Hid (∀j,j<=x.imports.length->((x.imports.take j).foldl Ae (WC x)).size<=12582920):=hide (λj hj=>by have:=kY (f:=Ae) (wt:=λs:ByteArray=>s.size+1) (l:=x.imports) (λi y _ acc=>Cj acc y) (WC x) j hj;rw[Gb]at this;unfold gY at U8;omega);have HI2:Hid (∀j,(x.imports.getD j ByteArray.empty).size<=1048576):=hide (λj=>by have:=Jy x.imports j;unfold gY at U8;omega);have hIs:(TK x).size<=8+x.name.size+12*gY x.imports:=by have:=kY (f:=Ae) (wt:=λs:ByteArray=>s.size+1) (l:=x.imports) (λi y _ acc=>Cj acc y) (WC x) x.imports.length (bM _);rw[Gb,gG]at this;unfold gY TK;omega
 have HV1:Hid (∀j,j<=x.vars.length->((x.vars.take j).foldl QO (TK x)).size<=12582920):=hide (λj hj=>by have:=kY (f:=QO) (wt:=λs:Va=>s.name.size+s.level.size+3) (l:=x.vars) (λi y _ acc=>F9 acc y) (TK x) j hj;unfold BX at U8;omega);have HV2:Hid (∀(j:Nat) (y:Va),x.vars[j]?=some y->y.name.size<=1048576/\y.level.size<=1048576):=hide (λj y hy=>by have:=jd (f:=λs:Va=>s.name.size+s.level.size+3) (gD hy);unfold BX at U8;omega);have hVs:(WE x).size<=8+x.name.size+12*gY x.imports+12*BX x.vars:=by have:=kY (f:=QO) (wt:=λs:Va=>s.name.size+s.level.size+3) (l:=x.vars) (λi y _ acc=>F9 acc y) (TK x) x.vars.length (bM _);rw[gG]at this;have e:(x.vars.foldl QO (TK x))=WE x:=rfl;rw[e]at this;unfold BX;omega
 have HF2:Hid (∀(j:Nat) (y:Fu),x.aR[j]?=some y->fuW m y<=1048576):=hide (λj y hy=>by have:=jd (f:=fuW m) (gD hy);rw[KS]at U8;omega);have HF1:Hid (∀j,j<=x.aR.length->((x.aR.take j).foldl (M9 m) (WE x)).size<=12582920):=hide (λj hj=>by obtain⟨a,b,off,cap,_,_,_,h9⟩:=hF;have:=kY (f:=M9 m) (wt:=fuW m) (l:=x.aR) (λi y hy acc=>by obtain⟨_,vp,vb,e0,e1,e2,e3,_,_,_,_,_,_,_,_,hsb,hx⟩:=h9 i y hy;exact Oe hsb hx acc) (WE x) j hj;rw[KS]at U8;omega);clear hIs hVs U8;obtain⟨ai,bi,oi,ci,rfl,hai,IG,_,hci⟩:=hI;obtain⟨av,bv,ov,cv,rfl,Ip,hlv,hcv⟩:=hV;obtain⟨af,bf,of,cf,rfl,BD,hlf,hcf⟩:=hF;have HT:=hide ht;obtain⟨xn,xi,xv,xf⟩:=x;simp only at hnm hnz hai IG hci Ip hlv hcv BD hlf hcf HI1 HI2 HV1 HV2 HF1 HF2 ⊢;have HE:Hid (TL m ⟨xn,xi,xv,xf⟩=xf.foldl (M9 m) (WE ⟨xn,xi,xv,xf⟩)++(⟨#[41]⟩:ByteArray)):=rfl;have HVE:Hid (WE ⟨xn,xi,xv,xf⟩=xv.foldl QO (TK ⟨xn,xi,xv,xf⟩)):=rfl;have HIE:Hid (TK ⟨xn,xi,xv,xf⟩=xi.foldl Ae (WC ⟨xn,xi,xv,xf⟩)):=rfl;have BH:Hid (WC ⟨xn,xi,xv,xf⟩=(⟨#[40,109,111,100,117,108,101,32]⟩:ByteArray)++xn):=rfl;generalize TL m ⟨xn,xi,xv,xf⟩=XT at *;generalize WE ⟨xn,xi,xv,xf⟩=XV at *;generalize TK ⟨xn,xi,xv,xf⟩=XI at *;generalize WC ⟨xn,xi,xv,xf⟩=XH at *;have Yd:=hide hai;have Iq:=hide Ip;have BF:=hide BD;have QL:=hide hci;have Gj:=hide hcv;have Eh:=hide hcf;obtain⟨ni,hni⟩:=aG xi.length;obtain⟨nv,mR⟩:=aG xv.length;obtain⟨nf,hnf⟩:=aG xf.length;have yA:=hide hni;have BG:=hide mR;have og:=hide hnf;rw[<-hni,<-mR,<-hnf];rw[<-hni]at IG Yd QL HI1;rw[<-mR]at hlv Iq HV1;rw[<-hnf]at hlf BF HF1;clear hai Ip BD hci hcv hcf hni mR hnf ht;have q1:=XZ w (.string xn) (.slice ai ni ci) (.slice av nv cv) (.slice af nf cf) 26;have q2:=X0 w (.string xn) (.slice ai ni ci) (.slice av nv cv) (.slice af nf cf) 26;have q3:=X3 w (.string xn) (.slice ai ni ci) (.slice av nv cv) (.slice af nf cf) 26;have HB0:=hide (aB w (.cells #[.string xn,.slice ai ni ci,.slice av nv cv,.slice af nf cf] 26));go_enter func146,ntmps146;go_wp2_with fail;rw[<-BH];generalize w.alloc (.cells #[.string xn,.slice ai ni ci,.slice av nv cv,.slice af nf cf] 26)=W0 at *;clear BH hnm hnz;go_loopw[3,4] (λo i wr=>∃j:Nat,j<=ni/\i=.int .i64 j/\o=.string ((xi.take j).foldl Ae XH)/\Below W0.heap.size W0 wr) (λ_ i _=>ni - (intOf i).toNat);case atStart=>exact⟨0,bJ _,rfl,rfl,aX _ _⟩
 case round=>
  obtain⟨j,hj,rfl,rfl,hnx⟩:=hrel;have t1:=aA q1 hnx;by_cases hjl:j<ni
  ·have hacc:=HI1 j hj;have hs:=HI2 j;have hc:=aA (QL j hjl) (up HB0 hnx);have hgd:xi[j]?=some (xi.getD j ByteArray.empty):=by
    have:j<xi.length:=by have:=yA.out;omega
    simp[this]
   have HST:=hide (tJ (f:=Ae) hgd XH);obtain rfl:=Yd (by omega);generalize xi.getD j ByteArray.empty=s at *;generalize (xi.take j).foldl Ae XH=acc at *;clear hgd q1 q2 q3;have bR:=hide hnx;clear hnx;go_wp2_with fail;go_roundw;case rel=>exact⟨j+1,by omega,by go_num,iE (by rw[HST];rfl),bR⟩
   case measure=>simp[intOf];omega
  ·have hjn:j=ni:=by omega
   clear hj;go_wp2_with fail;rw[Gp yA hjn,<-HIE];clear q1 t1 hjl hjn HIE;have HB1:=hide (up HB0 hnx);replace q2:=aA q2 hnx;replace q3:=aA q3 hnx;clear hnx HB0;go_loopw[3,5] (λo i wy=>∃k:Nat,k<=nv/\i=.int .i64 k/\o=.string ((xv.take k).foldl QO XI)/\Below wr.heap.size wr wy) (λ_ i _=>nv - (intOf i).toNat);case atStart=>exact⟨0,bJ _,rfl,rfl,aX _ _⟩
   case round=>
    obtain⟨k,hk,rfl,rfl,hnx⟩:=hrel;have t2:=aA q2 hnx;by_cases hkl:k<nv
    ·obtain⟨y,hy⟩:∃y,xv[k]?=some y:=⟨_,aU (by rw[<-BG];exact hkl)⟩;have hacc:=HV1 k hk;obtain⟨hs1,hs2⟩:=HV2 k y hy;obtain⟨_,_,g0,g1⟩:=Gj k y hy;have HST:=hide (tJ (f:=QO) hy XI);obtain rfl:=Iq (by omega);obtain⟨yn,yl⟩:=y;simp only at hs1 hs2 g0 g1;have u0:=aA g0 (up HB1 hnx);have u1:=aA g1 (up HB1 hnx);generalize (xv.take k).foldl QO XI=acc at *;have bR:=hide hnx;have b1:(0:Int)<=(k:Int):=by omega
     have b2:(k:Int)<(nv:Int):=by omega
     have c1:¬(9223372036854775807<6+yn.size):=by omega
     have c2:¬(9223372036854775807<6+yn.size+1):=by omega
     have c3:¬(9223372036854775807<6+yn.size+1+yl.size):=by omega
     have c4:¬(9223372036854775807<6+yn.size+1+yl.size+1):=by omega
     have c5:¬(9223372036854775807<acc.size+(6+yn.size+1+yl.size+1)):=by omega
     clear hy g0 g1 hnx q2 q3;go_wp2_with fail;go_quiet (fail);go_wp2_with fail;go_roundw;case rel=>exact⟨k+1,by omega,by go_num,iE (by rw[HST];rfl),iP bR _⟩
     case measure=>simp[intOf];omega
    ·have hkn:k=nv:=by omega
     clear hk;go_wp2_with fail;rw[Gp BG hkn,<-HVE];clear q2 t2 hkl hkn HVE;have HB2:=hide (up HB1 hnx);replace q3:=aA q3 hnx;clear hnx HB1;go_loopw[3,6] (λo i wz=>∃k:Nat,k<=nf/\i=.int .i64 k/\o=.string ((xf.take k).foldl (M9 m) XV)/\Below wr.heap.size wr wz) (λ_ i _=>nf - (intOf i).toNat);case atStart=>exact⟨0,bJ _,rfl,rfl,aX _ _⟩
     case round=>
      obtain⟨i,hi,rfl,rfl,hnx⟩:=hrel;have t3:=aA q3 hnx;have hacc:=HF1 i hi;by_cases hil:i<nf
      ·obtain⟨y,hy⟩:∃y,xf[i]?=some y:=⟨_,aU (by rw[<-og];exact hil)⟩;have hfw:=HF2 i y hy;obtain⟨_,vp,vb,e0,e1,e2,e3,g0,g1,g2,g3,g4,g5,g6,hp,hsb,hx⟩:=Eh i y hy;have HST:=hide (tJ (f:=M9 m) hy XV);obtain rfl:=BF (by omega);have s1:=mY hsb;have s2:=mX hx;have hps:=Jz y.params (fuH ((xf.take i).foldl (M9 m) XV) y);have hpd:=Jy y.params;rw[Od]at hps;obtain⟨yn,yp,yb,yr⟩:=y;simp only at g0 hp hsb hx s1 s2 hps hpd;have hfw':yn.size+2+((yp.map λs=>s.size+1).sum+1)+bK m yb+eu m yr<=1048576:=hfw;clear hfw;generalize (xf.take i).foldl (M9 m) XV=acc at *;generalize (yp.map λs=>s.size+1).sum=pw at *;have hn:yn.size<=1048576:=by omega
       have hyb:bK m yb<=1048576:=by omega
       have hyr:eu m yr<=1048576:=by omega
       have s1':(uh m yb).size<=6291456:=by omega
       have s2':(jI m yr).size<=6291456:=by omega
       have Qx:Hid (∀j,j<=yp.length->(nV yp (fuH acc ⟨yn,yp,yb,yr⟩) j).size<=25165824):=hide (λj hj=>by have:=hps j hj;omega);have HPD:Hid (∀j,(yp.getD j ByteArray.empty).size<=1048576):=hide (λj=>by have:=hpd j;omega);have TS:Hid (M9 m acc ⟨yn,yp,yb,yr⟩=(if 0<yb.length then fuP acc ⟨yn,yp,yb,yr⟩++((⟨#[32]⟩:ByteArray)++uh m yb)else fuP acc ⟨yn,yp,yb,yr⟩)++((⟨#[32]⟩:ByteArray)++jI m yr++(⟨#[41]⟩:ByteArray))):=rfl;have HFP:Hid (fuP acc ⟨yn,yp,yb,yr⟩=nV yp (fuH acc ⟨yn,yp,yb,yr⟩) yp.length++(⟨#[41]⟩:ByteArray)):=rfl;have HFH:Hid (fuH acc ⟨yn,yp,yb,yr⟩=acc++((⟨#[32,40,102,117,110,32]⟩:ByteArray)++yn++(⟨#[32,40]⟩:ByteArray))):=rfl;generalize M9 m acc ⟨yn,yp,yb,yr⟩=FT at *;generalize fuP acc ⟨yn,yp,yb,yr⟩=FP at *;generalize fuH acc ⟨yn,yp,yb,yr⟩=FH at *;obtain⟨ap,bp,op,cp,rfl,hap,hlp,_,hcp⟩:=hp;have vC:=hide hsb;have HX:=hide hx;obtain⟨ab,cb,rfl,hlb⟩:=hsb.shape;obtain⟨xa,xc,rfl,rfl,rfl,rfl⟩:=hx.shape;have DY:=hide hap;have Qi:=hide hcp;obtain⟨np,hnp⟩:=aG yp.length;obtain⟨nb,hnb⟩:=aG yb.length;have wM:=hide hnp;have nR:=hide hnb;rw[<-hnp]at g1 hlp DY Qi Qx HFP;rw[<-hnb]at g2 hlb vC TS;have hbb:=up HB2 hnx;have u0:=aA g0 hbb;have u1:=aA g1 hbb;have u2:=aA g2 hbb;have u3:=aA g3 hbb;have u4:=aA g4 hbb;have u5:=aA g5 hbb;have u6:=aA g6 hbb;have bR:=hide hnx;have nQ:=hide hbb;clear hps hpd hap hcp hsb hx hnp hnb hy hfw' s1 s2 g0 g1 g2 g3 g4 g5 g6 hbb hnx q3;have r1:=boxF1 wr (.string yn) (.slice ap np cp) (.slice ab nb cb) (.int .i64 yr.kind) (.int .i64 yr.n) (.string yr.name) (.slice xa yr.args.length xc) 132;have r2:=boxF2 wr (.string yn) (.slice ap np cp) (.slice ab nb cb) (.int .i64 yr.kind) (.int .i64 yr.n) (.string yr.name) (.slice xa yr.args.length xc) 132;have r3:=boxF3 wr (.string yn) (.slice ap np cp) (.slice ab nb cb) (.int .i64 yr.kind) (.int .i64 yr.n) (.string yr.name) (.slice xa yr.args.length xc) 132;have r4:=boxF4 wr (.string yn) (.slice ap np cp) (.slice ab nb cb) (.int .i64 yr.kind) (.int .i64 yr.n) (.string yr.name) (.slice xa yr.args.length xc) 132;have r5:=boxF5 wr (.string yn) (.slice ap np cp) (.slice ab nb cb) (.int .i64 yr.kind) (.int .i64 yr.n) (.string yr.name) (.slice xa yr.args.length xc) 132;have r6:=boxF6 wr (.string yn) (.slice ap np cp) (.slice ab nb cb) (.int .i64 yr.kind) (.int .i64 yr.n) (.string yr.name) (.slice xa yr.args.length xc) 132;have HB3:=hide (aB wr (.cells #[.string yn,.slice ap np cp,.slice ab nb cb,.int .i64 yr.kind,.int .i64 yr.n,.string yr.name,.slice xa yr.args.length xc] 132));go_wp2_with fail;rw[<-HFH];generalize wr.alloc (.cells #[.string yn,.slice ap np cp,.slice ab nb cb,.int .i64 yr.kind,.int .i64 yr.n,.string yr.name,.slice xa yr.args.length xc] 132)=W3 at *;clear u0 u1 u2 u3 u4 u5 u6 HFH;go_loopw[3,8] (λo i wp=>∃k:Nat,k<=np/\i=.int .i64 k/\o=.string (nV yp FH k)/\Below W3.heap.size W3 wp) (λ_ i _=>np - (intOf i).toNat);case atStart=>exact⟨0,bJ _,rfl,rfl,aX _ _⟩
       case round=>
        obtain⟨d,hd,rfl,rfl,hnx⟩:=hrel;have t1:=aA r1 hnx;have hpa:=Qx d hd;by_cases hdl:d<np
        ·have hs:=HPD d;have hc:=aA (Qi d hdl) (up (up nQ HB3) hnx);obtain rfl:=DY (by omega);have HPT:=hide (Gn yp FH d);generalize yp.getD d ByteArray.empty=s at *;generalize nV yp FH d=pa at *;have lD:=hide hnx;clear r1 r2 r3 r4 r5 r6 hnx t3;by_cases hd0:0<d
         ·rw[if_pos hd0]at HPT;go_wp2_with fail;go_roundw;case rel=>exact⟨d+1,by omega,by go_num,iE (by rw[HPT]),lD⟩
          case measure=>simp[intOf];omega
         ·rw[if_neg hd0]at HPT;go_wp2_with fail;go_roundw;case rel=>exact⟨d+1,by omega,by go_num,iE (by rw[HPT]),lD⟩
          case measure=>simp[intOf];omega
        ·have hdn:d=np:=by omega
         subst hdn;replace r2:=aA r2 hnx;replace r3:=aA r3 hnx;replace r4:=aA r4 hnx;replace r5:=aA r5 hnx;replace r6:=aA r6 hnx;have lD:=hide hnx;clear r1 hnx t3;have hfp:FP.size<=25165825:=by rw[HFP,ko];show _+1<=_;omega
         by_cases hb0:0<nb
         ·rw[if_pos hb0]at TS;go_wp2_with fail;rw[<-HFP];refine(KR m _ _ yb (vC.below (up (up nQ HB3) lD)) hyb (HT.below (up (up nQ HB3) lD))).mono ?_;rintro e w5 ⟨rfl,hb5⟩;have iL:=hide (up lD hb5);replace r3:=aA r3 hb5;replace r4:=aA r4 hb5;replace r5:=aA r5 hb5;replace r6:=aA r6 hb5;clear r2 hb5;generalize uh m yb=tb at *;go_wp2_with fail;refine(oq m _ _ _ _ _ yr (HX.below (up (up nQ HB3) iL)) hyr (HT.below (up (up nQ HB3) iL))).mono ?_;rintro e w6 ⟨rfl,hb6⟩;have iM:=hide (up iL hb6);clear hb6;generalize jI m yr=tx at *;go_wp2_with fail;go_roundw;case rel=>exact⟨i+1,by omega,by go_num,iE (by rw[HST,TS]),up bR (up HB3 iM)⟩
          case measure=>simp[intOf];omega
         ·rw[if_neg hb0]at TS;go_wp2_with fail;rw[<-HFP];refine(oq m _ _ _ _ _ yr (HX.below (up (up nQ HB3) lD)) hyr (HT.below (up (up nQ HB3) lD))).mono ?_;rintro e w6 ⟨rfl,hb6⟩;have iM:=hide (up lD hb6);clear hb6;generalize jI m yr=tx at *;go_wp2_with fail;go_roundw;case rel=>exact⟨i+1,by omega,by go_num,iE (by rw[HST,TS]),up bR (up HB3 iM)⟩
          case measure=>simp[intOf];omega
      ·have Yf:=hide (Gp (f:=M9 m) (acc:=XV) og (show i=nf by omega));generalize (xf.take i).foldl (M9 m) XV=acc at *;go_wp2_with fail;go_ret;exact⟨zU (by rw[HE,Yf]),up HB2 hnx⟩
def ku{α:Type}(b:Bool)(p:α->Bool)(l:List α)(k:Nat):Bool:=b&&(l.take k).all p
theorem yI{α:Type}(b:Bool)(p:α->Bool)(l:List α):ku b p l 0=b:=by simp[ku]
theorem yJ{α:Type}{b:Bool}{p:α->Bool}{l:List α}{k:Nat}{y:α}(h:l[k]?=some y):ku b p l (k+1)=(ku b p l k&&p y):=by obtain⟨hj,rfl⟩:=dG.1 h;unfold ku;rw[lI hj,sU];simp[sV]
theorem Ct{α:Type}{b:Bool}{p:α->Bool}{l:List α}{n k:Nat}(h:n=l.length)(e:k=n):ku b p l k=(b&&l.all p):=by unfold ku;rw[eP (by omega)]
namespace bC
def dP(s:ByteArray):Bool:=bL s.data.toList
def Es(v:Va):Bool:=dP v.name&&dP v.level
def Vd(m:Nat)(f:Fu):Bool:=dP f.name&&fZ m f.body&&dM m f.result&&f.params.all dP
def Gq(m:Nat)(f:Fu):Int:=if 4<f.params.length then 2 else if Vd m f then 0 else 5
def qQ(m:Nat):List Fu->Int
 | []=>0
 | f::l=>if Gq m f=0 then qQ m l else Gq m f
def step(b:UInt8):Int:=if b=40 then 1 else if b=41 then -1 else 0
def jO(t:ByteArray):Nat->Int
 | 0=>0
 | j+1=>jO t j+step (t.data.getD j 0)
def xS(t:ByteArray):Bool:=(List.range t.size).any λj=>decide (20<jO t (j+1))
def qA(m:Nat)(x:Mo):Int:=
 if 8<x.imports.length\/8<x.vars.length\/8<x.aR.length then 2
 else if ((dP x.name&&x.imports.all dP)&&x.vars.all Es)=false then 5
 else if qQ m x.aR≠0 then qQ m x.aR
 else if xS (TL m x)then 2 else 0
end bC
theorem K3{m:Nat}:∀{l:List Fu} {k:Nat} {y:Fu},(∀(d:Nat) (z:Fu),d<k->l[d]?=some z->Gq m z=0)->l[k]?=some y->Gq m y≠0->qQ m l=Gq m y
 | [],k,y,_,h,_=>by simp at h
 | f::l,0,y,_,h,h0=>by simp only[List.getElem?_cons_zero,Option.some.injEq]at h;subst h;simp only[qQ];rw[if_neg h0]
 | f::l,k+1,y,ha,h,h0=>by have:=ha 0 f (by omega) rfl;simp only[qQ];rw[if_pos this];exact K3 (k:=k) (λd z hd hz=>ha (d+1) z (by omega) (by simpa using hz)) (by simpa using h) h0
theorem Cu{m:Nat}:∀{l:List Fu},(∀(d:Nat) (z:Fu),l[d]?=some z->Gq m z=0)->qQ m l=0
 | [],_=>rfl
 | f::l,ha=>by simp only[qQ];rw[if_pos (ha 0 f rfl)];exact Cu (λd z hz=>ha (d+1) z (by simpa using hz))
theorem JD(t:ByteArray):∀j:Nat,-(j:Int)<=jO t j/\jO t j<=j
 | 0=>⟨Int.le_refl _,Int.le_refl _⟩
 | j+1=>by
  have:=JD t j;simp only[jO,bC.step];split;·omega
  ·split<;>omega
theorem DZ(t:ByteArray)(j:Nat)(h:j<t.size):jO t (j+1)=jO t j+bC.step t[j]:=by
 have e:t.data.getD j 0=t[j]:=by have:j<t.data.size:=h;unfold Array.getD;rw[dif_pos this];rfl
 simp only[jO,e]
theorem Ai{t:ByteArray}{j:Nat}(hj:j<t.size)(h:20<jO t (j+1)):xS t=true:=
 Cv.2 ⟨j,j6.2 hj,decide_eq_true h⟩
theorem JE{t:ByteArray}(h:∀j,j<t.size->¬20<jO t (j+1)):xS t=false:=by unfold xS;rw[List.any_eq_false];intro j hj;simpa using h j (j6.1 hj)
theorem Yg{w:World}{m:Nat}{v:Value}{x:Mo}(h:jK w m v x)(hw:uM m x<=1048576):(TL m x).size<=12582920:=by obtain⟨vi,vv,vf,rfl,hnm,hI,hV,hF⟩:=h;have U8:x.name.size+2+gY x.imports+BX x.vars+p8 m x.aR<=1048576:=hw;have h1:=kY (f:=Ae) (wt:=λs:ByteArray=>s.size+1) (l:=x.imports) (λi y _ acc=>Cj acc y) (WC x) x.imports.length (bM _);rw[Gb,gG]at h1;have h2:=kY (f:=QO) (wt:=λs:Va=>s.name.size+s.level.size+3) (l:=x.vars) (λi y _ acc=>F9 acc y) (TK x) x.vars.length (bM _);rw[gG]at h2;obtain⟨a,b,off,cap,_,_,_,h9⟩:=hF;have h3:=kY (f:=M9 m) (wt:=fuW m) (l:=x.aR) (λi y hy acc=>by obtain⟨_,vp,vb,e0,e1,e2,e3,_,_,_,_,_,_,_,_,hsb,hx⟩:=h9 i y hy;exact Oe hsb hx acc) (WE x) x.aR.length (bM _);rw[gG]at h3;have e1:x.imports.foldl Ae (WC x)=TK x:=rfl;have e2:x.vars.foldl QO (TK x)=WE x:=rfl;have e3:x.aR.foldl (M9 m) (WE x)=moF m x:=rfl;rw[e1]at h1;rw[e2]at h2;rw[e3]at h3;unfold TL;rw[ko];show _+1<=_;rw[KS]at U8;unfold gY BX at U8;omega
theorem fP{a b:ByteArray}(h:a.data.toList=b.data.toList):a=b:=by cases a with|mk a=>cases b with|mk b=>congr 1;exact Array.toList_inj.1 h
theorem fK(a b:ByteArray):(a++b).data.toList=a.data.toList++b.data.toList:=by rw[ByteArray.data_append,Array.toList_append]
theorem gJ(l:List ByteArray):(bC.brk l).data.toList=40::(Lib.join (l.map (·.data.toList)) [32]++[41]):=by unfold bC.brk bC.jn;rw[fK,fK];rfl
theorem JF{t:Ex->ByteArray}(l:List Ex)(acc:ByteArray):(l.foldl (jc t) acc).data.toList=acc.data.toList++Lib.joinTail [32] ((l.map t).map (·.data.toList)):=by
 induction l generalizing acc with
 | nil=>simp[Lib.joinTail]
 | cons y l ih =>rw[pG,ih];unfold jc;rw[fK,fK];simp[Lib.joinTail]
theorem op_text(x:Ex)(t:Ex->ByteArray)(h:x.kind≠4):bC.brk (x.name::x.args.map t)=x.args.foldl (jc t) (nI x)++(⟨#[41]⟩:ByteArray):=by apply fP;rw[gJ,fK,JF,dN,Lib.join_cons];unfold nI;rw[if_neg h,fK];simp
theorem Ve(x:Ex)(t:Ex->ByteArray)(h:x.kind=4):bC.brk (⟨#[99,97,108,108]⟩::x.name::x.args.map t)=x.args.foldl (jc t) (nI x)++(⟨#[41]⟩:ByteArray):=by apply fP;rw[gJ,fK,JF,dN,Lib.join_cons];unfold nI;rw[if_pos h,fK];simp[Lib.joinTail]
theorem map_take{α β:Type}{f:α->β}{l:List α}{j:Nat}{y:α}(h:l[j]?=some y):(l.take (j+1)).map f=(l.take j).map f++[f y]:=by obtain⟨hj,rfl⟩:=dG.1 h;rw[lI hj,cZ];rfl
end Go.Proofs.YtfnboapebijcpaaGreatDoor
