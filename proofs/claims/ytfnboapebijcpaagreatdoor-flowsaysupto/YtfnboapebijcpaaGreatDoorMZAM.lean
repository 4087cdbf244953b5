/- Walks over package downref: Module answers what -/
import Derived.Test.YtfnboapebijcpaaGreatDoorMZAK
set_option maxHeartbeats 16000000
set_option maxRecDepth 100000
namespace Go.Proofs.YtfnboapebijcpaaGreatDoor
open bC
open Go.Proofs.Tryz
open Go.RowKit
theorem Yt(a c:UInt8)(n:Int)(h:(c.toNat:Int)=n):((a.toNat:Int)==n)=(a==c):=by
 rw[rD];simp only[beq_iff_eq];constructor;·intro e;exact UInt8.toNat_inj.1 (by omega)
 ·intro e;subst e;exact h
theorem step3(c:UInt8):(((c.toNat:Int)==40)=true/\((c.toNat:Int)==41)=false/\bC.step c=1)\/(((c.toNat:Int)==40)=false/\((c.toNat:Int)==41)=true/\bC.step c=-1)\/(((c.toNat:Int)==40)=false/\((c.toNat:Int)==41)=false/\bC.step c=0):=by
 rw[Yt c 40 40 rfl,Yt c 41 41 rfl];unfold bC.step;by_cases h:c=40;·subst h;exact Or.inl ⟨rfl,rfl,rfl⟩
 ·by_cases h':c=41;·subst h';exact Or.inr (Or.inl ⟨rfl,rfl,rfl⟩)
  ·refine Or.inr (Or.inr ⟨by simp[h],by simp[h'],by simp[h,h']⟩)
theorem D5(m:Nat)(w:World)(v:Value)(x:Mo)(h:jK w m v x)(hw:uM m x<=1048576)(ht:Tab w):Calls prog 60 #[v] w λe w'=>e=.returned (.int .i64 (qA m x))/\Below w.heap.size w w':=by
 have HM:=hide h;have HMW:=hide hw;have HMS:=hide (Yg h hw);obtain⟨vi,vv,vf,rfl,hnm,hI,hV,hF⟩:=h;clear hw;obtain⟨ai,bi,oi,ci,rfl,hai,IG,hsi,hci⟩:=hI;obtain⟨av,bv,ov,cv,rfl,Ip,hlv,hcv⟩:=hV;obtain⟨af,bf,of,cf,rfl,BD,hlf,hcf⟩:=hF;have HT:=hide ht
 have HE:Hid (qA m x=if 8<x.imports.length\/8<x.vars.length\/8<x.aR.length then 2
  else if ((dP x.name&&x.imports.all dP)&&x.vars.all Es)=false then 5
  else if qQ m x.aR≠0 then qQ m x.aR
  else if xS (TL m x)then 2 else 0):=rfl
 generalize qA m x=XE at *;obtain⟨XT,hxt⟩:=aG (TL m x);have HXT:=hide hxt;rw[<-hxt]at HE HMS;have hms:=HMS.out;clear hxt HMS;obtain⟨xn,xi,xv,xf⟩:=x;simp only at hnm hai IG hsi hci Ip hlv hcv BD hlf hcf HE HM ⊢;have WI:=hide hsi;have Yd:=hide hai;have Iq:=hide Ip;have BF:=hide BD;have QL:=hide hci;have Gj:=hide hcv;have Eh:=hide hcf;obtain⟨ni,hni⟩:=aG xi.length;obtain⟨nv,mR⟩:=aG xv.length;obtain⟨nf,hnf⟩:=aG xf.length;have yA:=hide hni;have BG:=hide mR;have og:=hide hnf;rw[<-hni,<-mR,<-hnf];rw[<-hni,<-mR,<-hnf]at HE HM;rw[<-hni]at IG Yd QL;rw[<-mR]at hlv Iq;rw[<-hnf]at hlf BF;clear hai Ip BD hci hcv hcf hni mR hnf ht hsi;have q0:=boxM0 w (.string xn) (.slice ai ni ci) (.slice av nv cv) (.slice af nf cf) 26;have q1:=XZ w (.string xn) (.slice ai ni ci) (.slice av nv cv) (.slice af nf cf) 26;have q2:=X0 w (.string xn) (.slice ai ni ci) (.slice av nv cv) (.slice af nf cf) 26;have q3:=X3 w (.string xn) (.slice ai ni ci) (.slice av nv cv) (.slice af nf cf) 26;have HB0:=hide (aB w (.cells #[.string xn,.slice ai ni ci,.slice av nv cv,.slice af nf cf] 26));by_cases h8:8<ni\/8<nv\/8<nf
 ·rw[if_pos h8]at HE;by_cases i1:8<ni
  ·have i1':(8:Int)<(ni:Int):=by omega
   clear h8;go_enter func60,ntmps60;go_wp2_with fail;go_ret;exact⟨bA HE.symm,HB0⟩
  ·have i1':¬(8:Int)<(ni:Int):=by omega
   by_cases i2:8<nv
   ·have i2':(8:Int)<(nv:Int):=by omega
    clear h8;go_enter func60,ntmps60;go_wp2_with fail;go_ret;exact⟨bA HE.symm,HB0⟩
   ·have i2':¬(8:Int)<(nv:Int):=by omega
    have i3':(8:Int)<(nf:Int):=by omega
    clear h8;go_enter func60,ntmps60;go_wp2_with fail;go_ret;exact⟨bA HE.symm,HB0⟩
 rw[if_neg h8]at HE;have i1':¬(8:Int)<(ni:Int):=by omega
 have i2':¬(8:Int)<(nv:Int):=by omega
 have i3':¬(8:Int)<(nf:Int):=by omega
 clear h8;go_enter func60,ntmps60;go_wp2_with fail;refine(iQ _ xn hnm).mono ?_;rintro e w' ⟨rfl,hw'⟩;subst hw';have Yu:=hide (yI (dP xn) dP xi);rw[show bL xn.data.toList=ku (dP xn) dP xi 0 from Yu.symm];clear Yu hnm;go_wp2_with fail;generalize w.alloc (.cells #[.string xn,.slice ai ni ci,.slice av nv cv,.slice af nf cf] 26)=W0 at *;go_loopw[3,4] (λo i wr=>∃j:Nat,j<=ni/\i=.int .i64 j/\o=.bool (ku (dP xn) dP xi j)/\Below W0.heap.size W0 wr) (λ_ i _=>ni - (intOf i).toNat);case atStart=>exact⟨0,bJ _,rfl,rfl,aX _ _⟩
 case round=>
  obtain⟨j,hj,rfl,rfl,hnx⟩:=hrel;have t1:=aA q1 hnx;by_cases hjl:j<ni
  ·have hc:=aA (QL j hjl) (up HB0 hnx);have hgd:xi[j]?=some (xi.getD j ByteArray.empty):=by
    have:j<xi.length:=by have:=yA.out;omega
    simp[this]
   have hsz:=WI _ (gD hgd);have HST:=hide (yJ (b:=dP xn) (p:=dP) hgd);obtain rfl:=Yd (by omega);generalize xi.getD j ByteArray.empty=s at *;have bR:=hide hnx;clear hgd q0 q1 q2 q3 hnx;cases hok:ku (dP xn) dP xi j
   ·have sI:=hide hok;go_wp2_with fail;go_roundw;case rel=>exact⟨j+1,by omega,by go_num,jL (by rw[HST,sI];rfl),bR⟩
    case measure=>simp[intOf];omega
   ·have sI:=hide hok;go_wp2_with fail;refine(iQ _ s hsz).mono ?_;rintro e w' ⟨rfl,hw'⟩;subst hw';go_wp2_with fail;go_roundw;case rel=>exact⟨j+1,by omega,by go_num,jL (by rw[HST,sI];rfl),bR⟩
    case measure=>simp[intOf];omega
  ·have hjn:j=ni:=by omega
   clear hj;go_wp2_with fail;have sI:=hide (Ct (b:=dP xn) (p:=dP) yA hjn);have Yu:=hide (yI (dP xn&&xi.all dP) Es xv);rw[show ku (dP xn) dP xi j=ku (dP xn&&xi.all dP) Es xv 0 by rw[sI,Yu]];clear t1 hjl hjn sI Yu;have HB1:=hide (up HB0 hnx);replace q0:=aA q0 hnx;replace q1:=aA q1 hnx;replace q2:=aA q2 hnx;replace q3:=aA q3 hnx;clear hnx HB0;go_loopw[3,5] (λo i wy=>∃k:Nat,k<=nv/\i=.int .i64 k/\o=.bool (ku (dP xn&&xi.all dP) Es xv k)/\Below wr.heap.size wr wy) (λ_ i _=>nv - (intOf i).toNat);case atStart=>exact⟨0,bJ _,rfl,rfl,aX _ _⟩
   case round=>
    obtain⟨k,hk,rfl,rfl,hnx⟩:=hrel;have t2:=aA q2 hnx;by_cases hkl:k<nv
    ·obtain⟨y,hy⟩:∃y,xv[k]?=some y:=⟨_,aU (by rw[<-BG];exact hkl)⟩;obtain⟨hs1,hs2,g0,g1⟩:=Gj k y hy;have HST:=hide (yJ (b:=dP xn&&xi.all dP) (p:=Es) hy);obtain rfl:=Iq (by omega);obtain⟨yn,yl⟩:=y;simp only at hs1 hs2 g0 g1;have NA:Hid (Es ⟨yn,yl⟩=(bL yn.data.toList&&bL yl.data.toList)):=rfl;have u0:=aA g0 (up HB1 hnx);have u1:=aA g1 (up HB1 hnx);have bR:=hide hnx;clear hy g0 g1 hnx q0 q1 q2 q3;cases hok:ku (dP xn&&xi.all dP) Es xv k
     ·have sI:=hide hok;go_wp2_with fail;go_roundw;case rel=>exact⟨k+1,by omega,by go_num,jL (by rw[HST,sI];rfl),bR⟩
      case measure=>simp[intOf];omega
     ·have sI:=hide hok;go_wp2_with fail;refine(iQ _ yn hs1).mono ?_;rintro e w' ⟨rfl,hw'⟩;subst hw';cases hn1:bL yn.data.toList
      ·have uO:=hide hn1;go_wp2_with fail;go_roundw;case rel=>exact⟨k+1,by omega,by go_num,jL (by rw[HST,sI,NA,uO];rfl),bR⟩
       case measure=>simp[intOf];omega
      ·have uO:=hide hn1;go_wp2_with fail;refine(iQ _ yl hs2).mono ?_;rintro e w' ⟨rfl,hw'⟩;subst hw';go_wp2_with fail;go_roundw;case rel=>exact⟨k+1,by omega,by go_num,jL (by rw[HST,sI,NA,uO];rfl),bR⟩
       case measure=>simp[intOf];omega
    ·have hkn:k=nv:=by omega
     have sI:=hide (Ct (b:=dP xn&&xi.all dP) (p:=Es) BG hkn);clear hk hkn;generalize ku (dP xn&&xi.all dP) Es xv k=ok at *;have HB2:=hide (up HB1 hnx);replace q0:=aA q0 hnx;replace q1:=aA q1 hnx;replace q2:=aA q2 hnx;replace q3:=aA q3 hnx;clear hnx HB1;cases ok;·have Qk:Hid (XE=5):=hide (by rw[HE,if_pos sI.symm]);go_wp2_with fail;go_ret;exact⟨bA Qk.symm,HB2⟩
     rw[if_neg (by rw[<-sI];exact Bool.noConfusion)]at HE;go_wp2_with fail;clear t2 hkl sI;go_loopw[6] (λi wz=>∃k:Nat,k<=nf/\i=.int .i64 k/\(∀(d:Nat) (z:Fu),d<k->xf[d]?=some z->Gq m z=0)/\Below wr.heap.size wr wz) (λi _=>nf - (intOf i).toNat);case atStart=>exact⟨0,bJ _,rfl,λd z hd=>absurd hd (dY _),aX _ _⟩
     case round=>
      obtain⟨i,hi,rfl,hall,hnx⟩:=hrel;have cO:=hide hall;clear hall;have t3:=aA q3 hnx;by_cases hil:i<nf
      ·obtain⟨y,hy⟩:∃y,xf[i]?=some y:=⟨_,aU (by rw[<-og];exact hil)⟩;obtain⟨hnm,vp,vb,e0,e1,e2,e3,g0,g1,g2,g3,g4,g5,g6,hp,hsb,hx⟩:=Eh i y hy;obtain rfl:=BF (by omega);have HBAD:Hid (Gq m y≠0->XE=Gq m y):=hide (λh=>by have e:=K3 (m:=m) cO hy h;rw[HE,e,if_pos h]);have HGOOD:Hid (Gq m y=0->∀(d:Nat) (z:Fu),d<i+1->xf[d]?=some z->Gq m z=0):=hide (λh d z hd hz=>by
        by_cases e:d=i;·subst e;rw[hy]at hz;cases hz;exact h
        ·exact cO d z (by omega) hz)
       obtain⟨yn,yp,yb,yr⟩:=y;simp only at g0 hp hsb hx hnm;have zG:Hid (Gq m ⟨yn,yp,yb,yr⟩=if 4<yp.length then 2 else if (dP yn&&fZ m yb&&dM m yr&&yp.all dP)then 0 else 5):=rfl;generalize Gq m ⟨yn,yp,yb,yr⟩=FE at *;obtain⟨ap,bp,op,cp,rfl,hap,hlp,hsp,hcp⟩:=hp;have JJ:=hide hsp;have vC:=hide hsb;have HX:=hide hx;obtain⟨ab,cb,rfl,hlb⟩:=hsb.shape;obtain⟨xa,xc,rfl,rfl,rfl,rfl⟩:=hx.shape;have DY:=hide hap;have Qi:=hide hcp;obtain⟨np,hnp⟩:=aG yp.length;obtain⟨nb,hnb⟩:=aG yb.length;have wM:=hide hnp;have nR:=hide hnb;rw[<-hnp]at g1 hlp DY Qi zG;rw[<-hnb]at g2 hlb vC;have hbb:=up HB2 hnx;have u0:=aA g0 hbb;have u1:=aA g1 hbb;have u2:=aA g2 hbb;have u3:=aA g3 hbb;have u4:=aA g4 hbb;have u5:=aA g5 hbb;have u6:=aA g6 hbb;have bR:=hide hnx;have nQ:=hide hbb;clear hap hcp hsp hsb hx hnp hnb hy g0 g1 g2 g3 g4 g5 g6 hbb hnx q0 q1 q2 q3;have r0:=boxF0 wr (.string yn) (.slice ap np cp) (.slice ab nb cb) (.int .i64 yr.kind) (.int .i64 yr.n) (.string yr.name) (.slice xa yr.args.length xc) 132;have r1:=boxF1 wr (.string yn) (.slice ap np cp) (.slice ab nb cb) (.int .i64 yr.kind) (.int .i64 yr.n) (.string yr.name) (.slice xa yr.args.length xc) 132;have r2:=boxF2 wr (.string yn) (.slice ap np cp) (.slice ab nb cb) (.int .i64 yr.kind) (.int .i64 yr.n) (.string yr.name) (.slice xa yr.args.length xc) 132;have r3:=boxF3 wr (.string yn) (.slice ap np cp) (.slice ab nb cb) (.int .i64 yr.kind) (.int .i64 yr.n) (.string yr.name) (.slice xa yr.args.length xc) 132;have r4:=boxF4 wr (.string yn) (.slice ap np cp) (.slice ab nb cb) (.int .i64 yr.kind) (.int .i64 yr.n) (.string yr.name) (.slice xa yr.args.length xc) 132;have r5:=boxF5 wr (.string yn) (.slice ap np cp) (.slice ab nb cb) (.int .i64 yr.kind) (.int .i64 yr.n) (.string yr.name) (.slice xa yr.args.length xc) 132;have r6:=boxF6 wr (.string yn) (.slice ap np cp) (.slice ab nb cb) (.int .i64 yr.kind) (.int .i64 yr.n) (.string yr.name) (.slice xa yr.args.length xc) 132;have HB3:=hide (aB wr (.cells #[.string yn,.slice ap np cp,.slice ab nb cb,.int .i64 yr.kind,.int .i64 yr.n,.string yr.name,.slice xa yr.args.length xc] 132));by_cases WJ:4<np
       ·have hp4':(4:Int)<(np:Int):=by omega
        rw[if_pos WJ]at zG;have Q0:=hide ((HBAD (by rw[zG];decide)).trans zG);clear WJ;go_wp2_with fail;go_ret;exact⟨bA Q0.symm,up nQ HB3⟩
       have hp4':¬(4:Int)<(np:Int):=by omega
       rw[if_neg WJ]at zG;clear WJ;go_wp2_with fail;generalize wr.alloc (.cells #[.string yn,.slice ap np cp,.slice ab nb cb,.int .i64 yr.kind,.int .i64 yr.n,.string yr.name,.slice xa yr.args.length xc] 132)=W3 at *;clear u0 u1 u2 u3 u4 u5 u6;refine(iQ _ yn hnm).mono ?_;rintro e w' ⟨rfl,hw'⟩;rw[hw'];clear hw' w';have HB:Hid ((dP yn&&fZ m yb&&dM m yr)=(bL yn.data.toList&&fZ m yb&&dM m yr)):=rfl;generalize (dP yn&&fZ m yb&&dM m yr)=B at *;have HZ:=hide (yI B dP yp);cases hn1:bL yn.data.toList;case' false =>have HB':Hid (false=ku B dP yp 0):=hide (by rw[HZ,HB,hn1];rfl);have HQ:=hide (aX W3.heap.size W3);go_wp2_with fail
       case' true=>
        go_wp2_with fail;refine(Xl m _ _ yb (vC.below (up nQ HB3))).mono ?_;rintro e w5 ⟨rfl,hb5⟩;have iL:=hide hb5;have t3:=aA r3 hb5;have t4:=aA r4 hb5;have t5:=aA r5 hb5;have t6:=aA r6 hb5;clear hb5;cases hn2:fZ m yb;case' false =>have HB':Hid (false=ku B dP yp 0):=hide (by rw[HZ,HB,hn1,hn2];rfl);have HQ:=iL;go_wp2_with fail
        case' true =>go_wp2_with fail;refine(uY m _ _ _ _ _ yr (HX.below (up (up nQ HB3) iL))).mono ?_;rintro e w6 ⟨rfl,hb6⟩;have HQ:=hide (up iL hb6);have HB':Hid (dM m yr=ku B dP yp 0):=hide (by rw[HZ,HB,hn1,hn2];rfl);clear hb6;go_wp2_with fail
       all_goals
        clear HB HZ r0 r2 r3 r4 r5 r6;go_loopw[8,9] (λo i wp=>∃k:Nat,k<=np/\i=.int .i64 k/\o=.bool (ku B dP yp k)/\Below W3.heap.size W3 wp) (λ_ i _=>np - (intOf i).toNat);case atStart=>exact⟨0,bJ _,rfl,jL HB'.out,HQ⟩
        case round=>
         obtain⟨d,hd,rfl,rfl,hnx⟩:=hrel;have t1:=aA r1 hnx;by_cases hdl:d<np
         ·have hc:=aA (Qi d hdl) (up (up nQ HB3) hnx);have hgd:yp[d]?=some (yp.getD d ByteArray.empty):=by
           have:d<yp.length:=by have:=wM.out;omega
           simp[this]
          have hsz:=JJ _ (gD hgd);have HST:=hide (yJ (b:=B) (p:=dP) hgd);obtain rfl:=DY (by omega);generalize yp.getD d ByteArray.empty=s at *;have lD:=hide hnx;clear hgd r1 hnx;cases hok:ku B dP yp d
          ·have sI:=hide hok;go_wp2_with fail;go_roundw;case rel=>exact⟨d+1,by omega,by go_num,jL (by rw[HST,sI];rfl),lD⟩
           case measure=>simp[intOf];omega
          ·have sI:=hide hok;go_wp2_with fail;refine(iQ _ s hsz).mono ?_;rintro e w' ⟨rfl,hw'⟩;subst hw';go_wp2_with fail;go_roundw;case rel=>exact⟨d+1,by omega,by go_num,jL (by rw[HST,sI];rfl),lD⟩
           case measure=>simp[intOf];omega
         ·have sI:=hide (Ct (b:=B) (p:=dP) wM (show d=np by omega));rw[<-sI]at zG;have lD:=hide hnx;clear hd sI hnx r1 HB';generalize ku B dP yp d=ok at *;cases ok;·have Q0:Hid (XE=5):=hide ((HBAD (by rw[zG];decide)).trans zG);go_wp2_with fail;go_ret;exact⟨bA Q0.symm,up (up nQ HB3) lD⟩
          ·go_wp2_with fail;go_roundw;case rel=>exact⟨i+1,by omega,by go_num,HGOOD (by rw[zG];rfl),up bR (up HB3 lD)⟩
           case measure=>simp[intOf];omega
      ·have HFZ:=hide (Cu (m:=m) (l:=xf) (λd z hz=>cO d z (by have:=(dG.1 hz).1;have:=og.out;omega) hz));rw[if_neg (λh=>h HFZ)]at HE;clear cO HFZ;have t0:=aA q0 hnx;have t1:=aA q1 hnx;have t2:=aA q2 hnx;have nQ:=hide (up HB2 hnx);clear hnx q0 q1 q2 q3 hi;go_wp2_with fail;refine(Ye m _ _ _ (HM.below nQ) HMW (HT.below nQ)).mono ?_;rintro e w5 ⟨rfl,hb5⟩;have iL:=hide (up nQ hb5);clear hb5 t0 t1 t2 t3;rw[<-HXT];go_wp2_with fail;go_loopw[11,12] (λo i wt=>∃j:Nat,j<=XT.size/\i=.int .i64 j/\o=.int .i64 (jO XT j)/\(∀d,d<j->jO XT (d+1)<=20)/\Below w5.heap.size w5 wt) (λ_ i _=>XT.size - (intOf i).toNat);case atStart=>exact⟨0,bJ _,rfl,rfl,λd hd=>absurd hd (dY _),aX _ _⟩
       case round=>
        obtain⟨j,hj,rfl,rfl,hall,hnx⟩:=hrel;have cO:=hide hall;have bR:=hide hnx;clear hall hnx;by_cases hjl:j<XT.size
        ·have hol:=JD XT j;have HST:=hide (DZ XT j hjl);obtain⟨hol1,hol2⟩:=hol;generalize jO XT j=o at *;rcases step3 XT[j]with⟨f1,f2,f3⟩|⟨f1,f2,f3⟩|⟨f1,f2,f3⟩
         ·have HO:Hid (jO XT (j+1)=o+1):=hide (by rw[HST,f3]);clear f3;by_cases h20:20<o+1;·have HD:=hide (Ai (t:=XT) hjl (by rw[HO];exact h20));rw[HD,if_pos rfl]at HE;go_wp2_with fail;go_ret;exact⟨bA HE.symm,up iL bR⟩
          ·have HH:=hide h20;go_wp2_with fail;go_roundw;case rel=>exact⟨j+1,by omega,by go_num,by rw[HO],λd hd=>by
            by_cases e:d=j;·subst e;rw[HO];have:=HH.out;omega
            ·exact cO d (by omega),bR⟩
           case measure=>simp[intOf];omega
         ·have HO:Hid (jO XT (j+1)=o - 1):=hide (by rw[HST,f3];rfl);clear f3;by_cases h20:20<o - 1;·have HD:=hide (Ai (t:=XT) hjl (by rw[HO];exact h20));rw[HD,if_pos rfl]at HE;go_wp2_with fail;go_ret;exact⟨bA HE.symm,up iL bR⟩
          ·have HH:=hide h20;go_wp2_with fail;go_roundw;case rel=>exact⟨j+1,by omega,by go_num,by rw[HO],λd hd=>by
            by_cases e:d=j;·subst e;rw[HO];have:=HH.out;omega
            ·exact cO d (by omega),bR⟩
           case measure=>simp[intOf];omega
         ·have HO:Hid (jO XT (j+1)=o):=hide (by rw[HST,f3,Int.add_zero]);clear f3;by_cases h20:20<o;·have HD:=hide (Ai (t:=XT) hjl (by rw[HO];exact h20));rw[HD,if_pos rfl]at HE;go_wp2_with fail;go_ret;exact⟨bA HE.symm,up iL bR⟩
          ·have HH:=hide h20;go_wp2_with fail;go_roundw;case rel=>exact⟨j+1,by omega,by go_num,by rw[HO],λd hd=>by
            by_cases e:d=j;·subst e;rw[HO];have:=HH.out;omega
            ·exact cO d (by omega),bR⟩
           case measure=>simp[intOf];omega
        ·have HD:=hide (JE (t:=XT) (λd hd=>by have:=cO d (by omega);omega));rw[HD,if_neg (by decide)]at HE;go_wp2_with fail;go_ret;exact⟨bA HE.symm,up iL bR⟩
end Go.Proofs.YtfnboapebijcpaaGreatDoor
