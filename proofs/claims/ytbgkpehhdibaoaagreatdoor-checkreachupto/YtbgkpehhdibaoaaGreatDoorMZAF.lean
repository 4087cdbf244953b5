/- part -/
import Derived.Test.YtbgkpehhdibaoaaGreatDoorMZAD
set_option maxHeartbeats 0
set_option maxRecDepth 99999
namespace Go.Proofs.YtbgkpehhdibaoaaGreatDoor
open bO
open Go.Proofs.Tryz
open Go.RowKit
namespace bO
def xI(s:St):Bool:=
 if s.kind=1\/s.kind=4 then dx s.name.data.toList&&(s.b.length==0)&&(s.a.length==0)
 else if s.kind=2 then s.name.toList.isEmpty
 else if s.kind=3 then s.name.toList.isEmpty&&(s.b.length==0)
 else false
def iP:Nat->List St->Bool
 | 0,_=>false
 | m+1,l=>l.all λs=>xI s&&fA m s.e&&iP m s.a&&iP m s.b
def uZ(m:Nat)(s:St):Bool:=xI s&&fA m s.e&&iP m s.a&&iP m s.b
theorem vN(m:Nat)(l:List St):iP (m+1) l=l.all (uZ m):=rfl
end bO
variable{p:St->Bool}{l:List St}{i m:Nat}{w:World}{c0 c1 c2 c3 v:Value}
theorem Qy(h:∀(i:Nat) (x:St),l[i]?=some x->p x=true):l.all p=true:=by rw[gY];intro x hx;obtain⟨i,hi,rfl⟩:=gP.1 hx;exact h i _ (bg hi)
theorem Qz{x:St}(hx:l[i]?=some x)(h:p x=false):l.all p=false:=by rw[BZ];exact⟨x,dN hx,by simp[h]⟩
theorem gQ.shape{x:Ex}(h:gQ w m c0 c1 c2 c3 x):∃a cap,c0=O x.kind/\c1=O x.n/\c2=A x.name/\c3=Y a x.args.length cap:=by
 cases m with
 | zero=>exact iG h
 | succ m =>obtain⟨h0,h1,h2,_,_,_,a,b,off,cap,h3,_⟩:=h;exact⟨a,cap,h0,h1,h2,h3⟩
theorem eU.shape(h:eU w m v l):∃a cap,v=Y a l.length cap/\l.length<=9223372036854775807:=by
 cases m with
 | zero=>exact iG h
 | succ m =>obtain⟨a,b,off,cap,h3,_,h4,_⟩:=h;exact⟨a,cap,h3,h4⟩
theorem AA(w:World)(c0 c1 c2 c3 c4 c5 c6 c7:Value)(t:TypeId):(w.alloc (.cells #[c0,c1,c2,c3,c4,c5,c6,c7] t)).cell? (X w.heap.size 6)=some c6:=by simp[go_sem]
theorem AJ(w:World)(c0 c1 c2 c3 c4 c5 c6 c7:Value)(t:TypeId):(w.alloc (.cells #[c0,c1,c2,c3,c4,c5,c6,c7] t)).cell? (X w.heap.size 7)=some c7:=by simp[go_sem]
theorem body_any(m:Nat):∀(w:World) (v:Value) (l:List St),eU w m v l->Calls prog 43 #[v] w λe w'=>e=cO (.bool (iP m l))/\bG w w':=by
 induction m with
 | zero=>intro w v l h;exact iG h
 | succ m ih=>
  intro w v l h;have HI:=I ih;clear ih;obtain⟨a,b,off,cap,rfl,ha,hl,hel⟩:=h;obtain⟨kg,HA,HR⟩:=fq hel ha (vN m l);clear hel ha;obtain⟨len,hlen⟩:=bC l.length;have HL:=I hlen;rw[<-hlen]at hl HA ⊢;clear hlen;go_enter func43,ntmps43;go_wp2_with fail;go_loopw[3] (λi wr=>∃j:Nat,j<=len/\i=O j/\(∀d y,d<j->l[d]?=some y->uZ m y=true)/\bG w wr) (λi _=>len - (intOf i).toNat);case atStart=>exact⟨0,bI _,rfl,λd y hd=>aN hd (fK _),bN _ _⟩
  case round=>
   obtain⟨j,hj,rfl,hall,hnx⟩:=hrel;have dU:=I hall;clear hall;by_cases hjl:j<len
   ·obtain⟨y,hy⟩:∃y,l[j]?=some y:=⟨_,bg (by rw[<-HL];exact hjl)⟩;obtain⟨hsk,hsn,e0,e1,e2,e3,va,vb,g0,g1,g2,g3,g4,g5,g6,g7,hxe,hsa,hsb⟩:=kg j y hy;obtain rfl:=HA aV;obtain⟨k,sn,se,sa,sb⟩:=y;simp only at hsk hsn g0 g1 hxe hsa hsb;obtain⟨HY,HX,GU,DL⟩:=mg hy hxe hsa hsb;obtain⟨xa,xc,h0,h1,h2,h3⟩:=hxe.shape;obtain⟨aa,ac,h4,hla0⟩:=hsa.shape;obtain⟨ba,bc,h5,hlb0⟩:=hsb.shape;have HBAD:Hid (uZ m ⟨k,sn,se,sa,sb⟩=false->iP (m+1) l=false):=I (λh=>by rw[HR];exact Qz hy h);subst h0 h1 h2 h3 h4 h5;obtain⟨la,hla⟩:=bC sa.length;obtain⟨lb,hlb⟩:=bC sb.length;obtain⟨Cg,Qb⟩:=bT hla hlb;rw[<-hla]at hla0 g6 GU;rw[<-hlb]at hlb0 g7 DL;clear hxe hsa hsb hy hla hlb;obtain⟨u0,u1⟩:=eD (aC g0 hnx) (aC g1 hnx);have Xa:=aC g2 hnx;have KD:=aC g3 hnx;have u4':=aC g4 hnx;have u5':=aC g5 hnx;have u6':=aC g6 hnx;have u7':=aC g7 hnx;have dM:=I hnx;obtain⟨q6,q7⟩:=eD (AA wr (O k) (A sn) (O se.kind) (O se.n) (A se.name) (Y xa se.args.length xc) (Y aa la ac) (Y ba lb bc) 164) (AJ wr (O k) (A sn) (O se.kind) (O se.n) (A se.name) (Y xa se.args.length xc) (Y aa la ac) (Y ba lb bc) 164);clear g0 g1 g2 g3 g4 g5 g6 g7 hnx;by_cases hk1:k=1
    ·subst hk1;go_wp2_with fail;refine(Au _ _ _ _).mono ?_;rintro e w' ⟨rfl,hw⟩;subst hw;rw[show(decide ((1:Int)<=1)&&decide ((1:Int)<=4))=true from rfl];go_wp2_with fail;refine(j6 _ sn hsn).mono ?_;rintro e w' ⟨rfl,hw⟩;subst hw;cases hnm:dx sn.data.toList;·have HH:Hid (xI ⟨1,sn,se,sa,sb⟩=false):=I (by simp[xI,hnm]);go_wp2_with fail;go_ret;exact⟨aM (by rw[HBAD (by unfold uZ;rw[HH];rfl)]),up dM (aH _ _)⟩
     ·by_cases hlb:lb=0
      ·subst hlb;by_cases hla:la=0
       ·subst hla;have HH:Hid (xI ⟨1,sn,se,sa,sb⟩=true):=I (by simp[xI,hnm,<-Cg.out,<-Qb.out]);clear hnm;go_wp2_with fail;refine(xE m _ _ _ _ _ se (HX.below (up dM (aH _ _)))).mono ?_;rintro e w5 ⟨rfl,hb5⟩;replace q6:=aC q6 hb5;replace q7:=aC q7 hb5;have kG:=I (up (up dM (aH _ _)) hb5);clear hb5;cases hxb:fA m se;·have HXB:=I hxb;go_wp2_with fail;go_ret;exact⟨aM (by rw[HBAD (by unfold uZ;rw[HXB];simp)]),kG⟩
        ·have HXB:=I hxb;go_wp2_with fail;refine(HI _ _ sa (GU.below kG)).mono ?_;rintro e w6 ⟨rfl,hb6⟩;replace q7:=aC q7 hb6;have lI:=I (up kG hb6);clear hb6 q6;cases hab:iP m sa;·have KE:=I hab;go_wp2_with fail;go_ret;exact⟨aM (by rw[HBAD (by unfold uZ;rw[KE];simp)]),lI⟩
         ·have KE:=I hab;go_wp2_with fail;refine(HI _ _ sb (DL.below lI)).mono ?_;rintro e w7 ⟨rfl,pW⟩;have GV:=I (up lI pW);clear pW q7;cases hbb:iP m sb;·have rA:=I hbb;go_wp2_with fail;go_ret;exact⟨aM (by rw[HBAD (by unfold uZ;rw[rA];simp)]),GV⟩
          ·have rA:=I hbb;have HG:=I (show uZ m ⟨1,sn,se,sa,sb⟩=true by unfold uZ;rw[HH,HXB,KE,rA];rfl);go_wp2_with fail;go_roundw;case rel=>exact⟨j+1,by omega,by go_num,λd z hd hz=>by
            by_cases e:d=j;·subst e;rw[HY]at hz;cases hz;exact HG
            ·exact dU d z aV hz,GV⟩
           case measure=>simp[intOf];omega
       ·have Uu:(0:Int)<(la:Int):=by omega
        have HH:Hid (xI ⟨1,sn,se,sa,sb⟩=false):=I (by simp[xI,<-Cg.out,hla]);clear hnm hla;go_wp2_with fail;go_ret;exact⟨aM (by rw[HBAD (by unfold uZ;rw[HH];rfl)]),up dM (aH _ _)⟩
      ·have YZ:(0:Int)<(lb:Int):=by omega
       have HH:Hid (xI ⟨1,sn,se,sa,sb⟩=false):=I (by simp[xI,<-Qb.out,hlb]);clear hnm hlb;go_wp2_with fail;go_ret;exact⟨aM (by rw[HBAD (by unfold uZ;rw[HH];rfl)]),up dM (aH _ _)⟩
    by_cases hk4:k=4
    ·subst hk4;go_wp2_with fail;refine(Au _ _ _ _).mono ?_;rintro e w' ⟨rfl,hw⟩;subst hw;rw[show(decide ((1:Int)<=4)&&decide ((4:Int)<=4))=true from rfl];go_wp2_with fail;refine(j6 _ sn hsn).mono ?_;rintro e w' ⟨rfl,hw⟩;subst hw;cases hnm:dx sn.data.toList;·have HH:Hid (xI ⟨4,sn,se,sa,sb⟩=false):=I (by simp[xI,hnm]);go_wp2_with fail;go_ret;exact⟨aM (by rw[HBAD (by unfold uZ;rw[HH];rfl)]),up dM (aH _ _)⟩
     ·by_cases hlb:lb=0
      ·subst hlb;by_cases hla:la=0
       ·subst hla;have HH:Hid (xI ⟨4,sn,se,sa,sb⟩=true):=I (by simp[xI,hnm,<-Cg.out,<-Qb.out]);clear hnm;go_wp2_with fail;refine(xE m _ _ _ _ _ se (HX.below (up dM (aH _ _)))).mono ?_;rintro e w5 ⟨rfl,hb5⟩;replace q6:=aC q6 hb5;replace q7:=aC q7 hb5;have kG:=I (up (up dM (aH _ _)) hb5);clear hb5;cases hxb:fA m se;·have HXB:=I hxb;go_wp2_with fail;go_ret;exact⟨aM (by rw[HBAD (by unfold uZ;rw[HXB];simp)]),kG⟩
        ·have HXB:=I hxb;go_wp2_with fail;refine(HI _ _ sa (GU.below kG)).mono ?_;rintro e w6 ⟨rfl,hb6⟩;replace q7:=aC q7 hb6;have lI:=I (up kG hb6);clear hb6 q6;cases hab:iP m sa;·have KE:=I hab;go_wp2_with fail;go_ret;exact⟨aM (by rw[HBAD (by unfold uZ;rw[KE];simp)]),lI⟩
         ·have KE:=I hab;go_wp2_with fail;refine(HI _ _ sb (DL.below lI)).mono ?_;rintro e w7 ⟨rfl,pW⟩;have GV:=I (up lI pW);clear pW q7;cases hbb:iP m sb;·have rA:=I hbb;go_wp2_with fail;go_ret;exact⟨aM (by rw[HBAD (by unfold uZ;rw[rA];simp)]),GV⟩
          ·have rA:=I hbb;have HG:=I (show uZ m ⟨4,sn,se,sa,sb⟩=true by unfold uZ;rw[HH,HXB,KE,rA];rfl);go_wp2_with fail;go_roundw;case rel=>exact⟨j+1,by omega,by go_num,λd z hd hz=>by
            by_cases e:d=j;·subst e;rw[HY]at hz;cases hz;exact HG
            ·exact dU d z aV hz,GV⟩
           case measure=>simp[intOf];omega
       ·have Uu:(0:Int)<(la:Int):=by omega
        have HH:Hid (xI ⟨4,sn,se,sa,sb⟩=false):=I (by simp[xI,<-Cg.out,hla]);clear hnm hla;go_wp2_with fail;go_ret;exact⟨aM (by rw[HBAD (by unfold uZ;rw[HH];rfl)]),up dM (aH _ _)⟩
      ·have YZ:(0:Int)<(lb:Int):=by omega
       have HH:Hid (xI ⟨4,sn,se,sa,sb⟩=false):=I (by simp[xI,<-Qb.out,hlb]);clear hnm hlb;go_wp2_with fail;go_ret;exact⟨aM (by rw[HBAD (by unfold uZ;rw[HH];rfl)]),up dM (aH _ _)⟩
    by_cases hk2:k=2
    ·subst hk2;go_wp2_with fail;refine(Au _ _ _ _).mono ?_;rintro e w' ⟨rfl,hw⟩;subst hw;rw[show(decide ((1:Int)<=2)&&decide ((2:Int)<=4))=true from rfl];cases hne:sn.toList.isEmpty;·have HH:Hid (xI ⟨2,sn,se,sa,sb⟩=false):=I (by simp[xI,hne]);go_wp2_with fail;go_ret;exact⟨aM (by rw[HBAD (by unfold uZ;rw[HH];rfl)]),up dM (aH _ _)⟩
     ·have HH:Hid (xI ⟨2,sn,se,sa,sb⟩=true):=I (by simp[xI,hne]);go_wp2_with fail;refine(xE m _ _ _ _ _ se (HX.below (up dM (aH _ _)))).mono ?_;rintro e w5 ⟨rfl,hb5⟩;replace q6:=aC q6 hb5;replace q7:=aC q7 hb5;have kG:=I (up (up dM (aH _ _)) hb5);clear hb5;cases hxb:fA m se;·have HXB:=I hxb;go_wp2_with fail;go_ret;exact⟨aM (by rw[HBAD (by unfold uZ;rw[HXB];simp)]),kG⟩
      ·have HXB:=I hxb;go_wp2_with fail;refine(HI _ _ sa (GU.below kG)).mono ?_;rintro e w6 ⟨rfl,hb6⟩;replace q7:=aC q7 hb6;have lI:=I (up kG hb6);clear hb6 q6;cases hab:iP m sa;·have KE:=I hab;go_wp2_with fail;go_ret;exact⟨aM (by rw[HBAD (by unfold uZ;rw[KE];simp)]),lI⟩
       ·have KE:=I hab;go_wp2_with fail;refine(HI _ _ sb (DL.below lI)).mono ?_;rintro e w7 ⟨rfl,pW⟩;have GV:=I (up lI pW);clear pW q7;cases hbb:iP m sb;·have rA:=I hbb;go_wp2_with fail;go_ret;exact⟨aM (by rw[HBAD (by unfold uZ;rw[rA];simp)]),GV⟩
        ·have rA:=I hbb;have HG:=I (show uZ m ⟨2,sn,se,sa,sb⟩=true by unfold uZ;rw[HH,HXB,KE,rA];rfl);go_wp2_with fail;go_roundw;case rel=>exact⟨j+1,by omega,by go_num,λd z hd hz=>by
          by_cases e:d=j;·subst e;rw[HY]at hz;cases hz;exact HG
          ·exact dU d z aV hz,GV⟩
         case measure=>simp[intOf];omega
    by_cases hk3:k=3
    ·subst hk3;go_wp2_with fail;refine(Au _ _ _ _).mono ?_;rintro e w' ⟨rfl,hw⟩;subst hw;rw[show(decide ((1:Int)<=3)&&decide ((3:Int)<=4))=true from rfl];cases hne:sn.toList.isEmpty;·have HH:Hid (xI ⟨3,sn,se,sa,sb⟩=false):=I (by simp[xI,hne]);go_wp2_with fail;go_ret;exact⟨aM (by rw[HBAD (by unfold uZ;rw[HH];rfl)]),up dM (aH _ _)⟩
     ·by_cases hlb:lb=0
      ·subst hlb;have HH:Hid (xI ⟨3,sn,se,sa,sb⟩=true):=I (by simp[xI,hne,<-Qb.out]);go_wp2_with fail;refine(xE m _ _ _ _ _ se (HX.below (up dM (aH _ _)))).mono ?_;rintro e w5 ⟨rfl,hb5⟩;replace q6:=aC q6 hb5;replace q7:=aC q7 hb5;have kG:=I (up (up dM (aH _ _)) hb5);clear hb5;cases hxb:fA m se;·have HXB:=I hxb;go_wp2_with fail;go_ret;exact⟨aM (by rw[HBAD (by unfold uZ;rw[HXB];simp)]),kG⟩
       ·have HXB:=I hxb;go_wp2_with fail;refine(HI _ _ sa (GU.below kG)).mono ?_;rintro e w6 ⟨rfl,hb6⟩;replace q7:=aC q7 hb6;have lI:=I (up kG hb6);clear hb6 q6;cases hab:iP m sa;·have KE:=I hab;go_wp2_with fail;go_ret;exact⟨aM (by rw[HBAD (by unfold uZ;rw[KE];simp)]),lI⟩
        ·have KE:=I hab;go_wp2_with fail;refine(HI _ _ sb (DL.below lI)).mono ?_;rintro e w7 ⟨rfl,pW⟩;have GV:=I (up lI pW);clear pW q7;cases hbb:iP m sb;·have rA:=I hbb;go_wp2_with fail;go_ret;exact⟨aM (by rw[HBAD (by unfold uZ;rw[rA];simp)]),GV⟩
         ·have rA:=I hbb;have HG:=I (show uZ m ⟨3,sn,se,sa,sb⟩=true by unfold uZ;rw[HH,HXB,KE,rA];rfl);go_wp2_with fail;go_roundw;case rel=>exact⟨j+1,by omega,by go_num,λd z hd hz=>by
           by_cases e:d=j;·subst e;rw[HY]at hz;cases hz;exact HG
           ·exact dU d z aV hz,GV⟩
          case measure=>simp[intOf];omega
      ·have YZ:(0:Int)<(lb:Int):=by omega
       have HH:Hid (xI ⟨3,sn,se,sa,sb⟩=false):=I (by simp[xI,<-Qb.out,hlb]);clear hlb;go_wp2_with fail;go_ret;exact⟨aM (by rw[HBAD (by unfold uZ;rw[HH];rfl)]),up dM (aH _ _)⟩
    have hk1':(k==1)=false:=by simp;omega
    have hk4':(k==4)=false:=by simp;omega
    have HH:Hid (xI ⟨k,sn,se,sa,sb⟩=false):=I (by unfold xI;rw[aJ (by simp only;omega),aJ (by simp only;omega),aJ (by simp only;omega)]);have hin:(decide (1<=k)&&decide (k<=4))=false:=by rw[Bool.and_eq_false_iff];simp;omega
    go_wp2_with fail;refine(Au _ _ _ _).mono ?_;rintro e w' ⟨rfl,hw⟩;subst hw;rw[hin];go_wp2_with fail;go_ret;exact⟨aM (by rw[HBAD (by unfold uZ;rw[HH];rfl)]),up dM (aH _ _)⟩
   ·go_wp2_with fail;go_ret;exact⟨aM (by rw[HR,Qy (λd z hz=>dU d z (by have:=(dz.1 hz).1;have:=HL.out;omega) hz)]),hnx⟩
end Go.Proofs.YtbgkpehhdibaoaaGreatDoor
