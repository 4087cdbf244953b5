/- Walks over package downref: body: may the commands be? -/
import Derived.Test.YtfnboapebijcpaaGreatDoorMZAA
set_option maxHeartbeats 16000000
set_option maxRecDepth 100000
namespace Go.Proofs.YtfnboapebijcpaaGreatDoor
open bC
open Go.Proofs.Tryz
open Go.RowKit
namespace bC
def vB(s:St):Bool:=
 if s.kind=1\/s.kind=4 then bL s.name.data.toList&&(s.b.length==0)&&(s.a.length==0)
 else if s.kind=2 then s.name.toList.isEmpty
 else if s.kind=3 then s.name.toList.isEmpty&&(s.b.length==0)
 else false
def fZ:Nat->List St->Bool
 | 0,_=>false
 | m+1,l=>l.all λs=>vB s&&dM m s.e&&fZ m s.a&&fZ m s.b
def sG(m:Nat)(s:St):Bool:=vB s&&dM m s.e&&fZ m s.a&&fZ m s.b
theorem sW(m:Nat)(l:List St):fZ (m+1) l=l.all (sG m):=rfl
end bC
theorem Nl{p:St->Bool}{l:List St}(h:∀(i:Nat) (x:St),l[i]?=some x->p x=true):l.all p=true:=by rw[iO];intro x hx;obtain⟨i,hi,rfl⟩:=eX.1 hx;exact h i _ (aU hi)
theorem Nn{p:St->Bool}{l:List St}{i:Nat}{x:St}(hx:l[i]?=some x)(h:p x=false):l.all p=false:=by rw[BP];exact⟨x,gD hx,by simp[h]⟩
theorem gq.shape{w:World}{m:Nat}{c0 c1 c2 c3:Value}{x:Ex}(h:gq w m c0 c1 c2 c3 x):∃a cap,c0=.int .i64 x.kind/\c1=.int .i64 x.n/\c2=.string x.name/\c3=.slice a x.args.length cap:=by
 cases m with
 | zero=>exact False.elim h
 | succ m =>obtain⟨h0,h1,h2,_,_,_,a,b,off,cap,h3,_⟩:=h;exact⟨a,cap,h0,h1,h2,h3⟩
theorem dW.shape{w:World}{m:Nat}{v:Value}{l:List St}(h:dW w m v l):∃a cap,v=.slice a l.length cap/\l.length<=9223372036854775807:=by
 cases m with
 | zero=>exact False.elim h
 | succ m =>obtain⟨a,b,off,cap,h3,_,h4,_⟩:=h;exact⟨a,cap,h3,h4⟩
theorem xZ(w:World)(c0 c1 c2 c3 c4 c5 c6 c7:Value)(t:TypeId):(w.alloc (.cells #[c0,c1,c2,c3,c4,c5,c6,c7] t)).cell? ⟨w.heap.size,6,none⟩=some c6:=by simp[go_sem]
theorem x9(w:World)(c0 c1 c2 c3 c4 c5 c6 c7:Value)(t:TypeId):(w.alloc (.cells #[c0,c1,c2,c3,c4,c5,c6,c7] t)).cell? ⟨w.heap.size,7,none⟩=some c7:=by simp[go_sem]
theorem Xl(m:Nat):∀(w:World) (v:Value) (l:List St),dW w m v l->Calls prog 144 #[v] w λe w'=>e=.returned (.bool (fZ m l))/\Below w.heap.size w w':=by
 induction m with
 | zero=>intro w v l h;exact False.elim h
 | succ m ih=>
  intro w v l h;have HI:=hide ih;clear ih;obtain⟨a,b,off,cap,rfl,ha,hl,hel⟩:=h;have gF:=hide hel;have HA:=hide ha;have HR:=hide (sW m l);clear hel ha;obtain⟨len,hlen⟩:=aG l.length;have HL:=hide hlen;rw[<-hlen]at hl HA ⊢;clear hlen;go_enter func144,ntmps144;go_wp2_with fail;go_loopw[3] (λi wr=>∃j:Nat,j<=len/\i=.int .i64 j/\(∀d y,d<j->l[d]?=some y->sG m y=true)/\Below w.heap.size w wr) (λi _=>len - (intOf i).toNat);case atStart=>exact⟨0,bJ _,rfl,λd y hd=>absurd hd (dY _),aX _ _⟩
  case round=>
   obtain⟨j,hj,rfl,hall,hnx⟩:=hrel;have cO:=hide hall;clear hall;by_cases hjl:j<len
   ·obtain⟨y,hy⟩:∃y,l[j]?=some y:=⟨_,aU (by rw[<-HL];exact hjl)⟩;obtain⟨hsk,hsn,e0,e1,e2,e3,va,vb,g0,g1,g2,g3,g4,g5,g6,g7,hxe,hsa,hsb⟩:=gF j y hy;obtain rfl:=HA (by omega);obtain⟨k,sn,se,sa,sb⟩:=y;simp only at hsk hsn g0 g1 hxe hsa hsb;have HY:=hide hy;have HX:=hide hxe;have UU:=hide hsa;have vC:=hide hsb;obtain⟨xa,xc,h0,h1,h2,h3⟩:=hxe.shape;obtain⟨aa,ac,h4,hla0⟩:=hsa.shape;obtain⟨ba,bc,h5,hlb0⟩:=hsb.shape;have HBAD:Hid (sG m ⟨k,sn,se,sa,sb⟩=false->fZ (m+1) l=false):=hide (λh=>by rw[HR];exact Nn hy h);subst h0 h1 h2 h3 h4 h5;obtain⟨la,hla⟩:=aG sa.length;obtain⟨lb,hlb⟩:=aG sb.length;have Qv:=hide hla;have Qe:=hide hlb;rw[<-hla]at hla0 g6 UU;rw[<-hlb]at hlb0 g7 vC;clear hxe hsa hsb hy hla hlb;have u0:=aA g0 hnx;have u1:=aA g1 hnx;have Qt:=aA g2 hnx;have Ed:=aA g3 hnx;have UW:=aA g4 hnx;have u5':=aA g5 hnx;have u6':=aA g6 hnx;have u7':=aA g7 hnx;have bR:=hide hnx;have q6:=xZ wr (.int .i64 k) (.string sn) (.int .i64 se.kind) (.int .i64 se.n) (.string se.name) (.slice xa se.args.length xc) (.slice aa la ac) (.slice ba lb bc) 144;have q7:=x9 wr (.int .i64 k) (.string sn) (.int .i64 se.kind) (.int .i64 se.n) (.string se.name) (.slice xa se.args.length xc) (.slice aa la ac) (.slice ba lb bc) 144;clear g0 g1 g2 g3 g4 g5 g6 g7 hnx;by_cases hk1:k=1
    ·subst hk1;go_wp2_with fail;refine(o8 _ _ _ _).mono ?_;rintro e w' ⟨rfl,hw⟩;subst hw;rw[show(decide ((1:Int)<=1)&&decide ((1:Int)<=4))=true from rfl];go_wp2_with fail;refine(iQ _ sn hsn).mono ?_;rintro e w' ⟨rfl,hw⟩;subst hw;cases hnm:bL sn.data.toList;·have HH:Hid (vB ⟨1,sn,se,sa,sb⟩=false):=hide (by simp[vB,hnm]);go_wp2_with fail;go_ret;exact⟨aH (by rw[HBAD (by unfold sG;rw[HH];rfl)]),up bR (aB _ _)⟩
     ·by_cases hlb:lb=0
      ·subst hlb;by_cases hla:la=0
       ·subst hla;have HH:Hid (vB ⟨1,sn,se,sa,sb⟩=true):=hide (by simp[vB,hnm,<-Qv.out,<-Qe.out]);clear hnm;go_wp2_with fail;refine(uY m _ _ _ _ _ se (HX.below (up bR (aB _ _)))).mono ?_;rintro e w5 ⟨rfl,hb5⟩;replace q6:=aA q6 hb5;replace q7:=aA q7 hb5;have iL:=hide (up (up bR (aB _ _)) hb5);clear hb5;cases hxb:dM m se;·have HXB:=hide hxb;go_wp2_with fail;go_ret;exact⟨aH (by rw[HBAD (by unfold sG;rw[HXB];simp)]),iL⟩
        ·have HXB:=hide hxb;go_wp2_with fail;refine(HI _ _ sa (UU.below iL)).mono ?_;rintro e w6 ⟨rfl,hb6⟩;replace q7:=aA q7 hb6;have iM:=hide (up iL hb6);clear hb6 iL q6;cases hab:fZ m sa;·have Fx:=hide hab;go_wp2_with fail;go_ret;exact⟨aH (by rw[HBAD (by unfold sG;rw[Fx];simp)]),iM⟩
         ·have Fx:=hide hab;go_wp2_with fail;refine(HI _ _ sb (vC.below iM)).mono ?_;rintro e w7 ⟨rfl,jT⟩;have BS:=hide (up iM jT);clear jT iM q7;cases hbb:fZ m sb;·have nQ:=hide hbb;go_wp2_with fail;go_ret;exact⟨aH (by rw[HBAD (by unfold sG;rw[nQ];simp)]),BS⟩
          ·have nQ:=hide hbb;have HG:=hide (show sG m ⟨1,sn,se,sa,sb⟩=true by unfold sG;rw[HH,HXB,Fx,nQ];rfl);go_wp2_with fail;go_roundw;case rel=>exact⟨j+1,by omega,by go_num,λd z hd hz=>by
            by_cases e:d=j;·subst e;rw[HY]at hz;cases hz;exact HG
            ·exact cO d z (by omega) hz,BS⟩
           case measure=>simp[intOf];omega
       ·have Qw:(0:Int)<(la:Int):=by omega
        have HH:Hid (vB ⟨1,sn,se,sa,sb⟩=false):=hide (by simp[vB,<-Qv.out,hla]);clear hnm hla;go_wp2_with fail;go_ret;exact⟨aH (by rw[HBAD (by unfold sG;rw[HH];rfl)]),up bR (aB _ _)⟩
      ·have hlb':(0:Int)<(lb:Int):=by omega
       have HH:Hid (vB ⟨1,sn,se,sa,sb⟩=false):=hide (by simp[vB,<-Qe.out,hlb]);clear hnm hlb;go_wp2_with fail;go_ret;exact⟨aH (by rw[HBAD (by unfold sG;rw[HH];rfl)]),up bR (aB _ _)⟩
    by_cases hk4:k=4
    ·subst hk4;go_wp2_with fail;refine(o8 _ _ _ _).mono ?_;rintro e w' ⟨rfl,hw⟩;subst hw;rw[show(decide ((1:Int)<=4)&&decide ((4:Int)<=4))=true from rfl];go_wp2_with fail;refine(iQ _ sn hsn).mono ?_;rintro e w' ⟨rfl,hw⟩;subst hw;cases hnm:bL sn.data.toList;·have HH:Hid (vB ⟨4,sn,se,sa,sb⟩=false):=hide (by simp[vB,hnm]);go_wp2_with fail;go_ret;exact⟨aH (by rw[HBAD (by unfold sG;rw[HH];rfl)]),up bR (aB _ _)⟩
     ·by_cases hlb:lb=0
      ·subst hlb;by_cases hla:la=0
       ·subst hla;have HH:Hid (vB ⟨4,sn,se,sa,sb⟩=true):=hide (by simp[vB,hnm,<-Qv.out,<-Qe.out]);clear hnm;go_wp2_with fail;refine(uY m _ _ _ _ _ se (HX.below (up bR (aB _ _)))).mono ?_;rintro e w5 ⟨rfl,hb5⟩;replace q6:=aA q6 hb5;replace q7:=aA q7 hb5;have iL:=hide (up (up bR (aB _ _)) hb5);clear hb5;cases hxb:dM m se;·have HXB:=hide hxb;go_wp2_with fail;go_ret;exact⟨aH (by rw[HBAD (by unfold sG;rw[HXB];simp)]),iL⟩
        ·have HXB:=hide hxb;go_wp2_with fail;refine(HI _ _ sa (UU.below iL)).mono ?_;rintro e w6 ⟨rfl,hb6⟩;replace q7:=aA q7 hb6;have iM:=hide (up iL hb6);clear hb6 iL q6;cases hab:fZ m sa;·have Fx:=hide hab;go_wp2_with fail;go_ret;exact⟨aH (by rw[HBAD (by unfold sG;rw[Fx];simp)]),iM⟩
         ·have Fx:=hide hab;go_wp2_with fail;refine(HI _ _ sb (vC.below iM)).mono ?_;rintro e w7 ⟨rfl,jT⟩;have BS:=hide (up iM jT);clear jT iM q7;cases hbb:fZ m sb;·have nQ:=hide hbb;go_wp2_with fail;go_ret;exact⟨aH (by rw[HBAD (by unfold sG;rw[nQ];simp)]),BS⟩
          ·have nQ:=hide hbb;have HG:=hide (show sG m ⟨4,sn,se,sa,sb⟩=true by unfold sG;rw[HH,HXB,Fx,nQ];rfl);go_wp2_with fail;go_roundw;case rel=>exact⟨j+1,by omega,by go_num,λd z hd hz=>by
            by_cases e:d=j;·subst e;rw[HY]at hz;cases hz;exact HG
            ·exact cO d z (by omega) hz,BS⟩
           case measure=>simp[intOf];omega
       ·have Qw:(0:Int)<(la:Int):=by omega
        have HH:Hid (vB ⟨4,sn,se,sa,sb⟩=false):=hide (by simp[vB,<-Qv.out,hla]);clear hnm hla;go_wp2_with fail;go_ret;exact⟨aH (by rw[HBAD (by unfold sG;rw[HH];rfl)]),up bR (aB _ _)⟩
      ·have hlb':(0:Int)<(lb:Int):=by omega
       have HH:Hid (vB ⟨4,sn,se,sa,sb⟩=false):=hide (by simp[vB,<-Qe.out,hlb]);clear hnm hlb;go_wp2_with fail;go_ret;exact⟨aH (by rw[HBAD (by unfold sG;rw[HH];rfl)]),up bR (aB _ _)⟩
    by_cases hk2:k=2
    ·subst hk2;go_wp2_with fail;refine(o8 _ _ _ _).mono ?_;rintro e w' ⟨rfl,hw⟩;subst hw;rw[show(decide ((1:Int)<=2)&&decide ((2:Int)<=4))=true from rfl];cases hne:sn.toList.isEmpty;·have HH:Hid (vB ⟨2,sn,se,sa,sb⟩=false):=hide (by simp[vB,hne]);go_wp2_with fail;go_ret;exact⟨aH (by rw[HBAD (by unfold sG;rw[HH];rfl)]),up bR (aB _ _)⟩
     ·have HH:Hid (vB ⟨2,sn,se,sa,sb⟩=true):=hide (by simp[vB,hne]);go_wp2_with fail;refine(uY m _ _ _ _ _ se (HX.below (up bR (aB _ _)))).mono ?_;rintro e w5 ⟨rfl,hb5⟩;replace q6:=aA q6 hb5;replace q7:=aA q7 hb5;have iL:=hide (up (up bR (aB _ _)) hb5);clear hb5;cases hxb:dM m se;·have HXB:=hide hxb;go_wp2_with fail;go_ret;exact⟨aH (by rw[HBAD (by unfold sG;rw[HXB];simp)]),iL⟩
      ·have HXB:=hide hxb;go_wp2_with fail;refine(HI _ _ sa (UU.below iL)).mono ?_;rintro e w6 ⟨rfl,hb6⟩;replace q7:=aA q7 hb6;have iM:=hide (up iL hb6);clear hb6 iL q6;cases hab:fZ m sa;·have Fx:=hide hab;go_wp2_with fail;go_ret;exact⟨aH (by rw[HBAD (by unfold sG;rw[Fx];simp)]),iM⟩
       ·have Fx:=hide hab;go_wp2_with fail;refine(HI _ _ sb (vC.below iM)).mono ?_;rintro e w7 ⟨rfl,jT⟩;have BS:=hide (up iM jT);clear jT iM q7;cases hbb:fZ m sb;·have nQ:=hide hbb;go_wp2_with fail;go_ret;exact⟨aH (by rw[HBAD (by unfold sG;rw[nQ];simp)]),BS⟩
        ·have nQ:=hide hbb;have HG:=hide (show sG m ⟨2,sn,se,sa,sb⟩=true by unfold sG;rw[HH,HXB,Fx,nQ];rfl);go_wp2_with fail;go_roundw;case rel=>exact⟨j+1,by omega,by go_num,λd z hd hz=>by
          by_cases e:d=j;·subst e;rw[HY]at hz;cases hz;exact HG
          ·exact cO d z (by omega) hz,BS⟩
         case measure=>simp[intOf];omega
    by_cases hk3:k=3
    ·subst hk3;go_wp2_with fail;refine(o8 _ _ _ _).mono ?_;rintro e w' ⟨rfl,hw⟩;subst hw;rw[show(decide ((1:Int)<=3)&&decide ((3:Int)<=4))=true from rfl];cases hne:sn.toList.isEmpty;·have HH:Hid (vB ⟨3,sn,se,sa,sb⟩=false):=hide (by simp[vB,hne]);go_wp2_with fail;go_ret;exact⟨aH (by rw[HBAD (by unfold sG;rw[HH];rfl)]),up bR (aB _ _)⟩
     ·by_cases hlb:lb=0
      ·subst hlb;have HH:Hid (vB ⟨3,sn,se,sa,sb⟩=true):=hide (by simp[vB,hne,<-Qe.out]);go_wp2_with fail;refine(uY m _ _ _ _ _ se (HX.below (up bR (aB _ _)))).mono ?_;rintro e w5 ⟨rfl,hb5⟩;replace q6:=aA q6 hb5;replace q7:=aA q7 hb5;have iL:=hide (up (up bR (aB _ _)) hb5);clear hb5;cases hxb:dM m se;·have HXB:=hide hxb;go_wp2_with fail;go_ret;exact⟨aH (by rw[HBAD (by unfold sG;rw[HXB];simp)]),iL⟩
       ·have HXB:=hide hxb;go_wp2_with fail;refine(HI _ _ sa (UU.below iL)).mono ?_;rintro e w6 ⟨rfl,hb6⟩;replace q7:=aA q7 hb6;have iM:=hide (up iL hb6);clear hb6 iL q6;cases hab:fZ m sa;·have Fx:=hide hab;go_wp2_with fail;go_ret;exact⟨aH (by rw[HBAD (by unfold sG;rw[Fx];simp)]),iM⟩
        ·have Fx:=hide hab;go_wp2_with fail;refine(HI _ _ sb (vC.below iM)).mono ?_;rintro e w7 ⟨rfl,jT⟩;have BS:=hide (up iM jT);clear jT iM q7;cases hbb:fZ m sb;·have nQ:=hide hbb;go_wp2_with fail;go_ret;exact⟨aH (by rw[HBAD (by unfold sG;rw[nQ];simp)]),BS⟩
         ·have nQ:=hide hbb;have HG:=hide (show sG m ⟨3,sn,se,sa,sb⟩=true by unfold sG;rw[HH,HXB,Fx,nQ];rfl);go_wp2_with fail;go_roundw;case rel=>exact⟨j+1,by omega,by go_num,λd z hd hz=>by
           by_cases e:d=j;·subst e;rw[HY]at hz;cases hz;exact HG
           ·exact cO d z (by omega) hz,BS⟩
          case measure=>simp[intOf];omega
      ·have hlb':(0:Int)<(lb:Int):=by omega
       have HH:Hid (vB ⟨3,sn,se,sa,sb⟩=false):=hide (by simp[vB,<-Qe.out,hlb]);clear hlb;go_wp2_with fail;go_ret;exact⟨aH (by rw[HBAD (by unfold sG;rw[HH];rfl)]),up bR (aB _ _)⟩
    have hk1':(k==1)=false:=by simp;omega
    have hk4':(k==4)=false:=by simp;omega
    have HH:Hid (vB ⟨k,sn,se,sa,sb⟩=false):=hide (by unfold vB;rw[if_neg (by simp only;omega),if_neg (by simp only;omega),if_neg (by simp only;omega)]);have hin:(decide (1<=k)&&decide (k<=4))=false:=by rw[Bool.and_eq_false_iff];simp;omega
    go_wp2_with fail;refine(o8 _ _ _ _).mono ?_;rintro e w' ⟨rfl,hw⟩;subst hw;rw[hin];go_wp2_with fail;go_ret;exact⟨aH (by rw[HBAD (by unfold sG;rw[HH];rfl)]),up bR (aB _ _)⟩
   ·go_wp2_with fail;go_ret;exact⟨aH (by rw[HR,Nl (λd z hz=>cO d z (by have:=(dG.1 hz).1;have:=HL.out;omega) hz)]),hnx⟩
end Go.Proofs.YtfnboapebijcpaaGreatDoor
