/- part -/
import Derived.Test.YtbgkpehhdibaoaaGreatDoorBZI2
import Derived.Deep.RegionHeld3
import Derived.Lib.AppendZerosOnto
import Derived.Lib.Join
set_option maxHeartbeats 0
set_option maxRecDepth 99999
namespace Go.Proofs.YtbgkpehhdibaoaaGreatDoor
open bN
open Go.Proofs.Tryz
open Go.RowKit
namespace bN
def zL(x:Ex):Bool:=
 if x.kind=1 then decide (0<=x.n)&&decide (x.n<=999999)&&x.name.toList.isEmpty&&(x.args.length==0)
 else if x.kind=2 then dP x.name.data.toList&&(x.n==0)&&(x.args.length==0)
 else if x.kind=3 then Ws x.name&&(x.n==0)&&(x.args.length==2)
 else if x.kind=4 then vU x.name&&(x.n==0)&&decide (x.args.length<=4)
 else false
end bN
variable{w w':World}{m a b c:Nat}{e0 e1 e2 e3 va vb vp v:Value}
theorem D9(m:Nat)(x:Ex):kN (m+1) x=(zL x&&x.args.all (kN m)):=by
 obtain⟨k,n,s,args⟩:=x;simp only[kN,zL];by_cases h1:k=1
 ·rw[aL h1,aL h1];cases args with
  | nil=>simp
  | cons a l=>simp
 rw[aJ h1,aJ h1];by_cases h2:k=2
 ·rw[aL h2,aL h2];cases args with
  | nil=>simp[Bool.and_comm]
  | cons a l=>simp
 rw[aJ h2,aJ h2];by_cases h3:k=3;·rw[aL h3,aL h3];simp only[Ki];rw[<-Ki,<-Ki (Ws s),Bool.and_comm (n==0)]
 rw[aJ h3,aJ h3];by_cases h4:k=4;·rw[aL h4,aL h4];simp only[Ki];rw[<-Ki,<-Ki (vU s),Bool.and_comm (n==0)]
 rw[aJ h4,aJ h4];rfl
theorem L6(w:World)(k n:Int)(s:aY)(a:Option Addr)(args:List Ex)(cap:Nat)(hs:s.size<=maxLen)(hl:args.length<=9223372036854775807):Calls prog 203 #[.agg #[O k,O n,A s,Y a args.length cap]] w λe w'=>e=dz (.bool (zL ⟨k,n,s,args⟩))/\bG w w':=by
 have HP:Hid (zL ⟨k,n,s,args⟩=if k=1 then decide (0<=n)&&decide (n<=999999)&&s.toList.isEmpty&&(args.length==0)
  else if k=2 then dP s.data.toList&&(n==0)&&(args.length==0)
  else if k=3 then Ws s&&(n==0)&&(args.length==2)
  else if k=4 then vU s&&(n==0)&&decide (args.length<=4)
  else false):=rfl
 generalize zL ⟨k,n,s,args⟩=R at *;generalize args.length=len at *;clear args;by_cases h1:k=1
 ·subst h1;rw[aL rfl]at HP;by_cases hn0:0<=n
  ·rw[gq hn0,mH]at HP;by_cases hn1:n<=999999
   ·rw[gq hn1,mH]at HP;cases hb2:s.toList.isEmpty;·rw[hb2]at HP;go_enter func203,ntmps203;go_wp2;go_ret;exact⟨aP (by rw[HP];rfl),aH _ _⟩
    ·rw[hb2,mH]at HP;go_enter func203,ntmps203;go_wp2;go_ret;exact⟨aP (by rw[HP];exact Au len 0),aH _ _⟩
   ·rw[gG hn1]at HP;go_enter func203,ntmps203;go_wp2;go_ret;exact⟨aP (by rw[HP];rfl),aH _ _⟩
  ·rw[gG hn0]at HP;go_enter func203,ntmps203;go_wp2;go_ret;exact⟨aP (by rw[HP];rfl),aH _ _⟩
 rw[aJ h1]at HP;by_cases h2:k=2
 ·subst h2;rw[aL rfl]at HP;clear h1;go_enter func203,ntmps203;go_wp2_with fail;refine(jL _ s hs).mono ?_;rintro e w' ⟨rfl,hw⟩;subst hw;cases hb:dP s.data.toList;·rw[hb]at HP;go_wp2;go_ret;exact⟨aP (by rw[HP];rfl),aH _ _⟩
  ·rw[hb,mH]at HP;cases hn:(n==0);·rw[hn]at HP;go_wp2;go_ret;exact⟨aP (by rw[HP];rfl),aH _ _⟩
   ·rw[hn,mH]at HP;go_wp2;go_ret;exact⟨aP (by rw[HP];exact Au len 0),aH _ _⟩
 rw[aJ h2]at HP;by_cases h3:k=3
 ·subst h3;rw[aL rfl]at HP;clear h1 h2;go_enter func203,ntmps203;go_wp2_with fail;refine(Gf _ s hs).mono ?_;rintro e w' ⟨rfl,hw⟩;subst hw;cases hb:Ws s;·rw[hb]at HP;go_wp2;go_ret;exact⟨aP (by rw[HP];rfl),aH _ _⟩
  ·rw[hb,mH]at HP;cases hn:(n==0);·rw[hn]at HP;go_wp2;go_ret;exact⟨aP (by rw[HP];rfl),aH _ _⟩
   ·rw[hn,mH]at HP;go_wp2;go_ret;exact⟨aP (by rw[HP];exact Au len 2),aH _ _⟩
 rw[aJ h3]at HP;by_cases h4:k=4
 ·subst h4;rw[aL rfl]at HP;clear h1 h2 h3;have q1:(w.alloc (aW #[O 4,O n,A s,Y a len cap] 107)).cell? (X w.heap.size 1)=some (O n):=by simp[go_sem]
  have q3:=xL w (O 4) (O n) (A s) (Y a len cap) 107;go_enter func203,ntmps203;go_wp2_with fail;refine(Li _ s hs).mono ?_;rintro e w1 ⟨rfl,hb1⟩;have HB:=I (Wn hb1);obtain⟨p1,p3⟩:=eY (aD q1 hb1) (aD q3 hb1);clear q1 q3 hb1;cases hb:vU s;·rw[hb]at HP;go_wp2;go_ret;exact⟨aP (by rw[HP];rfl),HB⟩
  ·rw[hb,mH]at HP;cases hn:(n==0);·rw[hn]at HP;go_wp2;go_ret;exact⟨aP (by rw[HP];rfl),HB⟩
   ·rw[hn,mH]at HP;go_wp2;go_ret;exact⟨aP (by rw[HP];exact decide_eq_decide.2 aX),HB⟩
 rw[aJ h4]at HP;have k1:(k==1)=false:=by simp[h1]
 have k2:(k==2)=false:=by simp[h2]
 have k3:(k==3)=false:=by simp[h3]
 have k4:(k==4)=false:=by simp[h4]
 clear h1 h2 h3 h4;go_enter func203,ntmps203;go_wp2;go_ret;exact⟨aP (by rw[HP]),aH _ _⟩
theorem Gz(m:Nat):∀(w:World) (c0 c1 c2 c3:Value) (x:Ex),gT w m c0 c1 c2 c3 x->Calls prog 151 #[.agg #[c0,c1,c2,c3]] w λe w'=>e=dz (.bool (kN m x))/\bG w w':=by
 induction m with
 | zero=>intro w c0 c1 c2 c3 x h;exact iW h
 | succ m ih=>
  intro w c0 c1 c2 c3 x h;have HI:=I ih;clear ih;obtain⟨rfl,rfl,rfl,hsz,hk1,hk2,a,b,off,cap,rfl,ha,hl,hel⟩:=h;obtain⟨k,n,s,args⟩:=x;simp only at hsz hk1 hk2 ha hl hel ⊢;obtain⟨HE,lK,HA⟩:=fD (D9 m ⟨k,n,s,args⟩) hel ha;have vI:=I (λw=>L6 w k n s a args cap hsz hl);clear hel ha;generalize zL ⟨k,n,s,args⟩=pb at *;obtain⟨len,hlen⟩:=bC args.length;have HL:=I hlen;rw[<-hlen]at hl HA vI ⊢;clear hlen;have q3:=xL w (O k) (O n) (A s) (Y a len cap) 107;go_enter func151,ntmps151;go_wp2_with fail;refine(vI _).mono ?_;rintro e W0 ⟨rfl,hb1⟩;replace q3:=aD q3 hb1;have HB0:=I (Wn hb1);clear hb1;cases pb;·go_wp2;go_ret;exact⟨aP (by rw[HE];rfl),HB0⟩
  ·go_wp2;go_loopw[11] (λi wr=>∃j:Nat,j<=len/\i=O j/\(∀d y,d<j->args[d]?=some y->kN m y=true)/\bG W0 wr) (λi _=>len - (intOf i).toNat);case atStart=>exact⟨0,bL _,rfl,λd y hd=>aM hd (fT _),bP _ _⟩
   case round=>
    obtain⟨j,hj,rfl,hall,hnx⟩:=hrel;have fF:=I hall;clear hall;by_cases hjl:j<len
    ·obtain⟨y,hy⟩:∃y,args[j]?=some y:=⟨_,bD (by rw[<-HL];exact hjl)⟩;obtain⟨e0,e1,e2,e3,g0,g1,g2,g3,hye⟩:=lK j y hy;have HY:=I hy;obtain rfl:=HA aX;have hbb:=up HB0 hnx;obtain⟨u0,u1⟩:=eY (aD g0 hbb) (aD g1 hbb);have u2':=aD g2 hbb;have UW:=aD g3 hbb;have HYE:=I (hye.below hbb);obtain⟨a',cap',rfl,rfl,rfl,rfl⟩:=hye.shape;have fO:=I hnx;clear g0 g1 g2 g3 hye hy hbb hnx;go_wp2_with fail;refine(HI _ _ _ _ _ y (HYE.below (aH _ _))).mono ?_;rintro e w5 ⟨rfl,hb5⟩;have Cg:=I (up fO (Wn hb5));clear hb5;cases hyb:kN m y;·have HYB:=I hyb;go_wp2;go_ret;exact⟨aP (by rw[HE,Zt HY HYB];rfl),up HB0 Cg⟩
     ·have HYB:=I hyb;go_wp2;go_roundw;case rel=>exact⟨j+1,by omega,by go_num,λd z hd hz=>by
       by_cases e:d=j;·subst e;rw[HY]at hz;cases hz;exact HYB
       ·exact fF d z aX hz,Cg⟩
      case measure=>simp[intOf];omega
    ·go_wp2;go_ret;have hall:args.all (kN m)=true:=Zr (λd z hz=>fF d z (by have:=(dK.1 hz).1;have:=HL.out;omega) hz);exact⟨aP (by rw[HE,hall];rfl),up HB0 hnx⟩
theorem Ma(w:World)(k:Int)(nm:aY)(ke ne:Int)(se:aY)(ae:Option Addr)(le ce:Nat)(a1 a2:Option Addr)(l1 l2 c1 c2:Nat)(R:Bool)(hR:R=if k=1\/k=4 then dP nm.data.toList&&(l2==0)&&(l1==0)else if k=2 then nm.toList.isEmpty else if k=3 then nm.toList.isEmpty&&(l2==0)else false)(hs:nm.size<=maxLen)(_h1:l1<=9223372036854775807)(_h2:l2<=9223372036854775807):Calls prog 245 #[.agg #[O k,A nm,O ke,O ne,A se,Y ae le ce,Y a1 l1 c1,Y a2 l2 c2]] w λe w'=>e=dz (.bool R)/\bG w w':=by
 have HP:=I hR;clear hR;by_cases k14:k=1\/k=4
 ·rw[aL k14]at HP;rcases k14 with rfl|rfl;all_goals
   go_enter func245,ntmps245;go_wp2_with fail;refine(jL _ nm hs).mono ?_;rintro e w' ⟨rfl,hw⟩;subst hw;cases hb:dP nm.data.toList;·rw[hb]at HP;go_wp2;go_ret;exact⟨aP (by rw[HP];rfl),aH _ _⟩
   ·rw[hb,mH]at HP;by_cases hl1:l1=0
    ·have hl1':((l1:Int)==0)=true:=by simp[hl1]
     rw[show(l1==0)=true from by simp[hl1],Bool.and_true]at HP;clear hl1;go_wp2;go_ret;exact⟨aP (by rw[HP];exact Au l2 0),aH _ _⟩
    ·have hl1':((l1:Int)==0)=false:=by simp[hl1]
     rw[show(l1==0)=false from by simp[hl1],OO]at HP;clear hl1;go_wp2;go_ret;exact⟨aP (by rw[HP]),aH _ _⟩
 rw[aJ k14]at HP;have n1:(k==1)=false:=by simp;omega
 have n4:(k==4)=false:=by simp;omega
 by_cases k2:k=2;·subst k2;rw[aL rfl]at HP;clear k14 n1 n4;generalize hb:nm.toList.isEmpty=b2 at *;have HB:=I hb;cases b2;all_goals go_enter func245,ntmps245;go_wp2;go_ret;exact⟨aP (by rw[HP]),aH _ _⟩
 rw[aJ k2]at HP;have n2:(k==2)=false:=by simp;omega
 by_cases k3:k=3
 ·subst k3;rw[aL rfl]at HP;clear k14 k2 n1 n2 n4;cases hb:nm.toList.isEmpty;·rw[hb]at HP;go_enter func245,ntmps245;go_wp2;go_ret;exact⟨aP (by rw[HP];rfl),aH _ _⟩
  ·rw[hb,mH]at HP;go_enter func245,ntmps245;go_wp2;go_ret;exact⟨aP (by rw[HP];exact Au l2 0),aH _ _⟩
 rw[aJ k3]at HP;have n3:(k==3)=false:=by simp;omega
 clear k14 k2 k3;go_enter func245,ntmps245;go_wp2;go_ret;exact⟨aP (by rw[HP]),aH _ _⟩
def RP(w:World)(m:Nat)(e0 e1 e2 e3 va vb:Value)(s:St):Prop:=
 K5 s.kind/\s.name.size<=maxLen/\gT w m e0 e1 e2 e3 s.e/\fB w m va s.a/\fB w m vb s.b
theorem RP.below{s:St}(h:RP w m e0 e1 e2 e3 va vb s)(hb:bG w w'):RP w' m e0 e1 e2 e3 va vb s:=
 ⟨h.1,h.2.1,h.2.2.1.below hb,h.2.2.2.1.below hb,h.2.2.2.2.below hb⟩
section
variable (w : World) (c0 c1 c2 c3 c4 c5 c6 c7 : Value) (t : TypeId)
theorem box8_0:(w.alloc (.cells #[c0,c1,c2,c3,c4,c5,c6,c7] t)).cell? (X w.heap.size 0)=some c0:=by simp[go_sem]
theorem box8_2:(w.alloc (.cells #[c0,c1,c2,c3,c4,c5,c6,c7] t)).cell? (X w.heap.size 2)=some c2:=by simp[go_sem]
theorem box8_3:(w.alloc (.cells #[c0,c1,c2,c3,c4,c5,c6,c7] t)).cell? (X w.heap.size 3)=some c3:=by simp[go_sem]
theorem box8_4:(w.alloc (.cells #[c0,c1,c2,c3,c4,c5,c6,c7] t)).cell? (X w.heap.size 4)=some c4:=by simp[go_sem]
theorem box8_5:(w.alloc (.cells #[c0,c1,c2,c3,c4,c5,c6,c7] t)).cell? (X w.heap.size 5)=some c5:=by simp[go_sem]
end
theorem Mc(m:Nat)(hi:∀(w:World) (v:Value) (l:List St),fB w m v l->Calls prog 150 #[v] w λe w'=>e=dz (.bool (mG m l))/\bG w w')(w:World)(e0 e1 e2 e3 va vb:Value)(s:St)(h:RP w m e0 e1 e2 e3 va vb s):Calls prog 202 #[.agg #[O s.kind,A s.name,e0,e1,e2,e3,va,vb]] w λe w'=>e=dz (.bool (stB m s))/\bG w w':=by
 have HI:=I hi;clear hi;have HS:=I h;obtain⟨_,hnm,hx,hsa,hsb⟩:=h;obtain⟨ae,ce,rfl,rfl,rfl,rfl⟩:=hx.shape;obtain⟨a1,jS,rfl,hl1⟩:=hsa.shape;obtain⟨a2,cap2,rfl,hl2⟩:=hsb.shape;clear hx hsa hsb;have HE:Hid (stB m s=(stH s&&kN m s.e&&mG m s.a&&mG m s.b)):=rfl;have HSH:=I (λw=>Ma w s.kind s.name s.e.kind s.e.n s.e.name ae s.e.args.length ce a1 a2 s.a.length s.b.length jS cap2 (stH s) rfl hnm hl1 hl2);generalize s.e.args.length=le at *;generalize s.a.length=l1 at *;generalize s.b.length=l2 at *;obtain⟨q2,q3,q4,q5⟩:=tZ (box8_2 w (O s.kind) (A s.name) (O s.e.kind) (O s.e.n) (A s.e.name) (Y ae le ce) (Y a1 l1 jS) (Y a2 l2 cap2) 164) (box8_3 w (O s.kind) (A s.name) (O s.e.kind) (O s.e.n) (A s.e.name) (Y ae le ce) (Y a1 l1 jS) (Y a2 l2 cap2) 164) (box8_4 w (O s.kind) (A s.name) (O s.e.kind) (O s.e.n) (A s.e.name) (Y ae le ce) (Y a1 l1 jS) (Y a2 l2 cap2) 164) (box8_5 w (O s.kind) (A s.name) (O s.e.kind) (O s.e.n) (A s.e.name) (Y ae le ce) (Y a1 l1 jS) (Y a2 l2 cap2) 164);obtain⟨q6,q7⟩:=eY (FX w (O s.kind) (A s.name) (O s.e.kind) (O s.e.n) (A s.e.name) (Y ae le ce) (Y a1 l1 jS) (Y a2 l2 cap2) 164) (FY w (O s.kind) (A s.name) (O s.e.kind) (O s.e.n) (A s.e.name) (Y ae le ce) (Y a1 l1 jS) (Y a2 l2 cap2) 164);go_enter func202,ntmps202;go_wp2_with fail;refine(HSH _).mono ?_;rintro e w1 ⟨rfl,hb1⟩;replace q2:=aD q2 hb1;replace q3:=aD q3 hb1;replace q4:=aD q4 hb1;replace q5:=aD q5 hb1;replace q6:=aD q6 hb1;replace q7:=aD q7 hb1;have HB1:=I (Wn hb1);clear hb1;generalize stH s=sh at *;cases sh;·go_wp2;go_ret;exact⟨aP (by rw[HE];rfl),HB1⟩
 go_wp2_with fail;refine(Gz m _ _ _ _ _ s.e (HS.below HB1).2.2.1).mono ?_;rintro e w2 ⟨rfl,hb2⟩;replace q6:=aD q6 hb2;replace q7:=aD q7 hb2;have HB2:=I (up HB1 hb2);clear hb2 q2 q3 q4 q5;generalize kN m s.e=xb at *;cases xb;·go_wp2;go_ret;exact⟨aP (by rw[HE];rfl),HB2⟩
 go_wp2_with fail;refine(HI _ _ s.a (HS.below HB2).2.2.2.1).mono ?_;rintro e w3 ⟨rfl,hb3⟩;replace q7:=aD q7 hb3;have HB3:=I (up HB2 hb3);clear hb3 q6;generalize mG m s.a=ab at *;cases ab;·go_wp2;go_ret;exact⟨aP (by rw[HE];rfl),HB3⟩
 go_wp2_with fail;refine(HI _ _ s.b (HS.below HB3).2.2.2.2).mono ?_;rintro e w4 ⟨rfl,hb4⟩;have DZ:=I (up HB3 hb4);clear hb4 q7;generalize mG m s.b=bb at *;go_wp2;go_ret;exact⟨aP (by rw[HE];cases bb<;>rfl),DZ⟩
theorem ED(m:Nat):∀(w:World) (v:Value) (l:List St),fB w m v l->Calls prog 150 #[v] w λe w'=>e=dz (.bool (mG m l))/\bG w w':=by
 induction m with
 | zero=>intro w v l h;exact iW h
 | succ m ih=>
  intro w v l h;have HI:=I (Mc m ih);clear ih;obtain⟨a,b,off,cap,rfl,ha,hl,hel⟩:=h;obtain⟨HE,lK,HA⟩:=fD (zB m l) hel ha;clear hel ha;obtain⟨len,hlen⟩:=bC l.length;have HL:=I hlen;rw[<-hlen]at hl HA ⊢;clear hlen;go_enter func150,ntmps150;go_wp2;go_loopw[7] (λi wr=>∃j:Nat,j<=len/\i=O j/\(∀d y,d<j->l[d]?=some y->stB m y=true)/\bG w wr) (λi _=>len - (intOf i).toNat);case atStart=>exact⟨0,bL _,rfl,λd y hd=>aM hd (fT _),bP _ _⟩
  case round=>
   obtain⟨j,hj,rfl,hall,hnx⟩:=hrel;have fF:=I hall;clear hall;by_cases hjl:j<len
   ·obtain⟨y,hy⟩:∃y,l[j]?=some y:=⟨_,bD (by rw[<-HL];exact hjl)⟩;obtain⟨k1,k2,e0,e1,e2,e3,va,vb,g0,g1,g2,g3,g4,g5,g6,g7,hx,hsa,hsb⟩:=lK j y hy;have HY:=I hy;obtain rfl:=HA aX;obtain⟨u0,u1⟩:=eY (aD g0 hnx) (aD g1 hnx);have u2':=aD g2 hnx;have UW:=aD g3 hnx;obtain⟨u4,u5,u6,u7⟩:=tZ (aD g4 hnx) (aD g5 hnx) (aD g6 hnx) (aD g7 hnx);have HST:Hid (RP wr m e0 e1 e2 e3 va vb y):=I ⟨k1,k2,hx.below hnx,hsa.below hnx,hsb.below hnx⟩;obtain⟨ae,ce,rfl,rfl,rfl,rfl⟩:=hx.shape;obtain⟨a1,jS,rfl,hl1⟩:=hsa.shape;obtain⟨a2,cap2,rfl,hl2⟩:=hsb.shape;have fO:=I hnx;clear g0 g1 g2 g3 g4 g5 g6 g7 hx hsa hsb hy hnx;go_wp2_with fail;refine(HI _ _ _ _ _ _ _ y (HST.below (aH _ _))).mono ?_;rintro e w5 ⟨rfl,hb5⟩;have Cg:=I (up fO (Wn hb5));clear hb5;cases hyb:stB m y;·have HYB:=I hyb;go_wp2;go_ret;exact⟨aP (by rw[HE,Zw HY HYB]),Cg⟩
    ·have HYB:=I hyb;go_wp2;go_roundw;case rel=>exact⟨j+1,by omega,by go_num,λd z hd hz=>by
      by_cases e:d=j;·subst e;rw[HY]at hz;cases hz;exact HYB
      ·exact fF d z aX hz,Cg⟩
     case measure=>simp[intOf];omega
   ·go_wp2;go_ret;have hall:l.all (stB m)=true:=Zv (λd z hz=>fF d z (by have:=(dK.1 hz).1;have:=HL.out;omega) hz);exact⟨aP (by rw[HE,hall]),hnx⟩
namespace bN
def iG{α:Type}(f:α->Nat)(l:List α):Nat:=l.foldl (λa y=>max a (f y)) 0
def vQ:Nat->Ex->Nat
 | 0,_=>0
 | m+1,x=>if x.kind=1\/x.kind=2 then 0 else 1+iG (vQ m) x.args
def I9:Nat->List St->Nat
 | 0,_=>0
 | m+1,l=>iG (λs=>1+if s.kind=2\/s.kind=3 then max (max (vQ m s.e) (1+I9 m s.a)) (1+I9 m s.b)else vQ m s.e) l
def OP(m:Nat)(s:St):Nat:=1+if s.kind=2\/s.kind=3 then max (max (vQ m s.e) (1+I9 m s.a)) (1+I9 m s.b)else vQ m s.e
theorem GA(m:Nat)(l:List St):I9 (m+1) l=iG (OP m) l:=rfl
def U2(m:Nat)(f:Fu):Nat:=1+max (max 1 (I9 m f.body)) (vQ m f.result)
def moD(m:Nat)(x:Mo):Nat:=1+max 1 (iG (U2 m) x.bg)
end bN
section
variable {α : Type} {f : α → Nat}
theorem Kj(l:List α)(a:Nat):l.foldl (λa y=>max a (f y)) a=max a (iG f l):=by
 induction l generalizing a with
 | nil=>simp[iG]
 | cons y l ih =>unfold iG;rw[rF,rF,ih,ih];omega
theorem cK(y:α)(l:List α):iG f (y::l)=max (f y) (iG f l):=by rw[iG,rF,Kj];omega
theorem oJ(l k:List α):iG f (l++k)=max (iG f l) (iG f k):=by rw[iG,OQ,Kj];rfl
theorem CO{l:List α}{j:Nat}{y:α}(h:l[j]?=some y):iG f (l.take (j+1))=max (iG f (l.take j)) (f y):=by obtain⟨hj,rfl⟩:=dK.1 h;rw[rX hj,oJ,cK];simp[iG]
theorem Fx{B:Nat}{l:List α}(h:∀y∈l,f y<=B):iG f l<=B:=by
 induction l with
 | nil=>exact bL _
 | cons y l ih =>rw[cK];obtain⟨h1,h2⟩:=eY (h y dx) (ih (λz hz=>h z (by simp[hz])));omega
theorem GD{g:α->Nat}{l:List α}(h:∀y∈l,f y<=g y):iG f l<=(l.map g).sum:=by
 induction l with
 | nil=>exact bL _
 | cons y l ih =>rw[cK,fG,iZ];obtain⟨h1,h2⟩:=eY (h y dx) (ih (λz hz=>h z (by simp[hz])));omega
theorem uM(l:List α)(j:Nat):iG f (l.take j)<=iG f l:=by
 conv=>rhs;rw[<-oV j l]
 rw[oJ];omega
end
theorem CP:∀(m:Nat) (x:Ex),vQ m x<=iX m x
 | 0,_=>bE _
 | m+1,x=>by simp only[vQ,iX];have:=GD (f:=vQ m) (g:=iX m) (l:=x.args) (λy _=>CP m y);split<;>omega
theorem zM:∀(m:Nat) (l:List St),I9 m l<=dY m l
 | 0,_=>bE _
 | m+1,l=>by simp only[I9,dY];refine bF (GD (g:=λs=>s.name.size+3+iX m s.e+dY m s.a+dY m s.b) (λs _=>?_)) (dF _);obtain⟨h1,h2,h3⟩:=l9 (CP m s.e) (zM m s.a) (zM m s.b);split<;>omega
theorem wrap_small{x:Int}(h0:0<=x)(h1:x<=9223372036854775807):IntKind.i64.wrap x=x:=by rw[IntKind.wrap_i64];omega
theorem GH(h:c=max a b):O (max (a:Int) (b:Int))=O c:=by rw[h];congr 1;omega
theorem yS(m:Nat):∀(w:World) (c0 c1 c2 c3:Value) (x:Ex),gT w m c0 c1 c2 c3 x->iX m x<=1048576->Calls prog 205 #[.agg #[c0,c1,c2,c3]] w λe w'=>e=dz (O (vQ m x))/\bG w w':=by
 induction m with
 | zero=>intro w c0 c1 c2 c3 x h;exact iW h
 | succ m ih=>
  intro w c0 c1 c2 c3 x h hw;have HI:=I ih;clear ih;obtain⟨rfl,rfl,rfl,hsz,hk1,hk2,a,b,off,cap,rfl,ha,hl,hel⟩:=h;obtain⟨k,n,s,args⟩:=x;simp only at hsz hk1 hk2 ha hl hel ⊢;obtain⟨lK,HA⟩:=bU hel ha;have HW:Hid (∀(i:Nat) (y:Ex),args[i]?=some y->iX m y<=1048576):=I (λi y hy=>by have:iX m y<=(args.map (iX m)).sum:=uJ (eT hy);simp only[iX]at hw;omega);have HM:Hid (iG (vQ m) args<=1048576):=I (by have:=GD (f:=vQ m) (g:=iX m) (l:=args) (λy _=>CP m y);simp only[iX]at hw;omega);have HE:Hid (vQ (m+1) ⟨k,n,s,args⟩=if k=1\/k=2 then 0 else 1+iG (vQ m) args):=rfl;clear hel ha hw;obtain⟨len,hlen⟩:=bC args.length;have HL:=I hlen;rw[<-hlen]at hl HA ⊢;clear hlen;by_cases h1:k=1;·subst h1;go_enter func205,ntmps205;go_wp2;go_ret;exact⟨bT (by rw[HE];rfl),aH _ _⟩
  by_cases h2:k=2;·subst h2;go_enter func205,ntmps205;go_wp2;go_ret;exact⟨bT (by rw[HE];rfl),aH _ _⟩
  rw[aJ aX]at HE;have k1:(k==1)=false:=by simp[h1]
  have k2:(k==2)=false:=by simp[h2]
  clear h1 h2;have HB0:=I (aH w (aW #[O k,O n,A s,Y a len cap] 107));have q3:=xL w (O k) (O n) (A s) (Y a len cap) 107;go_enter func205,ntmps205;go_wp2_with fail;generalize (w.alloc (aW #[O k,O n,A s,Y a len cap] 107))=W0 at *;go_loopw[3,17] (λo i wr=>∃j:Nat,j<=len/\i=O j/\o=O (iG (vQ m) (args.take j))/\bG W0 wr) (λ_ i _=>len - (intOf i).toNat);case atStart=>exact⟨0,bL _,rfl,rfl,bP _ _⟩
  case round=>
   obtain⟨j,hj,rfl,rfl,hnx⟩:=hrel;have hacc:=bF (uM (f:=vQ m) args j) HM;by_cases hjl:j<len
   ·obtain⟨y,hy⟩:∃y,args[j]?=some y:=⟨_,bD (by rw[<-HL];exact hjl)⟩;obtain⟨e0,e1,e2,e3,g0,g1,g2,g3,hye⟩:=lK j y hy;obtain rfl:=HA aX;have hbb:=up HB0 hnx;obtain⟨u0,u1⟩:=eY (aD g0 hbb) (aD g1 hbb);have u2':=aD g2 hbb;have UW:=aD g3 hbb;have HYE:=I (hye.below hbb);obtain⟨a',cap',rfl,rfl,rfl,rfl⟩:=hye.shape;obtain⟨HST,fO⟩:=bU (CO (f:=vQ m) hy) hnx;have hyw:=HW j y hy;clear g0 g1 g2 g3 hye hy hbb hnx;go_wp2_with fail;refine(HI _ _ _ _ _ y (HYE.below (aH _ _)) hyw).mono ?_;rintro e w5 ⟨rfl,hb5⟩;have Cg:=I (up fO (Wn hb5));clear hb5 hyw;generalize vQ m y=dy at *;generalize iG (vQ m) (args.take j)=acc at *;go_wp2_with fail;go_roundw;case rel=>exact⟨j+1,by omega,by go_num,GH HST,Cg⟩
    case measure=>simp[intOf];omega
   ·have e:args.take j=args:=fU (by have:=HL.out;omega);rw[e]at hacc ⊢;clear e;generalize iG (vQ m) args=acc at *;go_wp2;go_ret;exact⟨bT (by rw[HE];go_num),up HB0 hnx⟩
theorem EF(m:Nat)(hi:∀(w:World) (v:Value) (l:List St),fB w m v l->dY m l<=1048576->Calls prog 204 #[v] w λe w'=>e=dz (O (I9 m l))/\bG w w')(w:World)(e0 e1 e2 e3 va vb:Value)(s:St)(h:RP w m e0 e1 e2 e3 va vb s)(hw:s.name.size+3+iX m s.e+dY m s.a+dY m s.b<=1048576):Calls prog 248 #[.agg #[O s.kind,A s.name,e0,e1,e2,e3,va,vb]] w λe w'=>e=dz (O (OP m s))/\bG w w':=by
 have HI:=I hi;clear hi;have HS:=I h;obtain⟨_,hnm,hx,hsa,hsb⟩:=h;obtain⟨ae,ce,rfl,rfl,rfl,rfl⟩:=hx.shape;obtain⟨a1,jS,rfl,hl1⟩:=hsa.shape;obtain⟨a2,cap2,rfl,hl2⟩:=hsb.shape;clear hx hsa hsb;have HE:Hid (OP m s=1+if s.kind=2\/s.kind=3 then max (max (vQ m s.e) (1+I9 m s.a)) (1+I9 m s.b)else vQ m s.e):=rfl;have w1:iX m s.e<=1048576:=by omega
 have w2:dY m s.a<=1048576:=by omega
 have w3:dY m s.b<=1048576:=by omega
 obtain⟨d1,d2,d3⟩:=l9 (bF (CP m s.e) w1) (bF (zM m s.a) w2) (bF (zM m s.b) w3);clear hw;generalize s.e.args.length=le at *;generalize s.a.length=l1 at *;generalize s.b.length=l2 at *;have HB0:=I (aH w (aW #[O s.kind,A s.name,O s.e.kind,O s.e.n,A s.e.name,Y ae le ce,Y a1 l1 jS,Y a2 l2 cap2] 164));obtain⟨q0,q6,q7⟩:=l9 (box8_0 w (O s.kind) (A s.name) (O s.e.kind) (O s.e.n) (A s.e.name) (Y ae le ce) (Y a1 l1 jS) (Y a2 l2 cap2) 164) (FX w (O s.kind) (A s.name) (O s.e.kind) (O s.e.n) (A s.e.name) (Y ae le ce) (Y a1 l1 jS) (Y a2 l2 cap2) 164) (FY w (O s.kind) (A s.name) (O s.e.kind) (O s.e.n) (A s.e.name) (Y ae le ce) (Y a1 l1 jS) (Y a2 l2 cap2) 164);go_enter func248,ntmps248;go_wp2_with fail;refine(yS m _ _ _ _ _ s.e (HS.below HB0).2.2.1 w1).mono ?_;rintro e w5 ⟨rfl,hb5⟩;replace q0:=aD q0 hb5;replace q6:=aD q6 hb5;replace q7:=aD q7 hb5;have HN:=I (up HB0 hb5);clear hb5;obtain⟨HSA,OT⟩:=bU ((HS.below HN).2.2.2.1) ((HS.below HN).2.2.2.2);generalize vQ m s.e=de at *;by_cases hk:s.kind=2\/s.kind=3
 ·rw[aL hk]at HE
  have HF:Hid (∀wx,Hid (bG w5 wx)->Hid (bG w5 wx)/\wx.cell? (X w.heap.size 6)=some (Y a1 l1 jS)/\wx.cell? (X w.heap.size 7)=some (Y a2 l2 cap2)):=
   λwx h=>⟨h,aD q6 h,aD q7 h⟩
  have yA:Hid (bG w5 w5):=I (bP _ _);generalize hda:I9 m s.a=da at *;have HDA:=I hda;clear hda;generalize hdb:I9 m s.b=db at *;have HDB:=I hdb;clear hdb q6 q7;have WA:Hid (IntKind.i64.wrap (1+(da:Int))=1+(da:Int)):=I (wrap_small aX aX);have WB:Hid (IntKind.i64.wrap (1+(db:Int))=1+(db:Int)):=I (wrap_small aX aX);rcases hk with hk|hk;all_goals
   rw[hk]at q0;go_wp2_with fail
   go_region_held3 (λwx=>Hid (bG w5 wx)/\wx.cell? (X w.heap.size 6)=some (Y a1 l1 jS)/\wx.cell? (X w.heap.size 7)=some (Y a2 l2 cap2))
    (first|exact HF _ HW31|exact HF _ RQ|exact HF _ (I yA.out.drew))
    (first
     | (go_at_call_of 204 (a1);refine(HI _ _ s.a ?_ w2).mono ?_;(exact HSA.below yA.drew);rintro e w30 ⟨rfl,hb30⟩;have RQ:=I (up yA.drew hb30);clear hb30;rw[HDA])
     | (go_at_call_of 204 (a2);refine(HI _ _ s.b ?_ w3).mono ?_;(exact OT.below RQ);rintro e w31 ⟨rfl,hb31⟩;have HW31:=I (up RQ hb31);clear hb31;rw[HDB]))
   all_goals go_wp2
   all_goals go_ret;exact⟨bT (by rw[HE];simp only[WA.out,WB.out]at *;omega),up HN HW31⟩
 ·rw[aJ hk]at HE;have k2:(s.kind==2)=false:=by simp;omega
  have k3:(s.kind==3)=false:=by simp;omega
  clear hk q6 q7;go_wp2;go_ret;exact⟨bT (by rw[HE];go_num),HN⟩
theorem Bb(m:Nat):∀(w:World) (v:Value) (l:List St),fB w m v l->dY m l<=1048576->Calls prog 204 #[v] w λe w'=>e=dz (O (I9 m l))/\bG w w':=by
 induction m with
 | zero=>intro w v l h;exact iW h
 | succ m ih=>
  intro w v l h hw;have HI:=I (EF m ih);clear ih;obtain⟨a,b,off,cap,rfl,ha,hl,hel⟩:=h;have HE:=I (GA m l);have HM:Hid (iG (OP m) l<=1048576):=I (by rw[<-GA];exact bF (zM _ _) hw);have HW:Hid (∀(i:Nat) (y:St),l[i]?=some y->y.name.size+3+iX m y.e+dY m y.a+dY m y.b<=1048576):=I (λi y hy=>by have:y.name.size+3+iX m y.e+dY m y.a+dY m y.b<=(l.map λs:St=>s.name.size+3+iX m s.e+dY m s.a+dY m s.b).sum:=uJ (f:=λs:St=>s.name.size+3+iX m s.e+dY m s.a+dY m s.b) (eT hy);simp only[dY]at hw;omega);obtain⟨lK,HA⟩:=bU hel ha;clear hel ha hw;obtain⟨len,hlen⟩:=bC l.length;have HL:=I hlen;rw[<-hlen]at hl HA ⊢;clear hlen;go_enter func204,ntmps204;go_wp2;go_loopw[3,8] (λo i wr=>∃j:Nat,j<=len/\i=O j/\o=O (iG (OP m) (l.take j))/\bG w wr) (λ_ i _=>len - (intOf i).toNat);case atStart=>exact⟨0,bL _,rfl,rfl,bP _ _⟩
  case round=>
   obtain⟨j,hj,rfl,rfl,hnx⟩:=hrel;have hacc:=bF (uM (f:=OP m) l j) HM;by_cases hjl:j<len
   ·obtain⟨y,hy⟩:∃y,l[j]?=some y:=⟨_,bD (by rw[<-HL];exact hjl)⟩;obtain⟨k1,k2,e0,e1,e2,e3,va,vb,g0,g1,g2,g3,g4,g5,g6,g7,hx,hsa,hsb⟩:=lK j y hy;have HST:=I (CO (f:=OP m) hy);have hyw:=HW j y hy;obtain rfl:=HA aX;obtain⟨u0,u1⟩:=eY (aD g0 hnx) (aD g1 hnx);have u2':=aD g2 hnx;have UW:=aD g3 hnx;obtain⟨u4,u5,u6,u7⟩:=tZ (aD g4 hnx) (aD g5 hnx) (aD g6 hnx) (aD g7 hnx);have HAT:Hid (RP wr m e0 e1 e2 e3 va vb y):=I ⟨k1,k2,hx.below hnx,hsa.below hnx,hsb.below hnx⟩;obtain⟨ae,ce,rfl,rfl,rfl,rfl⟩:=hx.shape;obtain⟨a1,jS,rfl,hl1⟩:=hsa.shape;obtain⟨a2,cap2,rfl,hl2⟩:=hsb.shape;have fO:=I hnx;clear g0 g1 g2 g3 g4 g5 g6 g7 hx hsa hsb hy hnx;go_wp2_with fail;refine(HI _ _ _ _ _ _ _ y (HAT.below (aH _ _)) hyw).mono ?_;rintro e w5 ⟨rfl,hb5⟩;have Cg:=I (up fO (Wn hb5));clear hb5;generalize OP m y=dy at *;generalize iG (OP m) (l.take j)=acc at *;go_wp2_with fail;go_roundw;case rel=>exact⟨j+1,by omega,by go_num,GH HST,Cg⟩
    case measure=>simp[intOf];omega
   ·have e:l.take j=l:=fU (by have:=HL.out;omega);rw[e]at hacc ⊢;clear e;generalize iG (OP m) l=acc at *;go_wp2;go_ret;exact⟨bT (by rw[HE]),hnx⟩
def RS(w:World)(m:Nat)(vp vb e0 e1 e2 e3:Value)(f:Fu):Prop:=
 f.name.size<=maxLen/\Strs w vp f.params/\fB w m vb f.body/\gT w m e0 e1 e2 e3 f.result
theorem RS.below{f:Fu}(h:RS w m vp vb e0 e1 e2 e3 f)(hb:bG w w'):RS w' m vp vb e0 e1 e2 e3 f:=
 ⟨h.1,h.2.1.below hb,h.2.2.1.below hb,h.2.2.2.below hb⟩
theorem Strs.shape{l:List aY}(h:Strs w v l):∃a cap,v=Y a l.length cap/\l.length<=9223372036854775807:=by obtain⟨a,b,off,cap,h1,_,h2,_⟩:=h;exact⟨a,cap,h1,h2⟩
section
variable (w : World) (c0 c1 c2 c3 c4 c5 c6 : Value) (t : TypeId)
theorem box7_0:(w.alloc (.cells #[c0,c1,c2,c3,c4,c5,c6] t)).cell? (X w.heap.size 0)=some c0:=by simp[go_sem]
theorem box7_1:(w.alloc (.cells #[c0,c1,c2,c3,c4,c5,c6] t)).cell? (X w.heap.size 1)=some c1:=by simp[go_sem]
theorem box7_2:(w.alloc (.cells #[c0,c1,c2,c3,c4,c5,c6] t)).cell? (X w.heap.size 2)=some c2:=by simp[go_sem]
theorem box7_3:(w.alloc (.cells #[c0,c1,c2,c3,c4,c5,c6] t)).cell? (X w.heap.size 3)=some c3:=by simp[go_sem]
theorem box7_4:(w.alloc (.cells #[c0,c1,c2,c3,c4,c5,c6] t)).cell? (X w.heap.size (3+1))=some c4:=by simp[go_sem]
theorem box7_5:(w.alloc (.cells #[c0,c1,c2,c3,c4,c5,c6] t)).cell? (X w.heap.size (3+2))=some c5:=by simp[go_sem]
theorem box7_6:(w.alloc (.cells #[c0,c1,c2,c3,c4,c5,c6] t)).cell? (X w.heap.size (3+3))=some c6:=by simp[go_sem]
end
theorem Md(m:Nat)(w:World)(vp vb e0 e1 e2 e3:Value)(f:Fu)(h:RS w m vp vb e0 e1 e2 e3 f)(hw:dY m f.body+iX m f.result<=1048576):Calls prog 152 #[.agg #[A f.name,vp,vb,e0,e1,e2,e3]] w λe w'=>e=dz (O (U2 m f))/\bG w w':=by
 have HS:=I h;obtain⟨hnm,hp,hsb,hx⟩:=h;obtain⟨ae,ce,rfl,rfl,rfl,rfl⟩:=hx.shape;obtain⟨a1,jS,rfl,hl1⟩:=hsb.shape;obtain⟨a2,cap2,rfl,hl2⟩:=hp.shape;clear hx hsb hp;have HE:Hid (U2 m f=1+max (max 1 (I9 m f.body)) (vQ m f.result)):=rfl;have w1:iX m f.result<=1048576:=by omega
 have w2:dY m f.body<=1048576:=by omega
 obtain⟨d1,d2⟩:=eY (bF (CP m f.result) w1) (bF (zM m f.body) w2);clear hw;generalize f.result.args.length=le at *;generalize f.body.length=l1 at *;generalize f.params.length=l2 at *;have HB0:=I (aH w (aW #[A f.name,Y a2 l2 cap2,Y a1 l1 jS,O f.result.kind,O f.result.n,A f.result.name,Y ae le ce] 109));obtain⟨q2,q3,q4,q5⟩:=tZ (box7_2 w (A f.name) (Y a2 l2 cap2) (Y a1 l1 jS) (O f.result.kind) (O f.result.n) (A f.result.name) (Y ae le ce) 109) (box7_3 w (A f.name) (Y a2 l2 cap2) (Y a1 l1 jS) (O f.result.kind) (O f.result.n) (A f.result.name) (Y ae le ce) 109) (box7_4 w (A f.name) (Y a2 l2 cap2) (Y a1 l1 jS) (O f.result.kind) (O f.result.n) (A f.result.name) (Y ae le ce) 109) (box7_5 w (A f.name) (Y a2 l2 cap2) (Y a1 l1 jS) (O f.result.kind) (O f.result.n) (A f.result.name) (Y ae le ce) 109);have q6:=box7_6 w (A f.name) (Y a2 l2 cap2) (Y a1 l1 jS) (O f.result.kind) (O f.result.n) (A f.result.name) (Y ae le ce) 109;go_enter func152,ntmps152;go_wp2_with fail;generalize (w.alloc (aW #[A f.name,Y a2 l2 cap2,Y a1 l1 jS,O f.result.kind,O f.result.n,A f.result.name,Y ae le ce] 109))=w5 at *;obtain⟨OT,HX⟩:=bU ((HS.below HB0).2.2.1) ((HS.below HB0).2.2.2)
 have HF:Hid (∀wx,Hid (bG w5 wx)->Hid (bG w5 wx)/\wx.cell? (X w.heap.size 2)=some (Y a1 l1 jS)/\wx.cell? (X w.heap.size 3)=some (O f.result.kind)/\
  wx.cell? (X w.heap.size (3+1))=some (O f.result.n)/\wx.cell? (X w.heap.size (3+2))=some (A f.result.name)/\wx.cell? (X w.heap.size (3+3))=some (Y ae le ce)):=
  λwx h=>⟨h,aD q2 h,aD q3 h,aD q4 h,aD q5 h,aD q6 h⟩
 have yA:Hid (bG w5 w5):=I (bP _ _);generalize hda:I9 m f.body=da at *;have HDA:=I hda;clear hda;generalize hdb:vQ m f.result=db at *;have HDB:=I hdb;clear hdb q2 q3 q4 q5 q6;have WA:Hid (IntKind.i64.wrap (1+(da:Int))=1+(da:Int)):=I (wrap_small aX aX);have WB:Hid (IntKind.i64.wrap (1+(db:Int))=1+(db:Int)):=I (wrap_small aX aX);have W2:Hid (IntKind.i64.wrap 2=2):=I (wrap_small aX aX)
 go_region_held3 (λwx=>Hid (bG w5 wx)/\wx.cell? (X w.heap.size 2)=some (Y a1 l1 jS)/\wx.cell? (X w.heap.size 3)=some (O f.result.kind)/\
  wx.cell? (X w.heap.size (3+1))=some (O f.result.n)/\wx.cell? (X w.heap.size (3+2))=some (A f.result.name)/\wx.cell? (X w.heap.size (3+3))=some (Y ae le ce))
  (first|exact HF _ HW31|exact HF _ RQ|exact HF _ (I yA.out.drew))
  (first
   | (go_at_call 204;refine(Bb m _ _ f.body ?_ w2).mono ?_;(exact OT.below yA.drew);rintro e w30 ⟨rfl,hb30⟩;have RQ:=I (up yA.drew hb30);clear hb30;rw[HDA])
   | (go_at_call 205;refine(yS m _ _ _ _ _ f.result ?_ w1).mono ?_;(exact HX.below RQ);rintro e w31 ⟨rfl,hb31⟩;have HW31:=I (up RQ hb31);clear hb31;rw[HDB]))
 all_goals go_wp2
 all_goals go_ret;exact⟨bT (by rw[HE];(try simp only[WA.out,WB.out,W2.out]);omega),up HB0 HW31⟩
theorem fuD_le(m:Nat)(f:Fu):U2 m f<=2+dY m f.body+iX m f.result:=by have h1:=zM m f.body;have h2:=CP m f.result;unfold U2;omega
theorem EH(m:Nat)(w:World)(v:Value)(x:Mo)(h:iY w m v x)(hw:vF m x<=1048576):Calls prog 96 #[v] w λe w'=>e=dz (O (moD m x))/\bG w w':=by
 have HE:Hid (moD m x=1+max 1 (iG (U2 m) x.bg)):=rfl;obtain⟨vi,vv,vf,rfl,hnm,hI,hV,hF⟩:=h;have hwm:x.name.size+2+lV x.imports+Rs x.vars+zG m x.bg<=1048576:=hw;obtain⟨ai,ci,rfl,WK⟩:=hI.shape;obtain⟨av,bv,ov,cv,rfl,_,hlv,_⟩:=hV;obtain⟨a,b,off,cap,rfl,ha,hl,hel⟩:=hF;clear hI;generalize hfs:x.bg=l at *;have HW:Hid (∀(i:Nat) (y:Fu),l[i]?=some y->dY m y.body+iX m y.result+2<=1048576):=I (λi y hy=>by have:y.name.size+2+lV y.params+dY m y.body+iX m y.result<=(l.map λs:Fu=>s.name.size+2+lV s.params+dY m s.body+iX m s.result).sum:=uJ (f:=λs:Fu=>s.name.size+2+lV s.params+dY m s.body+iX m s.result) (eT hy);unfold zG at hwm;omega);have HM:Hid (iG (U2 m) l<=1048576):=I (Fx (λy hy=>by obtain⟨i,hi,rfl⟩:=gZ.1 hy;have h1:=HW i _ (bD hi);have h2:=fuD_le m l[i];omega));obtain⟨lK,HA⟩:=bU hel ha;clear hel ha hw hwm;obtain⟨len,hlen⟩:=bC l.length;have HL:=I hlen;rw[<-hlen]at hl HA ⊢;clear hlen;generalize x.imports.length=li at *;generalize x.vars.length=lv at *;have HB0:=I (aH w (aW #[A x.name,Y ai li ci,Y av lv cv,Y a len cap] 58));have q3:=xL w (A x.name) (Y ai li ci) (Y av lv cv) (Y a len cap) 58;go_enter func96,ntmps96;go_wp2_with fail;generalize (w.alloc (aW #[A x.name,Y ai li ci,Y av lv cv,Y a len cap] 58))=W0 at *;go_loopw[3,9] (λo i wr=>∃j:Nat,j<=len/\i=O j/\(∃c:Nat,c=max 1 (iG (U2 m) (l.take j))/\o=O c)/\bG W0 wr) (λ_ i _=>len - (intOf i).toNat);case atStart=>exact⟨0,bL _,rfl,⟨1,rfl,rfl⟩,bP _ _⟩
 case round=>
  obtain⟨j,hj,rfl,⟨acc,hac,rfl⟩,hnx⟩:=hrel;have hacc:acc<=1048576:=by have:=bF (uM (f:=U2 m) l j) HM;omega
  have HAC:=I hac;clear hac;by_cases hjl:j<len
  ·obtain⟨y,hy⟩:∃y,l[j]?=some y:=⟨_,bD (by rw[<-HL];exact hjl)⟩;obtain⟨k1,vp,vb,e0,e1,e2,e3,g0,g1,g2,g3,g4,g5,g6,hp,hsb,hx⟩:=lK j y hy;have HST:=I (CO (f:=U2 m) hy);have hyw:dY m y.body+iX m y.result<=1048576:=by have:=HW j y hy;omega
   obtain rfl:=HA aX;have hbb:=up HB0 hnx;obtain⟨u0,u1⟩:=eY (aD g0 hbb) (aD g1 hbb);have u2':=aD g2 hbb;have UW:=aD g3 hbb;obtain⟨u4,u5,u6⟩:=l9 (aD g4 hbb) (aD g5 hbb) (aD g6 hbb);have HAT:Hid (RS wr m vp vb e0 e1 e2 e3 y):=I ⟨k1,hp.below hbb,hsb.below hbb,hx.below hbb⟩;obtain⟨ae,ce,rfl,rfl,rfl,rfl⟩:=hx.shape;obtain⟨a1,jS,rfl,hl1⟩:=hsb.shape;obtain⟨a2,cap2,rfl,hl2⟩:=hp.shape;have fO:=I hnx;clear g0 g1 g2 g3 g4 g5 g6 hx hsb hp hy hnx hbb;go_wp2_with fail;refine(Md m _ _ _ _ _ _ _ y (HAT.below (aH _ _)) hyw).mono ?_;rintro e w5 ⟨rfl,hb5⟩;have Cg:=I (up fO (Wn hb5));clear hb5;generalize U2 m y=dy at *;go_wp2_with fail;go_roundw;case rel=>exact⟨j+1,by omega,by go_num,⟨max acc dy,by rw[HST,HAC];omega,GH rfl⟩,Cg⟩
   case measure=>simp[intOf];omega
  ·have e:l.take j=l:=fU (by have:=HL.out;omega);rw[e]at HAC;clear e;go_wp2;go_ret;exact⟨bT (by rw[HE,<-HAC];go_num),up HB0 hnx⟩
namespace bN
def jn(l:List aY):aY:=⟨(Lib.join (l.map (·.data.toList)) [32]).toArray⟩
def brk(l:List aY):aY:=(⟨#[40]⟩:aY)++jn l++(⟨#[41]⟩:aY)
end bN
end Go.Proofs.YtbgkpehhdibaoaaGreatDoor
