/- part -/
import Derived.Test.YtbgkpehhdibaoaaGreatDoorMZI2
import Derived.Deep.RegionHeld3
import Derived.Lib.AppendZerosOnto
import Derived.Lib.Join
set_option maxHeartbeats 0
set_option maxRecDepth 99999
namespace Go.Proofs.YtbgkpehhdibaoaaGreatDoor
open bO
open Go.Proofs.Tryz
open Go.RowKit
namespace bO
def A9(x:Ex):Bool:=
 if x.kind=1 then decide (0<=x.n)&&decide (x.n<=999999)&&x.name.toList.isEmpty&&(x.args.length==0)
 else if x.kind=2 then dx x.name.data.toList&&(x.n==0)&&(x.args.length==0)
 else if x.kind=3 then TV x.name&&(x.n==0)&&(x.args.length==2)
 else if x.kind=4 then rH x.name&&(x.n==0)&&decide (x.args.length<=4)
 else false
end bO
variable{w w':World}{m a b c:Nat}{e0 e1 e2 e3 va vb vp v:Value}
theorem FN(m:Nat)(x:Ex):fA (m+1) x=(A9 x&&x.args.all (fA m)):=by
 obtain⟨k,n,s,args⟩:=x;simp only[fA,A9];by_cases h1:k=1
 ·rw[aL h1,aL h1];cases args with
  | nil=>simp
  | cons a l=>simp
 rw[aJ h1,aJ h1];by_cases h2:k=2
 ·rw[aL h2,aL h2];cases args with
  | nil=>simp[Bool.and_comm]
  | cons a l=>simp
 rw[aJ h2,aJ h2];by_cases h3:k=3;·rw[aL h3,aL h3];simp only[Fg];rw[<-Fg,<-Fg (TV s),Bool.and_comm (n==0)]
 rw[aJ h3,aJ h3];by_cases h4:k=4;·rw[aL h4,aL h4];simp only[Fg];rw[<-Fg,<-Fg (rH s),Bool.and_comm (n==0)]
 rw[aJ h4,aJ h4];rfl
theorem Ol(w:World)(k n:Int)(s:aZ)(a:Option Addr)(args:List Ex)(cap:Nat)(hs:s.size<=maxLen)(hl:args.length<=9223372036854775807):Calls prog 203 #[.agg #[O k,O n,A s,Y a args.length cap]] w λe w'=>e=cO (.bool (A9 ⟨k,n,s,args⟩))/\bG w w':=by
 have HP:Hid (A9 ⟨k,n,s,args⟩=if k=1 then decide (0<=n)&&decide (n<=999999)&&s.toList.isEmpty&&(args.length==0)
  else if k=2 then dx s.data.toList&&(n==0)&&(args.length==0)
  else if k=3 then TV s&&(n==0)&&(args.length==2)
  else if k=4 then rH s&&(n==0)&&decide (args.length<=4)
  else false):=rfl
 generalize A9 ⟨k,n,s,args⟩=R at *;generalize args.length=len at *;clear args;by_cases h1:k=1
 ·subst h1;rw[aL rfl]at HP;by_cases hn0:0<=n
  ·rw[fQ hn0,lV]at HP;by_cases hn1:n<=999999
   ·rw[fQ hn1,lV]at HP;cases hb2:s.toList.isEmpty;·rw[hb2]at HP;go_enter func203,ntmps203;go_wp2;go_ret;exact⟨aM (by rw[HP];rfl),aH _ _⟩
    ·rw[hb2,lV]at HP;go_enter func203,ntmps203;go_wp2;go_ret;exact⟨aM (by rw[HP];exact yY len 0),aH _ _⟩
   ·rw[gN hn1]at HP;go_enter func203,ntmps203;go_wp2;go_ret;exact⟨aM (by rw[HP];rfl),aH _ _⟩
  ·rw[gN hn0]at HP;go_enter func203,ntmps203;go_wp2;go_ret;exact⟨aM (by rw[HP];rfl),aH _ _⟩
 rw[aJ h1]at HP;by_cases h2:k=2
 ·subst h2;rw[aL rfl]at HP;clear h1;go_enter func203,ntmps203;go_wp2_with fail;refine(jW _ s hs).mono ?_;rintro e w' ⟨rfl,hw⟩;subst hw;cases hb:dx s.data.toList;·rw[hb]at HP;go_wp2;go_ret;exact⟨aM (by rw[HP];rfl),aH _ _⟩
  ·rw[hb,lV]at HP;cases hn:(n==0);·rw[hn]at HP;go_wp2;go_ret;exact⟨aM (by rw[HP];rfl),aH _ _⟩
   ·rw[hn,lV]at HP;go_wp2;go_ret;exact⟨aM (by rw[HP];exact yY len 0),aH _ _⟩
 rw[aJ h2]at HP;by_cases h3:k=3
 ·subst h3;rw[aL rfl]at HP;clear h1 h2;go_enter func203,ntmps203;go_wp2_with fail;refine(Io _ s hs).mono ?_;rintro e w' ⟨rfl,hw⟩;subst hw;cases hb:TV s;·rw[hb]at HP;go_wp2;go_ret;exact⟨aM (by rw[HP];rfl),aH _ _⟩
  ·rw[hb,lV]at HP;cases hn:(n==0);·rw[hn]at HP;go_wp2;go_ret;exact⟨aM (by rw[HP];rfl),aH _ _⟩
   ·rw[hn,lV]at HP;go_wp2;go_ret;exact⟨aM (by rw[HP];exact yY len 2),aH _ _⟩
 rw[aJ h3]at HP;by_cases h4:k=4
 ·subst h4;rw[aL rfl]at HP;clear h1 h2 h3;have q1:(w.alloc (aY #[O 4,O n,A s,Y a len cap] 107)).cell? (X w.heap.size 1)=some (O n):=by simp[go_sem]
  have q3:=oq w (O 4) (O n) (A s) (Y a len cap) 107;go_enter func203,ntmps203;go_wp2_with fail;refine(NG _ s hs).mono ?_;rintro e w1 ⟨rfl,hb1⟩;have HB:=I (TU hb1);obtain⟨p1,p3⟩:=eD (aC q1 hb1) (aC q3 hb1);clear q1 q3 hb1;cases hb:rH s;·rw[hb]at HP;go_wp2;go_ret;exact⟨aM (by rw[HP];rfl),HB⟩
  ·rw[hb,lV]at HP;cases hn:(n==0);·rw[hn]at HP;go_wp2;go_ret;exact⟨aM (by rw[HP];rfl),HB⟩
   ·rw[hn,lV]at HP;go_wp2;go_ret;exact⟨aM (by rw[HP];exact decide_eq_decide.2 aV),HB⟩
 rw[aJ h4]at HP;have k1:(k==1)=false:=by simp[h1]
 have k2:(k==2)=false:=by simp[h2]
 have k3:(k==3)=false:=by simp[h3]
 have k4:(k==4)=false:=by simp[h4]
 clear h1 h2 h3 h4;go_enter func203,ntmps203;go_wp2;go_ret;exact⟨aM (by rw[HP]),aH _ _⟩
theorem I6(m:Nat):∀(w:World) (c0 c1 c2 c3:Value) (x:Ex),gQ w m c0 c1 c2 c3 x->Calls prog 151 #[.agg #[c0,c1,c2,c3]] w λe w'=>e=cO (.bool (fA m x))/\bG w w':=by
 induction m with
 | zero=>intro w c0 c1 c2 c3 x h;exact iG h
 | succ m ih=>
  intro w c0 c1 c2 c3 x h;have HI:=I ih;clear ih;obtain⟨rfl,rfl,rfl,hsz,hk1,hk2,a,b,off,cap,rfl,ha,hl,hel⟩:=h;obtain⟨k,n,s,args⟩:=x;simp only at hsz hk1 hk2 ha hl hel ⊢;obtain⟨HE,kg,HA⟩:=fq (FN m ⟨k,n,s,args⟩) hel ha;have xY:=I (λw=>Ol w k n s a args cap hsz hl);clear hel ha;generalize A9 ⟨k,n,s,args⟩=pb at *;obtain⟨len,hlen⟩:=bC args.length;have HL:=I hlen;rw[<-hlen]at hl HA xY ⊢;clear hlen;have q3:=oq w (O k) (O n) (A s) (Y a len cap) 107;go_enter func151,ntmps151;go_wp2_with fail;refine(xY _).mono ?_;rintro e W0 ⟨rfl,hb1⟩;replace q3:=aC q3 hb1;have HB0:=I (TU hb1);clear hb1;cases pb;·go_wp2;go_ret;exact⟨aM (by rw[HE];rfl),HB0⟩
  ·go_wp2;go_loopw[11] (λi wr=>∃j:Nat,j<=len/\i=O j/\(∀d y,d<j->args[d]?=some y->fA m y=true)/\bG W0 wr) (λi _=>len - (intOf i).toNat);case atStart=>exact⟨0,bI _,rfl,λd y hd=>aN hd (fK _),bN _ _⟩
   case round=>
    obtain⟨j,hj,rfl,hall,hnx⟩:=hrel;have dU:=I hall;clear hall;by_cases hjl:j<len
    ·obtain⟨y,hy⟩:∃y,args[j]?=some y:=⟨_,bg (by rw[<-HL];exact hjl)⟩;obtain⟨e0,e1,e2,e3,g0,g1,g2,g3,hye⟩:=kg j y hy;have HY:=I hy;obtain rfl:=HA aV;have hbb:=up HB0 hnx;obtain⟨u0,u1⟩:=eD (aC g0 hbb) (aC g1 hbb);have Xa:=aC g2 hbb;have KD:=aC g3 hbb;have Nr:=I (hye.below hbb);obtain⟨a',cap',rfl,rfl,rfl,rfl⟩:=hye.shape;have dM:=I hnx;clear g0 g1 g2 g3 hye hy hbb hnx;go_wp2_with fail;refine(HI _ _ _ _ _ y (Nr.below (aH _ _))).mono ?_;rintro e w5 ⟨rfl,hb5⟩;have kG:=I (up dM (TU hb5));clear hb5;cases hyb:fA m y;·have Ns:=I hyb;go_wp2;go_ret;exact⟨aM (by rw[HE,Cc HY Ns];rfl),up HB0 kG⟩
     ·have Ns:=I hyb;go_wp2;go_roundw;case rel=>exact⟨j+1,by omega,by go_num,λd z hd hz=>by
       by_cases e:d=j;·subst e;rw[HY]at hz;cases hz;exact Ns
       ·exact dU d z aV hz,kG⟩
      case measure=>simp[intOf];omega
    ·go_wp2;go_ret;have hall:args.all (fA m)=true:=Cb (λd z hz=>dU d z (by have:=(dz.1 hz).1;have:=HL.out;omega) hz);exact⟨aM (by rw[HE,hall];rfl),up HB0 hnx⟩
theorem Om(w:World)(k:Int)(nm:aZ)(ke ne:Int)(se:aZ)(ae:Option Addr)(le ce:Nat)(a1 a2:Option Addr)(l1 l2 c1 c2:Nat)(R:Bool)(hR:R=if k=1\/k=4 then dx nm.data.toList&&(l2==0)&&(l1==0)else if k=2 then nm.toList.isEmpty else if k=3 then nm.toList.isEmpty&&(l2==0)else false)(hs:nm.size<=maxLen)(_h1:l1<=9223372036854775807)(_h2:l2<=9223372036854775807):Calls prog 245 #[.agg #[O k,A nm,O ke,O ne,A se,Y ae le ce,Y a1 l1 c1,Y a2 l2 c2]] w λe w'=>e=cO (.bool R)/\bG w w':=by
 have HP:=I hR;clear hR;by_cases k14:k=1\/k=4
 ·rw[aL k14]at HP;rcases k14 with rfl|rfl;all_goals
   go_enter func245,ntmps245;go_wp2_with fail;refine(jW _ nm hs).mono ?_;rintro e w' ⟨rfl,hw⟩;subst hw;cases hb:dx nm.data.toList;·rw[hb]at HP;go_wp2;go_ret;exact⟨aM (by rw[HP];rfl),aH _ _⟩
   ·rw[hb,lV]at HP;by_cases hl1:l1=0
    ·have hl1':((l1:Int)==0)=true:=by simp[hl1]
     rw[show(l1==0)=true from by simp[hl1],Bool.and_true]at HP;clear hl1;go_wp2;go_ret;exact⟨aM (by rw[HP];exact yY l2 0),aH _ _⟩
    ·have hl1':((l1:Int)==0)=false:=by simp[hl1]
     rw[show(l1==0)=false from by simp[hl1],Rj]at HP;clear hl1;go_wp2;go_ret;exact⟨aM (by rw[HP]),aH _ _⟩
 rw[aJ k14]at HP;have n1:(k==1)=false:=by simp;omega
 have n4:(k==4)=false:=by simp;omega
 by_cases k2:k=2;·subst k2;rw[aL rfl]at HP;clear k14 n1 n4;generalize hb:nm.toList.isEmpty=b2 at *;have HB:=I hb;cases b2;all_goals go_enter func245,ntmps245;go_wp2;go_ret;exact⟨aM (by rw[HP]),aH _ _⟩
 rw[aJ k2]at HP;have n2:(k==2)=false:=by simp;omega
 by_cases k3:k=3
 ·subst k3;rw[aL rfl]at HP;clear k14 k2 n1 n2 n4;cases hb:nm.toList.isEmpty;·rw[hb]at HP;go_enter func245,ntmps245;go_wp2;go_ret;exact⟨aM (by rw[HP];rfl),aH _ _⟩
  ·rw[hb,lV]at HP;go_enter func245,ntmps245;go_wp2;go_ret;exact⟨aM (by rw[HP];exact yY l2 0),aH _ _⟩
 rw[aJ k3]at HP;have n3:(k==3)=false:=by simp;omega
 clear k14 k2 k3;go_enter func245,ntmps245;go_wp2;go_ret;exact⟨aM (by rw[HP]),aH _ _⟩
def UR(w:World)(m:Nat)(e0 e1 e2 e3 va vb:Value)(s:St):Prop:=
 LP s.kind/\s.name.size<=maxLen/\gQ w m e0 e1 e2 e3 s.e/\eU w m va s.a/\eU w m vb s.b
theorem UR.below{s:St}(h:UR w m e0 e1 e2 e3 va vb s)(hb:bG w w'):UR w' m e0 e1 e2 e3 va vb s:=
 ⟨h.1,h.2.1,h.2.2.1.below hb,h.2.2.2.1.below hb,h.2.2.2.2.below hb⟩
section
variable (w : World) (c0 c1 c2 c3 c4 c5 c6 c7 : Value) (t : TypeId)
theorem box8_0:(w.alloc (.cells #[c0,c1,c2,c3,c4,c5,c6,c7] t)).cell? (X w.heap.size 0)=some c0:=by simp[go_sem]
theorem box8_2:(w.alloc (.cells #[c0,c1,c2,c3,c4,c5,c6,c7] t)).cell? (X w.heap.size 2)=some c2:=by simp[go_sem]
theorem box8_3:(w.alloc (.cells #[c0,c1,c2,c3,c4,c5,c6,c7] t)).cell? (X w.heap.size 3)=some c3:=by simp[go_sem]
theorem box8_4:(w.alloc (.cells #[c0,c1,c2,c3,c4,c5,c6,c7] t)).cell? (X w.heap.size 4)=some c4:=by simp[go_sem]
theorem box8_5:(w.alloc (.cells #[c0,c1,c2,c3,c4,c5,c6,c7] t)).cell? (X w.heap.size 5)=some c5:=by simp[go_sem]
end
theorem Oo(m:Nat)(hi:∀(w:World) (v:Value) (l:List St),eU w m v l->Calls prog 150 #[v] w λe w'=>e=cO (.bool (iP m l))/\bG w w')(w:World)(e0 e1 e2 e3 va vb:Value)(s:St)(h:UR w m e0 e1 e2 e3 va vb s):Calls prog 202 #[.agg #[O s.kind,A s.name,e0,e1,e2,e3,va,vb]] w λe w'=>e=cO (.bool (uZ m s))/\bG w w':=by
 have HI:=I hi;clear hi;have HS:=I h;obtain⟨_,hnm,hx,hsa,hsb⟩:=h;obtain⟨ae,ce,rfl,rfl,rfl,rfl⟩:=hx.shape;obtain⟨a1,kD,rfl,hl1⟩:=hsa.shape;obtain⟨a2,cap2,rfl,hl2⟩:=hsb.shape;clear hx hsa hsb;have HE:Hid (uZ m s=(xI s&&fA m s.e&&iP m s.a&&iP m s.b)):=rfl;have HSH:=I (λw=>Om w s.kind s.name s.e.kind s.e.n s.e.name ae s.e.args.length ce a1 a2 s.a.length s.b.length kD cap2 (xI s) rfl hnm hl1 hl2);generalize s.e.args.length=le at *;generalize s.a.length=l1 at *;generalize s.b.length=l2 at *;obtain⟨q2,q3,q4,q5⟩:=rG (box8_2 w (O s.kind) (A s.name) (O s.e.kind) (O s.e.n) (A s.e.name) (Y ae le ce) (Y a1 l1 kD) (Y a2 l2 cap2) 164) (box8_3 w (O s.kind) (A s.name) (O s.e.kind) (O s.e.n) (A s.e.name) (Y ae le ce) (Y a1 l1 kD) (Y a2 l2 cap2) 164) (box8_4 w (O s.kind) (A s.name) (O s.e.kind) (O s.e.n) (A s.e.name) (Y ae le ce) (Y a1 l1 kD) (Y a2 l2 cap2) 164) (box8_5 w (O s.kind) (A s.name) (O s.e.kind) (O s.e.n) (A s.e.name) (Y ae le ce) (Y a1 l1 kD) (Y a2 l2 cap2) 164);obtain⟨q6,q7⟩:=eD (AA w (O s.kind) (A s.name) (O s.e.kind) (O s.e.n) (A s.e.name) (Y ae le ce) (Y a1 l1 kD) (Y a2 l2 cap2) 164) (AJ w (O s.kind) (A s.name) (O s.e.kind) (O s.e.n) (A s.e.name) (Y ae le ce) (Y a1 l1 kD) (Y a2 l2 cap2) 164);go_enter func202,ntmps202;go_wp2_with fail;refine(HSH _).mono ?_;rintro e w1 ⟨rfl,hb1⟩;replace q2:=aC q2 hb1;replace q3:=aC q3 hb1;replace q4:=aC q4 hb1;replace q5:=aC q5 hb1;replace q6:=aC q6 hb1;replace q7:=aC q7 hb1;have HB1:=I (TU hb1);clear hb1;generalize xI s=sh at *;cases sh;·go_wp2;go_ret;exact⟨aM (by rw[HE];rfl),HB1⟩
 go_wp2_with fail;refine(I6 m _ _ _ _ _ s.e (HS.below HB1).2.2.1).mono ?_;rintro e w2 ⟨rfl,hb2⟩;replace q6:=aC q6 hb2;replace q7:=aC q7 hb2;have HB2:=I (up HB1 hb2);clear hb2 q2 q3 q4 q5;generalize fA m s.e=xb at *;cases xb;·go_wp2;go_ret;exact⟨aM (by rw[HE];rfl),HB2⟩
 go_wp2_with fail;refine(HI _ _ s.a (HS.below HB2).2.2.2.1).mono ?_;rintro e w3 ⟨rfl,hb3⟩;replace q7:=aC q7 hb3;have HB3:=I (up HB2 hb3);clear hb3 q6;generalize iP m s.a=ab at *;cases ab;·go_wp2;go_ret;exact⟨aM (by rw[HE];rfl),HB3⟩
 go_wp2_with fail;refine(HI _ _ s.b (HS.below HB3).2.2.2.2).mono ?_;rintro e w4 ⟨rfl,hb4⟩;have DT:=I (up HB3 hb4);clear hb4 q7;generalize iP m s.b=bb at *;go_wp2;go_ret;exact⟨aM (by rw[HE];cases bb<;>rfl),DT⟩
theorem Gm(m:Nat):∀(w:World) (v:Value) (l:List St),eU w m v l->Calls prog 150 #[v] w λe w'=>e=cO (.bool (iP m l))/\bG w w':=by
 induction m with
 | zero=>intro w v l h;exact iG h
 | succ m ih=>
  intro w v l h;have HI:=I (Oo m ih);clear ih;obtain⟨a,b,off,cap,rfl,ha,hl,hel⟩:=h;obtain⟨HE,kg,HA⟩:=fq (vN m l) hel ha;clear hel ha;obtain⟨len,hlen⟩:=bC l.length;have HL:=I hlen;rw[<-hlen]at hl HA ⊢;clear hlen;go_enter func150,ntmps150;go_wp2;go_loopw[7] (λi wr=>∃j:Nat,j<=len/\i=O j/\(∀d y,d<j->l[d]?=some y->uZ m y=true)/\bG w wr) (λi _=>len - (intOf i).toNat);case atStart=>exact⟨0,bI _,rfl,λd y hd=>aN hd (fK _),bN _ _⟩
  case round=>
   obtain⟨j,hj,rfl,hall,hnx⟩:=hrel;have dU:=I hall;clear hall;by_cases hjl:j<len
   ·obtain⟨y,hy⟩:∃y,l[j]?=some y:=⟨_,bg (by rw[<-HL];exact hjl)⟩;obtain⟨k1,k2,e0,e1,e2,e3,va,vb,g0,g1,g2,g3,g4,g5,g6,g7,hx,hsa,hsb⟩:=kg j y hy;have HY:=I hy;obtain rfl:=HA aV;obtain⟨u0,u1⟩:=eD (aC g0 hnx) (aC g1 hnx);have Xa:=aC g2 hnx;have KD:=aC g3 hnx;obtain⟨u4,u5,u6,u7⟩:=rG (aC g4 hnx) (aC g5 hnx) (aC g6 hnx) (aC g7 hnx);have HST:Hid (UR wr m e0 e1 e2 e3 va vb y):=I ⟨k1,k2,hx.below hnx,hsa.below hnx,hsb.below hnx⟩;obtain⟨ae,ce,rfl,rfl,rfl,rfl⟩:=hx.shape;obtain⟨a1,kD,rfl,hl1⟩:=hsa.shape;obtain⟨a2,cap2,rfl,hl2⟩:=hsb.shape;have dM:=I hnx;clear g0 g1 g2 g3 g4 g5 g6 g7 hx hsa hsb hy hnx;go_wp2_with fail;refine(HI _ _ _ _ _ _ _ y (HST.below (aH _ _))).mono ?_;rintro e w5 ⟨rfl,hb5⟩;have kG:=I (up dM (TU hb5));clear hb5;cases hyb:uZ m y;·have Ns:=I hyb;go_wp2;go_ret;exact⟨aM (by rw[HE,Qz HY Ns]),kG⟩
    ·have Ns:=I hyb;go_wp2;go_roundw;case rel=>exact⟨j+1,by omega,by go_num,λd z hd hz=>by
      by_cases e:d=j;·subst e;rw[HY]at hz;cases hz;exact Ns
      ·exact dU d z aV hz,kG⟩
     case measure=>simp[intOf];omega
   ·go_wp2;go_ret;have hall:l.all (uZ m)=true:=Qy (λd z hz=>dU d z (by have:=(dz.1 hz).1;have:=HL.out;omega) hz);exact⟨aM (by rw[HE,hall]),hnx⟩
namespace bO
def iU{α:Type}(f:α->Nat)(l:List α):Nat:=l.foldl (λa y=>max a (f y)) 0
def xA:Nat->Ex->Nat
 | 0,_=>0
 | m+1,x=>if x.kind=1\/x.kind=2 then 0 else 1+iU (xA m) x.args
def KM:Nat->List St->Nat
 | 0,_=>0
 | m+1,l=>iU (λs=>1+if s.kind=2\/s.kind=3 then max (max (xA m s.e) (1+KM m s.a)) (1+KM m s.b)else xA m s.e) l
def Rk(m:Nat)(s:St):Nat:=1+if s.kind=2\/s.kind=3 then max (max (xA m s.e) (1+KM m s.a)) (1+KM m s.b)else xA m s.e
theorem I7(m:Nat)(l:List St):KM (m+1) l=iU (Rk m) l:=rfl
def Xz(m:Nat)(f:Fu):Nat:=1+max (max 1 (KM m f.body)) (xA m f.result)
def moD(m:Nat)(x:Mo):Nat:=1+max 1 (iU (Xz m) x.bq)
end bO
section
variable {α : Type} {f : α → Nat}
theorem Mi(l:List α)(a:Nat):l.foldl (λa y=>max a (f y)) a=max a (iU f l):=by
 induction l generalizing a with
 | nil=>simp[iU]
 | cons y l ih =>unfold iU;rw[rQ,rQ,ih,ih];omega
theorem cB(y:α)(l:List α):iU f (y::l)=max (f y) (iU f l):=by rw[iU,rQ,Mi];omega
theorem qh(l k:List α):iU f (l++k)=max (iU f l) (iU f k):=by rw[iU,IC,Mi];rfl
theorem Eh{l:List α}{j:Nat}{y:α}(h:l[j]?=some y):iU f (l.take (j+1))=max (iU f (l.take j)) (f y):=by obtain⟨hj,rfl⟩:=dz.1 h;rw[kR hj,qh,cB];simp[iU]
theorem G6{B:Nat}{l:List α}(h:∀y∈l,f y<=B):iU f l<=B:=by
 induction l with
 | nil=>exact bI _
 | cons y l ih =>rw[cB];obtain⟨h1,h2⟩:=eD (h y cZ) (ih (λz hz=>h z (by simp[hz])));omega
theorem I8{g:α->Nat}{l:List α}(h:∀y∈l,f y<=g y):iU f l<=(l.map g).sum:=by
 induction l with
 | nil=>exact bI _
 | cons y l ih =>rw[cB,fD,iW];obtain⟨h1,h2⟩:=eD (h y cZ) (ih (λz hz=>h z (by simp[hz])));omega
theorem wm(l:List α)(j:Nat):iU f (l.take j)<=iU f l:=by
 conv=>rhs;rw[<-mE j l]
 rw[qh];omega
end
theorem Ei:∀(m:Nat) (x:Ex),xA m x<=iO m x
 | 0,_=>bF _
 | m+1,x=>by simp only[xA,iO];have:=I8 (f:=xA m) (g:=iO m) (l:=x.args) (λy _=>Ei m y);split<;>omega
theorem Ba:∀(m:Nat) (l:List St),KM m l<=dQ m l
 | 0,_=>bF _
 | m+1,l=>by simp only[KM,dQ];refine bH (I8 (g:=λs=>s.name.size+3+iO m s.e+dQ m s.a+dQ m s.b) (λs _=>?_)) (dJ _);obtain⟨h1,h2,h3⟩:=lQ (Ei m s.e) (Ba m s.a) (Ba m s.b);split<;>omega
theorem wrap_small{x:Int}(h0:0<=x)(h1:x<=9223372036854775807):IntKind.i64.wrap x=x:=by rw[IntKind.wrap_i64];omega
theorem I9(h:c=max a b):O (max (a:Int) (b:Int))=O c:=by rw[h];congr 1;omega
theorem Ad(m:Nat):∀(w:World) (c0 c1 c2 c3:Value) (x:Ex),gQ w m c0 c1 c2 c3 x->iO m x<=1048576->Calls prog 205 #[.agg #[c0,c1,c2,c3]] w λe w'=>e=cO (O (xA m x))/\bG w w':=by
 induction m with
 | zero=>intro w c0 c1 c2 c3 x h;exact iG h
 | succ m ih=>
  intro w c0 c1 c2 c3 x h hw;have HI:=I ih;clear ih;obtain⟨rfl,rfl,rfl,hsz,hk1,hk2,a,b,off,cap,rfl,ha,hl,hel⟩:=h;obtain⟨k,n,s,args⟩:=x;simp only at hsz hk1 hk2 ha hl hel ⊢;obtain⟨kg,HA⟩:=bT hel ha;have HW:Hid (∀(i:Nat) (y:Ex),args[i]?=some y->iO m y<=1048576):=I (λi y hy=>by have:iO m y<=(args.map (iO m)).sum:=jY (dN hy);simp only[iO]at hw;omega);have HM:Hid (iU (xA m) args<=1048576):=I (by have:=I8 (f:=xA m) (g:=iO m) (l:=args) (λy _=>Ei m y);simp only[iO]at hw;omega);have HE:Hid (xA (m+1) ⟨k,n,s,args⟩=if k=1\/k=2 then 0 else 1+iU (xA m) args):=rfl;clear hel ha hw;obtain⟨len,hlen⟩:=bC args.length;have HL:=I hlen;rw[<-hlen]at hl HA ⊢;clear hlen;by_cases h1:k=1;·subst h1;go_enter func205,ntmps205;go_wp2;go_ret;exact⟨bQ (by rw[HE];rfl),aH _ _⟩
  by_cases h2:k=2;·subst h2;go_enter func205,ntmps205;go_wp2;go_ret;exact⟨bQ (by rw[HE];rfl),aH _ _⟩
  rw[aJ aV]at HE;have k1:(k==1)=false:=by simp[h1]
  have k2:(k==2)=false:=by simp[h2]
  clear h1 h2;have HB0:=I (aH w (aY #[O k,O n,A s,Y a len cap] 107));have q3:=oq w (O k) (O n) (A s) (Y a len cap) 107;go_enter func205,ntmps205;go_wp2_with fail;generalize (w.alloc (aY #[O k,O n,A s,Y a len cap] 107))=W0 at *;go_loopw[3,17] (λo i wr=>∃j:Nat,j<=len/\i=O j/\o=O (iU (xA m) (args.take j))/\bG W0 wr) (λ_ i _=>len - (intOf i).toNat);case atStart=>exact⟨0,bI _,rfl,rfl,bN _ _⟩
  case round=>
   obtain⟨j,hj,rfl,rfl,hnx⟩:=hrel;have hacc:=bH (wm (f:=xA m) args j) HM;by_cases hjl:j<len
   ·obtain⟨y,hy⟩:∃y,args[j]?=some y:=⟨_,bg (by rw[<-HL];exact hjl)⟩;obtain⟨e0,e1,e2,e3,g0,g1,g2,g3,hye⟩:=kg j y hy;obtain rfl:=HA aV;have hbb:=up HB0 hnx;obtain⟨u0,u1⟩:=eD (aC g0 hbb) (aC g1 hbb);have Xa:=aC g2 hbb;have KD:=aC g3 hbb;have Nr:=I (hye.below hbb);obtain⟨a',cap',rfl,rfl,rfl,rfl⟩:=hye.shape;obtain⟨HST,dM⟩:=bT (Eh (f:=xA m) hy) hnx;have Qc:=HW j y hy;clear g0 g1 g2 g3 hye hy hbb hnx;go_wp2_with fail;refine(HI _ _ _ _ _ y (Nr.below (aH _ _)) Qc).mono ?_;rintro e w5 ⟨rfl,hb5⟩;have kG:=I (up dM (TU hb5));clear hb5 Qc;generalize xA m y=dy at *;generalize iU (xA m) (args.take j)=acc at *;go_wp2_with fail;go_roundw;case rel=>exact⟨j+1,by omega,by go_num,I9 HST,kG⟩
    case measure=>simp[intOf];omega
   ·have e:args.take j=args:=fJ (by have:=HL.out;omega);rw[e]at hacc ⊢;clear e;generalize iU (xA m) args=acc at *;go_wp2;go_ret;exact⟨bQ (by rw[HE];go_num),up HB0 hnx⟩
theorem Gn(m:Nat)(hi:∀(w:World) (v:Value) (l:List St),eU w m v l->dQ m l<=1048576->Calls prog 204 #[v] w λe w'=>e=cO (O (KM m l))/\bG w w')(w:World)(e0 e1 e2 e3 va vb:Value)(s:St)(h:UR w m e0 e1 e2 e3 va vb s)(hw:s.name.size+3+iO m s.e+dQ m s.a+dQ m s.b<=1048576):Calls prog 248 #[.agg #[O s.kind,A s.name,e0,e1,e2,e3,va,vb]] w λe w'=>e=cO (O (Rk m s))/\bG w w':=by
 have HI:=I hi;clear hi;have HS:=I h;obtain⟨_,hnm,hx,hsa,hsb⟩:=h;obtain⟨ae,ce,rfl,rfl,rfl,rfl⟩:=hx.shape;obtain⟨a1,kD,rfl,hl1⟩:=hsa.shape;obtain⟨a2,cap2,rfl,hl2⟩:=hsb.shape;clear hx hsa hsb;have HE:Hid (Rk m s=1+if s.kind=2\/s.kind=3 then max (max (xA m s.e) (1+KM m s.a)) (1+KM m s.b)else xA m s.e):=rfl;have w1:iO m s.e<=1048576:=by omega
 have w2:dQ m s.a<=1048576:=by omega
 have w3:dQ m s.b<=1048576:=by omega
 obtain⟨d1,d2,d3⟩:=lQ (bH (Ei m s.e) w1) (bH (Ba m s.a) w2) (bH (Ba m s.b) w3);clear hw;generalize s.e.args.length=le at *;generalize s.a.length=l1 at *;generalize s.b.length=l2 at *;have HB0:=I (aH w (aY #[O s.kind,A s.name,O s.e.kind,O s.e.n,A s.e.name,Y ae le ce,Y a1 l1 kD,Y a2 l2 cap2] 164));obtain⟨q0,q6,q7⟩:=lQ (box8_0 w (O s.kind) (A s.name) (O s.e.kind) (O s.e.n) (A s.e.name) (Y ae le ce) (Y a1 l1 kD) (Y a2 l2 cap2) 164) (AA w (O s.kind) (A s.name) (O s.e.kind) (O s.e.n) (A s.e.name) (Y ae le ce) (Y a1 l1 kD) (Y a2 l2 cap2) 164) (AJ w (O s.kind) (A s.name) (O s.e.kind) (O s.e.n) (A s.e.name) (Y ae le ce) (Y a1 l1 kD) (Y a2 l2 cap2) 164);go_enter func248,ntmps248;go_wp2_with fail;refine(Ad m _ _ _ _ _ s.e (HS.below HB0).2.2.1 w1).mono ?_;rintro e w5 ⟨rfl,hb5⟩;replace q0:=aC q0 hb5;replace q6:=aC q6 hb5;replace q7:=aC q7 hb5;have HN:=I (up HB0 hb5);clear hb5;obtain⟨GU,DL⟩:=bT ((HS.below HN).2.2.2.1) ((HS.below HN).2.2.2.2);generalize xA m s.e=de at *;by_cases hk:s.kind=2\/s.kind=3
 ·rw[aL hk]at HE
  have HF:Hid (∀wx,Hid (bG w5 wx)->Hid (bG w5 wx)/\wx.cell? (X w.heap.size 6)=some (Y a1 l1 kD)/\wx.cell? (X w.heap.size 7)=some (Y a2 l2 cap2)):=
   λwx h=>⟨h,aC q6 h,aC q7 h⟩
  have vw:Hid (bG w5 w5):=I (bN _ _);generalize hda:KM m s.a=da at *;have HDA:=I hda;clear hda;generalize hdb:KM m s.b=db at *;have HDB:=I hdb;clear hdb q6 q7;have WA:Hid (IntKind.i64.wrap (1+(da:Int))=1+(da:Int)):=I (wrap_small aV aV);have WB:Hid (IntKind.i64.wrap (1+(db:Int))=1+(db:Int)):=I (wrap_small aV aV);rcases hk with hk|hk;all_goals
   rw[hk]at q0;go_wp2_with fail
   go_region_held3 (λwx=>Hid (bG w5 wx)/\wx.cell? (X w.heap.size 6)=some (Y a1 l1 kD)/\wx.cell? (X w.heap.size 7)=some (Y a2 l2 cap2))
    (first|exact HF _ IQ|exact HF _ xV|exact HF _ (I vw.out.drew))
    (first
     | (go_at_call_of 204 (a1);refine(HI _ _ s.a ?_ w2).mono ?_;(exact GU.below vw.drew);rintro e w30 ⟨rfl,IU⟩;have xV:=I (up vw.drew IU);clear IU;rw[HDA])
     | (go_at_call_of 204 (a2);refine(HI _ _ s.b ?_ w3).mono ?_;(exact DL.below xV);rintro e w31 ⟨rfl,IV⟩;have IQ:=I (up xV IV);clear IV;rw[HDB]))
   all_goals go_wp2
   all_goals go_ret;exact⟨bQ (by rw[HE];simp only[WA.out,WB.out]at *;omega),up HN IQ⟩
 ·rw[aJ hk]at HE;have k2:(s.kind==2)=false:=by simp;omega
  have k3:(s.kind==3)=false:=by simp;omega
  clear hk q6 q7;go_wp2;go_ret;exact⟨bQ (by rw[HE];go_num),HN⟩
theorem CO(m:Nat):∀(w:World) (v:Value) (l:List St),eU w m v l->dQ m l<=1048576->Calls prog 204 #[v] w λe w'=>e=cO (O (KM m l))/\bG w w':=by
 induction m with
 | zero=>intro w v l h;exact iG h
 | succ m ih=>
  intro w v l h hw;have HI:=I (Gn m ih);clear ih;obtain⟨a,b,off,cap,rfl,ha,hl,hel⟩:=h;have HE:=I (I7 m l);have HM:Hid (iU (Rk m) l<=1048576):=I (by rw[<-I7];exact bH (Ba _ _) hw);have HW:Hid (∀(i:Nat) (y:St),l[i]?=some y->y.name.size+3+iO m y.e+dQ m y.a+dQ m y.b<=1048576):=I (λi y hy=>by have:y.name.size+3+iO m y.e+dQ m y.a+dQ m y.b<=(l.map λs:St=>s.name.size+3+iO m s.e+dQ m s.a+dQ m s.b).sum:=jY (f:=λs:St=>s.name.size+3+iO m s.e+dQ m s.a+dQ m s.b) (dN hy);simp only[dQ]at hw;omega);obtain⟨kg,HA⟩:=bT hel ha;clear hel ha hw;obtain⟨len,hlen⟩:=bC l.length;have HL:=I hlen;rw[<-hlen]at hl HA ⊢;clear hlen;go_enter func204,ntmps204;go_wp2;go_loopw[3,8] (λo i wr=>∃j:Nat,j<=len/\i=O j/\o=O (iU (Rk m) (l.take j))/\bG w wr) (λ_ i _=>len - (intOf i).toNat);case atStart=>exact⟨0,bI _,rfl,rfl,bN _ _⟩
  case round=>
   obtain⟨j,hj,rfl,rfl,hnx⟩:=hrel;have hacc:=bH (wm (f:=Rk m) l j) HM;by_cases hjl:j<len
   ·obtain⟨y,hy⟩:∃y,l[j]?=some y:=⟨_,bg (by rw[<-HL];exact hjl)⟩;obtain⟨k1,k2,e0,e1,e2,e3,va,vb,g0,g1,g2,g3,g4,g5,g6,g7,hx,hsa,hsb⟩:=kg j y hy;have HST:=I (Eh (f:=Rk m) hy);have Qc:=HW j y hy;obtain rfl:=HA aV;obtain⟨u0,u1⟩:=eD (aC g0 hnx) (aC g1 hnx);have Xa:=aC g2 hnx;have KD:=aC g3 hnx;obtain⟨u4,u5,u6,u7⟩:=rG (aC g4 hnx) (aC g5 hnx) (aC g6 hnx) (aC g7 hnx);have HAT:Hid (UR wr m e0 e1 e2 e3 va vb y):=I ⟨k1,k2,hx.below hnx,hsa.below hnx,hsb.below hnx⟩;obtain⟨ae,ce,rfl,rfl,rfl,rfl⟩:=hx.shape;obtain⟨a1,kD,rfl,hl1⟩:=hsa.shape;obtain⟨a2,cap2,rfl,hl2⟩:=hsb.shape;have dM:=I hnx;clear g0 g1 g2 g3 g4 g5 g6 g7 hx hsa hsb hy hnx;go_wp2_with fail;refine(HI _ _ _ _ _ _ _ y (HAT.below (aH _ _)) Qc).mono ?_;rintro e w5 ⟨rfl,hb5⟩;have kG:=I (up dM (TU hb5));clear hb5;generalize Rk m y=dy at *;generalize iU (Rk m) (l.take j)=acc at *;go_wp2_with fail;go_roundw;case rel=>exact⟨j+1,by omega,by go_num,I9 HST,kG⟩
    case measure=>simp[intOf];omega
   ·have e:l.take j=l:=fJ (by have:=HL.out;omega);rw[e]at hacc ⊢;clear e;generalize iU (Rk m) l=acc at *;go_wp2;go_ret;exact⟨bQ (by rw[HE]),hnx⟩
def UU(w:World)(m:Nat)(vp vb e0 e1 e2 e3:Value)(f:Fu):Prop:=
 f.name.size<=maxLen/\Strs w vp f.params/\eU w m vb f.body/\gQ w m e0 e1 e2 e3 f.result
theorem UU.below{f:Fu}(h:UU w m vp vb e0 e1 e2 e3 f)(hb:bG w w'):UU w' m vp vb e0 e1 e2 e3 f:=
 ⟨h.1,h.2.1.below hb,h.2.2.1.below hb,h.2.2.2.below hb⟩
theorem Strs.shape{l:List aZ}(h:Strs w v l):∃a cap,v=Y a l.length cap/\l.length<=9223372036854775807:=by obtain⟨a,b,off,cap,h1,_,h2,_⟩:=h;exact⟨a,cap,h1,h2⟩
section
variable (w : World) (c0 c1 c2 c3 c4 c5 c6 : Value) (t : TypeId)
theorem box7_0:(w.alloc (.cells #[c0,c1,c2,c3,c4,c5,c6] t)).cell? (X w.heap.size 0)=some c0:=by simp[go_sem]
theorem box7_1:(w.alloc (.cells #[c0,c1,c2,c3,c4,c5,c6] t)).cell? (X w.heap.size 1)=some c1:=by simp[go_sem]
theorem box7_2:(w.alloc (.cells #[c0,c1,c2,c3,c4,c5,c6] t)).cell? (X w.heap.size 2)=some c2:=by simp[go_sem]
theorem box7_3:(w.alloc (.cells #[c0,c1,c2,c3,c4,c5,c6] t)).cell? (X w.heap.size 3)=some c3:=by simp[go_sem]
theorem box7_4:(w.alloc (.cells #[c0,c1,c2,c3,c4,c5,c6] t)).cell? (X w.heap.size (3+1))=some c4:=by simp[go_sem]
theorem box7_5:(w.alloc (.cells #[c0,c1,c2,c3,c4,c5,c6] t)).cell? (X w.heap.size (3+2))=some c5:=by simp[go_sem]
theorem box7_6:(w.alloc (.cells #[c0,c1,c2,c3,c4,c5,c6] t)).cell? (X w.heap.size (3+3))=some c6:=by simp[go_sem]
end
theorem Oq(m:Nat)(w:World)(vp vb e0 e1 e2 e3:Value)(f:Fu)(h:UU w m vp vb e0 e1 e2 e3 f)(hw:dQ m f.body+iO m f.result<=1048576):Calls prog 152 #[.agg #[A f.name,vp,vb,e0,e1,e2,e3]] w λe w'=>e=cO (O (Xz m f))/\bG w w':=by
 have HS:=I h;obtain⟨hnm,hp,hsb,hx⟩:=h;obtain⟨ae,ce,rfl,rfl,rfl,rfl⟩:=hx.shape;obtain⟨a1,kD,rfl,hl1⟩:=hsb.shape;obtain⟨a2,cap2,rfl,hl2⟩:=hp.shape;clear hx hsb hp;have HE:Hid (Xz m f=1+max (max 1 (KM m f.body)) (xA m f.result)):=rfl;have w1:iO m f.result<=1048576:=by omega
 have w2:dQ m f.body<=1048576:=by omega
 obtain⟨d1,d2⟩:=eD (bH (Ei m f.result) w1) (bH (Ba m f.body) w2);clear hw;generalize f.result.args.length=le at *;generalize f.body.length=l1 at *;generalize f.params.length=l2 at *;have HB0:=I (aH w (aY #[A f.name,Y a2 l2 cap2,Y a1 l1 kD,O f.result.kind,O f.result.n,A f.result.name,Y ae le ce] 109));obtain⟨q2,q3,q4,q5⟩:=rG (box7_2 w (A f.name) (Y a2 l2 cap2) (Y a1 l1 kD) (O f.result.kind) (O f.result.n) (A f.result.name) (Y ae le ce) 109) (box7_3 w (A f.name) (Y a2 l2 cap2) (Y a1 l1 kD) (O f.result.kind) (O f.result.n) (A f.result.name) (Y ae le ce) 109) (box7_4 w (A f.name) (Y a2 l2 cap2) (Y a1 l1 kD) (O f.result.kind) (O f.result.n) (A f.result.name) (Y ae le ce) 109) (box7_5 w (A f.name) (Y a2 l2 cap2) (Y a1 l1 kD) (O f.result.kind) (O f.result.n) (A f.result.name) (Y ae le ce) 109);have q6:=box7_6 w (A f.name) (Y a2 l2 cap2) (Y a1 l1 kD) (O f.result.kind) (O f.result.n) (A f.result.name) (Y ae le ce) 109;go_enter func152,ntmps152;go_wp2_with fail;generalize (w.alloc (aY #[A f.name,Y a2 l2 cap2,Y a1 l1 kD,O f.result.kind,O f.result.n,A f.result.name,Y ae le ce] 109))=w5 at *;obtain⟨DL,HX⟩:=bT ((HS.below HB0).2.2.1) ((HS.below HB0).2.2.2)
 have HF:Hid (∀wx,Hid (bG w5 wx)->Hid (bG w5 wx)/\wx.cell? (X w.heap.size 2)=some (Y a1 l1 kD)/\wx.cell? (X w.heap.size 3)=some (O f.result.kind)/\
  wx.cell? (X w.heap.size (3+1))=some (O f.result.n)/\wx.cell? (X w.heap.size (3+2))=some (A f.result.name)/\wx.cell? (X w.heap.size (3+3))=some (Y ae le ce)):=
  λwx h=>⟨h,aC q2 h,aC q3 h,aC q4 h,aC q5 h,aC q6 h⟩
 have vw:Hid (bG w5 w5):=I (bN _ _);generalize hda:KM m f.body=da at *;have HDA:=I hda;clear hda;generalize hdb:xA m f.result=db at *;have HDB:=I hdb;clear hdb q2 q3 q4 q5 q6;have WA:Hid (IntKind.i64.wrap (1+(da:Int))=1+(da:Int)):=I (wrap_small aV aV);have WB:Hid (IntKind.i64.wrap (1+(db:Int))=1+(db:Int)):=I (wrap_small aV aV);have W2:Hid (IntKind.i64.wrap 2=2):=I (wrap_small aV aV)
 go_region_held3 (λwx=>Hid (bG w5 wx)/\wx.cell? (X w.heap.size 2)=some (Y a1 l1 kD)/\wx.cell? (X w.heap.size 3)=some (O f.result.kind)/\
  wx.cell? (X w.heap.size (3+1))=some (O f.result.n)/\wx.cell? (X w.heap.size (3+2))=some (A f.result.name)/\wx.cell? (X w.heap.size (3+3))=some (Y ae le ce))
  (first|exact HF _ IQ|exact HF _ xV|exact HF _ (I vw.out.drew))
  (first
   | (go_at_call 204;refine(CO m _ _ f.body ?_ w2).mono ?_;(exact DL.below vw.drew);rintro e w30 ⟨rfl,IU⟩;have xV:=I (up vw.drew IU);clear IU;rw[HDA])
   | (go_at_call 205;refine(Ad m _ _ _ _ _ f.result ?_ w1).mono ?_;(exact HX.below xV);rintro e w31 ⟨rfl,IV⟩;have IQ:=I (up xV IV);clear IV;rw[HDB]))
 all_goals go_wp2
 all_goals go_ret;exact⟨bQ (by rw[HE];(try simp only[WA.out,WB.out,W2.out]);omega),up HB0 IQ⟩
theorem fuD_le(m:Nat)(f:Fu):Xz m f<=2+dQ m f.body+iO m f.result:=by have h1:=Ba m f.body;have h2:=Ei m f.result;unfold Xz;omega
theorem Gp(m:Nat)(w:World)(v:Value)(x:Mo)(h:gT w m v x)(hw:qx m x<=1048576):Calls prog 96 #[v] w λe w'=>e=cO (O (moD m x))/\bG w w':=by
 have HE:Hid (moD m x=1+max 1 (iU (Xz m) x.bq)):=rfl;obtain⟨vi,vv,vf,rfl,hnm,hI,hV,hF⟩:=h;have Zr:x.name.size+2+iI x.imports+zF x.vars+vT m x.bq<=1048576:=hw;obtain⟨ai,ci,rfl,NI⟩:=hI.shape;obtain⟨av,bv,ov,cv,rfl,_,hlv,_⟩:=hV;obtain⟨a,b,off,cap,rfl,ha,hl,hel⟩:=hF;clear hI;generalize hfs:x.bq=l at *;have HW:Hid (∀(i:Nat) (y:Fu),l[i]?=some y->dQ m y.body+iO m y.result+2<=1048576):=I (λi y hy=>by have:y.name.size+2+iI y.params+dQ m y.body+iO m y.result<=(l.map λs:Fu=>s.name.size+2+iI s.params+dQ m s.body+iO m s.result).sum:=jY (f:=λs:Fu=>s.name.size+2+iI s.params+dQ m s.body+iO m s.result) (dN hy);unfold vT at Zr;omega);have HM:Hid (iU (Xz m) l<=1048576):=I (G6 (λy hy=>by obtain⟨i,hi,rfl⟩:=gP.1 hy;have h1:=HW i _ (bg hi);have h2:=fuD_le m l[i];omega));obtain⟨kg,HA⟩:=bT hel ha;clear hel ha hw Zr;obtain⟨len,hlen⟩:=bC l.length;have HL:=I hlen;rw[<-hlen]at hl HA ⊢;clear hlen;generalize x.imports.length=li at *;generalize x.vars.length=lv at *;have HB0:=I (aH w (aY #[A x.name,Y ai li ci,Y av lv cv,Y a len cap] 58));have q3:=oq w (A x.name) (Y ai li ci) (Y av lv cv) (Y a len cap) 58;go_enter func96,ntmps96;go_wp2_with fail;generalize (w.alloc (aY #[A x.name,Y ai li ci,Y av lv cv,Y a len cap] 58))=W0 at *;go_loopw[3,9] (λo i wr=>∃j:Nat,j<=len/\i=O j/\(∃c:Nat,c=max 1 (iU (Xz m) (l.take j))/\o=O c)/\bG W0 wr) (λ_ i _=>len - (intOf i).toNat);case atStart=>exact⟨0,bI _,rfl,⟨1,rfl,rfl⟩,bN _ _⟩
 case round=>
  obtain⟨j,hj,rfl,⟨acc,hac,rfl⟩,hnx⟩:=hrel;have hacc:acc<=1048576:=by have:=bH (wm (f:=Xz m) l j) HM;omega
  have HAC:=I hac;clear hac;by_cases hjl:j<len
  ·obtain⟨y,hy⟩:∃y,l[j]?=some y:=⟨_,bg (by rw[<-HL];exact hjl)⟩;obtain⟨k1,vp,vb,e0,e1,e2,e3,g0,g1,g2,g3,g4,g5,g6,hp,hsb,hx⟩:=kg j y hy;have HST:=I (Eh (f:=Xz m) hy);have Qc:dQ m y.body+iO m y.result<=1048576:=by have:=HW j y hy;omega
   obtain rfl:=HA aV;have hbb:=up HB0 hnx;obtain⟨u0,u1⟩:=eD (aC g0 hbb) (aC g1 hbb);have Xa:=aC g2 hbb;have KD:=aC g3 hbb;obtain⟨u4,u5,u6⟩:=lQ (aC g4 hbb) (aC g5 hbb) (aC g6 hbb);have HAT:Hid (UU wr m vp vb e0 e1 e2 e3 y):=I ⟨k1,hp.below hbb,hsb.below hbb,hx.below hbb⟩;obtain⟨ae,ce,rfl,rfl,rfl,rfl⟩:=hx.shape;obtain⟨a1,kD,rfl,hl1⟩:=hsb.shape;obtain⟨a2,cap2,rfl,hl2⟩:=hp.shape;have dM:=I hnx;clear g0 g1 g2 g3 g4 g5 g6 hx hsb hp hy hnx hbb;go_wp2_with fail;refine(Oq m _ _ _ _ _ _ _ y (HAT.below (aH _ _)) Qc).mono ?_;rintro e w5 ⟨rfl,hb5⟩;have kG:=I (up dM (TU hb5));clear hb5;generalize Xz m y=dy at *;go_wp2_with fail;go_roundw;case rel=>exact⟨j+1,by omega,by go_num,⟨max acc dy,by rw[HST,HAC];omega,I9 rfl⟩,kG⟩
   case measure=>simp[intOf];omega
  ·have e:l.take j=l:=fJ (by have:=HL.out;omega);rw[e]at HAC;clear e;go_wp2;go_ret;exact⟨bQ (by rw[HE,<-HAC];go_num),up HB0 hnx⟩
namespace bO
def jn(l:List aZ):aZ:=⟨(Lib.join (l.map (·.data.toList)) [32]).toArray⟩
def brk(l:List aZ):aZ:=(⟨#[40]⟩:aZ)++jn l++(⟨#[41]⟩:aZ)
end bO
end Go.Proofs.YtbgkpehhdibaoaaGreatDoor
