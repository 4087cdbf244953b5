/- Walks over package lattice, seventh part -/
import Derived.Test.YtfnboapebijcpaaGreatDoorMZAF
import Derived.Deep.RegionHeld3
import Derived.Lib.AppendZerosOnto
import Derived.Lib.Join
set_option maxHeartbeats 16000000
set_option maxRecDepth 100000
namespace Go.Proofs.YtfnboapebijcpaaGreatDoor
open bC
open Go.Proofs.Tryz
open Go.RowKit
namespace bC
structure Ok(ss:List ByteArray)(G:Nat)(L:Nat->Nat)(Z:Nat->Nat->Bool):Prop where
 names:gZ ss=true
 pos:0<ss.length
 six:ss.length<=6
 square:fG G L ss.length=true
 order:o7 Z ss.length=true
 joins:jJ Z ss.length=true
 meets:jJ (tr Z) ss.length=true
theorem vM{ss:List ByteArray}{G:Nat}{L:Nat->Nat}{Z:Nat->Nat->Bool}(h:dD ss G L Z=0):Ok ss G L Z:=by
 unfold dD at h;by_cases h1:gZ ss=false;·rw[if_pos h1]at h;omega
 rw[if_neg h1]at h;by_cases h2:6<ss.length;·rw[if_pos h2]at h;omega
 rw[if_neg h2]at h;by_cases h3:fG G L ss.length=false;·rw[if_pos h3]at h;omega
 rw[if_neg h3]at h;by_cases h4:o7 Z ss.length=false;·rw[if_pos h4]at h;omega
 rw[if_neg h4]at h;by_cases h5:jJ Z ss.length=false;·rw[if_pos h5]at h;omega
 rw[if_neg h5]at h;by_cases h6:jJ (tr Z) ss.length=false;·rw[if_pos h6]at h;omega
 have hn:gZ ss=true:=by simpa using h1
 exact⟨hn,by unfold gZ at hn;simpa using(DC.1 hn).2,by omega,by simpa using h3,by simpa using h4,by simpa using h5,by simpa using h6⟩
end bC
theorem ends_ok(w:World)(vn vl:Value)(ss:List ByteArray)(G:Nat)(L:Nat->Nat)(Z:Nat->Nat->Bool)(hS:Strs w vn ss)(hR:Qb w vl G L Z)(hE:dD ss G L Z=0):Calls prog 194 #[.agg #[vn,vl]] w λe w'=>e=.returned (.tuple #[.int .i64 (sQ Z ss.length:Nat),.int .i64 (sQ (bC.tr Z) ss.length:Nat),.int .i64 0])/\Below w.heap.size w w':=by
 have HS:=hide hS;have HR:=hide hR;have hO:=vM hE;have HO:=hide hO;have h6:=hO.six;clear hS hR hO;go_enter func194,ntmps194;go_wp2_with fail;refine(Jr _ vn vl ss G L Z (HS.below ((aX _ _).alloc (bM _) _)) (HR.below ((aX _ _).alloc (bM _) _))).mono ?_;rintro e w1 ⟨rfl,hb1⟩;rw[hE];have q1:=aA (mQ w vn vl 34) hb1;have HB:=hide (Qc hb1);have HG:=hide (zT (HR.below HB) HO.pos HO.square);clear hb1 hE;go_wp2_with fail
 go_region_with (first
  | (go_at_call_of 270 (vl);refine(FI _ vl ss.length Z ?_ h6).mono ?_;(first|exact HG|exact HG.drew|exact(HG.drew.below hb2));rintro e w' ⟨rfl,hw'⟩;subst hw')
  | (go_at_call 201;refine(FX _ vl ss.length Z ?_ h6).mono ?_;(first|exact HG|exact HG.drew);rintro e w2 ⟨v',rfl,hG2,hb2⟩;have q2:=aA (a:=⟨w.heap.size,1,none⟩) (v:=vl) (by exact q1) hb2;have HG2:=hide hG2;clear hG2)
  | (go_at_call 270;refine(FI _ v' ss.length (bC.tr Z) ?_ h6).mono ?_;(exact HG2);rintro e w' ⟨rfl,hw'⟩;subst hw'))
 all_goals go_wp2;go_ret3;exact⟨rfl,up HB.drew hb2⟩
namespace bC
def yD(x:Ex):Bool:=
 if x.kind=1 then decide (0<=x.n)&&decide (x.n<=999999)&&x.name.toList.isEmpty&&(x.args.length==0)
 else if x.kind=2 then bL x.name.data.toList&&(x.n==0)&&(x.args.length==0)
 else if x.kind=3 then Qd x.name&&(x.n==0)&&(x.args.length==2)
 else if x.kind=4 then o9 x.name&&(x.n==0)&&decide (x.args.length<=4)
 else false
end bC
theorem DR(m:Nat)(x:Ex):dM (m+1) x=(yD x&&x.args.all (dM m)):=by
 obtain⟨k,n,s,args⟩:=x;simp only[dM,yD];by_cases h1:k=1
 ·rw[if_pos h1,if_pos h1];cases args with
  | nil=>simp
  | cons a l=>simp
 rw[if_neg h1,if_neg h1];by_cases h2:k=2
 ·rw[if_pos h2,if_pos h2];cases args with
  | nil=>simp[Bool.and_comm]
  | cons a l=>simp
 rw[if_neg h2,if_neg h2];by_cases h3:k=3;·rw[if_pos h3,if_pos h3];simp only[sV];rw[<-sV,<-sV (Qd s),Bool.and_comm (n==0)]
 rw[if_neg h3,if_neg h3];by_cases h4:k=4;·rw[if_pos h4,if_pos h4];simp only[sV];rw[<-sV,<-sV (o9 s),Bool.and_comm (n==0)]
 rw[if_neg h4,if_neg h4];rfl
theorem KT(w:World)(k n:Int)(s:ByteArray)(a:Option Addr)(args:List Ex)(cap:Nat)(hs:s.size<=maxLen)(hl:args.length<=9223372036854775807):Calls prog 285 #[.agg #[.int .i64 k,.int .i64 n,.string s,.slice a args.length cap]] w λe w'=>e=.returned (.bool (yD ⟨k,n,s,args⟩))/\Below w.heap.size w w':=by
 have HP:Hid (yD ⟨k,n,s,args⟩=if k=1 then decide (0<=n)&&decide (n<=999999)&&s.toList.isEmpty&&(args.length==0)
  else if k=2 then bL s.data.toList&&(n==0)&&(args.length==0)
  else if k=3 then Qd s&&(n==0)&&(args.length==2)
  else if k=4 then o9 s&&(n==0)&&decide (args.length<=4)
  else false):=rfl
 generalize yD ⟨k,n,s,args⟩=R at *;generalize args.length=len at *;clear args;by_cases h1:k=1
 ·subst h1;rw[if_pos rfl]at HP;by_cases hn0:0<=n
  ·rw[decide_eq_true hn0,gV]at HP;by_cases hn1:n<=999999
   ·rw[decide_eq_true hn1,gV]at HP;cases hb2:s.toList.isEmpty;·rw[hb2]at HP;go_enter func285,ntmps285;go_wp2;go_ret;exact⟨aH (by rw[HP];rfl),aB _ _⟩
    ·rw[hb2,gV]at HP;go_enter func285,ntmps285;go_wp2;go_ret;exact⟨aH (by rw[HP];exact nZ len 0),aB _ _⟩
   ·rw[decide_eq_false hn1]at HP;go_enter func285,ntmps285;go_wp2;go_ret;exact⟨aH (by rw[HP];rfl),aB _ _⟩
  ·rw[decide_eq_false hn0]at HP;go_enter func285,ntmps285;go_wp2;go_ret;exact⟨aH (by rw[HP];rfl),aB _ _⟩
 rw[if_neg h1]at HP;by_cases h2:k=2
 ·subst h2;rw[if_pos rfl]at HP;clear h1;go_enter func285,ntmps285;go_wp2_with fail;refine(iZ _ s hs).mono ?_;rintro e w' ⟨rfl,hw⟩;subst hw;cases hb:bL s.data.toList;·rw[hb]at HP;go_wp2;go_ret;exact⟨aH (by rw[HP];rfl),aB _ _⟩
  ·rw[hb,gV]at HP;cases hn:(n==0);·rw[hn]at HP;go_wp2;go_ret;exact⟨aH (by rw[HP];rfl),aB _ _⟩
   ·rw[hn,gV]at HP;go_wp2;go_ret;exact⟨aH (by rw[HP];exact nZ len 0),aB _ _⟩
 rw[if_neg h2]at HP;by_cases h3:k=3
 ·subst h3;rw[if_pos rfl]at HP;clear h1 h2;go_enter func285,ntmps285;go_wp2_with fail;refine(Fz _ s hs).mono ?_;rintro e w' ⟨rfl,hw⟩;subst hw;cases hb:Qd s;·rw[hb]at HP;go_wp2;go_ret;exact⟨aH (by rw[HP];rfl),aB _ _⟩
  ·rw[hb,gV]at HP;cases hn:(n==0);·rw[hn]at HP;go_wp2;go_ret;exact⟨aH (by rw[HP];rfl),aB _ _⟩
   ·rw[hn,gV]at HP;go_wp2;go_ret;exact⟨aH (by rw[HP];exact nZ len 2),aB _ _⟩
 rw[if_neg h3]at HP;by_cases h4:k=4
 ·subst h4;rw[if_pos rfl]at HP;clear h1 h2 h3;have q1:(w.alloc (.cells #[.int .i64 4,.int .i64 n,.string s,.slice a len cap] 129)).cell? ⟨w.heap.size,1,none⟩=some (.int .i64 n):=by simp[go_sem]
  have q3:=kU w (.int .i64 4) (.int .i64 n) (.string s) (.slice a len cap) 129;go_enter func285,ntmps285;go_wp2_with fail;refine(Kv _ s hs).mono ?_;rintro e w1 ⟨rfl,hb1⟩;have p1:=aA q1 hb1;have p3:=aA q3 hb1;have HB:=hide (Qc hb1);clear q1 q3 hb1;cases hb:o9 s;·rw[hb]at HP;go_wp2;go_ret;exact⟨aH (by rw[HP];rfl),HB⟩
  ·rw[hb,gV]at HP;cases hn:(n==0);·rw[hn]at HP;go_wp2;go_ret;exact⟨aH (by rw[HP];rfl),HB⟩
   ·rw[hn,gV]at HP;go_wp2;go_ret;exact⟨aH (by rw[HP];exact decide_eq_decide.2 (by omega)),HB⟩
 rw[if_neg h4]at HP;have k1:(k==1)=false:=by simp[h1]
 have k2:(k==2)=false:=by simp[h2]
 have k3:(k==3)=false:=by simp[h3]
 have k4:(k==4)=false:=by simp[h4]
 clear h1 h2 h3 h4;go_enter func285,ntmps285;go_wp2;go_ret;exact⟨aH (by rw[HP]),aB _ _⟩
theorem Gc(m:Nat):∀(w:World) (c0 c1 c2 c3:Value) (x:Ex),gq w m c0 c1 c2 c3 x->Calls prog 220 #[.agg #[c0,c1,c2,c3]] w λe w'=>e=.returned (.bool (dM m x))/\Below w.heap.size w w':=by
 induction m with
 | zero=>intro w c0 c1 c2 c3 x h;exact False.elim h
 | succ m ih=>
  intro w c0 c1 c2 c3 x h;have HI:=hide ih;clear ih;obtain⟨rfl,rfl,rfl,hsz,hk1,hk2,a,b,off,cap,rfl,ha,hl,hel⟩:=h;obtain⟨k,n,s,args⟩:=x;simp only at hsz hk1 hk2 ha hl hel ⊢;have HE:=hide (DR m ⟨k,n,s,args⟩);have xQ:=hide (λw=>KT w k n s a args cap hsz hl);have gF:=hide hel;have HA:=hide ha;clear hel ha;generalize yD ⟨k,n,s,args⟩=pb at *;obtain⟨len,hlen⟩:=aG args.length;have HL:=hide hlen;rw[<-hlen]at hl HA xQ ⊢;clear hlen;have q3:=kU w (.int .i64 k) (.int .i64 n) (.string s) (.slice a len cap) 129;go_enter func220,ntmps220;go_wp2_with fail;refine(xQ _).mono ?_;rintro e W0 ⟨rfl,hb1⟩;replace q3:=aA q3 hb1;have HB0:=hide (Qc hb1);clear hb1;cases pb;·go_wp2;go_ret;exact⟨aH (by rw[HE];rfl),HB0⟩
  ·go_wp2;go_loopw[11] (λi wr=>∃j:Nat,j<=len/\i=.int .i64 j/\(∀d y,d<j->args[d]?=some y->dM m y=true)/\Below W0.heap.size W0 wr) (λi _=>len - (intOf i).toNat);case atStart=>exact⟨0,bJ _,rfl,λd y hd=>absurd hd (dY _),aX _ _⟩
   case round=>
    obtain⟨j,hj,rfl,hall,hnx⟩:=hrel;have cO:=hide hall;clear hall;by_cases hjl:j<len
    ·obtain⟨y,hy⟩:∃y,args[j]?=some y:=⟨_,aU (by rw[<-HL];exact hjl)⟩;obtain⟨e0,e1,e2,e3,g0,g1,g2,g3,hye⟩:=gF j y hy;have HY:=hide hy;obtain rfl:=HA (by omega);have hbb:=up HB0 hnx;have u0:=aA g0 hbb;have u1:=aA g1 hbb;have Qt:=aA g2 hbb;have Ed:=aA g3 hbb;have Ni:=hide (hye.below hbb);obtain⟨a',cap',rfl,rfl,rfl,rfl⟩:=hye.shape;have bR:=hide hnx;clear g0 g1 g2 g3 hye hy hbb hnx;go_wp2_with fail;refine(HI _ _ _ _ _ y (Ni.below (aB _ _))).mono ?_;rintro e w5 ⟨rfl,hb5⟩;have iL:=hide (up bR (Qc hb5));clear hb5 bR;cases hyb:dM m y;·have Ko:=hide hyb;go_wp2;go_ret;exact⟨aH (by rw[HE,zL HY Ko];rfl),up HB0 iL⟩
     ·have Ko:=hide hyb;go_wp2;go_roundw;case rel=>exact⟨j+1,by omega,by go_num,λd z hd hz=>by
       by_cases e:d=j;·subst e;rw[HY]at hz;cases hz;exact Ko
       ·exact cO d z (by omega) hz,iL⟩
      case measure=>simp[intOf];omega
    ·go_wp2;go_ret;have hall:args.all (dM m)=true:=zK (λd z hz=>cO d z (by have:=(dG.1 hz).1;have:=HL.out;omega) hz);exact⟨aH (by rw[HE,hall];rfl),up HB0 hnx⟩
theorem KU(w:World)(k:Int)(nm:ByteArray)(ke ne:Int)(se:ByteArray)(ae:Option Addr)(le ce:Nat)(a1 a2:Option Addr)(l1 l2 c1 c2:Nat)(R:Bool)(hR:R=if k=1\/k=4 then bL nm.data.toList&&(l2==0)&&(l1==0)else if k=2 then nm.toList.isEmpty else if k=3 then nm.toList.isEmpty&&(l2==0)else false)(hs:nm.size<=maxLen)(_h1:l1<=9223372036854775807)(_h2:l2<=9223372036854775807):Calls prog 340 #[.agg #[.int .i64 k,.string nm,.int .i64 ke,.int .i64 ne,.string se,.slice ae le ce,.slice a1 l1 c1,.slice a2 l2 c2]] w λe w'=>e=.returned (.bool R)/\Below w.heap.size w w':=by
 have HP:=hide hR;clear hR;by_cases k14:k=1\/k=4
 ·rw[if_pos k14]at HP;rcases k14 with rfl|rfl;all_goals
   go_enter func340,ntmps340;go_wp2_with fail;refine(iZ _ nm hs).mono ?_;rintro e w' ⟨rfl,hw⟩;subst hw;cases hb:bL nm.data.toList;·rw[hb]at HP;go_wp2;go_ret;exact⟨aH (by rw[HP];rfl),aB _ _⟩
   ·rw[hb,gV]at HP;by_cases hl1:l1=0
    ·have hl1':((l1:Int)==0)=true:=by simp[hl1]
     rw[show(l1==0)=true from by simp[hl1],Bool.and_true]at HP;clear hl1;go_wp2;go_ret;exact⟨aH (by rw[HP];exact nZ l2 0),aB _ _⟩
    ·have hl1':((l1:Int)==0)=false:=by simp[hl1]
     rw[show(l1==0)=false from by simp[hl1],Af]at HP;clear hl1;go_wp2;go_ret;exact⟨aH (by rw[HP]),aB _ _⟩
 rw[if_neg k14]at HP;have n1:(k==1)=false:=by simp;omega
 have n4:(k==4)=false:=by simp;omega
 by_cases k2:k=2;·subst k2;rw[if_pos rfl]at HP;clear k14 n1 n4;generalize hb:nm.toList.isEmpty=b2 at *;have HB:=hide hb;cases b2;all_goals go_enter func340,ntmps340;go_wp2;go_ret;exact⟨aH (by rw[HP]),aB _ _⟩
 rw[if_neg k2]at HP;have n2:(k==2)=false:=by simp;omega
 by_cases k3:k=3
 ·subst k3;rw[if_pos rfl]at HP;clear k14 k2 n1 n2 n4;cases hb:nm.toList.isEmpty;·rw[hb]at HP;go_enter func340,ntmps340;go_wp2;go_ret;exact⟨aH (by rw[HP];rfl),aB _ _⟩
  ·rw[hb,gV]at HP;go_enter func340,ntmps340;go_wp2;go_ret;exact⟨aH (by rw[HP];exact nZ l2 0),aB _ _⟩
 rw[if_neg k3]at HP;have n3:(k==3)=false:=by simp;omega
 clear k14 k2 k3;go_enter func340,ntmps340;go_wp2;go_ret;exact⟨aH (by rw[HP]),aB _ _⟩
def QS(w:World)(m:Nat)(e0 e1 e2 e3 va vb:Value)(s:St):Prop:=
 Qr s.kind/\s.name.size<=maxLen/\gq w m e0 e1 e2 e3 s.e/\dW w m va s.a/\dW w m vb s.b
theorem QS.below{w w':World}{m:Nat}{e0 e1 e2 e3 va vb:Value}{s:St}(h:QS w m e0 e1 e2 e3 va vb s)(hb:Below w.heap.size w w'):QS w' m e0 e1 e2 e3 va vb s:=
 ⟨h.1,h.2.1,h.2.2.1.below hb,h.2.2.2.1.below hb,h.2.2.2.2.below hb⟩
section
variable (w : World) (c0 c1 c2 c3 c4 c5 c6 c7 : Value) (t : TypeId)
theorem box8_0:(w.alloc (.cells #[c0,c1,c2,c3,c4,c5,c6,c7] t)).cell? ⟨w.heap.size,0,none⟩=some c0:=by simp[go_sem]
theorem box8_2:(w.alloc (.cells #[c0,c1,c2,c3,c4,c5,c6,c7] t)).cell? ⟨w.heap.size,2,none⟩=some c2:=by simp[go_sem]
theorem box8_3:(w.alloc (.cells #[c0,c1,c2,c3,c4,c5,c6,c7] t)).cell? ⟨w.heap.size,3,none⟩=some c3:=by simp[go_sem]
theorem box8_4:(w.alloc (.cells #[c0,c1,c2,c3,c4,c5,c6,c7] t)).cell? ⟨w.heap.size,4,none⟩=some c4:=by simp[go_sem]
theorem box8_5:(w.alloc (.cells #[c0,c1,c2,c3,c4,c5,c6,c7] t)).cell? ⟨w.heap.size,5,none⟩=some c5:=by simp[go_sem]
end
theorem KV(m:Nat)(hi:∀(w:World) (v:Value) (l:List St),dW w m v l->Calls prog 219 #[v] w λe w'=>e=.returned (.bool (fZ m l))/\Below w.heap.size w w')(w:World)(e0 e1 e2 e3 va vb:Value)(s:St)(h:QS w m e0 e1 e2 e3 va vb s):Calls prog 284 #[.agg #[.int .i64 s.kind,.string s.name,e0,e1,e2,e3,va,vb]] w λe w'=>e=.returned (.bool (sG m s))/\Below w.heap.size w w':=by
 have HI:=hide hi;clear hi;have HS:=hide h;obtain⟨_,hnm,hx,hsa,hsb⟩:=h;obtain⟨ae,ce,rfl,rfl,rfl,rfl⟩:=hx.shape;obtain⟨a1,jm,rfl,hl1⟩:=hsa.shape;obtain⟨a2,cap2,rfl,hl2⟩:=hsb.shape;clear hx hsa hsb;have HE:Hid (sG m s=(vB s&&dM m s.e&&fZ m s.a&&fZ m s.b)):=rfl;have HSH:=hide (λw=>KU w s.kind s.name s.e.kind s.e.n s.e.name ae s.e.args.length ce a1 a2 s.a.length s.b.length jm cap2 (vB s) rfl hnm hl1 hl2);generalize s.e.args.length=le at *;generalize s.a.length=l1 at *;generalize s.b.length=l2 at *;have q2:=box8_2 w (.int .i64 s.kind) (.string s.name) (.int .i64 s.e.kind) (.int .i64 s.e.n) (.string s.e.name) (.slice ae le ce) (.slice a1 l1 jm) (.slice a2 l2 cap2) 144;have q3:=box8_3 w (.int .i64 s.kind) (.string s.name) (.int .i64 s.e.kind) (.int .i64 s.e.n) (.string s.e.name) (.slice ae le ce) (.slice a1 l1 jm) (.slice a2 l2 cap2) 144;have q4:=box8_4 w (.int .i64 s.kind) (.string s.name) (.int .i64 s.e.kind) (.int .i64 s.e.n) (.string s.e.name) (.slice ae le ce) (.slice a1 l1 jm) (.slice a2 l2 cap2) 144;have q5:=box8_5 w (.int .i64 s.kind) (.string s.name) (.int .i64 s.e.kind) (.int .i64 s.e.n) (.string s.e.name) (.slice ae le ce) (.slice a1 l1 jm) (.slice a2 l2 cap2) 144;have q6:=xZ w (.int .i64 s.kind) (.string s.name) (.int .i64 s.e.kind) (.int .i64 s.e.n) (.string s.e.name) (.slice ae le ce) (.slice a1 l1 jm) (.slice a2 l2 cap2) 144;have q7:=x9 w (.int .i64 s.kind) (.string s.name) (.int .i64 s.e.kind) (.int .i64 s.e.n) (.string s.e.name) (.slice ae le ce) (.slice a1 l1 jm) (.slice a2 l2 cap2) 144;go_enter func284,ntmps284;go_wp2_with fail;refine(HSH _).mono ?_;rintro e w1 ⟨rfl,hb1⟩;replace q2:=aA q2 hb1;replace q3:=aA q3 hb1;replace q4:=aA q4 hb1;replace q5:=aA q5 hb1;replace q6:=aA q6 hb1;replace q7:=aA q7 hb1;have HB1:=hide (Qc hb1);clear hb1 HSH;generalize vB s=sh at *;cases sh;·go_wp2;go_ret;exact⟨aH (by rw[HE];rfl),HB1⟩
 go_wp2_with fail;refine(Gc m _ _ _ _ _ s.e (HS.below HB1).2.2.1).mono ?_;rintro e w2 ⟨rfl,hb2⟩;replace q6:=aA q6 hb2;replace q7:=aA q7 hb2;have HB2:=hide (up HB1 hb2);clear hb2 q2 q3 q4 q5;generalize dM m s.e=xb at *;cases xb;·go_wp2;go_ret;exact⟨aH (by rw[HE];rfl),HB2⟩
 go_wp2_with fail;refine(HI _ _ s.a (HS.below HB2).2.2.2.1).mono ?_;rintro e w3 ⟨rfl,hb3⟩;replace q7:=aA q7 hb3;have HB3:=hide (up HB2 hb3);clear hb3 q6;generalize fZ m s.a=ab at *;cases ab;·go_wp2;go_ret;exact⟨aH (by rw[HE];rfl),HB3⟩
 go_wp2_with fail;refine(HI _ _ s.b (HS.below HB3).2.2.2.2).mono ?_;rintro e w4 ⟨rfl,hb4⟩;have qY:=hide (up HB3 hb4);clear hb4 q7;generalize fZ m s.b=bb at *;go_wp2;go_ret;exact⟨aH (by rw[HE];cases bb<;>rfl),qY⟩
theorem Em(m:Nat):∀(w:World) (v:Value) (l:List St),dW w m v l->Calls prog 219 #[v] w λe w'=>e=.returned (.bool (fZ m l))/\Below w.heap.size w w':=by
 induction m with
 | zero=>intro w v l h;exact False.elim h
 | succ m ih=>
  intro w v l h;have HI:=hide (KV m ih);clear ih;obtain⟨a,b,off,cap,rfl,ha,hl,hel⟩:=h;have HE:=hide (sW m l);have gF:=hide hel;have HA:=hide ha;clear hel ha;obtain⟨len,hlen⟩:=aG l.length;have HL:=hide hlen;rw[<-hlen]at hl HA ⊢;clear hlen;go_enter func219,ntmps219;go_wp2;go_loopw[7] (λi wr=>∃j:Nat,j<=len/\i=.int .i64 j/\(∀d y,d<j->l[d]?=some y->sG m y=true)/\Below w.heap.size w wr) (λi _=>len - (intOf i).toNat);case atStart=>exact⟨0,bJ _,rfl,λd y hd=>absurd hd (dY _),aX _ _⟩
  case round=>
   obtain⟨j,hj,rfl,hall,hnx⟩:=hrel;have cO:=hide hall;clear hall;by_cases hjl:j<len
   ·obtain⟨y,hy⟩:∃y,l[j]?=some y:=⟨_,aU (by rw[<-HL];exact hjl)⟩;obtain⟨k1,k2,e0,e1,e2,e3,va,vb,g0,g1,g2,g3,g4,g5,g6,g7,hx,hsa,hsb⟩:=gF j y hy;have HY:=hide hy;obtain rfl:=HA (by omega);have u0:=aA g0 hnx;have u1:=aA g1 hnx;have Qt:=aA g2 hnx;have Ed:=aA g3 hnx;have u4:=aA g4 hnx;have u5:=aA g5 hnx;have u6:=aA g6 hnx;have u7:=aA g7 hnx;have HST:Hid (QS wr m e0 e1 e2 e3 va vb y):=hide ⟨k1,k2,hx.below hnx,hsa.below hnx,hsb.below hnx⟩;obtain⟨ae,ce,rfl,rfl,rfl,rfl⟩:=hx.shape;obtain⟨a1,jm,rfl,hl1⟩:=hsa.shape;obtain⟨a2,cap2,rfl,hl2⟩:=hsb.shape;have bR:=hide hnx;clear g0 g1 g2 g3 g4 g5 g6 g7 hx hsa hsb hy hnx;go_wp2_with fail;refine(HI _ _ _ _ _ _ _ y (HST.below (aB _ _))).mono ?_;rintro e w5 ⟨rfl,hb5⟩;have iL:=hide (up bR (Qc hb5));clear hb5 bR;cases hyb:sG m y;·have Ko:=hide hyb;go_wp2;go_ret;exact⟨aH (by rw[HE,Nn HY Ko]),iL⟩
    ·have Ko:=hide hyb;go_wp2;go_roundw;case rel=>exact⟨j+1,by omega,by go_num,λd z hd hz=>by
      by_cases e:d=j;·subst e;rw[HY]at hz;cases hz;exact Ko
      ·exact cO d z (by omega) hz,iL⟩
     case measure=>simp[intOf];omega
   ·go_wp2;go_ret;have hall:l.all (sG m)=true:=Nl (λd z hz=>cO d z (by have:=(dG.1 hz).1;have:=HL.out;omega) hz);exact⟨aH (by rw[HE,hall]),hnx⟩
namespace bC
def gH{α:Type}(f:α->Nat)(l:List α):Nat:=l.foldl (λa y=>max a (f y)) 0
def uN:Nat->Ex->Nat
 | 0,_=>0
 | m+1,x=>if x.kind=1\/x.kind=2 then 0 else 1+gH (uN m) x.args
def Io:Nat->List St->Nat
 | 0,_=>0
 | m+1,l=>gH (λs=>1+if s.kind=2\/s.kind=3 then max (max (uN m s.e) (1+Io m s.a)) (1+Io m s.b)else uN m s.e) l
def Og(m:Nat)(s:St):Nat:=1+if s.kind=2\/s.kind=3 then max (max (uN m s.e) (1+Io m s.a)) (1+Io m s.b)else uN m s.e
theorem Gd(m:Nat)(l:List St):Io (m+1) l=gH (Og m) l:=rfl
def TM(m:Nat)(f:Fu):Nat:=1+max (max 1 (Io m f.body)) (uN m f.result)
def moD(m:Nat)(x:Mo):Nat:=1+max 1 (gH (TM m) x.aR)
end bC
section
variable {α : Type} {f : α → Nat}
theorem JA(l:List α)(a:Nat):l.foldl (λa y=>max a (f y)) a=max a (gH f l):=by
 induction l generalizing a with
 | nil=>simp[gH]
 | cons y l ih =>unfold gH;rw[pG,pG,ih,ih];omega
theorem bH(y:α)(l:List α):gH f (y::l)=max (f y) (gH f l):=by rw[gH,pG,JA];omega
theorem mZ(l k:List α):gH f (l++k)=max (gH f l) (gH f k):=by rw[gH,KG,JA];rfl
theorem Ck{l:List α}{j:Nat}{y:α}(h:l[j]?=some y):gH f (l.take (j+1))=max (gH f (l.take j)) (f y):=by obtain⟨hj,rfl⟩:=dG.1 h;rw[lI hj,mZ,bH];simp[gH]
theorem EO{B:Nat}{l:List α}(h:∀y∈l,f y<=B):gH f l<=B:=by
 induction l with
 | nil=>exact bJ _
 | cons y l ih =>rw[bH];have h1:=h y (by simp);have h2:=ih (λz hz=>h z (by simp[hz]));omega
theorem Gf{g:α->Nat}{l:List α}(h:∀y∈l,f y<=g y):gH f l<=(l.map g).sum:=by
 induction l with
 | nil=>exact bJ _
 | cons y l ih =>rw[bH,dN,jE];have h1:=h y (by simp);have h2:=ih (λz hz=>h z (by simp[hz]));omega
theorem tK(l:List α)(j:Nat):gH f (l.take j)<=gH f l:=by
 conv=>rhs;rw[<-kW j l]
 rw[mZ];omega
end
theorem Cm:∀(m:Nat) (x:Ex),uN m x<=eu m x
 | 0,_=>bM _
 | m+1,x=>by simp only[uN,eu];have:=Gf (f:=uN m) (g:=eu m) (l:=x.args) (λy _=>Cm m y);split<;>omega
theorem yE:∀(m:Nat) (l:List St),Io m l<=bK m l
 | 0,_=>bM _
 | m+1,l=>by simp only[Io,bK];refine bS (Gf (g:=λs=>s.name.size+3+eu m s.e+bK m s.a+bK m s.b) (λs _=>?_)) (bP _);have h1:=Cm m s.e;have h2:=yE m s.a;have h3:=yE m s.b;split<;>omega
theorem wrap_small{x:Int}(h0:0<=x)(h1:x<=9223372036854775807):IntKind.i64.wrap x=x:=by rw[IntKind.wrap_i64];omega
theorem Gg{a b c:Nat}(h:c=max a b):Value.int .i64 (max (a:Int) (b:Int))=.int .i64 c:=by rw[h];congr 1;omega
theorem xR(m:Nat):∀(w:World) (c0 c1 c2 c3:Value) (x:Ex),gq w m c0 c1 c2 c3 x->eu m x<=1048576->Calls prog 287 #[.agg #[c0,c1,c2,c3]] w λe w'=>e=.returned (.int .i64 (uN m x))/\Below w.heap.size w w':=by
 induction m with
 | zero=>intro w c0 c1 c2 c3 x h;exact False.elim h
 | succ m ih=>
  intro w c0 c1 c2 c3 x h hw;have HI:=hide ih;clear ih;obtain⟨rfl,rfl,rfl,hsz,hk1,hk2,a,b,off,cap,rfl,ha,hl,hel⟩:=h;obtain⟨k,n,s,args⟩:=x;simp only at hsz hk1 hk2 ha hl hel ⊢;have gF:=hide hel;have HA:=hide ha;have HW:Hid (∀(i:Nat) (y:Ex),args[i]?=some y->eu m y<=1048576):=hide (λi y hy=>by have:eu m y<=(args.map (eu m)).sum:=jd (gD hy);simp only[eu]at hw;omega);have HM:Hid (gH (uN m) args<=1048576):=hide (by have:=Gf (f:=uN m) (g:=eu m) (l:=args) (λy _=>Cm m y);simp only[eu]at hw;omega);have HE:Hid (uN (m+1) ⟨k,n,s,args⟩=if k=1\/k=2 then 0 else 1+gH (uN m) args):=rfl;clear hel ha hw;obtain⟨len,hlen⟩:=aG args.length;have HL:=hide hlen;rw[<-hlen]at hl HA ⊢;clear hlen;by_cases h1:k=1;·subst h1;go_enter func287,ntmps287;go_wp2;go_ret;exact⟨bA (by rw[HE];rfl),aB _ _⟩
  by_cases h2:k=2;·subst h2;go_enter func287,ntmps287;go_wp2;go_ret;exact⟨bA (by rw[HE];rfl),aB _ _⟩
  rw[if_neg (by omega)]at HE;have k1:(k==1)=false:=by simp[h1]
  have k2:(k==2)=false:=by simp[h2]
  clear h1 h2;have q3:=kU w (.int .i64 k) (.int .i64 n) (.string s) (.slice a len cap) 129;have HB0:=hide (aB w (.cells #[.int .i64 k,.int .i64 n,.string s,.slice a len cap] 129));go_enter func287,ntmps287;go_wp2_with fail;generalize (w.alloc (.cells #[.int .i64 k,.int .i64 n,.string s,.slice a len cap] 129))=W0 at *;go_loopw[3,17] (λo i wr=>∃j:Nat,j<=len/\i=.int .i64 j/\o=.int .i64 (gH (uN m) (args.take j))/\Below W0.heap.size W0 wr) (λ_ i _=>len - (intOf i).toNat);case atStart=>exact⟨0,bJ _,rfl,rfl,aX _ _⟩
  case round=>
   obtain⟨j,hj,rfl,rfl,hnx⟩:=hrel;have hacc:=bS (tK (f:=uN m) args j) HM;by_cases hjl:j<len
   ·obtain⟨y,hy⟩:∃y,args[j]?=some y:=⟨_,aU (by rw[<-HL];exact hjl)⟩;obtain⟨e0,e1,e2,e3,g0,g1,g2,g3,hye⟩:=gF j y hy;obtain rfl:=HA (by omega);have hbb:=up HB0 hnx;have u0:=aA g0 hbb;have u1:=aA g1 hbb;have Qt:=aA g2 hbb;have Ed:=aA g3 hbb;have Ni:=hide (hye.below hbb);obtain⟨a',cap',rfl,rfl,rfl,rfl⟩:=hye.shape;have M7:=HW j y hy;have HST:=hide (Ck (f:=uN m) hy);have bR:=hide hnx;clear g0 g1 g2 g3 hye hy hbb hnx;go_wp2_with fail;refine(HI _ _ _ _ _ y (Ni.below (aB _ _)) M7).mono ?_;rintro e w5 ⟨rfl,hb5⟩;have iL:=hide (up bR (Qc hb5));clear hb5 bR M7;generalize uN m y=dy at *;generalize gH (uN m) (args.take j)=acc at *;go_wp2_with fail;go_roundw;case rel=>exact⟨j+1,by omega,by go_num,Gg HST,iL⟩
    case measure=>simp[intOf];omega
   ·have e:args.take j=args:=eP (by have:=HL.out;omega);rw[e]at hacc ⊢;clear e;generalize gH (uN m) args=acc at *;go_wp2;go_ret;exact⟨bA (by rw[HE];go_num),up HB0 hnx⟩
theorem En(m:Nat)(hi:∀(w:World) (v:Value) (l:List St),dW w m v l->bK m l<=1048576->Calls prog 286 #[v] w λe w'=>e=.returned (.int .i64 (Io m l))/\Below w.heap.size w w')(w:World)(e0 e1 e2 e3 va vb:Value)(s:St)(h:QS w m e0 e1 e2 e3 va vb s)(hw:s.name.size+3+eu m s.e+bK m s.a+bK m s.b<=1048576):Calls prog 343 #[.agg #[.int .i64 s.kind,.string s.name,e0,e1,e2,e3,va,vb]] w λe w'=>e=.returned (.int .i64 (Og m s))/\Below w.heap.size w w':=by
 have HI:=hide hi;clear hi;have HS:=hide h;obtain⟨_,hnm,hx,hsa,hsb⟩:=h;obtain⟨ae,ce,rfl,rfl,rfl,rfl⟩:=hx.shape;obtain⟨a1,jm,rfl,hl1⟩:=hsa.shape;obtain⟨a2,cap2,rfl,hl2⟩:=hsb.shape;clear hx hsa hsb;have HE:Hid (Og m s=1+if s.kind=2\/s.kind=3 then max (max (uN m s.e) (1+Io m s.a)) (1+Io m s.b)else uN m s.e):=rfl;have w1:eu m s.e<=1048576:=by omega
 have w2:bK m s.a<=1048576:=by omega
 have w3:bK m s.b<=1048576:=by omega
 have d1:=bS (Cm m s.e) w1;have d2:=bS (yE m s.a) w2;have d3:=bS (yE m s.b) w3;clear hw;generalize s.e.args.length=le at *;generalize s.a.length=l1 at *;generalize s.b.length=l2 at *;have q0:=box8_0 w (.int .i64 s.kind) (.string s.name) (.int .i64 s.e.kind) (.int .i64 s.e.n) (.string s.e.name) (.slice ae le ce) (.slice a1 l1 jm) (.slice a2 l2 cap2) 144;have q6:=xZ w (.int .i64 s.kind) (.string s.name) (.int .i64 s.e.kind) (.int .i64 s.e.n) (.string s.e.name) (.slice ae le ce) (.slice a1 l1 jm) (.slice a2 l2 cap2) 144;have q7:=x9 w (.int .i64 s.kind) (.string s.name) (.int .i64 s.e.kind) (.int .i64 s.e.n) (.string s.e.name) (.slice ae le ce) (.slice a1 l1 jm) (.slice a2 l2 cap2) 144;have HB0:=hide (aB w (.cells #[.int .i64 s.kind,.string s.name,.int .i64 s.e.kind,.int .i64 s.e.n,.string s.e.name,.slice ae le ce,.slice a1 l1 jm,.slice a2 l2 cap2] 144));go_enter func343,ntmps343;go_wp2_with fail;refine(xR m _ _ _ _ _ s.e (HS.below HB0).2.2.1 w1).mono ?_;rintro e w5 ⟨rfl,hb5⟩;replace q0:=aA q0 hb5;replace q6:=aA q6 hb5;replace q7:=aA q7 hb5;have HN:=hide (up HB0 hb5);clear hb5 HB0;have UU:=hide (HS.below HN).2.2.2.1;have vC:=hide (HS.below HN).2.2.2.2;generalize uN m s.e=de at *;by_cases hk:s.kind=2\/s.kind=3
 ·rw[if_pos hk]at HE
  have HF:Hid (∀wx,Hid (Below w5.heap.size w5 wx)->Hid (Below w5.heap.size w5 wx)/\wx.cell? ⟨w.heap.size,6,none⟩=some (.slice a1 l1 jm)/\wx.cell? ⟨w.heap.size,7,none⟩=some (.slice a2 l2 cap2)):=
   λwx h=>⟨h,aA q6 h,aA q7 h⟩
  have xP:Hid (Below w5.heap.size w5 w5):=hide (aX _ _);generalize hda:Io m s.a=da at *;have HDA:=hide hda;clear hda;generalize hdb:Io m s.b=db at *;have HDB:=hide hdb;clear hdb q6 q7;have WA:Hid (IntKind.i64.wrap (1+(da:Int))=1+(da:Int)):=hide (wrap_small (by omega) (by omega));have WB:Hid (IntKind.i64.wrap (1+(db:Int))=1+(db:Int)):=hide (wrap_small (by omega) (by omega));rcases hk with hk|hk;all_goals
   rw[hk]at q0;go_wp2_with fail
   go_region_held3 (λwx=>Hid (Below w5.heap.size w5 wx)/\wx.cell? ⟨w.heap.size,6,none⟩=some (.slice a1 l1 jm)/\wx.cell? ⟨w.heap.size,7,none⟩=some (.slice a2 l2 cap2))
    (first|exact HF _ Ab|exact HF _ qP|exact HF _ (hide xP.drew))
    (first
     | (go_at_call_of 286 (a1);refine(HI _ _ s.a ?_ w2).mono ?_;(exact UU.below xP.drew);rintro e w30 ⟨rfl,Ac⟩;have qP:=hide (up xP.drew Ac);clear Ac;rw[HDA])
     | (go_at_call_of 286 (a2);refine(HI _ _ s.b ?_ w3).mono ?_;(exact vC.below qP);rintro e w31 ⟨rfl,Ad⟩;have Ab:=hide (up qP Ad);clear Ad;rw[HDB]))
   all_goals go_wp2
   all_goals go_ret;exact⟨bA (by rw[HE];simp only[WA.out,WB.out]at *;omega),up HN Ab⟩
 ·rw[if_neg hk]at HE;have k2:(s.kind==2)=false:=by simp;omega
  have k3:(s.kind==3)=false:=by simp;omega
  clear hk q6 q7;go_wp2;go_ret;exact⟨bA (by rw[HE];go_num),HN⟩
theorem Ag(m:Nat):∀(w:World) (v:Value) (l:List St),dW w m v l->bK m l<=1048576->Calls prog 286 #[v] w λe w'=>e=.returned (.int .i64 (Io m l))/\Below w.heap.size w w':=by
 induction m with
 | zero=>intro w v l h;exact False.elim h
 | succ m ih=>
  intro w v l h hw;have HI:=hide (En m ih);clear ih;obtain⟨a,b,off,cap,rfl,ha,hl,hel⟩:=h;have HE:=hide (Gd m l);have HM:Hid (gH (Og m) l<=1048576):=hide (by rw[<-Gd];exact bS (yE _ _) hw);have HW:Hid (∀(i:Nat) (y:St),l[i]?=some y->y.name.size+3+eu m y.e+bK m y.a+bK m y.b<=1048576):=hide (λi y hy=>by have:y.name.size+3+eu m y.e+bK m y.a+bK m y.b<=(l.map λs:St=>s.name.size+3+eu m s.e+bK m s.a+bK m s.b).sum:=jd (f:=λs:St=>s.name.size+3+eu m s.e+bK m s.a+bK m s.b) (gD hy);simp only[bK]at hw;omega);have gF:=hide hel;have HA:=hide ha;clear hel ha hw;obtain⟨len,hlen⟩:=aG l.length;have HL:=hide hlen;rw[<-hlen]at hl HA ⊢;clear hlen;go_enter func286,ntmps286;go_wp2;go_loopw[3,8] (λo i wr=>∃j:Nat,j<=len/\i=.int .i64 j/\o=.int .i64 (gH (Og m) (l.take j))/\Below w.heap.size w wr) (λ_ i _=>len - (intOf i).toNat);case atStart=>exact⟨0,bJ _,rfl,rfl,aX _ _⟩
  case round=>
   obtain⟨j,hj,rfl,rfl,hnx⟩:=hrel;have hacc:=bS (tK (f:=Og m) l j) HM;by_cases hjl:j<len
   ·obtain⟨y,hy⟩:∃y,l[j]?=some y:=⟨_,aU (by rw[<-HL];exact hjl)⟩;obtain⟨k1,k2,e0,e1,e2,e3,va,vb,g0,g1,g2,g3,g4,g5,g6,g7,hx,hsa,hsb⟩:=gF j y hy;have HST:=hide (Ck (f:=Og m) hy);have M7:=HW j y hy;obtain rfl:=HA (by omega);have u0:=aA g0 hnx;have u1:=aA g1 hnx;have Qt:=aA g2 hnx;have Ed:=aA g3 hnx;have u4:=aA g4 hnx;have u5:=aA g5 hnx;have u6:=aA g6 hnx;have u7:=aA g7 hnx;have HAT:Hid (QS wr m e0 e1 e2 e3 va vb y):=hide ⟨k1,k2,hx.below hnx,hsa.below hnx,hsb.below hnx⟩;obtain⟨ae,ce,rfl,rfl,rfl,rfl⟩:=hx.shape;obtain⟨a1,jm,rfl,hl1⟩:=hsa.shape;obtain⟨a2,cap2,rfl,hl2⟩:=hsb.shape;have bR:=hide hnx;clear g0 g1 g2 g3 g4 g5 g6 g7 hx hsa hsb hy hnx;go_wp2_with fail;refine(HI _ _ _ _ _ _ _ y (HAT.below (aB _ _)) M7).mono ?_;rintro e w5 ⟨rfl,hb5⟩;have iL:=hide (up bR (Qc hb5));clear hb5 bR;generalize Og m y=dy at *;generalize gH (Og m) (l.take j)=acc at *;go_wp2_with fail;go_roundw;case rel=>exact⟨j+1,by omega,by go_num,Gg HST,iL⟩
    case measure=>simp[intOf];omega
   ·have e:l.take j=l:=eP (by have:=HL.out;omega);rw[e]at hacc ⊢;clear e;generalize gH (Og m) l=acc at *;go_wp2;go_ret;exact⟨bA (by rw[HE]),hnx⟩
def QT(w:World)(m:Nat)(vp vb e0 e1 e2 e3:Value)(f:Fu):Prop:=
 f.name.size<=maxLen/\Strs w vp f.params/\dW w m vb f.body/\gq w m e0 e1 e2 e3 f.result
theorem QT.below{w w':World}{m:Nat}{vp vb e0 e1 e2 e3:Value}{f:Fu}(h:QT w m vp vb e0 e1 e2 e3 f)(hb:Below w.heap.size w w'):QT w' m vp vb e0 e1 e2 e3 f:=
 ⟨h.1,h.2.1.below hb,h.2.2.1.below hb,h.2.2.2.below hb⟩
theorem Strs.shape{w:World}{v:Value}{l:List ByteArray}(h:Strs w v l):∃a cap,v=.slice a l.length cap/\l.length<=9223372036854775807:=by obtain⟨a,b,off,cap,h1,_,h2,_⟩:=h;exact⟨a,cap,h1,h2⟩
section
variable (w : World) (c0 c1 c2 c3 c4 c5 c6 : Value) (t : TypeId)
theorem box7_0:(w.alloc (.cells #[c0,c1,c2,c3,c4,c5,c6] t)).cell? ⟨w.heap.size,0,none⟩=some c0:=by simp[go_sem]
theorem box7_1:(w.alloc (.cells #[c0,c1,c2,c3,c4,c5,c6] t)).cell? ⟨w.heap.size,1,none⟩=some c1:=by simp[go_sem]
theorem X4:(w.alloc (.cells #[c0,c1,c2,c3,c4,c5,c6] t)).cell? ⟨w.heap.size,2,none⟩=some c2:=by simp[go_sem]
theorem X5:(w.alloc (.cells #[c0,c1,c2,c3,c4,c5,c6] t)).cell? ⟨w.heap.size,3,none⟩=some c3:=by simp[go_sem]
theorem X6:(w.alloc (.cells #[c0,c1,c2,c3,c4,c5,c6] t)).cell? ⟨w.heap.size,3+1,none⟩=some c4:=by simp[go_sem]
theorem X7:(w.alloc (.cells #[c0,c1,c2,c3,c4,c5,c6] t)).cell? ⟨w.heap.size,3+2,none⟩=some c5:=by simp[go_sem]
theorem X8:(w.alloc (.cells #[c0,c1,c2,c3,c4,c5,c6] t)).cell? ⟨w.heap.size,3+3,none⟩=some c6:=by simp[go_sem]
end
theorem aai(m:Nat)(w:World)(vp vb e0 e1 e2 e3:Value)(f:Fu)(h:QT w m vp vb e0 e1 e2 e3 f)(hw:bK m f.body+eu m f.result<=1048576):Calls prog 221 #[.agg #[.string f.name,vp,vb,e0,e1,e2,e3]] w λe w'=>e=.returned (.int .i64 (TM m f))/\Below w.heap.size w w':=by
 have HS:=hide h;obtain⟨hnm,hp,hsb,hx⟩:=h;obtain⟨ae,ce,rfl,rfl,rfl,rfl⟩:=hx.shape;obtain⟨a1,jm,rfl,hl1⟩:=hsb.shape;obtain⟨a2,cap2,rfl,hl2⟩:=hp.shape;clear hx hsb hp;have HE:Hid (TM m f=1+max (max 1 (Io m f.body)) (uN m f.result)):=rfl;have w1:eu m f.result<=1048576:=by omega
 have w2:bK m f.body<=1048576:=by omega
 have d1:=bS (Cm m f.result) w1;have d2:=bS (yE m f.body) w2;clear hw;generalize f.result.args.length=le at *;generalize f.body.length=l1 at *;generalize f.params.length=l2 at *;have q2:=X4 w (.string f.name) (.slice a2 l2 cap2) (.slice a1 l1 jm) (.int .i64 f.result.kind) (.int .i64 f.result.n) (.string f.result.name) (.slice ae le ce) 132;have q3:=X5 w (.string f.name) (.slice a2 l2 cap2) (.slice a1 l1 jm) (.int .i64 f.result.kind) (.int .i64 f.result.n) (.string f.result.name) (.slice ae le ce) 132;have q4:=X6 w (.string f.name) (.slice a2 l2 cap2) (.slice a1 l1 jm) (.int .i64 f.result.kind) (.int .i64 f.result.n) (.string f.result.name) (.slice ae le ce) 132;have q5:=X7 w (.string f.name) (.slice a2 l2 cap2) (.slice a1 l1 jm) (.int .i64 f.result.kind) (.int .i64 f.result.n) (.string f.result.name) (.slice ae le ce) 132;have q6:=X8 w (.string f.name) (.slice a2 l2 cap2) (.slice a1 l1 jm) (.int .i64 f.result.kind) (.int .i64 f.result.n) (.string f.result.name) (.slice ae le ce) 132;have HB0:=hide (aB w (.cells #[.string f.name,.slice a2 l2 cap2,.slice a1 l1 jm,.int .i64 f.result.kind,.int .i64 f.result.n,.string f.result.name,.slice ae le ce] 132));go_enter func221,ntmps221;go_wp2_with fail;generalize (w.alloc (.cells #[.string f.name,.slice a2 l2 cap2,.slice a1 l1 jm,.int .i64 f.result.kind,.int .i64 f.result.n,.string f.result.name,.slice ae le ce] 132))=w5 at *;have vC:=hide (HS.below HB0).2.2.1;have HX:=hide (HS.below HB0).2.2.2
 have HF:Hid (∀wx,Hid (Below w5.heap.size w5 wx)->Hid (Below w5.heap.size w5 wx)/\wx.cell? ⟨w.heap.size,2,none⟩=some (.slice a1 l1 jm)/\wx.cell? ⟨w.heap.size,3,none⟩=some (.int .i64 f.result.kind)/\
  wx.cell? ⟨w.heap.size,3+1,none⟩=some (.int .i64 f.result.n)/\wx.cell? ⟨w.heap.size,3+2,none⟩=some (.string f.result.name)/\wx.cell? ⟨w.heap.size,3+3,none⟩=some (.slice ae le ce)):=
  λwx h=>⟨h,aA q2 h,aA q3 h,aA q4 h,aA q5 h,aA q6 h⟩
 have xP:Hid (Below w5.heap.size w5 w5):=hide (aX _ _);generalize hda:Io m f.body=da at *;have HDA:=hide hda;clear hda;generalize hdb:uN m f.result=db at *;have HDB:=hide hdb;clear hdb q2 q3 q4 q5 q6;have WA:Hid (IntKind.i64.wrap (1+(da:Int))=1+(da:Int)):=hide (wrap_small (by omega) (by omega));have WB:Hid (IntKind.i64.wrap (1+(db:Int))=1+(db:Int)):=hide (wrap_small (by omega) (by omega));have W2:Hid (IntKind.i64.wrap 2=2):=hide (wrap_small (by omega) (by omega))
 go_region_held3 (λwx=>Hid (Below w5.heap.size w5 wx)/\wx.cell? ⟨w.heap.size,2,none⟩=some (.slice a1 l1 jm)/\wx.cell? ⟨w.heap.size,3,none⟩=some (.int .i64 f.result.kind)/\
  wx.cell? ⟨w.heap.size,3+1,none⟩=some (.int .i64 f.result.n)/\wx.cell? ⟨w.heap.size,3+2,none⟩=some (.string f.result.name)/\wx.cell? ⟨w.heap.size,3+3,none⟩=some (.slice ae le ce))
  (first|exact HF _ Ab|exact HF _ qP|exact HF _ (hide xP.drew))
  (first
   | (go_at_call 286;refine(Ag m _ _ f.body ?_ w2).mono ?_;(exact vC.below xP.drew);rintro e w30 ⟨rfl,Ac⟩;have qP:=hide (up xP.drew Ac);clear Ac;rw[HDA])
   | (go_at_call 287;refine(xR m _ _ _ _ _ f.result ?_ w1).mono ?_;(exact HX.below qP);rintro e w31 ⟨rfl,Ad⟩;have Ab:=hide (up qP Ad);clear Ad;rw[HDB]))
 all_goals go_wp2
 all_goals go_ret;exact⟨bA (by rw[HE];(try simp only[WA.out,WB.out,W2.out]);omega),up HB0 Ab⟩
theorem fuD_le(m:Nat)(f:Fu):TM m f<=2+bK m f.body+eu m f.result:=by have h1:=yE m f.body;have h2:=Cm m f.result;unfold TM;omega
theorem Eo(m:Nat)(w:World)(v:Value)(x:Mo)(h:jK w m v x)(hw:uM m x<=1048576):Calls prog 140 #[v] w λe w'=>e=.returned (.int .i64 (moD m x))/\Below w.heap.size w w':=by
 have HE:Hid (moD m x=1+max 1 (gH (TM m) x.aR)):=rfl;obtain⟨vi,vv,vf,rfl,hnm,hI,hV,hF⟩:=h;have U8:x.name.size+2+gY x.imports+BX x.vars+p8 m x.aR<=1048576:=hw;obtain⟨ai,ci,rfl,IG⟩:=hI.shape;obtain⟨av,bv,ov,cv,rfl,_,hlv,_⟩:=hV;obtain⟨a,b,off,cap,rfl,ha,hl,hel⟩:=hF;clear hI;generalize hfs:x.aR=l at *;have HW:Hid (∀(i:Nat) (y:Fu),l[i]?=some y->bK m y.body+eu m y.result+2<=1048576):=hide (λi y hy=>by have:y.name.size+2+gY y.params+bK m y.body+eu m y.result<=(l.map λs:Fu=>s.name.size+2+gY s.params+bK m s.body+eu m s.result).sum:=jd (f:=λs:Fu=>s.name.size+2+gY s.params+bK m s.body+eu m s.result) (gD hy);unfold p8 at U8;omega);have HM:Hid (gH (TM m) l<=1048576):=hide (EO (λy hy=>by obtain⟨i,hi,rfl⟩:=eX.1 hy;have h1:=HW i _ (aU hi);have h2:=fuD_le m l[i];omega));have gF:=hide hel;have HA:=hide ha;clear hel ha hw U8;obtain⟨len,hlen⟩:=aG l.length;have HL:=hide hlen;rw[<-hlen]at hl HA ⊢;clear hlen;generalize x.imports.length=li at *;generalize x.vars.length=lv at *;have q3:=kU w (.string x.name) (.slice ai li ci) (.slice av lv cv) (.slice a len cap) 26;have HB0:=hide (aB w (.cells #[.string x.name,.slice ai li ci,.slice av lv cv,.slice a len cap] 26));go_enter func140,ntmps140;go_wp2_with fail;generalize (w.alloc (.cells #[.string x.name,.slice ai li ci,.slice av lv cv,.slice a len cap] 26))=W0 at *;go_loopw[3,9] (λo i wr=>∃j:Nat,j<=len/\i=.int .i64 j/\(∃c:Nat,c=max 1 (gH (TM m) (l.take j))/\o=.int .i64 c)/\Below W0.heap.size W0 wr) (λ_ i _=>len - (intOf i).toNat);case atStart=>exact⟨0,bJ _,rfl,⟨1,rfl,rfl⟩,aX _ _⟩
 case round=>
  obtain⟨j,hj,rfl,⟨acc,hac,rfl⟩,hnx⟩:=hrel;have hacc:acc<=1048576:=by have:=bS (tK (f:=TM m) l j) HM;omega
  have HAC:=hide hac;clear hac;by_cases hjl:j<len
  ·obtain⟨y,hy⟩:∃y,l[j]?=some y:=⟨_,aU (by rw[<-HL];exact hjl)⟩;obtain⟨k1,vp,vb,e0,e1,e2,e3,g0,g1,g2,g3,g4,g5,g6,hp,hsb,hx⟩:=gF j y hy;have HST:=hide (Ck (f:=TM m) hy);have M7:bK m y.body+eu m y.result<=1048576:=by have:=HW j y hy;omega
   obtain rfl:=HA (by omega);have hbb:=up HB0 hnx;have u0:=aA g0 hbb;have u1:=aA g1 hbb;have Qt:=aA g2 hbb;have Ed:=aA g3 hbb;have u4:=aA g4 hbb;have u5:=aA g5 hbb;have u6:=aA g6 hbb;have HAT:Hid (QT wr m vp vb e0 e1 e2 e3 y):=hide ⟨k1,hp.below hbb,hsb.below hbb,hx.below hbb⟩;obtain⟨ae,ce,rfl,rfl,rfl,rfl⟩:=hx.shape;obtain⟨a1,jm,rfl,hl1⟩:=hsb.shape;obtain⟨a2,cap2,rfl,hl2⟩:=hp.shape;have bR:=hide hnx;clear g0 g1 g2 g3 g4 g5 g6 hx hsb hp hy hnx hbb;go_wp2_with fail;refine(aai m _ _ _ _ _ _ _ y (HAT.below (aB _ _)) M7).mono ?_;rintro e w5 ⟨rfl,hb5⟩;have iL:=hide (up bR (Qc hb5));clear hb5 bR;generalize TM m y=dy at *;go_wp2_with fail;go_roundw;case rel=>exact⟨j+1,by omega,by go_num,⟨max acc dy,by rw[HST,HAC];omega,Gg rfl⟩,iL⟩
   case measure=>simp[intOf];omega
  ·have e:l.take j=l:=eP (by have:=HL.out;omega);rw[e]at HAC;clear e;go_wp2;go_ret;exact⟨bA (by rw[HE,<-HAC];go_num),up HB0 hnx⟩
namespace bC
def jn(l:List ByteArray):ByteArray:=⟨(Lib.join (l.map (·.data.toList)) [32]).toArray⟩
def brk(l:List ByteArray):ByteArray:=(⟨#[40]⟩:ByteArray)++jn l++(⟨#[41]⟩:ByteArray)
end bC
namespace bC
def bt(s:ByteArray)(k:Nat):Nat:=(s.data.toList.getD k 0).toNat
end bC
end Go.Proofs.YtfnboapebijcpaaGreatDoor
