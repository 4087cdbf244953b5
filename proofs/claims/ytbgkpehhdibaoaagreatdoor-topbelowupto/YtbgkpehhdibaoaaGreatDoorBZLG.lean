/- part -/
import Derived.Test.YtbgkpehhdibaoaaGreatDoorBZLA
set_option maxHeartbeats 0
set_option maxRecDepth 99999
namespace Go.Proofs.YtbgkpehhdibaoaaGreatDoor
open bN
open Go.Proofs.Tryz
open Go.RowKit
namespace bN
structure Ok(ss:List ByteArray)(G:Nat)(L:Nat->Nat)(Z:Nat->Nat->Bool):Prop where
 names:lN ss=true
 pos:0<ss.length
 six:ss.length<=6
 square:lH G L ss.length=true
 order:zk Z ss.length=true
 joins:oU Z ss.length=true
 meets:oU (tr Z) ss.length=true
theorem pU{ss:List aY}{G:Nat}{L:Nat->Nat}{Z:Nat->Nat->Bool}(h:bX ss G L Z=0):Ok ss G L Z:=by
 unfold bX at h;by_cases h1:lN ss=false;·rw[aL h1]at h;omega
 rw[aJ h1]at h;by_cases h2:6<ss.length;·rw[aL h2]at h;omega
 rw[aJ h2]at h;by_cases h3:lH G L ss.length=false;·rw[aL h3]at h;omega
 rw[aJ h3]at h;by_cases h4:zk Z ss.length=false;·rw[aL h4]at h;omega
 rw[aJ h4]at h;by_cases h5:oU Z ss.length=false;·rw[aL h5]at h;omega
 rw[aJ h5]at h;by_cases h6:oU (tr Z) ss.length=false;·rw[aL h6]at h;omega
 have hn:lN ss=true:=by simpa using h1
 exact⟨hn,by unfold lN at hn;simpa using(kX.1 hn).2,by omega,by simpa using h3,by simpa using h4,by simpa using h5,by simpa using h6⟩
def Ce(n:Nat)(a:Int):Bool:=decide (0<=a)&&decide (a<n)
def yT(ss:List aY)(G:Nat)(L:Nat->Nat)(Z:Nat->Nat->Bool)(a b:Int):Int:=
 if bX ss G L Z=0 then (if Ce ss.length a&&Ce ss.length b then 0 else 1)else bX ss G L Z
end bN
theorem Jv(w:World)(vn vl:Value)(ss:List aY)(G:Nat)(L:Nat->Nat)(Z:Nat->Nat->Bool)(a b:Int)(hS:Strs w vn ss)(hR:Fg w vl G L Z):Calls prog 226 #[.agg #[vn,vl],O a,O b] w λe w'=>e=dz (O (yT ss G L Z a b))/\bG w w':=by
 obtain⟨HS,HR⟩:=bU hS hR;obtain⟨ad,bl,off,cap,rfl,ha,hl,hs,h1⟩:=hS;clear ha hs h1 hR;obtain⟨n,hlen⟩:=bC ss.length;have HN:Hid (n=ss.length):=hlen;rw[<-hlen]at hl HS ⊢;clear hlen;obtain⟨c,hc⟩:=bC (bX ss G L Z);have HC:Hid (c=bX ss G L Z):=hc;go_enter func226,ntmps226;go_wp2_with fail;refine(xS _ _ vl ss G L Z (HS.below ((bP _ _).alloc (bE _) _)) (HR.below ((bP _ _).alloc (bE _) _))).mono ?_;rintro e w1 ⟨rfl,hb1⟩;rw[<-hc];clear hc;have HB:=I (Wn hb1);obtain⟨q0,q1⟩:=eY (aD (N7 w (Y ad n cap) vl 25) hb1) (aD (sM w (Y ad n cap) vl 25) hb1);clear hb1;by_cases hz:c=0
 ·subst hz;have hO:=pU HC.symm;have h6:n<=6:=by have:=hO.six;have:=HN.out;omega
  go_wp2_with fail;refine(oC _ ad vl n cap a).mono ?_;rintro e w2 ⟨rfl,hb2⟩;rw[show(decide (0<=a)&&decide (a<(n:Int)))=bN.Ce n a from rfl];have HB2:=I (up HB hb2);obtain⟨p0,p1⟩:=eY (aD q0 hb2) (aD q1 hb2);clear hb2 q0 q1;cases za:bN.Ce n a;·go_wp2;go_ret;exact⟨bT (by unfold yT;rw[<-HN,za,aL HC.out.symm];rfl),HB2⟩
  ·go_wp2_with fail;refine(oC _ ad vl n cap b).mono ?_;rintro e w3 ⟨rfl,hb3⟩;rw[show(decide (0<=b)&&decide (b<(n:Int)))=bN.Ce n b from rfl];have HB3:=I (up HB2 hb3);clear hb3;cases zb:bN.Ce n b;·go_wp2;go_ret;exact⟨bT (by unfold yT;rw[<-HN,za,zb,aL HC.out.symm];rfl),HB3⟩
   ·go_wp2;go_ret;exact⟨bT (by unfold yT;rw[<-HN,za,zb,aL HC.out.symm];rfl),HB3⟩
 ·have hz':=eP hz;go_wp2;go_ret;exact⟨bT (by unfold yT;rw[<-HC,aJ hz]),HB⟩
theorem pair_ok{ss:List aY}{G:Nat}{L:Nat->Nat}{Z:Nat->Nat->Bool}{a b:Int}(h:yT ss G L Z a b=0):bN.Ok ss G L Z/\∃i j:Nat,a=i/\b=j/\i<ss.length/\j<ss.length:=by
 unfold yT at h;by_cases hc:bX ss G L Z=0
 ·rw[aL hc]at h;refine⟨pU hc,?_⟩;by_cases hi:(bN.Ce ss.length a&&bN.Ce ss.length b)=true;·simp only[bN.Ce,dJ,gP]at hi;exact⟨a.toNat,b.toNat,by omega,by omega,by omega,by omega⟩
  ·rw[aJ hi]at h;omega
 ·rw[aJ hc]at h;exact aM h hc
theorem meet_ok(w:World)(vn vl:Value)(ss:List aY)(G:Nat)(L:Nat->Nat)(Z:Nat->Nat->Bool)(i j:Nat)(hS:Strs w vn ss)(hR:Fg w vl G L Z)(hE:yT ss G L Z i j=0):Calls prog 178 #[.agg #[vn,vl],O i,O j] w λe w'=>e=dz (.tuple #[O (mh (bN.tr Z) ss.length i j:Nat),O (JR (bN.tr Z) ss.length i j)])/\bG w w':=by
 obtain⟨HS,HR⟩:=bU hS hR;obtain⟨hO,i',j',hi,hj,hi',hj'⟩:=pair_ok hE;have hi'':i<ss.length:=by omega
 have hj'':j<ss.length:=by omega
 clear hS hR hi hj hi' hj';have HO:=I hO;have h6:=hO.six;clear hO;go_enter func178,ntmps178;go_wp2_with fail;refine(Jv _ vn vl ss G L Z i j (HS.below ((bP _ _).alloc (bE _) _)) (HR.below ((bP _ _).alloc (bE _) _))).mono ?_;rintro e w1 ⟨rfl,hb1⟩;have HB:=I (Wn hb1);have q1:=aD (sM w vn vl 25) hb1;clear hb1;rw[hE];have HG:=I (AX (HR.below HB) HO.pos HO.square);clear hE;go_wp2_with fail;refine(zI _ vl ss.length Z HG h6).mono ?_;rintro e w2 ⟨v',rfl,hG2,hb2⟩;obtain⟨HG2,HB2⟩:=bU hG2 (up HB hb2);clear hG2 hb2;go_wp2_with fail;refine(zC _ v' ss.length i j (bN.tr Z) HG2 h6 hi'' hj'').mono ?_;rintro e w3 ⟨rfl,hw⟩;subst hw;go_wp2;go_ret2;exact⟨rfl,HB2⟩
theorem Mj(w:World)(vn vl:Value)(ss:List aY)(G:Nat)(L:Nat->Nat)(Z:Nat->Nat->Bool)(hS:Strs w vn ss)(hR:Fg w vl G L Z)(hE:bX ss G L Z=0):Calls prog 111 #[.agg #[vn,vl]] w λe w'=>e=dz (.tuple #[O (vE Z ss.length:Nat),O (vE (bN.tr Z) ss.length:Nat),O 0])/\bG w w':=by
 obtain⟨HS,HR⟩:=bU hS hR;have hO:=pU hE;have HO:=I hO;have h6:=hO.six;clear hS hR hO;go_enter func111,ntmps111;go_wp2_with fail;refine(xS _ vn vl ss G L Z (HS.below ((bP _ _).alloc (bE _) _)) (HR.below ((bP _ _).alloc (bE _) _))).mono ?_;rintro e w1 ⟨rfl,hb1⟩;rw[hE];have HB:=I (Wn hb1);have q1:=aD (sM w vn vl 25) hb1;have HG:=I (AX (HR.below HB) HO.pos HO.square);clear hb1 hE;go_wp2_with fail
 go_region_with (first
  | (go_at_call_of 176 (vl);refine(F4 _ vl ss.length Z ?_ h6).mono ?_;(first|exact HG|exact HG.drew|exact(HG.drew.below hb2));rintro e w' ⟨rfl,hw'⟩;subst hw')
  | (go_at_call 70;refine(zI _ vl ss.length Z ?_ h6).mono ?_;(first|exact HG|exact HG.drew);rintro e w2 ⟨v',rfl,hG2,hb2⟩;have q2:=aD (a:=(X w.heap.size 1)) (v:=vl) (by exact q1) hb2;have HG2:=I hG2;clear hG2)
  | (go_at_call 176;refine(F4 _ v' ss.length (bN.tr Z) ?_ h6).mono ?_;(exact HG2);rintro e w' ⟨rfl,hw'⟩;subst hw'))
 all_goals go_wp2;go_ret3;exact⟨rfl,up HB.drew hb2⟩
end Go.Proofs.YtbgkpehhdibaoaaGreatDoor
