/- part -/
import Derived.Test.YtbgkpehhdibaoaaGreatDoorMZAL
set_option maxHeartbeats 0
set_option maxRecDepth 99999
namespace Go.Proofs.YtbgkpehhdibaoaaGreatDoor
open bO
open Go.Proofs.Tryz
open Go.RowKit
namespace bO
structure Ok(ss:List ByteArray)(G:Nat)(L:Nat->Nat)(Z:Nat->Nat->Bool):Prop where
 names:mH ss=true
 pos:0<ss.length
 six:ss.length<=6
 square:mh G L ss.length=true
 order:Ar Z ss.length=true
 joins:qy Z ss.length=true
 meets:qy (tr Z) ss.length=true
theorem qj{ss:List aZ}{G:Nat}{L:Nat->Nat}{Z:Nat->Nat->Bool}(h:dh ss G L Z=0):Ok ss G L Z:=by
 unfold dh at h;by_cases h1:mH ss=false;·rw[aL h1]at h;omega
 rw[aJ h1]at h;by_cases h2:6<ss.length;·rw[aL h2]at h;omega
 rw[aJ h2]at h;by_cases h3:mh G L ss.length=false;·rw[aL h3]at h;omega
 rw[aJ h3]at h;by_cases h4:Ar Z ss.length=false;·rw[aL h4]at h;omega
 rw[aJ h4]at h;by_cases h5:qy Z ss.length=false;·rw[aL h5]at h;omega
 rw[aJ h5]at h;by_cases h6:qy (tr Z) ss.length=false;·rw[aL h6]at h;omega
 have hn:mH ss=true:=by simpa using h1
 exact⟨hn,by unfold mH at hn;simpa using(lU.1 hn).2,by omega,by simpa using h3,by simpa using h4,by simpa using h5,by simpa using h6⟩
def BR(n:Nat)(a:Int):Bool:=decide (0<=a)&&decide (a<n)
def Ae(ss:List aZ)(G:Nat)(L:Nat->Nat)(Z:Nat->Nat->Bool)(a b:Int):Int:=
 if dh ss G L Z=0 then (if BR ss.length a&&BR ss.length b then 0 else 1)else dh ss G L Z
end bO
theorem Lg(w:World)(vn vl:Value)(ss:List aZ)(G:Nat)(L:Nat->Nat)(Z:Nat->Nat->Bool)(a b:Int)(hS:Strs w vn ss)(hR:Fb w vl G L Z):Calls prog 226 #[.agg #[vn,vl],O a,O b] w λe w'=>e=cO (O (Ae ss G L Z a b))/\bG w w':=by
 obtain⟨HS,HR⟩:=bT hS hR;obtain⟨ad,bl,off,cap,rfl,ha,hl,hs,h1⟩:=hS;clear ha hs h1 hR;obtain⟨n,hlen⟩:=bC ss.length;have HN:Hid (n=ss.length):=hlen;rw[<-hlen]at hl HS ⊢;clear hlen;obtain⟨c,hc⟩:=bC (dh ss G L Z);have HC:Hid (c=dh ss G L Z):=hc;go_enter func226,ntmps226;go_wp2_with fail;refine(zi _ _ vl ss G L Z (HS.below ((bN _ _).alloc (bF _) _)) (HR.below ((bN _ _).alloc (bF _) _))).mono ?_;rintro e w1 ⟨rfl,hb1⟩;rw[<-hc];clear hc;have HB:=I (TU hb1);obtain⟨q0,q1⟩:=eD (aC (Qq w (Y ad n cap) vl 25) hb1) (aC (uy w (Y ad n cap) vl 25) hb1);clear hb1;by_cases hz:c=0
 ·subst hz;have hO:=qj HC.symm;have h6:n<=6:=by have:=hO.six;have:=HN.out;omega
  go_wp2_with fail;refine(p8 _ ad vl n cap a).mono ?_;rintro e w2 ⟨rfl,hb2⟩;rw[show(decide (0<=a)&&decide (a<(n:Int)))=bO.BR n a from rfl];have HB2:=I (up HB hb2);obtain⟨p0,p1⟩:=eD (aC q0 hb2) (aC q1 hb2);clear hb2 q0 q1;cases za:bO.BR n a;·go_wp2;go_ret;exact⟨bQ (by unfold Ae;rw[<-HN,za,aL HC.out.symm];rfl),HB2⟩
  ·go_wp2_with fail;refine(p8 _ ad vl n cap b).mono ?_;rintro e w3 ⟨rfl,hb3⟩;rw[show(decide (0<=b)&&decide (b<(n:Int)))=bO.BR n b from rfl];have HB3:=I (up HB2 hb3);clear hb3;cases zb:bO.BR n b;·go_wp2;go_ret;exact⟨bQ (by unfold Ae;rw[<-HN,za,zb,aL HC.out.symm];rfl),HB3⟩
   ·go_wp2;go_ret;exact⟨bQ (by unfold Ae;rw[<-HN,za,zb,aL HC.out.symm];rfl),HB3⟩
 ·have hz':=dY hz;go_wp2;go_ret;exact⟨bQ (by unfold Ae;rw[<-HC,aJ hz]),HB⟩
theorem pair_ok{ss:List aZ}{G:Nat}{L:Nat->Nat}{Z:Nat->Nat->Bool}{a b:Int}(h:Ae ss G L Z a b=0):bO.Ok ss G L Z/\∃i j:Nat,a=i/\b=j/\i<ss.length/\j<ss.length:=by
 unfold Ae at h;by_cases hc:dh ss G L Z=0
 ·rw[aL hc]at h;refine⟨qj hc,?_⟩;by_cases hi:(bO.BR ss.length a&&bO.BR ss.length b)=true;·simp only[bO.BR,dS,iA]at hi;exact⟨a.toNat,b.toNat,by omega,by omega,by omega,by omega⟩
  ·rw[aJ hi]at h;omega
 ·rw[aJ hc]at h;exact aN h hc
theorem meet_ok(w:World)(vn vl:Value)(ss:List aZ)(G:Nat)(L:Nat->Nat)(Z:Nat->Nat->Bool)(i j:Nat)(hS:Strs w vn ss)(hR:Fb w vl G L Z)(hE:Ae ss G L Z i j=0):Calls prog 178 #[.agg #[vn,vl],O i,O j] w λe w'=>e=cO (.tuple #[O (mW (bO.tr Z) ss.length i j:Nat),O (LM (bO.tr Z) ss.length i j)])/\bG w w':=by
 obtain⟨HS,HR⟩:=bT hS hR;obtain⟨hO,i',j',hi,hj,hi',hj'⟩:=pair_ok hE;have hi'':i<ss.length:=by omega
 have hj'':j<ss.length:=by omega
 clear hS hR hi hj hi' hj';have HO:=I hO;have h6:=hO.six;clear hO;go_enter func178,ntmps178;go_wp2_with fail;refine(Lg _ vn vl ss G L Z i j (HS.below ((bN _ _).alloc (bF _) _)) (HR.below ((bN _ _).alloc (bF _) _))).mono ?_;rintro e w1 ⟨rfl,hb1⟩;have HB:=I (TU hb1);have q1:=aC (uy w vn vl 25) hb1;clear hb1;rw[hE];have HG:=I (Cz (HR.below HB) HO.pos HO.square);clear hE;go_wp2_with fail;refine(AX _ vl ss.length Z HG h6).mono ?_;rintro e w2 ⟨v',rfl,hG2,hb2⟩;obtain⟨HG2,HB2⟩:=bT hG2 (up HB hb2);clear hG2 hb2;go_wp2_with fail;refine(AL _ v' ss.length i j (bO.tr Z) HG2 h6 hi'' hj'').mono ?_;rintro e w3 ⟨rfl,hw⟩;subst hw;go_wp2;go_ret2;exact⟨rfl,HB2⟩
theorem Oz(w:World)(vn vl:Value)(ss:List aZ)(G:Nat)(L:Nat->Nat)(Z:Nat->Nat->Bool)(hS:Strs w vn ss)(hR:Fb w vl G L Z)(hE:dh ss G L Z=0):Calls prog 111 #[.agg #[vn,vl]] w λe w'=>e=cO (.tuple #[O (wU Z ss.length:Nat),O (wU (bO.tr Z) ss.length:Nat),O 0])/\bG w w':=by
 obtain⟨HS,HR⟩:=bT hS hR;have hO:=qj hE;have HO:=I hO;have h6:=hO.six;clear hS hR hO;go_enter func111,ntmps111;go_wp2_with fail;refine(zi _ vn vl ss G L Z (HS.below ((bN _ _).alloc (bF _) _)) (HR.below ((bN _ _).alloc (bF _) _))).mono ?_;rintro e w1 ⟨rfl,hb1⟩;rw[hE];have HB:=I (TU hb1);have q1:=aC (uy w vn vl 25) hb1;have HG:=I (Cz (HR.below HB) HO.pos HO.square);clear hb1 hE;go_wp2_with fail
 go_region_with (first
  | (go_at_call_of 176 (vl);refine(Ic _ vl ss.length Z ?_ h6).mono ?_;(first|exact HG|exact HG.drew|exact(HG.drew.below hb2));rintro e w' ⟨rfl,hw'⟩;subst hw')
  | (go_at_call 70;refine(AX _ vl ss.length Z ?_ h6).mono ?_;(first|exact HG|exact HG.drew);rintro e w2 ⟨v',rfl,hG2,hb2⟩;have q2:=aC (a:=(X w.heap.size 1)) (v:=vl) (by exact q1) hb2;have HG2:=I hG2;clear hG2)
  | (go_at_call 176;refine(Ic _ v' ss.length (bO.tr Z) ?_ h6).mono ?_;(exact HG2);rintro e w' ⟨rfl,hw'⟩;subst hw'))
 all_goals go_wp2;go_ret3;exact⟨rfl,up HB.drew hb2⟩
end Go.Proofs.YtbgkpehhdibaoaaGreatDoor
