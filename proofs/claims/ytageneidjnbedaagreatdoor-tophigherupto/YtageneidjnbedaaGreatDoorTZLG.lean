import Derived.Test.YtageneidjnbedaaGreatDoorTZLA
set_option maxHeartbeats 0
set_option maxRecDepth 99999
namespace Go.Proofs.YtageneidjnbedaaGreatDoor
open bS
open Go.Proofs.Tryz
open Go.RowKit
namespace bS
structure Ok(ss:List ByteArray)(G:Nat)(L:Nat->Nat)(Z:Nat->Nat->Bool):Prop where
 names:mY ss=true
 pos:0<ss.length
 six:ss.length<=6
 square:mR G L ss.length=true
 order:BD Z ss.length=true
 joins:qQ Z ss.length=true
 meets:qQ (tr Z) ss.length=true
theorem qF{ss:aJ}{G:Nat}{L:Nat->Nat}{Z:aL}(h:dD ss G L Z=0):Ok ss G L Z:=by
 unfold dD at h;by_cases a:mY ss=false;·rw[aK a]at h;omega
 rw[aI a]at h;by_cases g:6<ss.length;·rw[aK g]at h;omega
 rw[aI g]at h;by_cases b:mR G L ss.length=false;·rw[aK b]at h;omega
 rw[aI b]at h;by_cases d:BD Z ss.length=false;·rw[aK d]at h;omega
 rw[aI d]at h;by_cases e:qQ Z ss.length=false;·rw[aK e]at h;omega
 rw[aI e]at h;by_cases i:qQ (tr Z) ss.length=false;·rw[aK i]at h;omega
 have f:mY ss=true:=by simpa using a
 exact⟨f,by unfold mY at f;simpa using(mF.1 f).2,by omega,by simpa using b,by simpa using d,by simpa using e,by simpa using i⟩
def ER(n:Nat)(a:Int):Bool:=decide (0<=a)&&decide (a<n)
def Bj(ss:List aS)(G:Nat)(L:Nat->Nat)(Z:Nat->Nat->Bool)(a b:Int):Int:=
 if dD ss G L Z=0 then (if ER ss.length a&&ER ss.length b then 0 else 1)else dD ss G L Z
end bS
theorem adr(w:bI)(y d:aC)(ss:aJ)(G:Nat)(L:Nat->Nat)(Z:aL)(a b:Int)(v:Strs w y ss)(u:EX w d G L Z):aD 221 #[.agg #[y,d],O a,O b] w λh w'=>h=dz (O<|Bj ss G L Z a b)/\bK w w':=by
 obtain⟨t,B⟩:=bV v u;obtain⟨g,bl,off,cap,rfl,E,F,H,C⟩:=v;clear E H C u;obtain⟨n,l⟩:=aV ss.length;have f:J (n=ss.length):=l;rw[<-l]at F t ⊢;clear l;obtain⟨c,k⟩:=aV<|dD ss G L Z;have e:J (c=dD ss G L Z):=k;go_enter func221,ntmps221;go_wp2_with fail;refine(zW _ _ d ss G L Z (t.below<|(bQ _ _).alloc (bG _) _)<|B.below<|(bQ _ _).alloc (bG _) _).mono ?_;rintro h w1 ⟨rfl,i⟩;rw[<-k];clear k;have q:=Y<|Z7 i;obtain⟨q0,q1⟩:=eY (aG (Rf w (X g n cap) d 25) i)<|aG (vH w (X g n cap) d 25) i;clear i;by_cases m:c=0
 ·subst m;have D:=qF e.symm;have I:n<=6:=by have:=D.six;have:=f.out;omega
  go_wp2_with fail;refine(qw _ g d n cap a).mono ?_;rintro h P ⟨rfl,j⟩;rw[show(decide (0<=a)&&decide (a<(n:Int)))=bS.ER n a from rfl];have r:=Y<|up q j;obtain⟨M,N⟩:=eY (aG q0 j)<|aG q1 j;clear j q0 q1;cases p:bS.ER n a;·go_wp2;go_ret;exact⟨bZ (by unfold Bj;rw[<-f,p,aK e.out.symm];rfl),r⟩
  ·go_wp2_with fail;refine(qw _ g d n cap b).mono ?_;rintro h Q ⟨rfl,x⟩;rw[show(decide (0<=b)&&decide (b<(n:Int)))=bS.ER n b from rfl];have s:=Y<|up r x;clear x;cases z:bS.ER n b;·go_wp2;go_ret;exact⟨bZ (by unfold Bj;rw[<-f,p,z,aK e.out.symm];rfl),s⟩
   ·go_wp2;go_ret;exact⟨bZ (by unfold Bj;rw[<-f,p,z,aK e.out.symm];rfl),s⟩
 ·have K:=eO m;go_wp2;go_ret;exact⟨bZ (by unfold Bj;rw[<-e,aI m]),q⟩
theorem ahw{ss:aJ}{G:Nat}{L:Nat->Nat}{Z:aL}{a b:Int}(h:Bj ss G L Z a b=0):bS.Ok ss G L Z/\∃i j:Nat,a=i/\b=j/\i<ss.length/\j<ss.length:=by
 unfold Bj at h;by_cases d:dD ss G L Z=0
 ·rw[aK d]at h;refine⟨qF d,?_⟩;by_cases e:(bS.ER ss.length a&&bS.ER ss.length b)=true;·simp only[bS.ER,dK,iy]at e;exact⟨a.toNat,b.toNat,by omega,by omega,by omega,by omega⟩
  ·rw[aI e]at h;omega
 ·rw[aI d]at h;exact aM h d
theorem ahx(w:bI)(d a:aC)(ss:aJ)(G:Nat)(L:Nat->Nat)(Z:aL)(i j:Nat)(q:Strs w d ss)(p:EX w a G L Z)(e:Bj ss G L Z i j=0):aD 174 #[.agg #[d,a],O i,O j] w λb w'=>b=dz (.tuple #[O (nT (bS.tr Z) ss.length i j:Nat),O<|MX (bS.tr Z) ss.length i j])/\bK w w':=by
 obtain⟨v,l⟩:=bV q p;obtain⟨f,F,H,z,C,B,D⟩:=ahw e;have x:i<ss.length:=by omega
 have y:j<ss.length:=by omega
 clear q p z C B D;have k:=Y f;have m:=f.six;clear f;go_enter func174,ntmps174;go_wp2_with fail;refine(adr _ d a ss G L Z i j (v.below<|(bQ _ _).alloc (bG _) _)<|l.below<|(bQ _ _).alloc (bG _) _).mono ?_;rintro b w1 ⟨rfl,g⟩;have h:=Y<|Z7 g;have q1:=aG (vH w d a 25) g;clear g;rw[e];have t:=Y<|Du (l.below h) k.pos k.square;clear e;go_wp2_with fail;refine(BN _ a ss.length Z t m).mono ?_;rintro b I ⟨v',rfl,n,r⟩;obtain⟨u,s⟩:=bV n<|up h r;clear n r;go_wp2_with fail;refine(BH _ v' ss.length i j (bS.tr Z) u m x y).mono ?_;rintro b K ⟨rfl,E⟩;subst E;go_wp2;go_ret2;exact⟨rfl,s⟩
theorem Pn(w:bI)(vn vl:aC)(ss:aJ)(G:Nat)(L:Nat->Nat)(Z:aL)(hS:Strs w vn ss)(hR:EX w vl G L Z)(hE:dD ss G L Z=0):aD 113 #[.agg #[vn,vl]] w λe w'=>e=dz (.tuple #[O (xR Z ss.length:Nat),O (xR (bS.tr Z) ss.length:Nat),O 0])/\bK w w':=by
 obtain⟨HS,HR⟩:=bV hS hR;have hO:=qF hE;have HO:=Y hO;have h6:=hO.six;clear hS hR hO;go_enter func113,ntmps113;go_wp2_with fail;refine(zW _ vn vl ss G L Z (HS.below ((bQ _ _).alloc (bG _) _)) (HR.below ((bQ _ _).alloc (bG _) _))).mono ?_;rintro e w1 ⟨rfl,hb1⟩;rw[hE];have HB:=Y (Z7 hb1);have q1:=aG (vH w vn vl 25) hb1;have HG:=Y (Du (HR.below HB) HO.pos HO.square);clear hb1 hE;go_wp2_with fail
 go_region_with (first
  | (go_at_call_of 172 (vl);refine(Jr _ vl ss.length Z ?_ h6).mono ?_;(first|exact HG|exact HG.drew|exact(HG.drew.below hb2));rintro e w' ⟨rfl,hw'⟩;subst hw')
  | (go_at_call 27;refine(BN _ vl ss.length Z ?_ h6).mono ?_;(first|exact HG|exact HG.drew);rintro e w2 ⟨v',rfl,hG2,hb2⟩;have q2:=aG (a:=(aN w.heap.size 1)) (v:=vl) (by exact q1) hb2;have HG2:=Y hG2;clear hG2)
  | (go_at_call 172;refine(Jr _ v' ss.length (bS.tr Z) ?_ h6).mono ?_;(exact HG2);rintro e w' ⟨rfl,hw'⟩;subst hw'))
 all_goals go_wp2;go_ret3;exact⟨rfl,up HB.drew hb2⟩
