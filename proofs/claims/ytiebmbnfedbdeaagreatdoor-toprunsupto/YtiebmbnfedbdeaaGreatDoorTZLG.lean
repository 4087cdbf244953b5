import Derived.Test.YtiebmbnfedbdeaaGreatDoorTZLA
set_option maxHeartbeats 0
set_option maxRecDepth 99999
namespace Go.Proofs.YtiebmbnfedbdeaaGreatDoor
open bS
open Go.Proofs.Tryz
open Go.RowKit
namespace bS
structure Ok(ss:List ByteArray)(G:Nat)(L:Nat->Nat)(Z:Nat->Nat->Bool):Prop where
 names:mY ss=true
 pos:0<ss.length
 six:ss.length<=6
 square:mR G L ss.length=true
 order:BD Z ss.length=true
 joins:qQ Z ss.length=true
 meets:qQ (tr Z) ss.length=true
theorem qF{ss:aJ}{G:Nat}{L:Nat->Nat}{Z:aL}(a:dD ss G L Z=0):Ok ss G L Z:=by
 unfold dD at a;by_cases b:mY ss=false;·rw[aK b]at a;omega
 rw[aI b]at a;by_cases g:6<ss.length;·rw[aK g]at a;omega
 rw[aI g]at a;by_cases c:mR G L ss.length=false;·rw[aK c]at a;omega
 rw[aI c]at a;by_cases d:BD Z ss.length=false;·rw[aK d]at a;omega
 rw[aI d]at a;by_cases e:qQ Z ss.length=false;·rw[aK e]at a;omega
 rw[aI e]at a;by_cases h:qQ (tr Z) ss.length=false;·rw[aK h]at a;omega
 have f:mY ss=true:=by simpa using b
 exact⟨f,by unfold mY at f;simpa using(mF.1 f).2,by omega,by simpa using c,by simpa using d,by simpa using e,by simpa using h⟩
def ER(n:Nat)(a:Int):Bool:=decide (0<=a)&&decide (a<n)
def Bj(ss:List aS)(G:Nat)(L:Nat->Nat)(Z:Nat->Nat->Bool)(a b:Int):Int:=
 if dD ss G L Z=0 then (if ER ss.length a&&ER ss.length b then 0 else 1)else dD ss G L Z
end bS
theorem adr(w:bI)(x d:aC)(ss:aJ)(G:Nat)(L:Nat->Nat)(Z:aL)(a b:Int)(u:Strs w x ss)(t:EX w d G L Z):aD 196 #[.agg #[x,d],O a,O b] w λh w'=>h=dz (O<|Bj ss G L Z a b)/\bK w w':=by
 obtain⟨s,z⟩:=bV u t;obtain⟨g,bl,off,cap,rfl,D,E,F,B⟩:=u;clear D F B t;obtain⟨n,l⟩:=aV ss.length;have f:J (n=ss.length):=l;rw[<-l]at E s ⊢;clear l;obtain⟨c,k⟩:=aV<|dD ss G L Z;have e:J (c=dD ss G L Z):=k;go_enter func196,ntmps196;go_wp2_with fail;refine(zW _ _ d ss G L Z (s.below<|(bQ _ _).alloc (bG _) _)<|z.below<|(bQ _ _).alloc (bG _) _).mono ?_;rintro h w1 ⟨rfl,i⟩;rw[<-k];clear k;have p:=Y<|Z7 i;obtain⟨q0,q1⟩:=eY (aG (Rf w (X g n cap) d 25) i)<|aG (vH w (X g n cap) d 25) i;clear i;by_cases m:c=0
 ·subst m;have C:=qF e.symm;have H:n<=6:=by have:=C.six;have:=f.out;omega
  go_wp2_with fail;refine(qw _ g d n cap a).mono ?_;rintro h P ⟨rfl,j⟩;rw[show(decide (0<=a)&&decide (a<(n:Int)))=bS.ER n a from rfl];have q:=Y<|up p j;obtain⟨K,N⟩:=eY (aG q0 j)<|aG q1 j;clear j q0 q1;cases o:bS.ER n a;·go_wp2;go_ret;exact⟨bZ (by unfold Bj;rw[<-f,o,aK e.out.symm];rfl),q⟩
  ·go_wp2_with fail;refine(qw _ g d n cap b).mono ?_;rintro h Q ⟨rfl,v⟩;rw[show(decide (0<=b)&&decide (b<(n:Int)))=bS.ER n b from rfl];have r:=Y<|up q v;clear v;cases y:bS.ER n b;·go_wp2;go_ret;exact⟨bZ (by unfold Bj;rw[<-f,o,y,aK e.out.symm];rfl),r⟩
   ·go_wp2;go_ret;exact⟨bZ (by unfold Bj;rw[<-f,o,y,aK e.out.symm];rfl),r⟩
 ·have I:=eO m;go_wp2;go_ret;exact⟨bZ (by unfold Bj;rw[<-e,aI m]),p⟩
theorem ahw{ss:aJ}{G:Nat}{L:Nat->Nat}{Z:aL}{a b:Int}(c:Bj ss G L Z a b=0):bS.Ok ss G L Z/\∃i j:Nat,a=i/\b=j/\i<ss.length/\j<ss.length:=by
 unfold Bj at c;by_cases d:dD ss G L Z=0
 ·rw[aK d]at c;refine⟨qF d,?_⟩;by_cases e:(bS.ER ss.length a&&bS.ER ss.length b)=true;·simp only[bS.ER,dK,iy]at e;exact⟨a.toNat,b.toNat,by omega,by omega,by omega,by omega⟩
  ·rw[aI e]at c;omega
 ·rw[aI d]at c;exact aM c d
theorem ahx(w:bI)(c a:aC)(ss:aJ)(G:Nat)(L:Nat->Nat)(Z:aL)(i j:Nat)(o:Strs w c ss)(n:EX w a G L Z)(d:Bj ss G L Z i j=0):aD 142 #[.agg #[c,a],O i,O j] w λb w'=>b=dz (.tuple #[O (nT (bS.tr Z) ss.length i j:Nat),O<|MX (bS.tr Z) ss.length i j])/\bK w w':=by
 obtain⟨t,k⟩:=bV o n;obtain⟨e,D,E,x,z,y,B⟩:=ahw d;have u:i<ss.length:=by omega
 have v:j<ss.length:=by omega
 clear o n x z y B;have h:=Y e;have l:=e.six;clear e;go_enter func142,ntmps142;go_wp2_with fail;refine(adr _ c a ss G L Z i j (t.below<|(bQ _ _).alloc (bG _) _)<|k.below<|(bQ _ _).alloc (bG _) _).mono ?_;rintro b w1 ⟨rfl,f⟩;have g:=Y<|Z7 f;have q1:=aG (vH w c a 25) f;clear f;rw[d];have r:=Y<|Du (k.below g) h.pos h.square;clear d;go_wp2_with fail;refine(BN _ a ss.length Z r l).mono ?_;rintro b F ⟨v',rfl,m,p⟩;obtain⟨s,q⟩:=bV m<|up g p;clear m p;go_wp2_with fail;refine(BH _ v' ss.length i j (bS.tr Z) s l u v).mono ?_;rintro b H ⟨rfl,C⟩;subst C;go_wp2;go_ret2;exact⟨rfl,q⟩
theorem Pn(w:bI)(vn vl:aC)(ss:aJ)(G:Nat)(L:Nat->Nat)(Z:aL)(hS:Strs w vn ss)(hR:EX w vl G L Z)(hE:dD ss G L Z=0):aD 86 #[.agg #[vn,vl]] w λe w'=>e=dz (.tuple #[O (xR Z ss.length:Nat),O (xR (bS.tr Z) ss.length:Nat),O 0])/\bK w w':=by
 obtain⟨HS,HR⟩:=bV hS hR;have hO:=qF hE;have HO:=Y hO;have h6:=hO.six;clear hS hR hO;go_enter func86,ntmps86;go_wp2_with fail;refine(zW _ vn vl ss G L Z (HS.below ((bQ _ _).alloc (bG _) _)) (HR.below ((bQ _ _).alloc (bG _) _))).mono ?_;rintro e w1 ⟨rfl,hb1⟩;rw[hE];have HB:=Y (Z7 hb1);have q1:=aG (vH w vn vl 25) hb1;have HG:=Y (Du (HR.below HB) HO.pos HO.square);clear hb1 hE;go_wp2_with fail
 go_region_with (first
  | (go_at_call_of 140 (vl);refine(Jr _ vl ss.length Z ?_ h6).mono ?_;(first|exact HG|exact HG.drew|exact(HG.drew.below hb2));rintro e w' ⟨rfl,hw'⟩;subst hw')
  | (go_at_call 55;refine(BN _ vl ss.length Z ?_ h6).mono ?_;(first|exact HG|exact HG.drew);rintro e w2 ⟨v',rfl,hG2,hb2⟩;have q2:=aG (a:=(aN w.heap.size 1)) (v:=vl) (by exact q1) hb2;have HG2:=Y hG2;clear hG2)
  | (go_at_call 140;refine(Jr _ v' ss.length (bS.tr Z) ?_ h6).mono ?_;(exact HG2);rintro e w' ⟨rfl,hw'⟩;subst hw'))
 all_goals go_wp2;go_ret3;exact⟨rfl,up HB.drew hb2⟩
