import Derived.Test.YtageneidjnbedaaGreatDoorTZI2
import Derived.Deep.RegionHeld3
import Derived.Lib.AppendZerosOnto
set_option maxHeartbeats 0
set_option maxRecDepth 99999
namespace Go.Proofs.YtageneidjnbedaaGreatDoor
open bS
open Go.Proofs.Tryz
open Go.RowKit
namespace bS
def BQ(x:Ex):Bool:=
 if x.kind=1 then decide (0<=x.n)&&decide (x.n<=999999)&&x.name.toList.isEmpty&&(x.args.length==0)
 else if x.kind=2 then dZ x.name.data.toList&&(x.n==0)&&(x.args.length==0)
 else if x.kind=3 then opB x.name&&(x.n==0)&&(x.args.length==2)
 else if x.kind=4 then yB x.name&&(x.n==0)&&decide (x.args.length<=4)
 else false
end bS
variable{w w':bI}{m a b c j:Nat}{e0 e1 e2 e3 vb v:aC}{l:aJ}
theorem GY(m:Nat)(x:Ex):bS.jo (m+1) x=(BQ x&&x.args.all (bS.jo m)):=by
 obtain⟨k,n,s,args⟩:=x;simp only[bS.jo,BQ];by_cases d:k=1
 ·rw[aK d,aK d];cases args with
  | nil=>simp
  | cons a l=>simp
 rw[aI d,aI d];by_cases e:k=2
 ·rw[aK e,aK e];cases args with
  | nil=>simp[Bool.and_comm]
  | cons a l=>simp
 rw[aI e,aI e];by_cases g:k=3;·rw[aK g,aK g];simp only[Nq];rw[<-Nq,<-Nq (opB s),Bool.and_comm<|n==0]
 rw[aI g,aI g];by_cases h:k=4;·rw[aK h,aK h];simp only[Nq];rw[<-Nq,<-Nq (yB s),Bool.and_comm<|n==0]
 rw[aI h,aI h];rfl
theorem ajE(w:bI)(k n:Int)(s:aS)(a:Option Addr)(args:List Ex)(cap:Nat)(y:s.size<=maxLen)(E:args.length<=9223372036854775807):aD 70 #[.agg #[O k,O n,A s,X a args.length cap]] w λq w'=>q=dz (.bool<|BQ ⟨k,n,s,args⟩)/\bK w w':=by
 have d:J (BQ ⟨k,n,s,args⟩=if k=1 then decide (0<=n)&&decide (n<=999999)&&s.toList.isEmpty&&(args.length==0)
  else if k=2 then bS.dZ s.data.toList&&(n==0)&&(args.length==0)
  else if k=3 then opB s&&(n==0)&&(args.length==2)
  else if k=4 then yB s&&(n==0)&&decide (args.length<=4)
  else false):=rfl
 generalize BQ ⟨k,n,s,args⟩=R at *;generalize args.length=len at *;clear args;by_cases h:k=1
 ·subst h;rw[aK rfl]at d;by_cases C:0<=n
  ·rw[gW C,nX]at d;by_cases D:n<=999999
   ·rw[gW D,nX]at d;cases B:s.toList.isEmpty;·rw[B]at d;go_enter func70,ntmps70;go_wp2;go_ret;exact⟨aW (by rw[d];rfl),aH _ _⟩
    ·rw[B,nX]at d;go_enter func70,ntmps70;go_wp2;go_ret;exact⟨aW (by rw[d];exact CZ len 0),aH _ _⟩
   ·rw[iD D]at d;go_enter func70,ntmps70;go_wp2;go_ret;exact⟨aW (by rw[d];rfl),aH _ _⟩
  ·rw[iD C]at d;go_enter func70,ntmps70;go_wp2;go_ret;exact⟨aW (by rw[d];rfl),aH _ _⟩
 rw[aI h]at d;by_cases i:k=2
 ·subst i;rw[aK rfl]at d;clear h;go_enter func70,ntmps70;go_wp2_with fail;refine(kE _ s y).mono ?_;rintro q w' ⟨rfl,z⟩;subst z;cases e:bS.dZ s.data.toList;·rw[e]at d;go_wp2;go_ret;exact⟨aW (by rw[d];rfl),aH _ _⟩
  ·rw[e,nX]at d;cases g:(n==0);·rw[g]at d;go_wp2;go_ret;exact⟨aW (by rw[d];rfl),aH _ _⟩
   ·rw[g,nX]at d;go_wp2;go_ret;exact⟨aW (by rw[d];exact CZ len 0),aH _ _⟩
 rw[aI i]at d;by_cases p:k=3
 ·subst p;rw[aK rfl]at d;clear h i;go_enter func70,ntmps70;go_wp2_with fail;refine(ajv _ s y).mono ?_;rintro q w' ⟨rfl,z⟩;subst z;cases e:opB s;·rw[e]at d;go_wp2;go_ret;exact⟨aW (by rw[d];rfl),aH _ _⟩
  ·rw[e,nX]at d;cases g:(n==0);·rw[g]at d;go_wp2;go_ret;exact⟨aW (by rw[d];rfl),aH _ _⟩
   ·rw[g,nX]at d;go_wp2;go_ret;exact⟨aW (by rw[d];exact CZ len 2),aH _ _⟩
 rw[aI p]at d;by_cases r:k=4
 ·subst r;rw[aK rfl]at d;clear h i p;have q1:(w.alloc<|aY #[O 4,O n,A s,X a len cap] 80).cell? (aN w.heap.size 1)=some (O n):=by simp[go_sem]
  have q3:=zS w (O 4) (O n) (A s) (X a len cap) 80;go_enter func70,ntmps70;go_wp2_with fail;refine(adz _ s y).mono ?_;rintro q w1 ⟨rfl,u⟩;have x:=Y<|Z7 u;obtain⟨K,L⟩:=eY (aG q1 u)<|aG q3 u;clear q1 q3 u;cases e:yB s;·rw[e]at d;go_wp2;go_ret;exact⟨aW (by rw[d];rfl),x⟩
  ·rw[e,nX]at d;cases g:(n==0);·rw[g]at d;go_wp2;go_ret;exact⟨aW (by rw[d];rfl),x⟩
   ·rw[g,nX]at d;go_wp2;go_ret;exact⟨aW (by rw[d];exact decide_eq_decide.2 bC),x⟩
 rw[aI r]at d;have F:(k==1)=false:=by simp[h]
 have G:(k==2)=false:=by simp[i]
 have H:(k==3)=false:=by simp[p]
 have I:(k==4)=false:=by simp[r]
 clear h i p r;go_enter func70,ntmps70;go_wp2;go_ret;exact⟨aW (by rw[d]),aH _ _⟩
theorem JV(m:Nat):∀(w:bI) (c0 c1 c2 c3:aC) (x:Ex),iH w m c0 c1 c2 c3 x->aD 50 #[.agg #[c0,c1,c2,c3]] w λp w'=>p=dz (.bool<|bS.jo m x)/\bK w w':=by
 induction m with
 | zero=>intro w c0 c1 c2 c3 x h;exact iU h
 | succ m ih=>
  intro w c0 c1 c2 c3 x h;have HI:=Y ih;clear ih;obtain⟨rfl,rfl,rfl,aa,ae,af,a,b,off,cap,rfl,C,F,E⟩:=h;obtain⟨k,n,s,args⟩:=x;simp only at aa ae af C F E ⊢;obtain⟨z,j5,M⟩:=fE (GY m ⟨k,n,s,args⟩) E C;have xV:=Y (λw=>ajE w k n s a args cap aa F);clear E C;generalize BQ ⟨k,n,s,args⟩=pb at *;obtain⟨len,G⟩:=aV args.length;have N:=Y G;rw[<-G]at F M xV ⊢;clear G;have q3:=zS w (O k) (O n) (A s) (X a len cap) 80;go_enter func50,ntmps50;go_wp2_with fail;refine(xV _).mono ?_;rintro p W0 ⟨rfl,D⟩;replace q3:=aG q3 D;have q:=Y<|Z7 D;clear D;cases pb;·go_wp2;go_ret;exact⟨aW (by rw[z];rfl),q⟩
  ·go_wp2;go_loopw[11] (λi wr=>∃j:Nat,j<=len/\i=O j/\(∀d y,d<j->args[d]?=some y->bS.jo m y=true)/\bK W0 wr) (λi _=>len - (intOf i).toNat);exact⟨0,bN _,rfl,λd y Z=>aM Z<|fU _,bQ _ _⟩
   obtain⟨j,hj,rfl,r,u⟩:=hrel;have Q:=Y r;clear r;by_cases ad:j<len
   ·obtain⟨y,H⟩:∃y,args[j]?=some y:=⟨_,aZ (by rw[<-N];exact ad)⟩;obtain⟨e0,e1,e2,e3,R,S,U,V,I⟩:=j5 j y H;have P:=Y H;obtain rfl:=M bC;have e:=up q u;obtain⟨u0,u1⟩:=eY (aG R e)<|aG S e;have ah:=aG U e;have YH:=aG V e;have ac:=Y<|I.below e;obtain⟨a',ag,rfl,rfl,rfl,rfl⟩:=I.shape;have fT:=Y u;clear R S U V I H e u;go_wp2_with fail;refine(HI _ _ _ _ _ y<|ac.below<|aH _ _).mono ?_;rintro p w5 ⟨rfl,W⟩;have L:=Y<|up fT<|Z7 W;clear W;cases ab:bS.jo m y;·have B:=Y ab;go_wp2;go_ret;exact⟨aW (by rw[z,acE P B];rfl),up q L⟩
    ·have B:=Y ab;go_wp2;go_roundw;exact⟨j+1,by omega,by go_num,λd K Z g=>by
      by_cases p:d=j;·subst p;rw[P]at g;cases g;exact B
      ·exact Q d K bC g,L⟩
     exact gV
   ·go_wp2;go_ret;have r:args.all (bS.jo m)=true:=acD (λd K g=>Q d K (by have:=(cO.1 g).1;have:=N.out;omega) g);exact⟨aW (by rw[z,r];rfl),up q u⟩
theorem aju(w:bI)(k:Int)(nm:aS)(H K:Int)(L:aS)(B:Option Addr)(le E:Nat)(y z:Option Addr)(e n c1 c2:Nat)(R:Bool)(s:R=if k=1\/k=4 then bS.dZ nm.data.toList&&(n==0)&&(e==0)else if k=2 then nm.toList.isEmpty else if k=3 then nm.toList.isEmpty&&(n==0)else false)(F:nm.size<=maxLen)(_h1:e<=9223372036854775807)(_h2:n<=9223372036854775807):aD 89 #[.agg #[O k,A nm,O H,O K,A L,X B le E,X y e c1,X z n c2]] w λr w'=>r=dz (.bool R)/\bK w w':=by
 have d:=Y s;clear s;by_cases i:k=1\/k=4
 ·rw[aK i]at d;rcases i with rfl|rfl;all_goals
   go_enter func89,ntmps89;go_wp2_with fail;refine(kE _ nm F).mono ?_;rintro r w' ⟨rfl,G⟩;subst G;cases g:bS.dZ nm.data.toList;·rw[g]at d;go_wp2;go_ret;exact⟨aW (by rw[d];rfl),aH _ _⟩
   ·rw[g,nX]at d;by_cases h:e=0
    ·have C:((e:Int)==0)=true:=by simp[h]
     rw[show(e==0)=true from by simp[h],Bool.and_true]at d;clear h;go_wp2;go_ret;exact⟨aW (by rw[d];exact CZ n 0),aH _ _⟩
    ·have C:((e:Int)==0)=false:=by simp[h]
     rw[show(e==0)=false from by simp[h],Sg]at d;clear h;go_wp2;go_ret;exact⟨aW (by rw[d]),aH _ _⟩
 rw[aI i]at d;have u:(k==1)=false:=by simp;omega
 have x:(k==4)=false:=by simp;omega
 by_cases p:k=2;·subst p;rw[aK rfl]at d;clear i u x;generalize g:nm.toList.isEmpty=D at *;cases D;all_goals go_enter func89,ntmps89;go_wp2;go_ret;exact⟨aW (by rw[d]),aH _ _⟩
 rw[aI p]at d;have I:(k==2)=false:=by simp;omega
 by_cases q:k=3
 ·subst q;rw[aK rfl]at d;clear i p u I x;cases g:nm.toList.isEmpty;·rw[g]at d;go_enter func89,ntmps89;go_wp2;go_ret;exact⟨aW (by rw[d];rfl),aH _ _⟩
  ·rw[g,nX]at d;go_enter func89,ntmps89;go_wp2;go_ret;exact⟨aW (by rw[d];exact CZ n 0),aH _ _⟩
 rw[aI q]at d;have N:(k==3)=false:=by simp;omega
 clear i p q;go_enter func89,ntmps89;go_wp2;go_ret;exact⟨aW (by rw[d]),aH _ _⟩
def VW(w:bI)(m:Nat)(e0 e1 e2 e3 va vb:Value)(s:St):Prop:=
 mq s.kind/\s.name.size<=maxLen/\iH w m e0 e1 e2 e3 s.e/\fH w m va s.a/\fH w m vb s.b
theorem VW.below{va:aC}{s:St}(h:VW w m e0 e1 e2 e3 va vb s)(d:bK w w'):VW w' m e0 e1 e2 e3 va vb s:=
 ⟨h.1,h.2.1,h.2.2.1.below d,h.2.2.2.1.below d,h.2.2.2.2.below d⟩
section
variable (w : World) (c0 c1 c2 c3 c4 c5 c6 c7 : Value) (t : TypeId)
theorem aki:(w.alloc<|.cells #[c0,c1,c2,c3,c4,c5,c6,c7] t).cell? (aN w.heap.size 0)=some c0:=by simp[go_sem]
theorem az1:(w.alloc<|.cells #[c0,c1,c2,c3,c4,c5,c6,c7] t).cell? (aN w.heap.size 1)=some c1:=by simp[go_sem]
theorem akj:(w.alloc<|.cells #[c0,c1,c2,c3,c4,c5,c6,c7] t).cell? (aN w.heap.size 2)=some c2:=by simp[go_sem]
theorem akk:(w.alloc<|.cells #[c0,c1,c2,c3,c4,c5,c6,c7] t).cell? (aN w.heap.size 3)=some c3:=by simp[go_sem]
theorem akl:(w.alloc<|.cells #[c0,c1,c2,c3,c4,c5,c6,c7] t).cell? (aN w.heap.size 4)=some c4:=by simp[go_sem]
theorem akm:(w.alloc<|.cells #[c0,c1,c2,c3,c4,c5,c6,c7] t).cell? (aN w.heap.size 5)=some c5:=by simp[go_sem]
end
theorem ajo(m:Nat)(K:∀(w:bI) (v:aC) (l:List St),fH w m v l->aD 49 #[v] w λp w'=>p=dz (.bool<|bS.j6 m l)/\bK w w')(w:bI)(e0 e1 e2 e3 va vb:aC)(s:St)(h:VW w m e0 e1 e2 e3 va vb s):aD 69 #[.agg #[O s.kind,A s.name,e0,e1,e2,e3,va,vb]] w λp w'=>p=dz (.bool<|bS.Vz m s)/\bK w w':=by
 have H:=Y K;clear K;have F:=Y h;obtain⟨_,V,N,L,M⟩:=h;obtain⟨i,n,rfl,rfl,rfl,rfl⟩:=N.shape;obtain⟨e,q,rfl,S⟩:=L.shape;obtain⟨g,k,rfl,U⟩:=M.shape;clear N L M;have z:J (bS.Vz m s=(stH s&&bS.jo m s.e&&bS.j6 m s.a&&bS.j6 m s.b)):=rfl;have P:=Y (λw=>aju w s.kind s.name s.e.kind s.e.n s.e.name i s.e.args.length n e g s.a.length s.b.length q k (stH s) rfl V S U);generalize s.e.args.length=le at *;generalize s.a.length=u at *;generalize s.b.length=x at *;obtain⟨q2,q3,q4,q5⟩:=rY (akj w (O s.kind) (A s.name) (O s.e.kind) (O s.e.n) (A s.e.name) (X i le n) (X e u q) (X g x k) 107) (akk w (O s.kind) (A s.name) (O s.e.kind) (O s.e.n) (A s.e.name) (X i le n) (X e u q) (X g x k) 107) (akl w (O s.kind) (A s.name) (O s.e.kind) (O s.e.n) (A s.e.name) (X i le n) (X e u q) (X g x k) 107)<|akm w (O s.kind) (A s.name) (O s.e.kind) (O s.e.n) (A s.e.name) (X i le n) (X e u q) (X g x k) 107;obtain⟨y,r⟩:=eY (Jm w (O s.kind) (A s.name) (O s.e.kind) (O s.e.n) (A s.e.name) (X i le n) (X e u q) (X g x k) 107)<|Jo w (O s.kind) (A s.name) (O s.e.kind) (O s.e.n) (A s.e.name) (X i le n) (X e u q) (X g x k) 107;go_enter func69,ntmps69;go_wp2_with fail;refine(P _).mono ?_;rintro p w1 ⟨rfl,d⟩;replace q2:=aG q2 d;replace q3:=aG q3 d;replace q4:=aG q4 d;replace q5:=aG q5 d;replace y:=aG y d;replace r:=aG r d;have C:=Y<|Z7 d;clear d;generalize stH s=sh at *;cases sh;·go_wp2;go_ret;exact⟨aW (by rw[z];rfl),C⟩
 go_wp2_with fail;refine(JV m _ _ _ _ _ s.e (F.below C).2.2.1).mono ?_;rintro p w2 ⟨rfl,B⟩;replace y:=aG y B;replace r:=aG r B;have D:=Y<|up C B;clear B q2 q3 q4 q5;generalize bS.jo m s.e=Z at *;cases Z;·go_wp2;go_ret;exact⟨aW (by rw[z];rfl),D⟩
 go_wp2_with fail;refine(H _ _ s.a (F.below D).2.2.2.1).mono ?_;rintro p w3 ⟨rfl,G⟩;replace r:=aG r G;have E:=Y<|up D G;clear G y;generalize bS.j6 m s.a=Q at *;cases Q;·go_wp2;go_ret;exact⟨aW (by rw[z];rfl),E⟩
 go_wp2_with fail;refine(H _ _ s.b (F.below E).2.2.2.2).mono ?_;rintro p w4 ⟨rfl,I⟩;have W:=Y<|up E I;clear I r;generalize bS.j6 m s.b=R at *;go_wp2;go_ret;exact⟨aW (by rw[z];cases R<;>rfl),W⟩
theorem aln(m:Nat):∀(w:bI) (v:aC) (l:List St),fH w m v l->aD 49 #[v] w λk w'=>k=dz (.bool<|bS.j6 m l)/\bK w w':=by
 induction m with
 | zero=>intro w v l h;exact iU h
 | succ m Z=>
  intro w v l h;have HI:=Y<|ajo m Z;clear Z;obtain⟨a,b,off,cap,rfl,R,hl,V⟩:=h;obtain⟨D,j5,C⟩:=fE (wL m l) V R;clear V R;obtain⟨len,q⟩:=aV l.length;have E:=Y q;rw[<-q]at hl C ⊢;clear q;go_enter func49,ntmps49;go_wp2;go_loopw[7] (λi wr=>∃j:Nat,j<=len/\i=O j/\(∀d y,d<j->l[d]?=some y->bS.Vz m y=true)/\bK w wr) (λi _=>len - (intOf i).toNat);exact⟨0,bN _,rfl,λd y U=>aM U<|fU _,bQ _ _⟩
  obtain⟨j,hj,rfl,n,e⟩:=hrel;have G:=Y n;clear n;by_cases ab:j<len
  ·obtain⟨y,x⟩:∃y,l[j]?=some y:=⟨_,aZ (by rw[<-E];exact ab)⟩;obtain⟨k1,k2,e0,e1,e2,e3,va,vb,H,I,K,L,M,N,P,Q,u,r,s⟩:=j5 j y x;have F:=Y x;obtain rfl:=C bC;obtain⟨u0,u1⟩:=eY (aG H e)<|aG I e;have ag:=aG K e;have YH:=aG L e;obtain⟨u4,u5,u6,u7⟩:=rY (aG M e) (aG N e) (aG P e)<|aG Q e;have aa:J (VW wr m e0 e1 e2 e3 va vb y):=Y ⟨k1,k2,u.below e,r.below e,s.below e⟩;obtain⟨ae,ce,rfl,rfl,rfl,rfl⟩:=u.shape;obtain⟨a1,kP,rfl,ad⟩:=r.shape;obtain⟨a2,ac,rfl,af⟩:=s.shape;have fT:=Y e;clear H I K L M N P Q u r s x e;go_wp2_with fail;refine(HI _ _ _ _ _ _ _ y<|aa.below<|aH _ _).mono ?_;rintro k w5 ⟨rfl,S⟩;have B:=Y<|up fT<|Z7 S;clear S;cases W:bS.Vz m y;·have p:=Y W;go_wp2;go_ret;exact⟨aW (by rw[D,acG F p]),B⟩
   ·have p:=Y W;go_wp2;go_roundw;exact⟨j+1,by omega,by go_num,λd z U g=>by
     by_cases k:d=j;·subst k;rw[F]at g;cases g;exact p
     ·exact G d z bC g,B⟩
    exact gV
  ·go_wp2;go_ret;have n:l.all (bS.Vz m)=true:=acF (λd z g=>G d z (by have:=(cO.1 g).1;have:=E.out;omega) g);exact⟨aW (by rw[D,n]),e⟩
namespace bS
def jh{α:Type}(f:α->Nat)(l:List α):Nat:=l.foldl (λa y=>max a (f y)) 0
def yw:Nat->Ex->Nat
 | 0,_=>0
 | m+1,x=>if x.kind=1\/x.kind=2 then 0 else 1+jh (yw m) x.args
def L6:Nat->List St->Nat
 | 0,_=>0
 | m+1,l=>jh (λs=>1+if s.kind=2\/s.kind=3 then max (max (yw m s.e) (1+L6 m s.a)) (1+L6 m s.b)else yw m s.e) l
def Sj(m:Nat)(s:St):Nat:=1+if s.kind=2\/s.kind=3 then max (max (yw m s.e) (1+L6 m s.a)) (1+L6 m s.b)else yw m s.e
theorem JW(m:Nat)(l:List St):L6 (m+1) l=jh (Sj m) l:=rfl
def YK(m:Nat)(f:Fu):Nat:=1+max (max 1 (L6 m f.body)) (yw m f.result)
def moD(m:Nat)(x:Mo):Nat:=1+max 1 (jh (YK m) x.bq)
end bS
section
variable {α : Type} {f : α → Nat}
theorem Nr(l:List α)(a:Nat):l.foldl (λa y=>max a<|f y) a=max a (jh f l):=by
 induction l generalizing a with
 | nil=>simp[jh]
 | cons y l d =>unfold jh;rw[pz,pz,d,d];omega
theorem dF(y:α)(l:List α):jh f (y::l)=max (f y) (jh f l):=by rw[jh,pz,Nr];omega
theorem qC(l k:List α):jh f (l++k)=max (jh f l) (jh f k):=by rw[jh,JX,Nr];rfl
theorem FH{l:List α}{j:Nat}{y:α}(h:l[j]?=some y):jh f (l.take<|j+1)=max (jh f<|l.take j) (f y):=by obtain⟨d,rfl⟩:=cO.1 h;rw[uW d,qC,dF];simp[jh]
theorem IY{B:Nat}{l:List α}(h:∀y∈l,f y<=B):jh f l<=B:=by
 induction l with
 | nil=>exact bN _
 | cons y l e =>rw[dF];obtain⟨i,k⟩:=eY (h y cK) (e (λg d=>h g<|by simp[d]));omega
theorem JY{g:α->Nat}{l:List α}(h:∀y∈l,f y<=g y):jh f l<=(l.map g).sum:=by
 induction l with
 | nil=>exact bN _
 | cons y l e =>rw[dF,fZ,jI];obtain⟨k,n⟩:=eY (h y cK) (e (λi d=>h i<|by simp[d]));omega
theorem wY(l:List α)(j:Nat):jh f (l.take j)<=jh f l:=by
 conv=>rhs;rw[<-pK j l]
 rw[qC];omega
end
theorem FI:∀(m:Nat) (x:Ex),bS.yw m x<=jF m x
 | 0,_=>bG _
 | m+1,x=>by simp only[bS.yw,jF];have:=JY (f:=bS.yw m) (g:=jF m) (l:=x.args) (λy _=>FI m y);split<;>omega
theorem BR:∀(m:Nat) (l:List St),bS.L6 m l<=fA m l
 | 0,_=>bG _
 | m+1,l=>by simp only[bS.L6,fA];refine bE (JY (g:=λs=>s.name.size+3+jF m s.e+fA m s.a+fA m s.b) (λs _=>?_))<|dN _;obtain⟨d,e,h⟩:=lS (FI m s.e) (BR m s.a)<|BR m s.b;split<;>omega
theorem wrap_small{x:Int}(d:0<=x)(e:x<=9223372036854775807):IntKind.i64.wrap x=x:=by rw[IntKind.wrap_i64];omega
theorem JZ(h:c=max a b):O (max (a:Int) (b:Int))=O c:=by rw[h];congr 1;omega
theorem Bh(m:Nat):∀(w:bI) (c0 c1 c2 c3:aC) (x:Ex),iH w m c0 c1 c2 c3 x->jF m x<=1365000->aD 72 #[.agg #[c0,c1,c2,c3]] w λp w'=>p=dz (O<|bS.yw m x)/\bK w w':=by
 induction m with
 | zero=>intro w c0 c1 c2 c3 x h;exact iU h
 | succ m S=>
  intro w c0 c1 c2 c3 x h E;have V:=Y S;clear S;obtain⟨rfl,rfl,rfl,af,ad,ae,a,b,off,cap,rfl,B,Q,C⟩:=h;obtain⟨k,n,s,args⟩:=x;simp only at af ad ae B Q C ⊢;obtain⟨j5,G⟩:=bV C B;have HW:J (∀(i:Nat) (y:Ex),args[i]?=some y->jF m y<=1365000):=Y (λi y e=>by have:jF m y<=(args.map<|jF m).sum:=wW<|dG e;simp only[jF]at E;omega);have W:J (jh (bS.yw m) args<=1365000):=Y (by have:=JY (f:=bS.yw m) (g:=jF m) (l:=args) (λy _=>FI m y);simp only[jF]at E;omega);have q:J (bS.yw (m+1) ⟨k,n,s,args⟩=if k=1\/k=2 then 0 else 1+jh (bS.yw m) args):=rfl;clear C B E;obtain⟨len,D⟩:=aV args.length;have I:=Y D;rw[<-D]at Q G ⊢;clear D;by_cases u:k=1;·subst u;go_enter func72,ntmps72;go_wp2;go_ret;exact⟨bZ (by rw[q];rfl),aH _ _⟩
  by_cases z:k=2;·subst z;go_enter func72,ntmps72;go_wp2;go_ret;exact⟨bZ (by rw[q];rfl),aH _ _⟩
  rw[aI bC]at q;have k1:(k==1)=false:=by simp[u]
  have k2:(k==2)=false:=by simp[z]
  clear u z;have H:=Y<|aH w<|aY #[O k,O n,A s,X a len cap] 80;have q3:=zS w (O k) (O n) (A s) (X a len cap) 80;go_enter func72,ntmps72;go_wp2_with fail;generalize (w.alloc<|aY #[O k,O n,A s,X a len cap] 80)=W0 at *;go_loopw[3,17] (λo i wr=>∃j:Nat,j<=len/\i=O j/\o=O (jh (bS.yw m)<|args.take j)/\bK W0 wr) (λ_ i _=>len - (intOf i).toNat);exact⟨0,bN _,rfl,rfl,bQ _ _⟩
  obtain⟨j,hj,rfl,rfl,r⟩:=hrel;have ab:=bE (wY (f:=bS.yw m) args j) W;by_cases ac:j<len
  ·obtain⟨y,e⟩:∃y,args[j]?=some y:=⟨_,aZ (by rw[<-I];exact ac)⟩;obtain⟨e0,e1,e2,e3,K,L,M,N,F⟩:=j5 j y e;obtain rfl:=G bC;have d:=up H r;obtain⟨u0,u1⟩:=eY (aG K d)<|aG L d;have ah:=aG M d;have YH:=aG N d;have aa:=Y<|F.below d;obtain⟨a',ag,rfl,rfl,rfl,rfl⟩:=F.shape;obtain⟨Z,fT⟩:=bV (FH (f:=bS.yw m) e) r;have R:=HW j y e;clear K L M N F e d r;go_wp2_with fail;refine(V _ _ _ _ _ y (aa.below<|aH _ _) R).mono ?_;rintro p w5 ⟨rfl,P⟩;have U:=Y<|up fT<|Z7 P;clear P R;generalize bS.yw m y=dy at *;generalize jh (bS.yw m) (args.take j)=acc at *;go_wp2;go_roundw;exact⟨j+1,by omega,by go_num,JZ Z,U⟩;exact gV
  ·have p:args.take j=args:=fQ (by have:=I.out;omega);rw[p]at ab ⊢;clear p;generalize jh (bS.yw m) args=acc at *;go_wp2;go_ret;exact⟨bZ (by rw[q];go_num),up H r⟩
theorem ael(m:Nat)(hi:∀(w:bI) (v:aC) (l:List St),fH w m v l->fA m l<=1365000->aD 71 #[v] w λe w'=>e=dz (O (bS.L6 m l))/\bK w w')(w:bI)(e0 e1 e2 e3 va vb:aC)(s:St)(h:VW w m e0 e1 e2 e3 va vb s)(hw:s.name.size+3+jF m s.e+fA m s.a+fA m s.b<=1365000):aD 92 #[.agg #[O s.kind,A s.name,e0,e1,e2,e3,va,vb]] w λe w'=>e=dz (O (bS.Sj m s))/\bK w w':=by
 have HI:=Y hi;clear hi;have HS:=Y h;obtain⟨_,hnm,hx,hsa,hsb⟩:=h;obtain⟨ae,ce,rfl,rfl,rfl,rfl⟩:=hx.shape;obtain⟨a1,kP,rfl,hl1⟩:=hsa.shape;obtain⟨a2,cap2,rfl,hl2⟩:=hsb.shape;clear hx hsa hsb;have HE:J (bS.Sj m s=1+if s.kind=2\/s.kind=3 then max (max (bS.yw m s.e) (1+bS.L6 m s.a)) (1+bS.L6 m s.b)else bS.yw m s.e):=rfl;have w1:jF m s.e<=1365000:=by omega
 have w2:fA m s.a<=1365000:=by omega
 have w3:fA m s.b<=1365000:=by omega
 obtain⟨d1,d2,d3⟩:=lS (bE (FI m s.e) w1) (bE (BR m s.a) w2) (bE (BR m s.b) w3);clear hw;generalize s.e.args.length=le at *;generalize s.a.length=l1 at *;generalize s.b.length=l2 at *;have HB0:=Y (aH w (aY #[O s.kind,A s.name,O s.e.kind,O s.e.n,A s.e.name,X ae le ce,X a1 l1 kP,X a2 l2 cap2] 107));obtain⟨q0,q6,q7⟩:=lS (aki w (O s.kind) (A s.name) (O s.e.kind) (O s.e.n) (A s.e.name) (X ae le ce) (X a1 l1 kP) (X a2 l2 cap2) 107) (Jm w (O s.kind) (A s.name) (O s.e.kind) (O s.e.n) (A s.e.name) (X ae le ce) (X a1 l1 kP) (X a2 l2 cap2) 107) (Jo w (O s.kind) (A s.name) (O s.e.kind) (O s.e.n) (A s.e.name) (X ae le ce) (X a1 l1 kP) (X a2 l2 cap2) 107);go_enter func92,ntmps92;go_wp2_with fail;refine(Bh m _ _ _ _ _ s.e (HS.below HB0).2.2.1 w1).mono ?_;rintro e w5 ⟨rfl,hb5⟩;replace q0:=aG q0 hb5;replace q6:=aG q6 hb5;replace q7:=aG q7 hb5;have HN:=Y (up HB0 hb5);clear hb5;obtain⟨VX,Ns⟩:=bV ((HS.below HN).2.2.2.1) ((HS.below HN).2.2.2.2);generalize bS.yw m s.e=de at *;by_cases hk:s.kind=2\/s.kind=3
 ·rw[aK hk]at HE
  have HF:J (∀wx,J (bK w5 wx)->J (bK w5 wx)/\bJ wx w.heap.size 6=some (X a1 l1 kP)/\bJ wx w.heap.size 7=some (X a2 l2 cap2)):=
   λwx h=>⟨h,aG q6 h,aG q7 h⟩
  have Aw:J (bK w5 w5):=Y (bQ _ _);generalize hda:bS.L6 m s.a=da at *;have HDA:=Y hda;clear hda;generalize hdb:bS.L6 m s.b=db at *;have HDB:=Y hdb;clear hdb q6 q7;have WA:J (IntKind.i64.wrap (1+(da:Int))=1+(da:Int)):=Y (wrap_small bC bC);have WB:J (IntKind.i64.wrap (1+(db:Int))=1+(db:Int)):=Y (wrap_small bC bC);rcases hk with hk|hk;all_goals
   rw[hk]at q0;go_wp2_with fail
   go_region_held3 (λwx=>J (bK w5 wx)/\bJ wx w.heap.size 6=some (X a1 l1 kP)/\bJ wx w.heap.size 7=some (X a2 l2 cap2))
    (first|exact HF _ Qg|exact HF _ VY|exact HF _ (Y Aw.out.drew))
    (first
     | (go_at_call_of 71 (a1);refine(HI _ _ s.a ?_ w2).mono ?_;(exact VX.below Aw.drew);rintro e w30 ⟨rfl,OD⟩;have VY:=Y (up Aw.drew OD);clear OD;rw[HDA])
     | (go_at_call_of 71 (a2);refine(HI _ _ s.b ?_ w3).mono ?_;(exact Ns.below VY);rintro e w31 ⟨rfl,SN⟩;have Qg:=Y (up VY SN);clear SN;rw[HDB]))
   all_goals go_wp2
   all_goals go_ret;exact⟨bZ (by rw[HE];simp only[WA.out,WB.out]at *;omega),up HN Qg⟩
 ·rw[aI hk]at HE;have k2:(s.kind==2)=false:=by simp;omega
  have k3:(s.kind==3)=false:=by simp;omega
  clear hk q6 q7;go_wp2;go_ret;exact⟨bZ (by rw[HE];go_num),HN⟩
theorem ajY(m:Nat):∀(w:bI) (v:aC) (l:List St),fH w m v l->fA m l<=1365000->aD 71 #[v] w λg w'=>g=dz (O<|bS.L6 m l)/\bK w w':=by
 induction m with
 | zero=>intro w v l h;exact iU h
 | succ m M=>
  intro w v l h q;have R:=Y<|ael m M;clear M;obtain⟨a,b,off,cap,rfl,I,hl,L⟩:=h;have Q:=Y<|JW m l;have S:J (jh (bS.Sj m) l<=1365000):=Y (by rw[<-JW];exact bE (BR _ _) q);have V:J (∀(i:Nat) (y:St),l[i]?=some y->y.name.size+3+jF m y.e+fA m y.a+fA m y.b<=1365000):=Y (λi y e=>by have:y.name.size+3+jF m y.e+fA m y.a+fA m y.b<=(l.map λs:St=>s.name.size+3+jF m s.e+fA m s.a+fA m s.b).sum:=wW (f:=λs:St=>s.name.size+3+jF m s.e+fA m s.a+fA m s.b)<|dG e;simp only[fA]at q;omega);obtain⟨j5,u⟩:=bV L I;clear L I q;obtain⟨len,k⟩:=aV l.length;have x:=Y k;rw[<-k]at hl u ⊢;clear k;go_enter func71,ntmps71;go_wp2;go_loopw[3,8] (λo i wr=>∃j:Nat,j<=len/\i=O j/\o=O (jh (bS.Sj m)<|l.take j)/\bK w wr) (λ_ i _=>len - (intOf i).toNat);exact⟨0,bN _,rfl,rfl,bQ _ _⟩
  obtain⟨j,hj,rfl,rfl,d⟩:=hrel;have Z:=bE (wY (f:=bS.Sj m) l j) S;by_cases aa:j<len
  ·obtain⟨y,e⟩:∃y,l[j]?=some y:=⟨_,aZ (by rw[<-x];exact aa)⟩;obtain⟨k1,k2,e0,e1,e2,e3,va,vb,z,B,C,D,E,F,G,H,r,n,p⟩:=j5 j y e;have U:=Y<|FH (f:=bS.Sj m) e;have ab:=V j y e;obtain rfl:=u bC;obtain⟨u0,u1⟩:=eY (aG z d)<|aG B d;have ag:=aG C d;have YH:=aG D d;obtain⟨u4,u5,u6,u7⟩:=rY (aG E d) (aG F d) (aG G d)<|aG H d;have P:J (VW wr m e0 e1 e2 e3 va vb y):=Y ⟨k1,k2,r.below d,n.below d,p.below d⟩;obtain⟨ae,ce,rfl,rfl,rfl,rfl⟩:=r.shape;obtain⟨a1,kP,rfl,ad⟩:=n.shape;obtain⟨a2,ac,rfl,af⟩:=p.shape;have W:=Y d;clear z B C D E F G H r n p e d;go_wp2_with fail;refine(R _ _ _ _ _ _ _ y (P.below<|aH _ _) ab).mono ?_;rintro g w5 ⟨rfl,K⟩;have N:=Y<|up W<|Z7 K;clear K;generalize bS.Sj m y=dy at *;generalize jh (bS.Sj m) (l.take j)=acc at *;go_wp2;go_roundw;exact⟨j+1,by omega,by go_num,JZ U,N⟩;exact gV
  ·have g:l.take j=l:=fQ (by have:=x.out;omega);rw[g]at Z ⊢;clear g;generalize jh (bS.Sj m) l=acc at *;go_wp2;go_ret;exact⟨bZ (by rw[Q]),d⟩
def VZ(w:bI)(m:Nat)(d vb e0 e1 e2 e3:Value)(f:Fu):Prop:=
 f.name.size<=maxLen/\Strs w d f.params/\fH w m vb f.body/\iH w m e0 e1 e2 e3 f.result
theorem VZ.below{e:aC}{f:Fu}(h:VZ w m e vb e0 e1 e2 e3 f)(d:bK w w'):VZ w' m e vb e0 e1 e2 e3 f:=
 ⟨h.1,h.2.1.below d,h.2.2.1.below d,h.2.2.2.below d⟩
theorem Strs.shape(h:Strs w v l):∃a cap,v=X a l.length cap/\l.length<=9223372036854775807:=by obtain⟨a,b,off,cap,d,_,e,_⟩:=h;exact⟨a,cap,d,e⟩
section
variable (w : World) (c0 c1 c2 c3 c4 c5 c6 : Value) (t : TypeId)
theorem akn:(w.alloc<|.cells #[c0,c1,c2,c3,c4,c5,c6] t).cell? (aN w.heap.size 0)=some c0:=by simp[go_sem]
theorem ako:(w.alloc<|.cells #[c0,c1,c2,c3,c4,c5,c6] t).cell? (aN w.heap.size 1)=some c1:=by simp[go_sem]
theorem Qk:(w.alloc<|.cells #[c0,c1,c2,c3,c4,c5,c6] t).cell? (aN w.heap.size 2)=some c2:=by simp[go_sem]
theorem JQ:(w.alloc<|.cells #[c0,c1,c2,c3,c4,c5,c6] t).cell? (aN w.heap.size 3)=some c3:=by simp[go_sem]
theorem YJ:(w.alloc<|.cells #[c0,c1,c2,c3,c4,c5,c6] t).cell? (aN w.heap.size<|3+1)=some c4:=by simp[go_sem]
theorem Mj:(w.alloc<|.cells #[c0,c1,c2,c3,c4,c5,c6] t).cell? (aN w.heap.size<|3+2)=some c5:=by simp[go_sem]
theorem UR:(w.alloc<|.cells #[c0,c1,c2,c3,c4,c5,c6] t).cell? (aN w.heap.size<|3+3)=some c6:=by simp[go_sem]
end
theorem ajN(m:Nat)(w:bI)(Q vb e0 e1 e2 e3:aC)(f:Fu)(h:VZ w m Q vb e0 e1 e2 e3 f)(hw:fA m f.body+jF m f.result<=1365000):aD 51 #[.agg #[A f.name,Q,vb,e0,e1,e2,e3]] w λB w'=>B=dz (O<|YK m f)/\bK w w':=by
 have C:=Y h;obtain⟨ac,L,M,N⟩:=h;obtain⟨g,i,rfl,rfl,rfl,rfl⟩:=N.shape;obtain⟨e,k,rfl,aa⟩:=M.shape;obtain⟨p,q,rfl,ab⟩:=L.shape;clear N M L;have V:J (YK m f=1+max (max 1<|bS.L6 m f.body) (bS.yw m f.result)):=rfl;have w1:jF m f.result<=1365000:=by omega
 have R:fA m f.body<=1365000:=by omega
 obtain⟨d1,d2⟩:=eY (bE (FI m f.result) w1)<|bE (BR m f.body) R;clear hw;generalize f.result.args.length=le at *;generalize f.body.length=n at *;generalize f.params.length=r at *;have x:=Y<|aH w<|aY #[A f.name,X p r q,X e n k,O f.result.kind,O f.result.n,A f.result.name,X g le i] 82;obtain⟨q2,q3,q4,q5⟩:=rY (Qk w (A f.name) (X p r q) (X e n k) (O f.result.kind) (O f.result.n) (A f.result.name) (X g le i) 82) (JQ w (A f.name) (X p r q) (X e n k) (O f.result.kind) (O f.result.n) (A f.result.name) (X g le i) 82) (YJ w (A f.name) (X p r q) (X e n k) (O f.result.kind) (O f.result.n) (A f.result.name) (X g le i) 82)<|Mj w (A f.name) (X p r q) (X e n k) (O f.result.kind) (O f.result.n) (A f.result.name) (X g le i) 82;have P:=UR w (A f.name) (X p r q) (X e n k) (O f.result.kind) (O f.result.n) (A f.result.name) (X g le i) 82;go_enter func51,ntmps51;go_wp2_with fail;generalize (w.alloc<|aY #[A f.name,X p r q,X e n k,O f.result.kind,O f.result.n,A f.result.name,X g le i] 82)=s at *;obtain⟨Z,W⟩:=bV ((C.below x).2.2.1)<|(C.below x).2.2.2
 have y:J (∀d,J (bK s d)->J (bK s d)/\bJ d w.heap.size 2=some (X e n k)/\bJ d w.heap.size 3=some (O f.result.kind)/\
  bJ d w.heap.size (3+1)=some (O f.result.n)/\bJ d w.heap.size (3+2)=some (A f.result.name)/\bJ d w.heap.size (3+3)=some (X g le i)):=
  λd h=>⟨h,aG q2 h,aG q3 h,aG q4 h,aG q5 h,aG P h⟩
 have u:J (bK s s):=Y<|bQ _ _;generalize I:bS.L6 m f.body=G at *;have S:=Y I;clear I;generalize K:bS.yw m f.result=H at *;have U:=Y K;clear K q2 q3 q4 q5 P;have WA:J (IntKind.i64.wrap (1+(G:Int))=1+(G:Int)):=Y<|wrap_small bC bC;have WB:J (IntKind.i64.wrap (1+(H:Int))=1+(H:Int)):=Y<|wrap_small bC bC;have W2:J (IntKind.i64.wrap 2=2):=Y<|wrap_small bC bC
 go_region_held3 (λd=>J (bK s d)/\bJ d w.heap.size 2=some (X e n k)/\bJ d w.heap.size 3=some (O f.result.kind)/\
  bJ d w.heap.size (3+1)=some (O f.result.n)/\bJ d w.heap.size (3+2)=some (A f.result.name)/\bJ d w.heap.size (3+3)=some (X g le i))
  (first|exact y _ E|exact y _ z|exact y _<|Y u.out.drew)
  (first
   | (go_at_call 71;refine(ajY m _ _ f.body ?_ R).mono ?_;(exact Z.below u.drew);rintro B ad ⟨rfl,D⟩;have z:=Y<|up u.drew D;clear D;rw[S])
   | (go_at_call 72;refine(Bh m _ _ _ _ _ f.result ?_ w1).mono ?_;(exact W.below z);rintro B af ⟨rfl,F⟩;have E:=Y<|up z F;clear F;rw[U]))
 all_goals go_wp2
 all_goals go_ret;exact⟨bZ (by rw[V];(try simp only[WA.out,WB.out,W2.out]);omega),up x E⟩
theorem akp(m:Nat)(f:Fu):YK m f<=2+fA m f.body+jF m f.result:=by have d:=BR m f.body;have e:=FI m f.result;unfold YK;omega
theorem agT(m:Nat)(w:bI)(v:aC)(x:Mo)(h:jl w m v x)(hw:xH m x<=1365000):aD 32 #[v] w λg w'=>g=dz (O<|moD m x)/\bK w w':=by
 have HE:J (moD m x=1+max 1 (jh (YK m) x.bq)):=rfl;obtain⟨vi,vv,vf,rfl,aq,S,hV,hF⟩:=h;have aa:x.name.size+2+nJ x.imports+VE x.vars+BK m x.bq<=1365000:=hw;obtain⟨p,ci,rfl,ao⟩:=S.shape;obtain⟨q,bv,ov,r,rfl,_,ap,_⟩:=hV;obtain⟨a,b,off,cap,rfl,U,hl,Z⟩:=hF;clear S;generalize ak:x.bq=l at *;have I:J (∀(i:Nat) (y:Fu),l[i]?=some y->fA m y.body+jF m y.result+2<=1365000):=Y (λi y e=>by have:y.name.size+2+nJ y.params+fA m y.body+jF m y.result<=(l.map λs:Fu=>s.name.size+2+nJ s.params+fA m s.body+jF m s.result).sum:=wW (f:=λs:Fu=>s.name.size+2+nJ s.params+fA m s.body+jF m s.result)<|dG e;unfold BK at aa;omega);have HM:J (jh (YK m) l<=1365000):=Y (IY (λy e=>by obtain⟨i,hi,rfl⟩:=gU.1 e;have h1:=I i _<|aZ hi;have h2:=akp m l[i];omega));obtain⟨j5,F⟩:=bV Z U;clear Z U hw aa;obtain⟨len,u⟩:=aV l.length;have H:=Y u;rw[<-u]at hl F ⊢;clear u;generalize x.imports.length=D at *;generalize x.vars.length=E at *;have G:=Y<|aH w<|aY #[A x.name,X p D ci,X q E r,X a len cap] 47;have q3:=zS w (A x.name) (X p D ci) (X q E r) (X a len cap) 47;go_enter func32,ntmps32;go_wp2_with fail;generalize (w.alloc<|aY #[A x.name,X p D ci,X q E r,X a len cap] 47)=W0 at *;go_loopw[3,9] (λo i wr=>∃j:Nat,j<=len/\i=O j/\(∃c:Nat,c=max 1 (jh (YK m)<|l.take j)/\o=O c)/\bK W0 wr) (λ_ i _=>len - (intOf i).toNat);exact⟨0,bN _,rfl,⟨1,rfl,rfl⟩,bQ _ _⟩
 obtain⟨j,hj,rfl,⟨acc,V,rfl⟩,k⟩:=hrel;have ah:acc<=1365000:=by have:=bE (wY (f:=YK m) l j) HM;omega
 have n:=Y V;clear V;by_cases ad:j<len
 ·obtain⟨y,e⟩:∃y,l[j]?=some y:=⟨_,aZ (by rw[<-H];exact ad)⟩;obtain⟨k1,vp,vb,e0,e1,e2,e3,K,L,M,N,P,Q,R,z,B,C⟩:=j5 j y e;have ac:=Y<|FH (f:=YK m) e;have af:fA m y.body+jF m y.result<=1365000:=by have:=I j y e;omega
  obtain rfl:=F bC;have d:=up G k;obtain⟨u0,u1⟩:=eY (aG K d)<|aG L d;have ar:=aG M d;have YH:=aG N d;obtain⟨u4,u5,u6⟩:=lS (aG P d) (aG Q d)<|aG R d;have ab:J (VZ wr m vp vb e0 e1 e2 e3 y):=Y ⟨k1,z.below d,B.below d,C.below d⟩;obtain⟨ae,ce,rfl,rfl,rfl,rfl⟩:=C.shape;obtain⟨a1,kP,rfl,al⟩:=B.shape;obtain⟨a2,ag,rfl,am⟩:=z.shape;have fT:=Y k;clear K L M N P Q R C B z e k d;go_wp2_with fail;refine(ajN m _ _ _ _ _ _ _ y (ab.below<|aH _ _) af).mono ?_;rintro g w5 ⟨rfl,W⟩;have CW:=Y<|up fT<|Z7 W;clear W;generalize YK m y=dy at *;go_wp2;go_roundw;exact⟨j+1,by omega,by go_num,⟨max acc dy,by rw[ac,n];omega,JZ rfl⟩,CW⟩;exact gV
 ·have g:l.take j=l:=fQ (by have:=H.out;omega);rw[g]at n;clear g;go_wp2;go_ret;exact⟨bZ (by rw[HE,<-n];go_num),up G k⟩
theorem ayT(w:bI)(n:Nat)(F:n<=16777300):aD 126 #[aU,O n] w λd w'=>∃v,d=dz v/\Own w' w.heap.size v []/\bK w w':=by
 obtain⟨C,u,z,H,r⟩:=info_parts rF;by_cases x:n=0;·subst x;go_enter func126,ntmps126;go_wp2;go_ret;exact⟨_,rfl,lJ _ _ _ _,bQ _ _⟩
 ·have q:∀g,(Builtin.append_ #[22,3] g #[aU,O n]).run prog w=.ok (Tc w.heap.size n<|grownCap w n 0 9) (w.drew.alloc<|.cells (Builtin.zeroCells (A ⟨#[]⟩).cells n++Builtin.zeroCells (A ⟨#[]⟩).cells (grownCap w n 0 9 - n)) 9):=λg=>by have h:=Lib.run_append_grow_zeros w 22 3 g 9 C (A ⟨#[]⟩) .i64 .i64 underlying22 underlying3 u z none 0 0 [] (run_firstCells_none w.drew _ 0 0 0) n bC bC bC bC (by rw[r];omega) (by rw[d9];exact growslice_fits bC (by rw[r];omega));simpa using h
  have y:n<=grownCap w n 0 9:=grownCap_ge w _ _ _;have e:grownCap w n 0 9<=maxLen:=grownCap_le_maxLen w n 0 9 (by unfold maxLen;omega);obtain⟨G,i⟩:=aV<|grownCap w n 0 9;rw[<-i]at q y e;have E:G<=9223372036854775807:=by unfold maxLen at e;omega
  have p:(w.drew.alloc<|.cells (Builtin.zeroCells (A ⟨#[]⟩).cells n++Builtin.zeroCells (A ⟨#[]⟩).cells (G - n)) 9).ownsRow w.heap.size 9 1 (Tc w.heap.size 0 G) 0 []:=
   ⟨by simp,.inr ⟨w.heap.size,G,_,rfl,bG _,heap_alloc_new w.drew _,bN _,e,by
    have d:∀k,(Builtin.zeroCells (A ⟨#[]⟩).cells k).size=k:=λk=>by simp[Builtin.zeroCells,Value.cells]
    rw[Array.size_append,d,d];omega,by simp⟩⟩
  have s:=Y p;have B:J (bK w<|w.drew.alloc<|.cells (Builtin.zeroCells (A ⟨#[]⟩).cells n++Builtin.zeroCells (A ⟨#[]⟩).cells (G - n)) 9):=Y<|((bQ _ _).drew).alloc cK _;clear p i;generalize (w.drew.alloc<|.cells (Builtin.zeroCells (A ⟨#[]⟩).cells n++Builtin.zeroCells (A ⟨#[]⟩).cells (G - n)) 9)=D at *;go_enter func126,ntmps126;go_wp2_with (at_builtin;refine Lib.wpList_append_run _ rfl _ _ _ _ rfl _ _ rfl rfl _ _ (q _) ?_);go_ret;exact⟨_,rfl,s,B⟩
theorem avT{F:Array Oper}{rest:List Oper}{o:Oper}{a:Act}{n:Exit->Act->bI->Prop}(r:o.guard=none)(s x:Operand)(z:o.op=.call { callee:=.builtin .append,args:=#[s,x],argTypes:=#[22,22] })(d:Nat)(v:aC)(l k:aJ)(D:a.eval s=v)(B:Own w d v l)(G:aC)(E:a.eval x=G)(S:Strs w G k)(af:l.length+k.length<=16777300)(P:d<=w.heap.size)(h:∀v' w',Own w' d v' (l++k)->w.grownBy w' v.ownBlock->wpList prog F n rest (a.put o.dst v') w'):wpList prog F n (o::rest) a w:=by
 obtain⟨iS,e,aa,ab,ac⟩:=info_parts rF;obtain⟨I,b,off,c,rfl,q,_,_,Q⟩:=S;have C:w.ownsRow d 9 1 v l.length (l.map Value.string):=B;cases I with
 | none=>
  have U:k=[]:=by
   cases k with
   | nil=>rfl
   | cons y k=>exact aM (q cK) cK
  subst U;refine wpList_plain r λK N=>?_;have W:(Builtin.append_ #[22,22] o.type #[v,X none 0 c]).run prog w=.ok v w:=by
   rcases C.2 with⟨rfl,h0⟩|⟨g,cap,ae,rfl,_,_,V,_⟩;·simp[Builtin.append_,run_underlying underlying22,sizeOf,typeInfo,e,Builtin.lenOf,Builtin.firstCells]
   ·simp[Builtin.append_,run_underlying underlying22,sizeOf,typeInfo,e,Builtin.lenOf,Builtin.firstCells,V,storeCells]
  have Z:a.eval x=X none 0 c:=E;unfold Oper.wp;simp[execOp,z,resolve,invoke,builtin,D,Z,W,Result.andThen];exact N _ _ (h v w (by rw[gL];exact B) (World.grownBy.refl _ _))
 | some H=>
  refine wpList_append_own _ r s x 22 z d 9 iS (A ⟨#[]⟩) 1 16 underlying22 e aa ab ac rfl bM v l.length (l.map Value.string) D C H k.length c (k.map Value.string) E cK (λj u i=>?_) (λu i=>?_) (by unfold maxLen;omega) bC P ?_
  ·obtain⟨R,rfl⟩:=cO.1 i;have hj':j<k.length:=by simpa using R
   have p:=q bC;simp only[Kj]at p;subst p;rw[Addr.add_lit,Q j hj'];simp[hj']
  ·obtain⟨y,_,rfl⟩:=iZ.1 i;rfl
  ·intro v' w' L M _;refine h v' w' ?_ M;unfold Own;rw[bg,gX];exact L
def awo(w:bI)(v:Value)(ls:List (List aS)):Prop:=
 ∃b off cap,v=.slice (some ⟨b,off,none⟩) ls.length cap/\ls.length<=16/\∀i l,ls[i]?=some l->∃d,w.cell? ⟨b,off+i,none⟩=some d/\Strs w d l
theorem axj{ls:List (aJ)}(h:ls[j]?=some l):(ls.take<|j+1).flatten=(ls.take j).flatten++l:=by obtain⟨d,rfl⟩:=cO.1 h;rw[uW d,Da];simp
theorem awW(ls:List (aJ))(j:Nat):(ls.take j).flatten.length<=ls.flatten.length:=by
 conv=>rhs;rw[<-pK j ls]
 rw[Da,bg];omega
theorem ax5(w:bI)(v:aC)(ls:List (aJ))(h:awo w v ls)(C:ls.flatten.length<=16777300):aD 86 #[v] w λd w'=>∃v',d=dz v'/\Own w' w.heap.size v' ls.flatten/\bK w w':=by
 obtain⟨b,off,cap,rfl,V,H⟩:=h;have P:=Y H;clear H;obtain⟨len,B⟩:=aV ls.length;have r:=Y B;rw[<-B]at V ⊢;clear B;go_enter func86,ntmps86;go_wp2;go_loop [3,11] (λo i=>∃k:Nat,k<=len/\i=O k/\o=O (ls.take k).flatten.length) (λ_ i=>len - (intOf i).toNat);exact⟨0,bN _,rfl,rfl⟩
 obtain⟨k,K,rfl,rfl⟩:=hrel;have z:=bE (awW ls k) C;by_cases s:k<len
 ·obtain⟨l,e⟩:∃l,ls[k]?=some l:=⟨_,aZ (by rw[<-r];exact s)⟩;obtain⟨vi,x,n⟩:=P k l e;obtain⟨a,W,rfl,aa⟩:=n.shape;have p:J ((ls.take<|k+1).flatten.length=(ls.take k).flatten.length+l.length):=Y (by rw[axj e,bg]);have D:=bE (awW ls<|k+1) C;rw[p]at D;generalize (ls.take k).flatten.length=n0 at *;generalize l.length=n1 at *;clear e n;go_wp2;go_round;exact⟨k+1,by omega,by go_num,by rw[p];go_num⟩;exact gV
 ·have d:ls.take k=ls:=fQ (by have:=r.out;omega);rw[d]at z ⊢;clear d;obtain⟨N,y⟩:=aV ls.flatten.length;rw[<-y]at z ⊢;clear y;go_wp2_with fail;refine(ayT w N z).mono ?_;rintro d w1 ⟨v1,rfl,L,F⟩;obtain⟨R,Q⟩:=bV L F;clear L F K s;go_wp2;go_loopw[6,27] (λo i wr=>∃k:Nat,k<=len/\i=O k/\Own wr w.heap.size o (ls.take k).flatten/\bK w wr) (λ_ i _=>len - (intOf i).toNat);exact⟨0,bN _,rfl,R,Q⟩
  obtain⟨k,K,rfl,q,g⟩:=hrel;by_cases s:k<len
  ·obtain⟨l,e⟩:∃l,ls[k]?=some l:=⟨_,aZ (by rw[<-r];exact s)⟩;obtain⟨vi,x,n⟩:=P k l e;have S:=Y<|n.below g;have u0:=aG x g;obtain⟨a,W,rfl,aa⟩:=n.shape;have p:=Y<|axj e;have D:=bE (awW ls<|k+1) C;rw[p,bg]at D;obtain⟨E,Z⟩:=bV q g;have G:=g.size;clear e n x q g
   go_wp2_with (first
    | (at_builtin;refine avT rfl _ _ rfl w.heap.size _ _ l rfl E _ rfl S bC G ?_;intro v' w2 M I)
    | fail)
   obtain⟨U,u⟩:=bV (Z.grown I G (λj hj=>(E.lt j hj).1)) M;clear I M;go_roundw;exact⟨k+1,by omega,by go_num,by rw[p];exact u,U⟩;exact gV
  ·have d:ls.take k=ls:=fQ (by have:=r.out;omega);rw[d]at q;have u:=Y q;clear q;go_wp2;go_ret;exact⟨_,rfl,u,g⟩
namespace bS
def jn(l:List aS):aS:=⟨(Lib.join (l.map (·.data.toList)) [32]).toArray⟩
def brk(l:List aS):aS:=(⟨#[40]⟩:aS)++jn l++(⟨#[41]⟩:aS)
end bS
theorem awS(l:aJ):(bS.jn l).size=(Lib.join (l.map (·.data.toList)) [32]).length:=by unfold bS.jn;rw[<-iG]
theorem awp(l:aJ):(bS.brk l).size=(bS.jn l).size+2:=by unfold bS.brk;rw[ZP,ZP];show 1+_+1=_;omega
theorem az2(l:aJ):l.length<=(bS.jn l).size+1:=by
 rw[awS];cases l with
 | nil=>simp
 | cons y l =>rw[fZ,Lib.join_length];simp only[vN,dV,Ef];omega
theorem avR(w:bI)(v:aC)(ls:List (aJ))(h:awo w v ls)(F:(bS.brk ls.flatten).size<=16777216):aD 64 #[v] w λd w'=>d=dz (A<|bS.brk ls.flatten)/\bK w w':=by
 have B:=Y h;obtain⟨b,off,cap,rfl,_,_⟩:=h;generalize ls.length=len at *;obtain⟨D,r⟩:=eY (az2 ls.flatten)<|awS ls.flatten;rw[awp]at F;have x:J (bS.brk ls.flatten=(⟨#[40]⟩:aS)++bS.jn ls.flatten++(⟨#[41]⟩:aS)):=rfl;go_enter func64,ntmps64;go_wp2_with fail;refine(ax5 w _ ls B bC).mono ?_;rintro d w1 ⟨K,rfl,i,p⟩;have s:=Y p;clear p;have n:∀W,W=w1->aD 85 #[K,A ⟨#[32]⟩] W λd w'=>d=dz (A<|bS.jn ls.flatten)/\bK W w':=by
  rintro W rfl;rcases i.shape with⟨rfl,G⟩|⟨g,I,rfl,C,hg⟩;·rw[G];exact(Tryz.strings_Join_none none 0 ⟨#[32]⟩ W).mono λd w' ⟨e,k⟩=>⟨e,k ▸ bQ _ _⟩
  ·refine(Tryz.strings_Join g 0 I ls.flatten ⟨#[32]⟩ W (λj y H=>?_) hg bC C ?_).mono λd w' ⟨e,k⟩=>⟨e,k⟩;·obtain⟨E,rfl⟩:=cO.1 H;have:=yC i j bC;rw[d9,this,pq,aZ E];rfl
   ·have:(Lib.join (ls.flatten.map (·.data.toList)) (⟨#[32]⟩:aS).data.toList).length=(bS.jn ls.flatten).size:=r.symm;omega
 have z:=Y n;clear n i D r;generalize bS.jn ls.flatten=t at *;go_wp2_with fail;refine(z _ rfl).mono ?_;rintro d L ⟨rfl,q⟩;have u:=Y<|up s q;clear q;go_wp2;go_ret;exact⟨awg x.symm,u⟩
