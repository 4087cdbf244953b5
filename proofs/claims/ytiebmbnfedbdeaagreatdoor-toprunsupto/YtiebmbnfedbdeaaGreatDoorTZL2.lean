import Derived.Test.YtiebmbnfedbdeaaGreatDoorTZI2
import Derived.Deep.RegionHeld3
import Derived.Lib.AppendZerosOnto
import Derived.Lib.Join
set_option maxHeartbeats 0
set_option maxRecDepth 99999
namespace Go.Proofs.YtiebmbnfedbdeaaGreatDoor
open bS
open Go.Proofs.Tryz
open Go.RowKit
namespace bS
def BQ(x:Ex):Bool:=
 if x.kind=1 then decide (0<=x.n)&&decide (x.n<=999999)&&x.name.toList.isEmpty&&(x.args.length==0)
 else if x.kind=2 then dZ x.name.data.toList&&(x.n==0)&&(x.args.length==0)
 else if x.kind=3 then opB x.name&&(x.n==0)&&(x.args.length==2)
 else if x.kind=4 then yB x.name&&(x.n==0)&&decide (x.args.length<=4)
 else false
end bS
variable{w w':bI}{m a b c:Nat}{e0 e1 e2 e3 vb v:aC}
theorem GY(m:Nat)(x:Ex):jo (m+1) x=(BQ x&&x.args.all (jo m)):=by
 obtain⟨k,n,s,args⟩:=x;simp only[jo,BQ];by_cases d:k=1
 ·rw[aK d,aK d];cases args with
  | nil=>simp
  | cons a l=>simp
 rw[aI d,aI d];by_cases e:k=2
 ·rw[aK e,aK e];cases args with
  | nil=>simp[Bool.and_comm]
  | cons a l=>simp
 rw[aI e,aI e];by_cases g:k=3;·rw[aK g,aK g];simp only[Nq];rw[<-Nq,<-Nq (opB s),Bool.and_comm<|n==0]
 rw[aI g,aI g];by_cases h:k=4;·rw[aK h,aK h];simp only[Nq];rw[<-Nq,<-Nq (yB s),Bool.and_comm<|n==0]
 rw[aI h,aI h];rfl
theorem ajE(w:bI)(k n:Int)(s:aS)(a:Option Addr)(args:List Ex)(cap:Nat)(r:s.size<=maxLen)(B:args.length<=9223372036854775807):aD 173 #[.agg #[O k,O n,A s,X a args.length cap]] w λl w'=>l=dz (.bool<|BQ ⟨k,n,s,args⟩)/\bK w w':=by
 have d:J (BQ ⟨k,n,s,args⟩=if k=1 then decide (0<=n)&&decide (n<=999999)&&s.toList.isEmpty&&(args.length==0)
  else if k=2 then dZ s.data.toList&&(n==0)&&(args.length==0)
  else if k=3 then opB s&&(n==0)&&(args.length==2)
  else if k=4 then yB s&&(n==0)&&decide (args.length<=4)
  else false):=rfl
 generalize BQ ⟨k,n,s,args⟩=R at *;generalize args.length=len at *;clear args;by_cases h:k=1
 ·subst h;rw[aK rfl]at d;by_cases y:0<=n
  ·rw[gW y,nX]at d;by_cases z:n<=999999
   ·rw[gW z,nX]at d;cases x:s.toList.isEmpty;·rw[x]at d;go_enter func173,ntmps173;go_wp2;go_ret;exact⟨aW (by rw[d];rfl),aH _ _⟩
    ·rw[x,nX]at d;go_enter func173,ntmps173;go_wp2;go_ret;exact⟨aW (by rw[d];exact CZ len 0),aH _ _⟩
   ·rw[iD z]at d;go_enter func173,ntmps173;go_wp2;go_ret;exact⟨aW (by rw[d];rfl),aH _ _⟩
  ·rw[iD y]at d;go_enter func173,ntmps173;go_wp2;go_ret;exact⟨aW (by rw[d];rfl),aH _ _⟩
 rw[aI h]at d;by_cases i:k=2
 ·subst i;rw[aK rfl]at d;clear h;go_enter func173,ntmps173;go_wp2_with fail;refine(kE _ s r).mono ?_;rintro l w' ⟨rfl,u⟩;subst u;cases e:dZ s.data.toList;·rw[e]at d;go_wp2;go_ret;exact⟨aW (by rw[d];rfl),aH _ _⟩
  ·rw[e,nX]at d;cases g:(n==0);·rw[g]at d;go_wp2;go_ret;exact⟨aW (by rw[d];rfl),aH _ _⟩
   ·rw[g,nX]at d;go_wp2;go_ret;exact⟨aW (by rw[d];exact CZ len 0),aH _ _⟩
 rw[aI i]at d;by_cases j:k=3
 ·subst j;rw[aK rfl]at d;clear h i;go_enter func173,ntmps173;go_wp2_with fail;refine(ajv _ s r).mono ?_;rintro l w' ⟨rfl,u⟩;subst u;cases e:opB s;·rw[e]at d;go_wp2;go_ret;exact⟨aW (by rw[d];rfl),aH _ _⟩
  ·rw[e,nX]at d;cases g:(n==0);·rw[g]at d;go_wp2;go_ret;exact⟨aW (by rw[d];rfl),aH _ _⟩
   ·rw[g,nX]at d;go_wp2;go_ret;exact⟨aW (by rw[d];exact CZ len 2),aH _ _⟩
 rw[aI j]at d;by_cases o:k=4
 ·subst o;rw[aK rfl]at d;clear h i j;have q1:(w.alloc<|aY #[O 4,O n,A s,X a len cap] 100).cell? (aN w.heap.size 1)=some (O n):=by simp[go_sem]
  have q3:=zS w (O 4) (O n) (A s) (X a len cap) 100;go_enter func173,ntmps173;go_wp2_with fail;refine(adz _ s r).mono ?_;rintro l w1 ⟨rfl,p⟩;have q:=Y<|Z7 p;obtain⟨G,H⟩:=eY (aG q1 p)<|aG q3 p;clear q1 q3 p;cases e:yB s;·rw[e]at d;go_wp2;go_ret;exact⟨aW (by rw[d];rfl),q⟩
  ·rw[e,nX]at d;cases g:(n==0);·rw[g]at d;go_wp2;go_ret;exact⟨aW (by rw[d];rfl),q⟩
   ·rw[g,nX]at d;go_wp2;go_ret;exact⟨aW (by rw[d];exact decide_eq_decide.2 bC),q⟩
 rw[aI o]at d;have C:(k==1)=false:=by simp[h]
 have D:(k==2)=false:=by simp[i]
 have E:(k==3)=false:=by simp[j]
 have F:(k==4)=false:=by simp[o]
 clear h i j o;go_enter func173,ntmps173;go_wp2;go_ret;exact⟨aW (by rw[d]),aH _ _⟩
theorem JV(m:Nat):∀(w:bI) (c0 c1 c2 c3:aC) (x:Ex),iH w m c0 c1 c2 c3 x->aD 115 #[.agg #[c0,c1,c2,c3]] w λh w'=>h=dz (.bool<|jo m x)/\bK w w':=by
 induction m with
 | zero=>intro w c0 c1 c2 c3 x u;exact iU u
 | succ m ih=>
  intro w c0 c1 c2 c3 x u;have HI:=Y ih;clear ih;obtain⟨rfl,rfl,rfl,Z,ad,ae,a,b,off,cap,rfl,z,D,C⟩:=u;obtain⟨k,n,s,args⟩:=x;simp only at Z ad ae z D C ⊢;obtain⟨q,j5,K⟩:=fE (GY m ⟨k,n,s,args⟩) C z;have xV:=Y (λw=>ajE w k n s a args cap Z D);clear C z;generalize BQ ⟨k,n,s,args⟩=pb at *;obtain⟨len,E⟩:=aV args.length;have L:=Y E;rw[<-E]at D K xV ⊢;clear E;have q3:=zS w (O k) (O n) (A s) (X a len cap) 100;go_enter func115,ntmps115;go_wp2_with fail;refine(xV _).mono ?_;rintro h W0 ⟨rfl,B⟩;replace q3:=aG q3 B;have l:=Y<|Z7 B;clear B;cases pb;·go_wp2;go_ret;exact⟨aW (by rw[q];rfl),l⟩
  ·go_wp2;go_loopw[11] (λi wr=>∃j:Nat,j<=len/\i=O j/\(∀d y,d<j->args[d]?=some y->jo m y=true)/\bK W0 wr) (λi _=>len - (intOf i).toNat);exact⟨0,bN _,rfl,λd y W=>aM W<|fU _,bQ _ _⟩
   obtain⟨j,hj,rfl,o,p⟩:=hrel;have P:=Y o;clear o;by_cases ac:j<len
   ·obtain⟨y,F⟩:∃y,args[j]?=some y:=⟨_,aZ (by rw[<-L];exact ac)⟩;obtain⟨e0,e1,e2,e3,Q,R,S,U,G⟩:=j5 j y F;have N:=Y F;obtain rfl:=K bC;have e:=up l p;obtain⟨u0,u1⟩:=eY (aG Q e)<|aG R e;have ag:=aG S e;have YH:=aG U e;have ab:=Y<|G.below e;obtain⟨a',af,rfl,rfl,rfl,rfl⟩:=G.shape;have fT:=Y p;clear Q R S U G F e p;go_wp2_with fail;refine(HI _ _ _ _ _ y<|ab.below<|aH _ _).mono ?_;rintro h w5 ⟨rfl,V⟩;have I:=Y<|up fT<|Z7 V;clear V;cases aa:jo m y;·have r:=Y aa;go_wp2;go_ret;exact⟨aW (by rw[q,acE N r];rfl),up l I⟩
    ·have r:=Y aa;go_wp2;go_roundw;exact⟨j+1,by omega,by go_num,λd H W g=>by
      by_cases h:d=j;·subst h;rw[N]at g;cases g;exact r
      ·exact P d H bC g,I⟩
     exact gV
   ·go_wp2;go_ret;have o:args.all (jo m)=true:=acD (λd H g=>P d H (by have:=(cO.1 g).1;have:=L.out;omega) g);exact⟨aW (by rw[q,o];rfl),up l p⟩
theorem aju(w:bI)(k:Int)(nm:aS)(E G:Int)(H:aS)(x:Option Addr)(le B:Nat)(s u:Option Addr)(e j c1 c2:Nat)(R:Bool)(p:R=if k=1\/k=4 then dZ nm.data.toList&&(j==0)&&(e==0)else if k=2 then nm.toList.isEmpty else if k=3 then nm.toList.isEmpty&&(j==0)else false)(C:nm.size<=maxLen)(_h1:e<=9223372036854775807)(_h2:j<=9223372036854775807):aD 220 #[.agg #[O k,A nm,O E,O G,A H,X x le B,X s e c1,X u j c2]] w λo w'=>o=dz (.bool R)/\bK w w':=by
 have d:=Y p;clear p;by_cases i:k=1\/k=4
 ·rw[aK i]at d;rcases i with rfl|rfl;all_goals
   go_enter func220,ntmps220;go_wp2_with fail;refine(kE _ nm C).mono ?_;rintro o w' ⟨rfl,D⟩;subst D;cases g:dZ nm.data.toList;·rw[g]at d;go_wp2;go_ret;exact⟨aW (by rw[d];rfl),aH _ _⟩
   ·rw[g,nX]at d;by_cases h:e=0
    ·have y:((e:Int)==0)=true:=by simp[h]
     rw[show(e==0)=true from by simp[h],Bool.and_true]at d;clear h;go_wp2;go_ret;exact⟨aW (by rw[d];exact CZ j 0),aH _ _⟩
    ·have y:((e:Int)==0)=false:=by simp[h]
     rw[show(e==0)=false from by simp[h],Sg]at d;clear h;go_wp2;go_ret;exact⟨aW (by rw[d]),aH _ _⟩
 rw[aI i]at d;have q:(k==1)=false:=by simp;omega
 have r:(k==4)=false:=by simp;omega
 by_cases l:k=2;·subst l;rw[aK rfl]at d;clear i q r;generalize g:nm.toList.isEmpty=z at *;cases z;all_goals go_enter func220,ntmps220;go_wp2;go_ret;exact⟨aW (by rw[d]),aH _ _⟩
 rw[aI l]at d;have F:(k==2)=false:=by simp;omega
 by_cases n:k=3
 ·subst n;rw[aK rfl]at d;clear i l q F r;cases g:nm.toList.isEmpty;·rw[g]at d;go_enter func220,ntmps220;go_wp2;go_ret;exact⟨aW (by rw[d];rfl),aH _ _⟩
  ·rw[g,nX]at d;go_enter func220,ntmps220;go_wp2;go_ret;exact⟨aW (by rw[d];exact CZ j 0),aH _ _⟩
 rw[aI n]at d;have K:(k==3)=false:=by simp;omega
 clear i l n;go_enter func220,ntmps220;go_wp2;go_ret;exact⟨aW (by rw[d]),aH _ _⟩
def VW(w:bI)(m:Nat)(e0 e1 e2 e3 d vb:Value)(s:St):Prop:=
 mq s.kind/\s.name.size<=maxLen/\iH w m e0 e1 e2 e3 s.e/\fH w m d s.a/\fH w m vb s.b
theorem VW.below{g:aC}{s:St}(d:VW w m e0 e1 e2 e3 g vb s)(e:bK w w'):VW w' m e0 e1 e2 e3 g vb s:=
 ⟨d.1,d.2.1,d.2.2.1.below e,d.2.2.2.1.below e,d.2.2.2.2.below e⟩
section
variable (w : World) (c0 c1 c2 c3 c4 c5 c6 c7 : Value) (t : TypeId)
theorem aki:(w.alloc<|.cells #[c0,c1,c2,c3,c4,c5,c6,c7] t).cell? (aN w.heap.size 0)=some c0:=by simp[go_sem]
theorem akj:(w.alloc<|.cells #[c0,c1,c2,c3,c4,c5,c6,c7] t).cell? (aN w.heap.size 2)=some c2:=by simp[go_sem]
theorem akk:(w.alloc<|.cells #[c0,c1,c2,c3,c4,c5,c6,c7] t).cell? (aN w.heap.size 3)=some c3:=by simp[go_sem]
theorem akl:(w.alloc<|.cells #[c0,c1,c2,c3,c4,c5,c6,c7] t).cell? (aN w.heap.size 4)=some c4:=by simp[go_sem]
theorem akm:(w.alloc<|.cells #[c0,c1,c2,c3,c4,c5,c6,c7] t).cell? (aN w.heap.size 5)=some c5:=by simp[go_sem]
end
theorem ajo(m:Nat)(H:∀(w:bI) (v:aC) (l:List St),fH w m v l->aD 114 #[v] w λk w'=>k=dz (.bool<|j6 m l)/\bK w w')(w:bI)(e0 e1 e2 e3 N vb:aC)(s:St)(F:VW w m e0 e1 e2 e3 N vb s):aD 172 #[.agg #[O s.kind,A s.name,e0,e1,e2,e3,N,vb]] w λk w'=>k=dz (.bool<|Vz m s)/\bK w w':=by
 have E:=Y H;clear H;have C:=Y F;obtain⟨_,V,L,I,K⟩:=F;obtain⟨h,j,rfl,rfl,rfl,rfl⟩:=L.shape;obtain⟨e,n,rfl,S⟩:=I.shape;obtain⟨g,i,rfl,U⟩:=K.shape;clear L I K;have u:J (Vz m s=(stH s&&jo m s.e&&j6 m s.a&&j6 m s.b)):=rfl;have P:=Y (λw=>aju w s.kind s.name s.e.kind s.e.n s.e.name h s.e.args.length j e g s.a.length s.b.length n i (stH s) rfl V S U);generalize s.e.args.length=le at *;generalize s.a.length=p at *;generalize s.b.length=q at *;obtain⟨q2,q3,q4,q5⟩:=rY (akj w (O s.kind) (A s.name) (O s.e.kind) (O s.e.n) (A s.e.name) (X h le j) (X e p n) (X g q i) 198) (akk w (O s.kind) (A s.name) (O s.e.kind) (O s.e.n) (A s.e.name) (X h le j) (X e p n) (X g q i) 198) (akl w (O s.kind) (A s.name) (O s.e.kind) (O s.e.n) (A s.e.name) (X h le j) (X e p n) (X g q i) 198)<|akm w (O s.kind) (A s.name) (O s.e.kind) (O s.e.n) (A s.e.name) (X h le j) (X e p n) (X g q i) 198;obtain⟨r,o⟩:=eY (Jm w (O s.kind) (A s.name) (O s.e.kind) (O s.e.n) (A s.e.name) (X h le j) (X e p n) (X g q i) 198)<|Jo w (O s.kind) (A s.name) (O s.e.kind) (O s.e.n) (A s.e.name) (X h le j) (X e p n) (X g q i) 198;go_enter func172,ntmps172;go_wp2_with fail;refine(P _).mono ?_;rintro k w1 ⟨rfl,d⟩;replace q2:=aG q2 d;replace q3:=aG q3 d;replace q4:=aG q4 d;replace q5:=aG q5 d;replace r:=aG r d;replace o:=aG o d;have y:=Y<|Z7 d;clear d;generalize stH s=sh at *;cases sh;·go_wp2;go_ret;exact⟨aW (by rw[u];rfl),y⟩
 go_wp2_with fail;refine(JV m _ _ _ _ _ s.e (C.below y).2.2.1).mono ?_;rintro k w2 ⟨rfl,x⟩;replace r:=aG r x;replace o:=aG o x;have z:=Y<|up y x;clear x q2 q3 q4 q5;generalize jo m s.e=Z at *;cases Z;·go_wp2;go_ret;exact⟨aW (by rw[u];rfl),z⟩
 go_wp2_with fail;refine(E _ _ s.a (C.below z).2.2.2.1).mono ?_;rintro k w3 ⟨rfl,D⟩;replace o:=aG o D;have B:=Y<|up z D;clear D r;generalize j6 m s.a=Q at *;cases Q;·go_wp2;go_ret;exact⟨aW (by rw[u];rfl),B⟩
 go_wp2_with fail;refine(E _ _ s.b (C.below B).2.2.2.2).mono ?_;rintro k w4 ⟨rfl,G⟩;have W:=Y<|up B G;clear G o;generalize j6 m s.b=R at *;go_wp2;go_ret;exact⟨aW (by rw[u];cases R<;>rfl),W⟩
theorem aln(m:Nat):∀(w:bI) (v:aC) (l:List St),fH w m v l->aD 114 #[v] w λh w'=>h=dz (.bool<|j6 m l)/\bK w w':=by
 induction m with
 | zero=>intro w v l o;exact iU o
 | succ m Z=>
  intro w v l o;have HI:=Y<|ajo m Z;clear Z;obtain⟨a,b,off,cap,rfl,R,hl,V⟩:=o;obtain⟨C,j5,B⟩:=fE (wL m l) V R;clear V R;obtain⟨len,p⟩:=aV l.length;have D:=Y p;rw[<-p]at hl B ⊢;clear p;go_enter func114,ntmps114;go_wp2;go_loopw[7] (λi wr=>∃j:Nat,j<=len/\i=O j/\(∀d y,d<j->l[d]?=some y->Vz m y=true)/\bK w wr) (λi _=>len - (intOf i).toNat);exact⟨0,bN _,rfl,λd y U=>aM U<|fU _,bQ _ _⟩
  obtain⟨j,hj,rfl,k,e⟩:=hrel;have F:=Y k;clear k;by_cases ab:j<len
  ·obtain⟨y,u⟩:∃y,l[j]?=some y:=⟨_,aZ (by rw[<-D];exact ab)⟩;obtain⟨k1,k2,e0,e1,e2,e3,va,vb,G,H,I,K,L,N,P,Q,s,q,r⟩:=j5 j y u;have E:=Y u;obtain rfl:=B bC;obtain⟨u0,u1⟩:=eY (aG G e)<|aG H e;have ag:=aG I e;have YH:=aG K e;obtain⟨u4,u5,u6,u7⟩:=rY (aG L e) (aG N e) (aG P e)<|aG Q e;have aa:J (VW wr m e0 e1 e2 e3 va vb y):=Y ⟨k1,k2,s.below e,q.below e,r.below e⟩;obtain⟨ae,ce,rfl,rfl,rfl,rfl⟩:=s.shape;obtain⟨a1,kP,rfl,ad⟩:=q.shape;obtain⟨a2,ac,rfl,af⟩:=r.shape;have fT:=Y e;clear G H I K L N P Q s q r u e;go_wp2_with fail;refine(HI _ _ _ _ _ _ _ y<|aa.below<|aH _ _).mono ?_;rintro h w5 ⟨rfl,S⟩;have z:=Y<|up fT<|Z7 S;clear S;cases W:Vz m y;·have n:=Y W;go_wp2;go_ret;exact⟨aW (by rw[C,acG E n]),z⟩
   ·have n:=Y W;go_wp2;go_roundw;exact⟨j+1,by omega,by go_num,λd x U g=>by
     by_cases h:d=j;·subst h;rw[E]at g;cases g;exact n
     ·exact F d x bC g,z⟩
    exact gV
  ·go_wp2;go_ret;have k:l.all (Vz m)=true:=acF (λd x g=>F d x (by have:=(cO.1 g).1;have:=D.out;omega) g);exact⟨aW (by rw[C,k]),e⟩
namespace bS
def jh{α:Type}(f:α->Nat)(l:List α):Nat:=l.foldl (λa y=>max a (f y)) 0
def yw:Nat->Ex->Nat
 | 0,_=>0
 | m+1,x=>if x.kind=1\/x.kind=2 then 0 else 1+jh (yw m) x.args
def L6:Nat->List St->Nat
 | 0,_=>0
 | m+1,l=>jh (λs=>1+if s.kind=2\/s.kind=3 then max (max (yw m s.e) (1+L6 m s.a)) (1+L6 m s.b)else yw m s.e) l
def Sj(m:Nat)(s:St):Nat:=1+if s.kind=2\/s.kind=3 then max (max (yw m s.e) (1+L6 m s.a)) (1+L6 m s.b)else yw m s.e
theorem JW(m:Nat)(l:List St):L6 (m+1) l=jh (Sj m) l:=rfl
def YK(m:Nat)(f:Fu):Nat:=1+max (max 1 (L6 m f.body)) (yw m f.result)
def moD(m:Nat)(x:Mo):Nat:=1+max 1 (jh (YK m) x.bq)
end bS
section
variable {α : Type} {f : α → Nat}
theorem Nr(l:List α)(a:Nat):l.foldl (λa y=>max a<|f y) a=max a (jh f l):=by
 induction l generalizing a with
 | nil=>simp[jh]
 | cons y l d =>unfold jh;rw[pz,pz,d,d];omega
theorem dF(y:α)(l:List α):jh f (y::l)=max (f y) (jh f l):=by rw[jh,pz,Nr];omega
theorem qC(l k:List α):jh f (l++k)=max (jh f l) (jh f k):=by rw[jh,JX,Nr];rfl
theorem FH{l:List α}{j:Nat}{y:α}(d:l[j]?=some y):jh f (l.take<|j+1)=max (jh f<|l.take j) (f y):=by obtain⟨e,rfl⟩:=cO.1 d;rw[uW e,qC,dF];simp[jh]
theorem IY{B:Nat}{l:List α}(d:∀y∈l,f y<=B):jh f l<=B:=by
 induction l with
 | nil=>exact bN _
 | cons y l g =>rw[dF];obtain⟨i,j⟩:=eY (d y cK)<|g (λh e=>d h<|by simp[e]);omega
theorem JY{g:α->Nat}{l:List α}(d:∀y∈l,f y<=g y):jh f l<=(l.map g).sum:=by
 induction l with
 | nil=>exact bN _
 | cons y l h =>rw[dF,fZ,jI];obtain⟨j,k⟩:=eY (d y cK)<|h (λi e=>d i<|by simp[e]);omega
theorem wY(l:List α)(j:Nat):jh f (l.take j)<=jh f l:=by
 conv=>rhs;rw[<-pK j l]
 rw[qC];omega
end
theorem FI:∀(m:Nat) (x:Ex),yw m x<=jF m x
 | 0,_=>bG _
 | m+1,x=>by simp only[yw,jF];have:=JY (f:=yw m) (g:=jF m) (l:=x.args) (λy _=>FI m y);split<;>omega
theorem BR:∀(m:Nat) (l:List St),L6 m l<=fA m l
 | 0,_=>bG _
 | m+1,l=>by simp only[L6,fA];refine bE (JY (g:=λs=>s.name.size+3+jF m s.e+fA m s.a+fA m s.b) (λs _=>?_))<|dN _;obtain⟨d,e,h⟩:=lS (FI m s.e) (BR m s.a)<|BR m s.b;split<;>omega
theorem wrap_small{x:Int}(d:0<=x)(e:x<=9223372036854775807):IntKind.i64.wrap x=x:=by rw[IntKind.wrap_i64];omega
theorem JZ(h:c=max a b):O (max (a:Int) (b:Int))=O c:=by rw[h];congr 1;omega
theorem Bh(m:Nat):∀(w:bI) (c0 c1 c2 c3:aC) (x:Ex),iH w m c0 c1 c2 c3 x->jF m x<=1048576->aD 175 #[.agg #[c0,c1,c2,c3]] w λh w'=>h=dz (O<|yw m x)/\bK w w':=by
 induction m with
 | zero=>intro w c0 c1 c2 c3 x r;exact iU r
 | succ m U=>
  intro w c0 c1 c2 c3 x r E;have W:=Y U;clear U;obtain⟨rfl,rfl,rfl,ag,ae,af,a,b,off,cap,rfl,B,R,C⟩:=r;obtain⟨k,n,s,args⟩:=x;simp only at ag ae af B R C ⊢;obtain⟨j5,G⟩:=bV C B;have HW:J (∀(i:Nat) (y:Ex),args[i]?=some y->jF m y<=1048576):=Y (λi y e=>by have:jF m y<=(args.map<|jF m).sum:=wW<|dG e;simp only[jF]at E;omega);have Z:J (jh (yw m) args<=1048576):=Y (by have:=JY (f:=yw m) (g:=jF m) (l:=args) (λy _=>FI m y);simp only[jF]at E;omega);have p:J (yw (m+1) ⟨k,n,s,args⟩=if k=1\/k=2 then 0 else 1+jh (yw m) args):=rfl;clear C B E;obtain⟨len,D⟩:=aV args.length;have I:=Y D;rw[<-D]at R G ⊢;clear D;by_cases u:k=1;·subst u;go_enter func175,ntmps175;go_wp2;go_ret;exact⟨bZ (by rw[p];rfl),aH _ _⟩
  by_cases z:k=2;·subst z;go_enter func175,ntmps175;go_wp2;go_ret;exact⟨bZ (by rw[p];rfl),aH _ _⟩
  rw[aI bC]at p;have k1:(k==1)=false:=by simp[u]
  have k2:(k==2)=false:=by simp[z]
  clear u z;have H:=Y<|aH w<|aY #[O k,O n,A s,X a len cap] 100;have q3:=zS w (O k) (O n) (A s) (X a len cap) 100;go_enter func175,ntmps175;go_wp2_with fail;generalize (w.alloc<|aY #[O k,O n,A s,X a len cap] 100)=W0 at *;go_loopw[3,17] (λo i wr=>∃j:Nat,j<=len/\i=O j/\o=O (jh (yw m)<|args.take j)/\bK W0 wr) (λ_ i _=>len - (intOf i).toNat);exact⟨0,bN _,rfl,rfl,bQ _ _⟩
  obtain⟨j,hj,rfl,rfl,q⟩:=hrel;have ac:=bE (wY (f:=yw m) args j) Z;by_cases ad:j<len
  ·obtain⟨y,e⟩:∃y,args[j]?=some y:=⟨_,aZ (by rw[<-I];exact ad)⟩;obtain⟨e0,e1,e2,e3,K,L,N,P,F⟩:=j5 j y e;obtain rfl:=G bC;have d:=up H q;obtain⟨u0,u1⟩:=eY (aG K d)<|aG L d;have ai:=aG N d;have YH:=aG P d;have ab:=Y<|F.below d;obtain⟨a',ah,rfl,rfl,rfl,rfl⟩:=F.shape;obtain⟨aa,fT⟩:=bV (FH (f:=yw m) e) q;have S:=HW j y e;clear K L N P F e d q;go_wp2_with fail;refine(W _ _ _ _ _ y (ab.below<|aH _ _) S).mono ?_;rintro h w5 ⟨rfl,Q⟩;have V:=Y<|up fT<|Z7 Q;clear Q S;generalize yw m y=dy at *;generalize jh (yw m) (args.take j)=acc at *;go_wp2;go_roundw;exact⟨j+1,by omega,by go_num,JZ aa,V⟩;exact gV
  ·have h:args.take j=args:=fQ (by have:=I.out;omega);rw[h]at ac ⊢;clear h;generalize jh (yw m) args=acc at *;go_wp2;go_ret;exact⟨bZ (by rw[p];go_num),up H q⟩
theorem ael(m:Nat)(hi:∀(w:bI) (v:aC) (l:List St),fH w m v l->fA m l<=1048576->aD 174 #[v] w λe w'=>e=dz (O (L6 m l))/\bK w w')(w:bI)(e0 e1 e2 e3 va vb:aC)(s:St)(h:VW w m e0 e1 e2 e3 va vb s)(hw:s.name.size+3+jF m s.e+fA m s.a+fA m s.b<=1048576):aD 223 #[.agg #[O s.kind,A s.name,e0,e1,e2,e3,va,vb]] w λe w'=>e=dz (O (Sj m s))/\bK w w':=by
 have HI:=Y hi;clear hi;have HS:=Y h;obtain⟨_,hnm,hx,hsa,hsb⟩:=h;obtain⟨ae,ce,rfl,rfl,rfl,rfl⟩:=hx.shape;obtain⟨a1,kP,rfl,hl1⟩:=hsa.shape;obtain⟨a2,cap2,rfl,hl2⟩:=hsb.shape;clear hx hsa hsb;have HE:J (Sj m s=1+if s.kind=2\/s.kind=3 then max (max (yw m s.e) (1+L6 m s.a)) (1+L6 m s.b)else yw m s.e):=rfl;have w1:jF m s.e<=1048576:=by omega
 have w2:fA m s.a<=1048576:=by omega
 have w3:fA m s.b<=1048576:=by omega
 obtain⟨d1,d2,d3⟩:=lS (bE (FI m s.e) w1) (bE (BR m s.a) w2) (bE (BR m s.b) w3);clear hw;generalize s.e.args.length=le at *;generalize s.a.length=l1 at *;generalize s.b.length=l2 at *;have HB0:=Y (aH w (aY #[O s.kind,A s.name,O s.e.kind,O s.e.n,A s.e.name,X ae le ce,X a1 l1 kP,X a2 l2 cap2] 198));obtain⟨q0,q6,q7⟩:=lS (aki w (O s.kind) (A s.name) (O s.e.kind) (O s.e.n) (A s.e.name) (X ae le ce) (X a1 l1 kP) (X a2 l2 cap2) 198) (Jm w (O s.kind) (A s.name) (O s.e.kind) (O s.e.n) (A s.e.name) (X ae le ce) (X a1 l1 kP) (X a2 l2 cap2) 198) (Jo w (O s.kind) (A s.name) (O s.e.kind) (O s.e.n) (A s.e.name) (X ae le ce) (X a1 l1 kP) (X a2 l2 cap2) 198);go_enter func223,ntmps223;go_wp2_with fail;refine(Bh m _ _ _ _ _ s.e (HS.below HB0).2.2.1 w1).mono ?_;rintro e w5 ⟨rfl,hb5⟩;replace q0:=aG q0 hb5;replace q6:=aG q6 hb5;replace q7:=aG q7 hb5;have HN:=Y (up HB0 hb5);clear hb5;obtain⟨VX,Ns⟩:=bV ((HS.below HN).2.2.2.1) ((HS.below HN).2.2.2.2);generalize yw m s.e=de at *;by_cases hk:s.kind=2\/s.kind=3
 ·rw[aK hk]at HE
  have HF:J (∀wx,J (bK w5 wx)->J (bK w5 wx)/\bJ wx w.heap.size 6=some (X a1 l1 kP)/\bJ wx w.heap.size 7=some (X a2 l2 cap2)):=
   λwx h=>⟨h,aG q6 h,aG q7 h⟩
  have Aw:J (bK w5 w5):=Y (bQ _ _);generalize hda:L6 m s.a=da at *;have HDA:=Y hda;clear hda;generalize hdb:L6 m s.b=db at *;have HDB:=Y hdb;clear hdb q6 q7;have WA:J (IntKind.i64.wrap (1+(da:Int))=1+(da:Int)):=Y (wrap_small bC bC);have WB:J (IntKind.i64.wrap (1+(db:Int))=1+(db:Int)):=Y (wrap_small bC bC);rcases hk with hk|hk;all_goals
   rw[hk]at q0;go_wp2_with fail
   go_region_held3 (λwx=>J (bK w5 wx)/\bJ wx w.heap.size 6=some (X a1 l1 kP)/\bJ wx w.heap.size 7=some (X a2 l2 cap2))
    (first|exact HF _ Qg|exact HF _ VY|exact HF _ (Y Aw.out.drew))
    (first
     | (go_at_call_of 174 (a1);refine(HI _ _ s.a ?_ w2).mono ?_;(exact VX.below Aw.drew);rintro e w30 ⟨rfl,OD⟩;have VY:=Y (up Aw.drew OD);clear OD;rw[HDA])
     | (go_at_call_of 174 (a2);refine(HI _ _ s.b ?_ w3).mono ?_;(exact Ns.below VY);rintro e w31 ⟨rfl,SN⟩;have Qg:=Y (up VY SN);clear SN;rw[HDB]))
   all_goals go_wp2
   all_goals go_ret;exact⟨bZ (by rw[HE];simp only[WA.out,WB.out]at *;omega),up HN Qg⟩
 ·rw[aI hk]at HE;have k2:(s.kind==2)=false:=by simp;omega
  have k3:(s.kind==3)=false:=by simp;omega
  clear hk q6 q7;go_wp2;go_ret;exact⟨bZ (by rw[HE];go_num),HN⟩
theorem ajY(m:Nat):∀(w:bI) (v:aC) (l:List St),fH w m v l->fA m l<=1048576->aD 174 #[v] w λg w'=>g=dz (O<|L6 m l)/\bK w w':=by
 induction m with
 | zero=>intro w v l h;exact iU h
 | succ m N=>
  intro w v l h q;have S:=Y<|ael m N;clear N;obtain⟨a,b,off,cap,rfl,I,hl,L⟩:=h;have R:=Y<|JW m l;have U:J (jh (Sj m) l<=1048576):=Y (by rw[<-JW];exact bE (BR _ _) q);have W:J (∀(i:Nat) (y:St),l[i]?=some y->y.name.size+3+jF m y.e+fA m y.a+fA m y.b<=1048576):=Y (λi y e=>by have:y.name.size+3+jF m y.e+fA m y.a+fA m y.b<=(l.map λs:St=>s.name.size+3+jF m s.e+fA m s.a+fA m s.b).sum:=wW (f:=λs:St=>s.name.size+3+jF m s.e+fA m s.a+fA m s.b)<|dG e;simp only[fA]at q;omega);obtain⟨j5,u⟩:=bV L I;clear L I q;obtain⟨len,k⟩:=aV l.length;have x:=Y k;rw[<-k]at hl u ⊢;clear k;go_enter func174,ntmps174;go_wp2;go_loopw[3,8] (λo i wr=>∃j:Nat,j<=len/\i=O j/\o=O (jh (Sj m)<|l.take j)/\bK w wr) (λ_ i _=>len - (intOf i).toNat);exact⟨0,bN _,rfl,rfl,bQ _ _⟩
  obtain⟨j,hj,rfl,rfl,d⟩:=hrel;have aa:=bE (wY (f:=Sj m) l j) U;by_cases ab:j<len
  ·obtain⟨y,e⟩:∃y,l[j]?=some y:=⟨_,aZ (by rw[<-x];exact ab)⟩;obtain⟨k1,k2,e0,e1,e2,e3,va,vb,z,B,C,D,E,F,G,H,r,n,p⟩:=j5 j y e;have V:=Y<|FH (f:=Sj m) e;have ac:=W j y e;obtain rfl:=u bC;obtain⟨u0,u1⟩:=eY (aG z d)<|aG B d;have ah:=aG C d;have YH:=aG D d;obtain⟨u4,u5,u6,u7⟩:=rY (aG E d) (aG F d) (aG G d)<|aG H d;have Q:J (VW wr m e0 e1 e2 e3 va vb y):=Y ⟨k1,k2,r.below d,n.below d,p.below d⟩;obtain⟨ae,ce,rfl,rfl,rfl,rfl⟩:=r.shape;obtain⟨a1,kP,rfl,af⟩:=n.shape;obtain⟨a2,ad,rfl,ag⟩:=p.shape;have Z:=Y d;clear z B C D E F G H r n p e d;go_wp2_with fail;refine(S _ _ _ _ _ _ _ y (Q.below<|aH _ _) ac).mono ?_;rintro g w5 ⟨rfl,K⟩;have P:=Y<|up Z<|Z7 K;clear K;generalize Sj m y=dy at *;generalize jh (Sj m) (l.take j)=acc at *;go_wp2;go_roundw;exact⟨j+1,by omega,by go_num,JZ V,P⟩;exact gV
  ·have g:l.take j=l:=fQ (by have:=x.out;omega);rw[g]at aa ⊢;clear g;generalize jh (Sj m) l=acc at *;go_wp2;go_ret;exact⟨bZ (by rw[R]),d⟩
def VZ(w:bI)(m:Nat)(d vb e0 e1 e2 e3:Value)(f:Fu):Prop:=
 f.name.size<=maxLen/\Strs w d f.params/\fH w m vb f.body/\iH w m e0 e1 e2 e3 f.result
theorem VZ.below{g:aC}{f:Fu}(d:VZ w m g vb e0 e1 e2 e3 f)(e:bK w w'):VZ w' m g vb e0 e1 e2 e3 f:=
 ⟨d.1,d.2.1.below e,d.2.2.1.below e,d.2.2.2.below e⟩
theorem Strs.shape{l:aJ}(d:Strs w v l):∃a cap,v=X a l.length cap/\l.length<=9223372036854775807:=by obtain⟨a,b,off,cap,e,_,g,_⟩:=d;exact⟨a,cap,e,g⟩
section
variable (w : World) (c0 c1 c2 c3 c4 c5 c6 : Value) (t : TypeId)
theorem akn:(w.alloc<|.cells #[c0,c1,c2,c3,c4,c5,c6] t).cell? (aN w.heap.size 0)=some c0:=by simp[go_sem]
theorem ako:(w.alloc<|.cells #[c0,c1,c2,c3,c4,c5,c6] t).cell? (aN w.heap.size 1)=some c1:=by simp[go_sem]
theorem Qk:(w.alloc<|.cells #[c0,c1,c2,c3,c4,c5,c6] t).cell? (aN w.heap.size 2)=some c2:=by simp[go_sem]
theorem JQ:(w.alloc<|.cells #[c0,c1,c2,c3,c4,c5,c6] t).cell? (aN w.heap.size 3)=some c3:=by simp[go_sem]
theorem YJ:(w.alloc<|.cells #[c0,c1,c2,c3,c4,c5,c6] t).cell? (aN w.heap.size<|3+1)=some c4:=by simp[go_sem]
theorem Mj:(w.alloc<|.cells #[c0,c1,c2,c3,c4,c5,c6] t).cell? (aN w.heap.size<|3+2)=some c5:=by simp[go_sem]
theorem UR:(w.alloc<|.cells #[c0,c1,c2,c3,c4,c5,c6] t).cell? (aN w.heap.size<|3+3)=some c6:=by simp[go_sem]
end
theorem ajN(m:Nat)(w:bI)(L vb e0 e1 e2 e3:aC)(f:Fu)(h:VZ w m L vb e0 e1 e2 e3 f)(hw:fA m f.body+jF m f.result<=1048576):aD 116 #[.agg #[A f.name,L,vb,e0,e1,e2,e3]] w λu w'=>u=dz (O<|YK m f)/\bK w w':=by
 have x:=Y h;obtain⟨ac,G,H,I⟩:=h;obtain⟨e,g,rfl,rfl,rfl,rfl⟩:=I.shape;obtain⟨d,i,rfl,aa⟩:=H.shape;obtain⟨k,l,rfl,ab⟩:=G.shape;clear I H G;have R:J (YK m f=1+max (max 1<|L6 m f.body) (yw m f.result)):=rfl;have w1:jF m f.result<=1048576:=by omega
 have N:fA m f.body<=1048576:=by omega
 obtain⟨d1,d2⟩:=eY (bE (FI m f.result) w1)<|bE (BR m f.body) N;clear hw;generalize f.result.args.length=le at *;generalize f.body.length=j at *;generalize f.params.length=n at *;have q:=Y<|aH w<|aY #[A f.name,X k n l,X d j i,O f.result.kind,O f.result.n,A f.result.name,X e le g] 102;obtain⟨q2,q3,q4,q5⟩:=rY (Qk w (A f.name) (X k n l) (X d j i) (O f.result.kind) (O f.result.n) (A f.result.name) (X e le g) 102) (JQ w (A f.name) (X k n l) (X d j i) (O f.result.kind) (O f.result.n) (A f.result.name) (X e le g) 102) (YJ w (A f.name) (X k n l) (X d j i) (O f.result.kind) (O f.result.n) (A f.result.name) (X e le g) 102)<|Mj w (A f.name) (X k n l) (X d j i) (O f.result.kind) (O f.result.n) (A f.result.name) (X e le g) 102;have K:=UR w (A f.name) (X k n l) (X d j i) (O f.result.kind) (O f.result.n) (A f.result.name) (X e le g) 102;go_enter func116,ntmps116;go_wp2_with fail;generalize (w.alloc<|aY #[A f.name,X k n l,X d j i,O f.result.kind,O f.result.n,A f.result.name,X e le g] 102)=o at *;obtain⟨U,S⟩:=bV ((x.below q).2.2.1)<|(x.below q).2.2.2
 have r:J (∀wx,J (bK o wx)->J (bK o wx)/\bJ wx w.heap.size 2=some (X d j i)/\bJ wx w.heap.size 3=some (O f.result.kind)/\
  bJ wx w.heap.size (3+1)=some (O f.result.n)/\bJ wx w.heap.size (3+2)=some (A f.result.name)/\bJ wx w.heap.size (3+3)=some (X e le g)):=
  λwx h=>⟨h,aG q2 h,aG q3 h,aG q4 h,aG q5 h,aG K h⟩
 have p:J (bK o o):=Y<|bQ _ _;generalize E:L6 m f.body=C at *;have P:=Y E;clear E;generalize F:yw m f.result=D at *;have Q:=Y F;clear F q2 q3 q4 q5 K;have W:J (IntKind.i64.wrap (1+(C:Int))=1+(C:Int)):=Y<|wrap_small bC bC;have Z:J (IntKind.i64.wrap (1+(D:Int))=1+(D:Int)):=Y<|wrap_small bC bC;have V:J (IntKind.i64.wrap 2=2):=Y<|wrap_small bC bC
 go_region_held3 (λwx=>J (bK o wx)/\bJ wx w.heap.size 2=some (X d j i)/\bJ wx w.heap.size 3=some (O f.result.kind)/\
  bJ wx w.heap.size (3+1)=some (O f.result.n)/\bJ wx w.heap.size (3+2)=some (A f.result.name)/\bJ wx w.heap.size (3+3)=some (X e le g))
  (first|exact r _ z|exact r _ s|exact r _<|Y p.out.drew)
  (first
   | (go_at_call 174;refine(ajY m _ _ f.body ?_ N).mono ?_;(exact U.below p.drew);rintro u ad ⟨rfl,y⟩;have s:=Y<|up p.drew y;clear y;rw[P])
   | (go_at_call 175;refine(Bh m _ _ _ _ _ f.result ?_ w1).mono ?_;(exact S.below s);rintro u af ⟨rfl,B⟩;have z:=Y<|up s B;clear B;rw[Q]))
 all_goals go_wp2
 all_goals go_ret;exact⟨bZ (by rw[R];(try simp only[W.out,Z.out,V.out]);omega),up q z⟩
theorem akp(m:Nat)(f:Fu):YK m f<=2+fA m f.body+jF m f.result:=by have d:=BR m f.body;have e:=FI m f.result;unfold YK;omega
theorem agT(m:Nat)(w:bI)(v:aC)(x:Mo)(h:jl w m v x)(hw:xH m x<=1048576):aD 71 #[v] w λg w'=>g=dz (O<|moD m x)/\bK w w':=by
 have HE:J (moD m x=1+max 1 (jh (YK m) x.bq)):=rfl;obtain⟨vi,vv,vf,rfl,ar,S,hV,hF⟩:=h;have aa:x.name.size+2+nJ x.imports+VE x.vars+BK m x.bq<=1048576:=hw;obtain⟨n,ci,rfl,ao⟩:=S.shape;obtain⟨p,bv,ov,q,rfl,_,aq,_⟩:=hV;obtain⟨a,b,off,cap,rfl,U,hl,Z⟩:=hF;clear S;generalize ak:x.bq=l at *;have H:J (∀(i:Nat) (y:Fu),l[i]?=some y->fA m y.body+jF m y.result+2<=1048576):=Y (λi y e=>by have:y.name.size+2+nJ y.params+fA m y.body+jF m y.result<=(l.map λs:Fu=>s.name.size+2+nJ s.params+fA m s.body+jF m s.result).sum:=wW (f:=λs:Fu=>s.name.size+2+nJ s.params+fA m s.body+jF m s.result)<|dG e;unfold BK at aa;omega);have HM:J (jh (YK m) l<=1048576):=Y<|IY (λy e=>by obtain⟨i,hi,rfl⟩:=gU.1 e;have h1:=H i _<|aZ hi;have h2:=akp m l[i];omega);obtain⟨j5,E⟩:=bV Z U;clear Z U hw aa;obtain⟨len,r⟩:=aV l.length;have G:=Y r;rw[<-r]at hl E ⊢;clear r;generalize x.imports.length=C at *;generalize x.vars.length=D at *;have F:=Y<|aH w<|aY #[A x.name,X n C ci,X p D q,X a len cap] 59;have q3:=zS w (A x.name) (X n C ci) (X p D q) (X a len cap) 59;go_enter func71,ntmps71;go_wp2_with fail;generalize (w.alloc<|aY #[A x.name,X n C ci,X p D q,X a len cap] 59)=W0 at *;go_loopw[3,9] (λo i wr=>∃j:Nat,j<=len/\i=O j/\(∃c:Nat,c=max 1 (jh (YK m)<|l.take j)/\o=O c)/\bK W0 wr) (λ_ i _=>len - (intOf i).toNat);exact⟨0,bN _,rfl,⟨1,rfl,rfl⟩,bQ _ _⟩
 obtain⟨j,hj,rfl,⟨acc,V,rfl⟩,hnx⟩:=hrel;have ah:acc<=1048576:=by have:=bE (wY (f:=YK m) l j) HM;omega
 have k:=Y V;clear V;by_cases ad:j<len
 ·obtain⟨y,e⟩:∃y,l[j]?=some y:=⟨_,aZ (by rw[<-G];exact ad)⟩;obtain⟨k1,vp,vb,e0,e1,e2,e3,I,K,L,N,P,Q,R,u,z,B⟩:=j5 j y e;have ac:=Y<|FH (f:=YK m) e;have af:fA m y.body+jF m y.result<=1048576:=by have:=H j y e;omega
  obtain rfl:=E bC;have d:=up F hnx;obtain⟨u0,u1⟩:=eY (aG I d)<|aG K d;have au:=aG L d;have YH:=aG N d;obtain⟨u4,u5,u6⟩:=lS (aG P d) (aG Q d)<|aG R d;have ab:J (VZ wr m vp vb e0 e1 e2 e3 y):=Y ⟨k1,u.below d,z.below d,B.below d⟩;obtain⟨ae,ce,rfl,rfl,rfl,rfl⟩:=B.shape;obtain⟨a1,kP,rfl,al⟩:=z.shape;obtain⟨a2,ag,rfl,am⟩:=u.shape;have fT:=Y hnx;clear I K L N P Q R B z u e hnx d;go_wp2_with fail;refine(ajN m _ _ _ _ _ _ _ y (ab.below<|aH _ _) af).mono ?_;rintro g w5 ⟨rfl,W⟩;have CW:=Y<|up fT<|Z7 W;clear W;generalize YK m y=dy at *;go_wp2;go_roundw;exact⟨j+1,by omega,by go_num,⟨max acc dy,by rw[ac,k];omega,JZ rfl⟩,CW⟩;exact gV
 ·have g:l.take j=l:=fQ (by have:=G.out;omega);rw[g]at k;clear g;go_wp2;go_ret;exact⟨bZ (by rw[HE,<-k];go_num),up F hnx⟩
namespace bS
def jn(l:List aS):aS:=⟨(Lib.join (l.map (·.data.toList)) [32]).toArray⟩
def brk(l:List aS):aS:=(⟨#[40]⟩:aS)++jn l++(⟨#[41]⟩:aS)
end bS
