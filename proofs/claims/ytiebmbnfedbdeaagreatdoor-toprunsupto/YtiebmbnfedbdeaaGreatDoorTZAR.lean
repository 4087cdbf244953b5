import Derived.Test.YtiebmbnfedbdeaaGreatDoorTZAO
import Derived.Test.YtiebmbnfedbdeaaGreatDoorTZAP
set_option maxHeartbeats 0
set_option maxRecDepth 99999
namespace Go.Proofs.YtiebmbnfedbdeaaGreatDoor
open bS Sv
open Go.Proofs.Tryz
open Go.RowKit
namespace bS
def kR(s:ByteArray):Bool:=dZ s.data.toList
def Q6(v:Va):Bool:=kR v.name&&kR v.level
def Wp(m:Nat)(f:Fu):Bool:=kR f.name&&j6 m f.body&&jo m f.result&&f.params.all kR
def Q7(m:Nat)(f:Fu):Int:=if 4<f.params.length then 2 else if Wp m f then 0 else 5
def uZ(m:Nat):List Fu->Int
 | []=>0
 | f::l=>if Q7 m f=0 then uZ m l else Q7 m f
def step(b:UInt8):Int:=if b=40 then 1 else if b=41 then -1 else 0
def y9(t:ByteArray):Nat->Int
 | 0=>0
 | j+1=>y9 t j+step (t.data.getD j 0)
def DX(t:ByteArray):Bool:=(List.range t.size).any λj=>decide (20<y9 t (j+1))
def oO(m:Nat)(x:Mo):Int:=
 if 8<x.imports.length\/8<x.vars.length\/8<x.bq.length then 2
 else if ((kR x.name&&x.imports.all kR)&&x.vars.all Q6)=false then 5
 else if uZ m x.bq≠0 then uZ m x.bq
 else if DX (moT m x)then 2 else 0
end bS
variable{m j:Nat}{t:aS}
theorem YV:∀{l:List Fu} {k:Nat} {y:Fu},(∀(d:Nat) (b:Fu),d<k->l[d]?=some b->Q7 m b=0)->l[k]?=some y->Q7 m y≠0->uZ m l=Q7 m y
 | [],k,y,_,a,_=>by simp at a
 | f::l,0,y,_,a,c=>by simp only[List.getElem?_cons_zero,Kj]at a;subst a;simp only[uZ];rw[aI c]
 | f::l,k+1,y,e,a,c=>by have:=e 0 f bC rfl;simp only[uZ];rw[aK this];exact YV (k:=k) (λd b h g=>e (d+1) b bC<|by simpa using g) (by simpa using a) c
theorem NG:∀{l:List Fu},(∀(d:Nat) (a:Fu),l[d]?=some a->Q7 m a=0)->uZ m l=0
 | [],_=>rfl
 | f::l,b=>by simp only[uZ];rw[aK (b 0 f rfl)];exact NG (λd a c=>b (d+1) a<|by simpa using c)
theorem ZSG(t:aS)(j:Nat)(h:j<t.size):y9 t (j+1)=y9 t j+bS.step t[j]:=by
 have e:t.data.getD j 0=t[j]:=by have:j<t.data.size:=h;unfold Array.getD;rw[dif_pos this];rfl
 simp only[y9,e]
theorem aed(b:j<t.size)(a:20<y9 t (j+1)):DX t=true:=
 RY.2 ⟨j,jE.2 b,gW a⟩
theorem aaR(a:∀j,j<t.size->¬20<y9 t (j+1)):DX t=false:=by unfold DX;rw[List.any_eq_false];intro j b;simpa using a j (jE.1 b)
namespace Rn
structure Rel(nm:List (ByteArray × ByteArray))(ρ:gM->gM->Prop):Prop where
 refl:∀s,ρ s s
 trans:∀{s t u},ρ s t->ρ t u->ρ s u
 gt:∀m o n s,ρ s (Rn.gt nm m o n s).2
 pt:∀m o n x s,ρ s (Rn.pt nm m o n x s).2
 qX:∀s s1,Rn.qX s=some s1->ρ s s1
 pr:∀s d,ρ s { s with pr:=s.pr++[d] }
section
variable {nm : List (ByteArray × ByteArray)} {ρ : gM → gM → Prop} (U : Rel nm ρ)
include U
end
end Rn
theorem ap9(w:bI)(f e:aC)(a b c d:aC)(W:bI)(h:W=(w.alloc<|aY #[f,e] 25).alloc (aY #[a,b,c,d] 229)):dR W w.heap.size (aY #[f,e] 25)/\W.heap[w.heap.size+1]?=some (aY #[a,b,c,d] 229)/\bK w W:=by subst h;refine⟨bT (bF w _) _,?_,((bQ _ _).alloc (bG _) _).alloc cK _⟩;have g:=bF (w.alloc<|aY #[f,e] 25)<|aY #[a,b,c,d] 229;rw[show(w.alloc<|aY #[f,e] 25).heap.size=w.heap.size+1 by simp]at g;exact g
theorem agl(w:bI)(vn D:aC)(ss:aJ)(n:Nat)(c:Co)(Z:aC)(hS:Strs w vn ss)(P:Ints w Z c.fr)(_hn:n<=40):aD 189 #[.agg #[vn,D],O n,.agg #[O c.to,Z,O c.mask,O c.level]] w λq w'=>q=dz (.bool<|Ms ss.length n c)/\bK w w':=by
 obtain⟨p,b,o,l⟩:=c;simp only at P ⊢;obtain⟨E,x⟩:=aV<|Ms ss.length n ⟨p,b,o,l⟩;have h:=Y x;rw[<-x];obtain⟨K,bl,off,cap,rfl,-,hl,-,-⟩:=hS;obtain⟨N,y⟩:=aV ss.length;have I:=Y y;rw[<-y]at hl ⊢;obtain⟨fa,fb,fo,fc,rfl,B,aa,V⟩:=P;obtain⟨len,C⟩:=aV b.length;have H:=Y C;rw[<-C]at B aa ⊢;obtain⟨W,z⟩:=aV<|(w.alloc<|aY #[X K N cap,D] 25).alloc (aY #[O p,X fa len fc,O o,O l] 229);obtain⟨s,u,L⟩:=ap9 w _ _ _ _ _ _ W z;obtain⟨q0,q1⟩:=jv s;obtain⟨q2,q3,q4,q5⟩:=xX u;obtain⟨H0,H1,e,Az,uK⟩:=uh s u L V B;clear s u L V B x y C;go_enter func189,ntmps189;go_wp2_with fail;try rw[<-z]
 clear z;go_loop [12] (λi=>∃k:Nat,k<=len/\i=O k/\∀f∈b.take k,uf n f=true) (λi=>len - (intOf i).toNat);exact⟨0,bN _,rfl,by simp⟩
 obtain⟨k,hk,rfl,Q⟩:=hrel;have HA:=Y Q;clear Q;by_cases ab:k<len
 ·obtain⟨f,d⟩:∃f,b[k]?=some f:=⟨_,aZ (by rw[<-H];exact ab)⟩;have ac:=aG (Az k f d) e;obtain rfl:=uK bC;have G:=Y d;clear d;go_wp2_with fail;refine(yZ W n f).mono ?_;rintro q w' ⟨rfl,rfl⟩;cases a:uf n f;·go_wp2;go_ret;refine⟨aW ?_,e⟩;rw[h,Ms,CY.2 ⟨f,dG G,by simp[a]⟩];rfl
  ·go_wp2;go_round;exact⟨k+1,by omega,by go_num,λg hg=>by
    rw[gy,G]at hg;rcases bX.1 hg with r|r;·exact HA g r
    ·simp at r;subst r;exact a⟩
   exact gV
 ·have v:J (b.all (uf n)=true):=Y<|iB.2 λf d=>HA f (by rw[fQ (by rw[<-H];omega)];exact d);go_wp2_with fail;refine(yZ W n p).mono ?_;rintro q w' ⟨rfl,rfl⟩;cases a:uf n p;·go_wp2;go_ret;exact⟨aW (by rw[h,Ms,v,a];rfl),e⟩
  ·go_wp2_with fail;refine(G5 w' K D N cap o l).mono ?_;rintro q w2 ⟨rfl,S⟩;have F:=Y<|up e S;clear S;cases R:Au N o l;·go_wp2;go_ret;exact⟨aW (by rw[h,Ms,v,a,<-I,R];rfl),F⟩
   ·go_wp2;go_ret;exact⟨aW (by rw[h,Ms,v,a,<-I,R];rfl),F⟩
namespace Sv
def Kk(N:Nat)(n:Int)(cs:List Co):Int:=if n<0 then 1 else if 40<n then 1 else if 1000<cs.length then 2 else if cs.all (Ms N n.toNat)then 0 else 1
end Sv
theorem YW(w:bI)(b a:aC)(W:bI)(c:W=w.alloc (aY #[b,a] 25)):dR W w.heap.size (aY #[b,a] 25)/\bK w W:=by subst c;exact⟨bF w _,aH w _⟩
theorem agw(w:bI)(p B vc:aC)(ss:aJ)(e:Int)(cs:List Co)(V:Strs w p ss)(hC:NA w vc cs):aD 135 #[.agg #[p,B],O e,vc] w λL w'=>L=dz (O<|Kk ss.length e cs)/\bK w w':=by
 have HS:=Y V;obtain⟨q,D⟩:=aV<|Kk ss.length e cs;have r:=Y D;rw[<-D];obtain⟨W,l⟩:=aV<|w.alloc<|aY #[p,B] 25;obtain⟨K,S⟩:=YW w p B W l;obtain⟨H0,h⟩:=bV K S;obtain⟨a,b,off,cap,rfl,C,hl,ad⟩:=hC;obtain⟨len,E⟩:=aV cs.length;have s:=Y E;rw[<-E]at C hl ⊢;obtain⟨j5,ES⟩:=bV ad C;clear K S V D ad C E;by_cases z:e<0;·have c:J (q=1):=Y (by rw[r,Kk,aK z]);go_enter func135,ntmps135;go_wp2;go_ret;exact⟨bZ c.symm,by rw[<-l];exact h⟩
 ·by_cases F:40<e;·have c:J (q=1):=Y (by rw[r,Kk,aI z,aK F]);go_enter func135,ntmps135;go_wp2;go_ret;exact⟨bZ c.symm,by rw[<-l];exact h⟩
  ·obtain⟨n,rfl⟩:∃n:Nat,e=n:=⟨e.toNat,by omega⟩;by_cases ab:1000<len;·have c:J (q=2):=Y (by rw[r,Kk,aI z,aI F,aK (by rw[<-s];exact ab)]);go_enter func135,ntmps135;go_wp2;go_ret;exact⟨bZ c.symm,by rw[<-l];exact h⟩
   ·have c:J (q=if cs.all (Ms ss.length n)then 0 else 1):=Y (by rw[r,Kk,aI z,aI F,aI (by rw[<-s];exact ab)];rfl);go_enter func135,ntmps135;go_wp2_with fail;try rw[<-l]
    clear l;go_loopw[20] (λi wx=>∃k:Nat,k<=len/\i=O k/\bK W wx/\∀f∈cs.take k,Ms ss.length n f=true) (λi _=>len - (intOf i).toNat);exact⟨0,bN _,rfl,bQ _ _,by simp⟩
    obtain⟨k,hk,rfl,ac,Z⟩:=hrel;obtain⟨G,u⟩:=bV Z ac;clear Z ac;by_cases ai:k<len
    ·obtain⟨f,o⟩:∃f,cs[k]?=some f:=⟨_,aZ (by rw[<-s];exact ai)⟩;have H:=Y o;have d:=up h u;obtain⟨vf,ae,N,P,Q,R⟩:=j5 k f o;have af:=Y<|ae.below d;obtain⟨N,P,Q,R⟩:=rY (aG N d) (aG P d) (aG Q d)<|aG R d;obtain⟨v,fb,fo,x,rfl,-⟩:=ae;obtain rfl:=ES bC;have p0:=bT (bH H0 u)<|aY #[O f.to,X v f.fr.length x,O f.mask,O f.level] 229;obtain⟨q0,q1⟩:=jv p0;obtain⟨eT,ah,ag⟩:=fE (up d<|aH wr<|aY #[O f.to,X v f.fr.length x,O f.mask,O f.level] 229) (up u<|aH wr<|aY #[O f.to,X v f.fr.length x,O f.mask,O f.level] 229)<|af.below<|aH wr<|aY #[O f.to,X v f.fr.length x,O f.mask,O f.level] 229;clear o d p0;go_wp2_with fail;refine(agl _ p B ss n f _ (HS.below eT) ag bC).mono ?_;rintro L w2 ⟨rfl,aa⟩;have I:=Y<|up ah aa;clear aa;cases hv:Ms ss.length n f;·go_wp2;go_ret;refine⟨bZ ?_,up h I⟩;rw[c,CY.2 ⟨f,dG H,by simp[hv]⟩];rfl
     ·go_wp2;go_roundw;exact⟨k+1,by omega,by go_num,I,λg hg=>by
       rw[gy,H]at hg;rcases bX.1 hg with y|y;·exact G g y
       ·simp at y;subst y;exact hv⟩
      exact gV
    ·have eP:J (cs.all (Ms ss.length n)=true):=Y<|iB.2 λf o=>G f (by rw[fQ (by rw[<-s];omega)];exact o);go_wp2;go_ret;exact⟨bZ (by rw[c,eP];rfl),up h u⟩
