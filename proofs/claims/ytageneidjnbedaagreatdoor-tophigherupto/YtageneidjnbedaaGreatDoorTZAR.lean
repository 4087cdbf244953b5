import Derived.Test.YtageneidjnbedaaGreatDoorTZAO
import Derived.Test.YtageneidjnbedaaGreatDoorTZAP
set_option maxHeartbeats 0
set_option maxRecDepth 99999
namespace Go.Proofs.YtageneidjnbedaaGreatDoor
open bS Rn Sv
open Go.Proofs.Tryz
open Go.RowKit
namespace bS
def kR(s:ByteArray):Bool:=dZ s.data.toList
def Q6(v:Va):Bool:=kR v.name&&kR v.level
def Wp(m:Nat)(f:Fu):Bool:=kR f.name&&j6 m f.body&&jo m f.result&&f.params.all kR
def Q7(m:Nat)(f:Fu):Int:=if 4<f.params.length then 2 else if Wp m f then 0 else 5
def uZ(m:Nat):List Fu->Int
 | []=>0
 | f::l=>if Q7 m f=0 then uZ m l else Q7 m f
def step(b:UInt8):Int:=if b=40 then 1 else if b=41 then -1 else 0
def y9(t:ByteArray):Nat->Int
 | 0=>0
 | j+1=>y9 t j+step (t.data.getD j 0)
def DX(t:ByteArray):Bool:=(List.range t.size).any λj=>decide (20<y9 t (j+1))
def oO(m:Nat)(x:Mo):Int:=
 if 8<x.imports.length\/8<x.vars.length\/8<x.bq.length then 2
 else if ((kR x.name&&x.imports.all kR)&&x.vars.all Q6)=false then 5
 else if uZ m x.bq≠0 then uZ m x.bq
 else if DX (moT m x)then 2 else 0
end bS
variable{m j:Nat}{t:aS}
theorem YV:∀{l:List Fu} {k:Nat} {y:Fu},(∀(d:Nat) (a:Fu),d<k->l[d]?=some a->Q7 m a=0)->l[k]?=some y->Q7 m y≠0->uZ m l=Q7 m y
 | [],k,y,_,h,_=>by simp at h
 | f::l,0,y,_,h,b=>by simp only[List.getElem?_cons_zero,Kj]at h;subst h;simp only[uZ];rw[aI b]
 | f::l,k+1,y,e,h,b=>by have:=e 0 f bC rfl;simp only[uZ];rw[aK this];exact YV (k:=k) (λd a i g=>e (d+1) a bC<|by simpa using g) (by simpa using h) b
theorem NG:∀{l:List Fu},(∀(d:Nat) (a:Fu),l[d]?=some a->Q7 m a=0)->uZ m l=0
 | [],_=>rfl
 | f::l,b=>by simp only[uZ];rw[aK (b 0 f rfl)];exact NG (λd a e=>b (d+1) a<|by simpa using e)
theorem ZSG(t:aS)(j:Nat)(h:j<t.size):y9 t (j+1)=y9 t j+bS.step t[j]:=by
 have e:t.data.getD j 0=t[j]:=by have:j<t.data.size:=h;unfold Array.getD;rw[dif_pos this];rfl
 simp only[y9,e]
theorem aed(a:j<t.size)(h:20<y9 t (j+1)):DX t=true:=
 RY.2 ⟨j,jE.2 a,gW h⟩
theorem aaR(h:∀j,j<t.size->¬20<y9 t (j+1)):DX t=false:=by unfold DX;rw[List.any_eq_false];intro j a;simpa using h j (jE.1 a)
theorem axR{w:bI}{v:aC}{x:Mo}(h:jl w m v x)(B:xH m x<=1365000):(moT m x).size<=16380008:=by obtain⟨L,N,K,rfl,H,F,G,u⟩:=h;have q:x.name.size+2+nJ x.imports+VE x.vars+BK m x.bq<=1365000:=B;have k:=awK (f:=Ru) (wt:=λs:ByteArray=>s.size+1) (l:=x.imports) (λi y _ acc=>ayC acc y) (moH x) x.imports.length<|bG _;rw[ayX,jQ]at k;have n:=awK (f:=vaT) (wt:=λs:Va=>s.name.size+s.level.size+3) (l:=x.vars) (λi y _ acc=>ayU acc y) (moI x) x.vars.length<|bG _;rw[jQ]at n;obtain⟨a,b,off,cap,_,_,_,r⟩:=u;have p:=awK (f:=fuT m) (wt:=fuW m) (l:=x.bq) (λi y D acc=>by obtain⟨_,M,I,E,d,e,g,_,_,_,_,_,_,_,_,z,C⟩:=r i y D;exact axP z C acc) (moV x) x.bq.length (bG _);rw[jQ]at p;have d:x.imports.foldl Ru (moH x)=moI x:=rfl;have e:x.vars.foldl vaT (moI x)=moV x:=rfl;have g:x.bq.foldl (fuT m) (moV x)=moF m x:=rfl;rw[d]at k;rw[e]at n;rw[g]at p;unfold moT;rw[ZP];show _+1<=_;rw[ahv]at q;unfold nJ VE at q;omega
namespace Rn
structure Rel(nm:List (ByteArray × ByteArray))(ρ:gM->gM->Prop):Prop where
 refl:∀s,ρ s s
 trans:∀{s t u},ρ s t->ρ t u->ρ s u
 gt:∀m o n s,ρ s (Rn.gt nm m o n s).2
 pt:∀m o n x s,ρ s (Rn.pt nm m o n x s).2
 qX:∀s s1,qX s=some s1->ρ s s1
 pr:∀s d,ρ s { s with pr:=s.pr++[d] }
section
variable {nm : List (ByteArray × ByteArray)} {ρ : gM → gM → Prop} (U : Rel nm ρ)
include U
end
end Rn
theorem ap9(w:bI)(f e:aC)(a b c d:aC)(W:bI)(g:W=(w.alloc<|aY #[f,e] 25).alloc (aY #[a,b,c,d] 242)):dR W w.heap.size (aY #[f,e] 25)/\W.heap[w.heap.size+1]?=some (aY #[a,b,c,d] 242)/\bK w W:=by subst g;refine⟨bT (bF w _) _,?_,((bQ _ _).alloc (bG _) _).alloc cK _⟩;have h:=bF (w.alloc<|aY #[f,e] 25)<|aY #[a,b,c,d] 242;rw[show(w.alloc<|aY #[f,e] 25).heap.size=w.heap.size+1 by simp]at h;exact h
theorem agl(w:bI)(vn vl:aC)(ss:aJ)(n:Nat)(c:Co)(Z:aC)(hS:Strs w vn ss)(P:Ints w Z c.fr)(_hn:n<=40):aD 214 #[.agg #[vn,vl],O n,.agg #[O c.to,Z,O c.mask,O c.level]] w λs w'=>s=dz (.bool<|Ms ss.length n c)/\bK w w':=by
 obtain⟨r,b,q,p⟩:=c;simp only at P ⊢;obtain⟨E,y⟩:=aV<|Ms ss.length n ⟨r,b,q,p⟩;have l:=Y y;rw[<-y];obtain⟨L,bl,off,cap,rfl,-,hl,-,-⟩:=hS;obtain⟨N,z⟩:=aV ss.length;have K:=Y z;rw[<-z]at hl ⊢;obtain⟨fa,fb,fo,fc,rfl,C,aa,V⟩:=P;obtain⟨len,D⟩:=aV b.length;have I:=Y D;rw[<-D]at C aa ⊢;obtain⟨W,B⟩:=aV<|(w.alloc<|aY #[X L N cap,vl] 25).alloc (aY #[O r,X fa len fc,O q,O p] 242);obtain⟨u,v,M⟩:=ap9 w _ _ _ _ _ _ W B;obtain⟨q0,q1⟩:=jv u;obtain⟨q2,q3,q4,q5⟩:=xX v;obtain⟨H0,H1,e,Az,uK⟩:=uh u v M V C;clear u v M V C y z D;go_enter func214,ntmps214;go_wp2_with fail;try rw[<-B]
 clear B;go_loop [12] (λi=>∃k:Nat,k<=len/\i=O k/\∀f∈b.take k,uf n f=true) (λi=>len - (intOf i).toNat);exact⟨0,bN _,rfl,by simp⟩
 obtain⟨k,hk,rfl,Q⟩:=hrel;have F:=Y Q;clear Q;by_cases ab:k<len
 ·obtain⟨f,d⟩:∃f,b[k]?=some f:=⟨_,aZ (by rw[<-I];exact ab)⟩;have ac:=aG (Az k f d) e;obtain rfl:=uK bC;have H:=Y d;clear d;go_wp2_with fail;refine(yZ W n f).mono ?_;rintro s w' ⟨rfl,rfl⟩;cases a:uf n f;·go_wp2;go_ret;refine⟨aW ?_,e⟩;rw[l,Ms,CY.2 ⟨f,dG H,by simp[a]⟩];rfl
  ·go_wp2;go_round;exact⟨k+1,by omega,by go_num,λg hg=>by
    rw[gy,H]at hg;rcases bX.1 hg with h|h;·exact F g h
    ·simp at h;subst h;exact a⟩
   exact gV
 ·have x:J (b.all (uf n)=true):=Y (iB.2 λf d=>F f (by rw[fQ (by rw[<-I];omega)];exact d));go_wp2_with fail;refine(yZ W n r).mono ?_;rintro s w' ⟨rfl,rfl⟩;cases a:uf n r;·go_wp2;go_ret;exact⟨aW (by rw[l,Ms,x,a];rfl),e⟩
  ·go_wp2_with fail;refine(G5 w' L vl N cap q p).mono ?_;rintro s w2 ⟨rfl,S⟩;have G:=Y<|up e S;clear S;cases R:Au N q p;·go_wp2;go_ret;exact⟨aW (by rw[l,Ms,x,a,<-K,R];rfl),G⟩
   ·go_wp2;go_ret;exact⟨aW (by rw[l,Ms,x,a,<-K,R];rfl),G⟩
namespace Sv
def Kk(N:Nat)(n:Int)(cs:List Co):Int:=if n<0 then 1 else if 40<n then 1 else if 1000<cs.length then 2 else if cs.all (Ms N n.toNat)then 0 else 1
end Sv
theorem YW(w:bI)(b a:aC)(W:bI)(d:W=w.alloc (aY #[b,a] 25)):dR W w.heap.size (aY #[b,a] 25)/\bK w W:=by subst d;exact⟨bF w _,aH w _⟩
theorem agw(w:bI)(s D vc:aC)(ss:aJ)(l:Int)(cs:List Co)(Z:Strs w s ss)(hC:NA w vc cs):aD 167 #[.agg #[s,D],O l,vc] w λN w'=>N=dz (O<|Kk ss.length l cs)/\bK w w':=by
 have HS:=Y Z;obtain⟨u,F⟩:=aV<|Kk ss.length l cs;have v:=Y F;rw[<-F];obtain⟨W,q⟩:=aV<|w.alloc<|aY #[s,D] 25;obtain⟨M,V⟩:=YW w s D W q;obtain⟨H0,p⟩:=bV M V;obtain⟨a,b,off,cap,rfl,E,hl,ae⟩:=hC;obtain⟨len,G⟩:=aV cs.length;have x:=Y G;rw[<-G]at E hl ⊢;obtain⟨j5,ES⟩:=bV ae E;clear M V Z F ae E G;by_cases C:l<0;·have d:J (u=1):=Y (by rw[v,Kk,aK C]);go_enter func167,ntmps167;go_wp2;go_ret;exact⟨bZ d.symm,by rw[<-q];exact p⟩
 ·by_cases H:40<l;·have d:J (u=1):=Y (by rw[v,Kk,aI C,aK H]);go_enter func167,ntmps167;go_wp2;go_ret;exact⟨bZ d.symm,by rw[<-q];exact p⟩
  ·obtain⟨n,rfl⟩:∃n:Nat,l=n:=⟨l.toNat,by omega⟩;by_cases ac:1000<len;·have d:J (u=2):=Y (by rw[v,Kk,aI C,aI H,aK (by rw[<-x];exact ac)]);go_enter func167,ntmps167;go_wp2;go_ret;exact⟨bZ d.symm,by rw[<-q];exact p⟩
   ·have d:J (u=if cs.all (Ms ss.length n)then 0 else 1):=Y (by rw[v,Kk,aI C,aI H,aI (by rw[<-x];exact ac)];rfl);go_enter func167,ntmps167;go_wp2_with fail;try rw[<-q]
    clear q;go_loopw[20] (λi wx=>∃k:Nat,k<=len/\i=O k/\bK W wx/\∀f∈cs.take k,Ms ss.length n f=true) (λi _=>len - (intOf i).toNat);exact⟨0,bN _,rfl,bQ _ _,by simp⟩
    obtain⟨k,hk,rfl,ad,aa⟩:=hrel;obtain⟨I,y⟩:=bV aa ad;clear aa ad;by_cases ak:k<len
    ·obtain⟨f,r⟩:∃f,cs[k]?=some f:=⟨_,aZ (by rw[<-x];exact ak)⟩;have K:=Y r;have e:=up p y;obtain⟨vf,af,P,Q,R,S⟩:=j5 k f r;have ag:=Y<|af.below e;obtain⟨P,Q,R,S⟩:=rY (aG P e) (aG Q e) (aG R e)<|aG S e;obtain⟨z,fb,fo,B,rfl,-⟩:=af;obtain rfl:=ES bC;have p0:=bT (bH H0 y)<|aY #[O f.to,X z f.fr.length B,O f.mask,O f.level] 242;obtain⟨q0,q1⟩:=jv p0;obtain⟨eT,ai,ah⟩:=fE (up e<|aH wr<|aY #[O f.to,X z f.fr.length B,O f.mask,O f.level] 242) (up y<|aH wr<|aY #[O f.to,X z f.fr.length B,O f.mask,O f.level] 242)<|ag.below<|aH wr<|aY #[O f.to,X z f.fr.length B,O f.mask,O f.level] 242;clear r e p0;go_wp2_with fail;refine(agl _ s D ss n f _ (HS.below eT) ah bC).mono ?_;rintro N w2 ⟨rfl,ab⟩;have L:=Y<|up ai ab;clear ab;cases hv:Ms ss.length n f;·go_wp2;go_ret;refine⟨bZ ?_,up p L⟩;rw[d,CY.2 ⟨f,dG K,by simp[hv]⟩];rfl
     ·go_wp2;go_roundw;exact⟨k+1,by omega,by go_num,L,λg hg=>by
       rw[gy,K]at hg;rcases bX.1 hg with h|h;·exact I g h
       ·simp at h;subst h;exact hv⟩
      exact gV
    ·have eP:J (cs.all (Ms ss.length n)=true):=Y (iB.2 λf r=>I f (by rw[fQ (by rw[<-x];omega)];exact r));go_wp2;go_ret;exact⟨bZ (by rw[d,eP];rfl),up p y⟩
