import Derived.Test.YtiebmbnfedbdeaaGreatDoorTZAA
import Derived.BigQuiet
import Derived.Deep.AppendLies
import Derived.Deep.OwnRows
import Derived.Laws.AppendOwnNone
set_option maxHeartbeats 0
set_option maxRecDepth 99999
namespace Go.Proofs.YtiebmbnfedbdeaaGreatDoor
open bS
open Go.Proofs.Tryz
open Go.RowKit
namespace bS
def lI(s:aS):Option Nat:=(List.range s.size).find? λi=>s.data.toList.getD i 0==46
def preS(s:aS):aS:=match lI s with|some i=>s.extract 0 i|none=>s
def uR(s:aS):aS:=match lI s with|some i=>s.extract (i+1) s.size|none=>⟨#[]⟩
end bS
variable{p i B q n m base e size base' e' size' n' k:Nat}{l ss:aJ}{x:Ex}{P:Nat->Bool}{w b c w' w2:bI}{a:Addr}{v v' v2 c0 c1 c2 c3:aC}{o:Obj}{cs:Array aC}{t:TypeId}{xs xs':List aC}{l2:List Int}
theorem byte_at(s:aS)(k:Nat)(f:k<s.size):s.data.toList.getD k 0=s[k]:=by
 have d:k<s.data.toList.length:=by simpa using f
 rw[List.getD,aZ d];rfl
theorem extract_size(s:aS)(a b:Nat):(s.extract a b).size<=s.size:=by rw[Rk];omega
theorem ag4(s:aS):(bS.preS s).size<=s.size:=by
 unfold bS.preS;split;·exact extract_size _ _ _
 ·exact bG _
theorem ag5(s:aS):(uR s).size<=s.size:=by
 unfold uR;split;·exact extract_size _ _ _
 ·exact bN _
namespace bS
def opS:List aS:=[⟨#[43]⟩,⟨#[45]⟩,⟨#[42]⟩,⟨#[60]⟩,⟨#[61]⟩]
def opB(s:aS):Bool:=decide (0<=dU opS s)
def yB(s:aS):Bool:=dZ (preS s).data.toList&&(!(lI s).isSome||dZ (uR s).data.toList)
def jo:Nat->Ex->Bool
 | 0,_=>false
 | m+1,x=>
  if x.kind=1 then decide (0<=x.n)&&decide (x.n<=999999)&&x.name.toList.isEmpty&&(x.args.length==0)
  else if x.kind=2 then (x.n==0)&&dZ x.name.data.toList&&(x.args.length==0)
  else if x.kind=3 then (x.n==0)&&opB x.name&&(x.args.length==2)&&x.args.all (jo m)
  else if x.kind=4 then (x.n==0)&&yB x.name&&decide (x.args.length<=4)&&x.args.all (jo m)
  else false
end bS
theorem kS(w:bI)(v:aC)(ss:aJ)(t:aS)(f:Strs w v ss):
  aD 11 #[v,A t] w λe w'=>e=dz (.bool<|decide (0<=dU ss t))/\w'=w:=by
 have h:=Y f
 obtain⟨a,b,off,cap,rfl,_⟩:=f
 go_enter func11,ntmps11
 go_wp2_with fail
 refine(BF w _ ss t h.out).mono ?_
 rintro e w' ⟨rfl,j⟩
 subst j
 obtain⟨i,d⟩:∃i,i=dU ss t:=⟨_,rfl⟩
 have g:=Y d
 rw[<-d]
 clear d
 go_wp2
 go_ret
 exact⟨aW (by rw[g.out]),rfl⟩
theorem zS(w:bI)(c0 c1 c2 c3:aC)(t:TypeId):(w.alloc<|.cells #[c0,c1,c2,c3] t).cell? (aN w.heap.size 3)=some c3:=by simp[go_sem]
theorem acD{p:Ex->Bool}{l:List Ex}(d:∀(i:Nat) (x:Ex),l[i]?=some x->p x=true):l.all p=true:=by rw[iB];intro x g;obtain⟨i,f,rfl⟩:=gU.1 g;exact d i _<|aZ f
theorem acE{p:Ex->Bool}{l:List Ex}(f:l[i]?=some x)(d:p x=false):l.all p=false:=by rw[CY];exact⟨x,dG f,by simp[d]⟩
def only(P:Nat->Bool)(w:bI):bI:={ w with heap:=w.heap.mapIdx λi o=>if P i then o else .cells #[] 0 (0,0) }
theorem bR:(only P w).cell? a=some v↔P a.block=true/\w.cell? a=some v:=by
 unfold only World.cell?;simp only[Array.getElem?_mapIdx];cases d:P a.block;·cases w.heap[a.block]?<;>simp
 ·cases w.heap[a.block]?<;>simp
def Sub(w w':bI):Prop:=∀a v,w.cell? a=some v->w'.cell? a=some v
theorem Sub.refl(w:bI):Sub w w:=λ_ _ h=>h
theorem Sub.trans{a:bI}(d:Sub a b)(k:Sub b c):Sub a c:=λx v f=>k x v<|d x v f
theorem C9(P:Nat->Bool)(w:bI):Sub (only P w) w:=λ_ _ h=>(bR.1 h).2
theorem aad(d:bK w w'):Sub w w':=λ_ _ f=>aG f d
structure But(p:Nat)(w w':World):Prop where
 os:w'.os=w.os
 tape:w'.tape=w.tape
 output:w'.output=w.output
 size:w.heap.size<=w'.heap.size
 block:∀k,k<w.heap.size->k≠p->w'.heap[k]?=w.heap[k]?
theorem But.refl(p:Nat)(w:bI):But p w w:=⟨rfl,rfl,rfl,bG _,λ_ _ _=>rfl⟩
theorem But.trans{a:bI}(d:But p a b)(k:But p b c):But p a c:=
 ⟨k.os.trans d.os,k.tape.trans d.tape,k.output.trans d.output,bE d.size k.size,λi f g=>(k.block i (wI f d.size) g).trans (d.block i f g)⟩
theorem But.of_below(d:bK w w'):But p w w':=⟨d.os,d.tape,d.output,d.size,λk f _=>d.block k f⟩
theorem But.drew(h:But p w w')(n:Nat):But p w (w'.drewN n):=⟨h.os,h.tape,h.output,h.size,h.block⟩
theorem But.alloc(h:But p w w')(o:Obj):But p w (w'.alloc o):=h.trans<|But.of_below<|aH w' o
theorem But.set(d:But p w w')(f:a.block=p\/w.heap.size<=a.block)(v:aC):But p w (w'.setCell a v):=
 ⟨d.os,d.tape,d.output,by simp only[World.setCell,Am];exact d.size,λk g h=>(vM _ _ _ _ (by rcases f with e|e<;>omega)).trans (d.block k g h)⟩
theorem But.grown(d:But p w w'){r:Option Nat}(hg:w'.grownBy w2 r)(h:∀k,r=some k->w.heap.size<=k):But p w w2:=
 ⟨hg.os.trans d.os,hg.tape.trans d.tape,hg.output.trans d.output,bE d.size hg.size,λk f g=>(hg.block k (wI f d.size) (λe=>by have:=h k e.symm;omega)).trans (d.block k f g)⟩
theorem But.below(d:But p w w')(f:B<=p)(h:B<=w.heap.size):Below B w w':=⟨d.os,d.tape,d.output,d.size,λk g=>d.block k bC bC⟩
theorem But.at(g:But p w w')(j:q≠p)(f:w.heap[q]?=some o):w'.heap[q]?=some o:=by
 have h:q<w.heap.size:=by
  rcases Fa q w.heap.size with d|d;·exact d
  ·rw[Vy d]at f;cases f
 rw[g.block q h j];exact f
theorem But.sub(g:But p w w')(j:P p=false):Sub (only P w) (only P w'):=λa v r=>by
 obtain⟨d,f⟩:=bR.1 r;refine bR.2 ⟨d,?_⟩;have h:a.block≠p:=λe=>by rw[e,j]at d;cases d
 rw[jH (w:=w) (g.block _ (eH _ _ f) h)];exact f
theorem fI(d:m<=n):Sub (only (λb=>decide (n<=b)) w) (only (λb=>decide (m<=b)) w):=λa v h=>by obtain⟨f,g⟩:=bR.1 h;exact bR.2 ⟨gW<|bE d<|iP f,g⟩
theorem aj(h:dR w q (.cells cs t (0,0)))(i:Nat):w.cell? (aN q i)=cs[i]?:=by unfold World.cell?;rw[h];rfl
theorem aF(h:dR w q (.cells cs t (0,0)))(i:Nat):w.frozen? (aN q i)=false:=by unfold World.frozen?;rw[h];simp
theorem aP(h:dR w q (.cells cs t (0,0)))(i:Nat)(v:aC):(w.setCell (aN q i) v).heap[q]?=some (.cells (cs.setIfInBounds i v) t (0,0)):=by unfold World.setCell;simp[Jg,h]
theorem aX(d:w.heap[q]?=some o)(f:q≠a.block)(v:aC):(w.setCell a v).heap[q]?=some o:=by rw[vM _ _ _ _ f];exact d
theorem aR(f:w.heap[q]?=some o):q<w.heap.size:=by
 rcases Fa q w.heap.size with d|d;·exact d
 ·rw[Vy d]at f;cases f
theorem bT(d:w.heap[q]?=some o)(f:Obj):(w.alloc f).heap[q]?=some o:=by rw[(aH w f).block q (aR d)];exact d
theorem bF(w:bI)(o:Obj):(w.alloc o).heap[w.heap.size]?=some o:=heap_alloc_new w o
theorem iH.sub(d:Sub w w'):∀{m:Nat} {c0 c1 c2 c3:aC} {x:Ex},iH w m c0 c1 c2 c3 x->iH w' m c0 c1 c2 c3 x
 | 0,_,_,_,_,_,f=>f
 | m+1,c0,c1,c2,c3,x,f=>by obtain⟨D,E,F,G,H,I,a,b,off,cap,K,L,N,R⟩:=f;refine⟨D,E,F,G,H,I,a,b,off,cap,K,L,N,λi y U=>?_⟩;obtain⟨g,h,j,r,s,u,z,C,S⟩:=R i y U;exact⟨g,h,j,r,d _ _ s,d _ _ u,d _ _ z,d _ _ C,iH.sub d S⟩
theorem fH.sub(d:Sub w w'):∀{m:Nat} {v:aC} {l:List St},fH w m v l->fH w' m v l
 | 0,_,_,f=>f
 | m+1,v,l,f=>by obtain⟨a,b,off,cap,H,I,K,L⟩:=f;refine⟨a,b,off,cap,H,I,K,λi s S=>?_⟩;obtain⟨V,W,g,h,j,r,Z,vb,u,y,z,C,D,E,F,G,U,N,R⟩:=L i s S;exact⟨V,W,g,h,j,r,Z,vb,d _ _ u,d _ _ y,d _ _ z,d _ _ C,d _ _ D,d _ _ E,d _ _ F,d _ _ G,U.sub d,N.sub d,R.sub d⟩
theorem Strs.sub(h:Sub w w')(d:Strs w v ss):Strs w' v ss:=by obtain⟨a,b,off,cap,e,f,j,u,g⟩:=d;exact⟨a,b,off,cap,e,f,j,u,λr s=>h _ _<|g r s⟩
theorem xG.sub(d:Sub w w'){l:List Va}(h:xG w v l):xG w' v l:=by obtain⟨a,b,off,cap,j,r,u,y⟩:=h;refine⟨a,b,off,cap,j,r,u,λi s z=>?_⟩;obtain⟨C,D,f,g⟩:=y i s z;exact⟨C,D,d _ _ f,d _ _ g⟩
theorem mE.sub(d:Sub w w'){l:List Fu}(F:mE w m v l):mE w' m v l:=by obtain⟨a,b,off,cap,G,H,I,K⟩:=F;refine⟨a,b,off,cap,G,H,I,λi s N=>?_⟩;obtain⟨U,W,V,f,g,h,j,r,u,y,z,C,D,E,L,R,S⟩:=K i s N;exact⟨U,W,V,f,g,h,j,d _ _ r,d _ _ u,d _ _ y,d _ _ z,d _ _ C,d _ _ D,d _ _ E,L.sub d,R.sub d,S.sub d⟩
def Hz{α:Type}(At:bI->List Value->α->Prop):Prop:=∀(w w':bI) (c:List Value) (y:α),Sub w w'->At w c y->At w' c y
def gJ{α:Type}(At:bI->List Value->α->Prop)(w:bI)(n e k:Nat)(v:Value)(l:List α):Prop:=
 ∃cs:List (List Value),w.ownsRow n e k v l.length cs.flatten/\cs.length=l.length/\(∀c∈cs,c.length=k)/\
  ∀(i:Nat) c y,cs[i]?=some c->l[i]?=some y->At (only (λb=>decide (n<=b)&&decide (v.ownBlock≠some b)) w) c y
section
variable {α : Type} {At : World → List Value → α → Prop} {w w' : World} {n e k : Nat} {v : Value} {l : List α}
theorem gJ.nil(w:bI)(n e k:Nat):gJ At w n e k (aU) []:=⟨[],lJ _ _ _ _,rfl,(λc d=>aM d cK),(λi c y d=>aM d cK)⟩
theorem gJ.lt(d:gJ At w n e k v l):∀j,v.ownBlock=some j->n<=j/\j<w.heap.size:=by obtain⟨cs,f,_⟩:=d;exact f.lt
theorem gJ.shape(d:gJ At w n e k v l):(v=aU/\l=[])\/∃g cap,v=Tc g l.length cap/\l.length<=cap/\n<=g/\g<w.heap.size:=by
 obtain⟨cs,d,_⟩:=d;have h:=d.lt;rcases d.2 with⟨rfl,r⟩|⟨g,cap,j,rfl,_,s,f,_⟩;·exact aO ⟨rfl,qp.1 bC⟩
 ·exact aQ ⟨g,cap,rfl,f,h g rfl⟩
theorem Ox{p t xs}{c:Array aC}{j:Nat × Nat}(s:w.ownsRow n e k v l.length xs)(C:dR w p (.cells c t j))(z:e≠t)(y:But p w w'):w'.ownsRow n e k v l.length xs:=by
 obtain⟨u,f⟩:=s;refine⟨u,?_⟩;rcases f with f|⟨g,cap,h,D,hg,d,r⟩;·exact aO f
 ·refine aQ ⟨g,cap,h,D,hg,y.at (λe'=>?_) d,r⟩;subst e';rw[C]at d;simp at d;exact z d.2.1.symm
theorem gJ.but(z:Hz At){p t}{c:Array aC}{f:Nat × Nat}(g:gJ At w n e k v l)(D:dR w p (.cells c t f))(C:e≠t)(F:p<n)(d:But p w w'):gJ At w' n e k v l:=by obtain⟨cs,h,j,r,s⟩:=g;refine⟨cs,Ox h D C d,j,r,λi c y u E=>z _ _ _ _ (d.sub ?_)<|s i c y u E⟩;rw[iD bC];rfl
theorem gJ.set(s:gJ At w n e k v l){a:Addr}(E:v.ownBlock≠some a.block){x:aC}(h:∀c y,At (only (λb=>decide (n<=b)&&decide (v.ownBlock≠some b)) w) c y->At (only (λb=>decide (n<=b)&&decide (v.ownBlock≠some b)) (w.setCell a x)) c y):gJ At (w.setCell a x) n e k v l:=by
 obtain⟨cs,⟨u,d⟩,z,C,D⟩:=s;refine⟨cs,⟨u,?_⟩,z,C,λi c y F H=>h c y<|D i c y F H⟩;rcases d with d|⟨g,cap,j,f,hg,G,r⟩;·exact aO d
 ·refine aQ ⟨g,cap,j,f,hg,aX G (λe'=>E (by rw[f,<-e'];rfl)) _,r⟩
theorem gJ.kr(h:Hz At)(d:gJ At w n e k v l){a:Addr}(s:a.block<n)(x:aC):gJ At (w.setCell a x) n e k v l:=d.set (λe=>by have:=d.lt _ e;omega) (λc y r=>h _ _ _ _ (λb u j=>by obtain⟨f,g⟩:=bR.1 j;refine bR.2 ⟨f,?_⟩;have z:=iP (mF.1 f).1;rw[jH (w:=w) (vM _ _ _ _ bC)];exact g) r)
theorem gJ.below(I:Hz At)(C:gJ At w n e k v l)(h:bK w w'):gJ At w' n e k v l:=by
 obtain⟨cs,⟨D,d⟩,E,F,G⟩:=C;refine⟨cs,⟨D,?_⟩,E,F,λi c y H K=>I _ _ _ _ (λa v f=>?_)<|G i c y H K⟩
 ·rcases d with d|⟨g,cap,z,f,hg,j,r⟩;·exact aO d
  ·exact aQ ⟨g,cap,z,f,hg,by rw[h.block g (aR j)];exact j,r⟩
 ·obtain⟨s,u⟩:=bR.1 f;exact bR.2 ⟨s,aG u h⟩
theorem gJ.push(s:Hz At){g cap:Nat}{c:List aC}{y:α}{xs:List aC}{cs:List (List aC)}(N:cs.length=l.length/\(∀c∈cs,c.length=k)/\∀(i:Nat) c y,cs[i]?=some c->l[i]?=some y->At (only (λb=>decide (n<=b)&&decide (v.ownBlock≠some b)) w) c y)(V:xs=cs.flatten)(L:c.length=k)(W:At (only (λb=>decide (n<=b)&&decide (v.ownBlock≠some b)) w) c y)(I:w'.ownsRow n e k (Tc g (l.length+1) cap) (l.length+1) (xs++c))(K:w.grownBy w' v.ownBlock)(j:v.ownBlock=some g\/g=w.heap.size):gJ At w' n e k (Tc g (l.length+1) cap) (l++[y]):=by
 obtain⟨D,Z,k3⟩:=N;subst V;have C:Sub (only (λb=>decide (n<=b)&&decide (v.ownBlock≠some b)) w) (only (λb=>decide (n<=b)&&decide ((Tc g (l.length+1) cap).ownBlock≠some b)) w'):=λa u U=>by
  obtain⟨E,r⟩:=bR.1 U;obtain⟨F,G⟩:=mF.1 E;obtain⟨aa,hne⟩:=eY (eH _ _ r)<|iP G;refine bR.2 ⟨mF.2 ⟨F,gW ?_⟩,K.cell r (λe=>hne e.symm)⟩;intro e';have H:g=a.block:=by simpa[Value.ownBlock]using e'
  rcases j with j|j;·exact hne (by rw[j,H])
  ·omega
 refine⟨cs++[c],by rw[bg,Da];simpa using I,by simp[D],λd f=>?_,λi d z f h=>?_⟩
 ·rcases bX.1 f with f|f;·exact Z d f
  ·rw[dh]at f;subst f;exact L
 ·by_cases R:i<l.length;·rw[jX bC]at f;rw[jX R]at h;exact s _ _ _ _ C<|k3 i d z f h
  ·have S:i=l.length:=by have:=(cO.1 h).1;rw[bg,iI]at this;omega
   subst S;rw[kL bC,D,mW]at f;rw[kL (bG _),mW]at h;simp at f h;subst f h;exact s _ _ _ _ C W
theorem gJ.cell{g cap:Nat}(D:gJ At w n e k (Tc g l.length cap) l){i:Nat}{y:α}(z:l[i]?=some y):∃c,c.length=k/\(∀j,j<k->w.cell? (aN g<|i*k+j)=c[j]?)/\n<=g/\At (only (λb=>decide (n<=b)&&decide (some g≠some b)) w) c y:=by
 obtain⟨cs,h,L,r,E⟩:=D;have f:i<cs.length:=by have:=(cO.1 z).1;omega
 refine⟨cs[i],r _<|kZ f,λj N=>?_,(h.lt g rfl).1,E i _ y (aZ f) z⟩;have I:i*k+j<l.length*k:=by
  have:i+1<=l.length:=by omega
  have F:=qR k this;rw[Nat.add_mul,uS]at F;omega
 rw[yC h _ I];have H:∀(cs:List (List aC)) (i:Nat) (f:i<cs.length),(∀c∈cs,c.length=k)->cs.flatten[i*k+j]?=(cs[i])[j]?:=by
  intro cs;induction cs with
  | nil=>intro i f;simp at f
  | cons c cs K=>
   intro i f u;have s:=u c cK;cases i with
   | zero =>rw[uE,Nat.zero_mul,d9,jX bC];rfl
   | succ i=>
    rw[uE,kL (by rw[s,rZ];omega),s];have C:(i+1)*k+j - k=i*k+j:=by rw[rZ];omega
    rw[C,K i (by simpa using f) (λd G=>u d<|by simp[G])];rfl
 exact H cs i f r
end
theorem rF:(prog.info? 9).map (λi=>(i.zero,i.size,i.bytes))=some (some<|A ⟨#[]⟩,1,16):=by kernel_rfl
theorem wJ:(prog.info? 3).map (λi=>(i.zero,i.size,i.bytes))=some (some<|O 0,1,8):=by kernel_rfl
def Own(w:bI)(B:Nat)(v:Value)(l:List aS):Prop:=w.ownsRow B 9 1 v l.length (l.map Value.string)
theorem fM(s:w.ownsRow base e size v n xs)(y:bK w w'):w'.ownsRow base e size v n xs:=by
 obtain⟨u,f⟩:=s;refine⟨u,?_⟩;rcases f with f|⟨g,cap,j,C,hg,h,r⟩;·exact aO f
 ·refine aQ ⟨g,cap,j,C,hg,?_,r⟩;have z:g<w.heap.size:=by
   rcases Fa g w.heap.size with d|d;·exact d
   ·rw[Vy d]at h;cases h
  rw[y.block g z];exact h
theorem Own.strs(d:Own w B v l)(h:∀s∈l,s.size<=maxLen)(u:l.length<=9223372036854775807):Strs w v l:=by
 have r:=d;rcases d.2 with⟨rfl,z⟩|⟨g,cap,y,rfl,_⟩;·have:l=[]:=qp.1 bC;subst this;exact⟨none,0,0,0,rfl,λd=>aM d cK,by simp,λs h=>aM h cK,λj f=>aM f cK⟩
 ·refine⟨_,g,0,cap,rfl,λ_=>rfl,u,h,λj f=>?_⟩;have:=yC r j bC;rw[d9,this];simp[f]
theorem Own.shape(h:Own w B v l):(v=aU/\l=[])\/∃g cap,v=Tc g l.length cap/\l.length<=cap/\g<w.heap.size:=by
 rcases h.2 with⟨rfl,s⟩|⟨g,cap,r,rfl,_,f,j,_⟩;·exact aO ⟨rfl,qp.1 bC⟩
 ·refine aQ ⟨g,cap,rfl,j,?_⟩;rcases Fa g w.heap.size with d|d;·exact d
  ·rw[Vy d]at f;cases f
def yD(w:bI)(v:Value)(l:List aS):Prop:=Strs w v l/\∃a c,v=.slice a l.length c/\l.length<=c
theorem yD.below(d:yD w v l)(f:bK w w'):yD w' v l:=⟨d.1.below f,d.2⟩
theorem Own.Yj(d:Own w B v l)(j:∀s∈l,s.size<=maxLen)(h:l.length<=9223372036854775807):yD w v l:=by
 refine⟨d.strs j h,?_⟩;rcases d.shape with⟨rfl,rfl⟩|⟨g,cap,rfl,f,_⟩;·exact⟨_,_,rfl,bG _⟩
 ·exact⟨_,_,rfl,f⟩
def Ints(w:bI)(v:Value)(l:List Int):Prop:=
 ∃(a:Option Addr) (b off cap:Nat),v=.slice a l.length cap/\(0<l.length->a=some ⟨b,off,none⟩)/\l.length<=9223372036854775807/\
  ∀j z,l[j]?=some z->w.cell? ⟨b,off+j,none⟩=some (.int .i64 z)
theorem Ints.below{l:List Int}(d:Ints w v l)(h:bK w w'):Ints w' v l:=by obtain⟨a,b,off,cap,e,f,r,g⟩:=d;exact⟨a,b,off,cap,e,f,r,λj u s=>aG (g j u s) h⟩
def gQ(w:bI)(B:Nat)(v:Value)(l:List Int):Prop:=w.ownsRow B 3 1 v l.length (l.map (Value.int .i64))
theorem gQ.ints{l:List Int}(d:gQ w B v l)(s:l.length<=9223372036854775807):Ints w v l:=by
 have h:=d;rcases d.2 with⟨rfl,z⟩|⟨g,cap,y,rfl,_⟩;·have:l=[]:=qp.1 bC;subst this;exact⟨none,0,0,0,rfl,λd=>aM d cK,by simp,λj u f=>aM f cK⟩
 ·refine⟨_,g,0,cap,rfl,λ_=>rfl,s,λj u f=>?_⟩;obtain⟨r,rfl⟩:=cO.1 f;have:=yC h j bC;rw[d9,this];simp[r]
theorem own_ne(h:w.ownsRow base e size v n xs)(j:w.ownsRow base' e' size' v' n' xs')(s:e≠e'):v.ownBlock=none\/v.ownBlock≠v'.ownBlock:=by
 rcases h.2 with⟨rfl,_⟩|⟨g,cap,y,rfl,_,r,_⟩;·exact aO rfl
 ·right;intro d;rcases j.2 with⟨rfl,_⟩|⟨C,u,z,rfl,_,f,_⟩;·simp[Value.ownBlock]at d
  ·simp[Value.ownBlock]at d;subst d;rw[r]at f;simp at f;exact s f.2
theorem lg{ops:Array Oper}{rest:List Oper}{o:Oper}{a:Act}{Q:Exit->Act->bI->Prop}(C:o.guard=none)(s x:Operand)(D:o.op=.call { callee:=.builtin .append,args:=#[s,x],argTypes:=#[22,22] })(base:Nat)(v:aC)(l:aJ)(G:a.eval s=v)(E:Own w base v l)(B:Nat)(t:aS)(H:a.eval x=Tc B 1 1)(z:bJ w B 0=some (A t))(R:l.length<=1048576)(y:base<=w.heap.size)(g:∀v' w',Own w' base v' (l++[t])->w.grownBy w' v.ownBlock->wpList prog ops Q rest (a.put o.dst v') w'):wpList prog ops Q (o::rest) a w:=by
 obtain⟨N,f,I,K,L⟩:=info_parts rF;have F:w.ownsRow base 9 1 v l.length (l.map Value.string):=E;refine wpList_append_own _ C s x 22 D base 9 N (A ⟨#[]⟩) 1 16 underlying22 f I K L rfl bM v l.length (l.map Value.string) G F (aN B 0) 1 1 [A t] H rfl (λj u d=>?_) (λu d=>?_) (by unfold maxLen;omega) bC y ?_
 ·cases j with
  | zero =>simp at d;subst d;rw[Addr.add_lit];exact z
  | succ j=>simp at d
 ·simp at d;subst d;rfl
 ·intro v' w' h r _;refine g v' w' ?_ r;unfold Own;rw[bg,gX];exact h
theorem nW{ops:Array Oper}{rest:List Oper}{o:Oper}{a:Act}{Q:Exit->Act->bI->Prop}(C:o.guard=none)(s x:Operand)(D:o.op=.call { callee:=.builtin .append,args:=#[s,x],argTypes:=#[27,27] })(base:Nat)(v:aC)(l:List Int)(G:a.eval s=v)(E:gQ w base v l)(B:Nat)(t:Int)(H:a.eval x=Tc B 1 1)(z:bJ w B 0=some (O t))(R:l.length<=1048576)(y:base<=w.heap.size)(g:∀v' w',gQ w' base v' (l++[t])->w.grownBy w' v.ownBlock->wpList prog ops Q rest (a.put o.dst v') w'):wpList prog ops Q (o::rest) a w:=by
 obtain⟨N,f,I,K,L⟩:=info_parts wJ;have F:w.ownsRow base 3 1 v l.length (l.map<|Value.int .i64):=E;refine wpList_append_own _ C s x 27 D base 3 N (O 0) 1 8 underlying27 f I K L rfl bM v l.length (l.map<|Value.int .i64) G F (aN B 0) 1 1 [O t] H rfl (λj u d=>?_) (λu d=>?_) (by unfold maxLen;omega) bC y ?_
 ·cases j with
  | zero =>simp at d;subst d;rw[Addr.add_lit];exact z
  | succ j=>simp at d
 ·simp at d;subst d;rfl
 ·intro v' w' h r _;refine g v' w' ?_ r;unfold gQ;rw[bg,gX];exact h
theorem Own.kept(d:Own w B v l)(f:gQ w B v2 l2)(hg:(w.alloc o).grownBy w' v2.ownBlock):Own w' B v l:=
 (wK d o).kept hg (own_ne (wK d o) (wK f o) bM)
theorem gQ.kept(d:gQ w B v2 l2)(f:Own w B v l)(hg:(w.alloc o).grownBy w' v.ownBlock):gQ w' B v2 l2:=
 (wK d o).kept hg (own_ne (wK d o) (wK f o) bM)
def dA{α:Type}(At:List Value->α->Prop)(w:bI)(n e k:Nat)(v:Value)(l:List α):Prop:=
 ∃cs:List (List Value),w.ownsRow n e k v l.length cs.flatten/\cs.length=l.length/\(∀c∈cs,c.length=k/\∀u∈c,u.oneCell'=true)/\
  (∀(i:Nat) c y,cs[i]?=some c->l[i]?=some y->At c y)/\(l=[]->v=.slice none 0 0)
section
variable {α : Type} {At : List Value → α → Prop} {w w' : World} {n e k : Nat} {v : Value} {l : List α}
theorem dA.nil(w:bI)(n e k:Nat):dA At w n e k (aU) []:=⟨[],lJ _ _ _ _,rfl,(λc d=>aM d cK),(λi c y d=>aM d cK),λ_=>rfl⟩
theorem dA.lt(d:dA At w n e k v l):∀j,v.ownBlock=some j->n<=j/\j<w.heap.size:=by obtain⟨cs,f,_⟩:=d;exact f.lt
theorem dA.shape(d:dA At w n e k v l):(v=aU/\l=[])\/∃g cap,v=Tc g l.length cap/\l.length<=cap/\n<=g/\g<w.heap.size/\l≠[]:=by
 obtain⟨cs,d,_,_,_,j⟩:=d;have f:=d.lt;rcases d.2 with⟨rfl,s⟩|⟨g,cap,r,rfl,_,u,h,_⟩;·exact aO ⟨rfl,qp.1 bC⟩
 ·exact aQ ⟨g,cap,rfl,h,(f g rfl).1,(f g rfl).2,λe=>by have:=j e;simp at this⟩
theorem dA.below(d:dA At w n e k v l)(h:bK w w'):dA At w' n e k v l:=by obtain⟨cs,f,g⟩:=d;exact⟨cs,fM f h,g⟩
theorem dA.old{n':Nat}(h:dA At w n e k v l)(u:n'<=n):dA At w n' e k v l:=by
 obtain⟨cs,⟨j,d⟩,s⟩:=h;refine⟨cs,⟨j,?_⟩,s⟩;rcases d with d|⟨g,cap,f,y,hg,r⟩;·exact aO d
 ·exact aQ ⟨g,cap,f,y,bE u hg,r⟩
theorem dA.one{c:List aC}{y:α}(w:bI)(e:Nat)(g:c.length=k)(r:∀u∈c,u.oneCell'=true)(s:At c y):dA At (w.alloc<|.cells c.toArray e) w.heap.size e k (Tc w.heap.size 1 1) [y]:=by
 refine⟨[c],⟨by simp[g],aQ ⟨w.heap.size,1,c.toArray,rfl,bG _,bF _ _,bG _,by decide,by simp[g],by simp[<-g]⟩⟩,rfl,λd f=>?_,λi d z f h=>?_,λj=>aM j cK⟩;·rw[dh]at f;subst f;exact⟨g,r⟩
 ·cases i with
  | zero=>simp at f h;subst f h;exact s
  | succ i=>simp at f
theorem flat_get{k:Nat}:∀(cs:List (List aC)) (i j:Nat) (f:i<cs.length),(∀c∈cs,c.length=k)->j<k->cs.flatten[i*k+j]?=(cs[i])[j]?:=by
 intro cs;induction cs with
 | nil=>intro i j f;simp at f
 | cons c cs y=>
  intro i j f h u;have g:=h c cK;cases i with
  | zero =>rw[uE,Nat.zero_mul,d9,jX bC];rfl
  | succ i=>
   rw[uE,kL (by rw[g,rZ];omega),g];have r:(i+1)*k+j - k=i*k+j:=by rw[rZ];omega
   rw[r,y i j (by simpa using f) (λd s=>h d<|by simp[s]) u];rfl
theorem dA.cell{g cap:Nat}(r:dA At w n e k (Tc g l.length cap) l){i:Nat}{y:α}(h:l[i]?=some y):∃c,c.length=k/\(∀j,j<k->w.cell? (aN g<|i*k+j)=c[j]?)/\At c y:=by
 obtain⟨cs,s,F,f,u,_⟩:=r;have d:i<cs.length:=by have:=(cO.1 h).1;omega
 refine⟨cs[i],(f _<|kZ d).1,λj E=>?_,u i _ y (aZ d) h⟩;have D:i*k+j<l.length*k:=by
  have:i+1<=l.length:=by omega
  have z:=qR k this;rw[Nat.add_mul,uS]at z;omega
 rw[yC s _ D];exact flat_get cs i j d (λc C=>(f c C).1) E
theorem dA.cat{g cap:Nat}{l2:List α}{cs h:List (List aC)}(I:cs.length=l.length/\(∀c∈cs,c.length=k/\∀u∈c,u.oneCell'=true)/\(∀(i:Nat) c y,cs[i]?=some c->l[i]?=some y->At c y))(K:h.length=l2.length/\(∀c∈h,c.length=k/\∀u∈c,u.oneCell'=true)/\(∀(i:Nat) c y,h[i]?=some c->l2[i]?=some y->At c y))(N:l2≠[])(H:w'.ownsRow n e k (Tc g (l.length+l2.length) cap) (l.length+l2.length) (cs.flatten++h.flatten)):dA At w' n e k (Tc g (l.length+l2.length) cap) (l++l2):=by
 obtain⟨r,z,C⟩:=I;obtain⟨D,E,F⟩:=K;refine⟨cs++h,by rw[bg,Da];exact H,by simp[r,D],λd f=>?_,λi d s f j=>?_,λG=>aM (MZ.1 G).2 N⟩
 ·rcases bX.1 f with f|f;·exact z d f
  ·exact E d f
 ·by_cases L:i<l.length;·rw[jX bC]at f;rw[jX L]at j;exact C i d s f j
  ·rw[kL bC]at f;rw[kL bC]at j;rw[r]at f;exact F _ d s f j
end
theorem sj:∀(cs:List (List aC)),(∀c∈cs,c.length=k)->cs.flatten.length=cs.length*k
 | [],_=>by simp
 | c::cs,f=>by rw[uE,bg,sj cs (λd g=>f d<|by simp[g]),f c cK,vN,rZ,Nat.add_comm]
section
variable {α : Type} {At : List Value → α → Prop} {w : World} {ops : Array Oper} {rest : List Oper} {o : Oper} {a : Act} {Q : Exit → Act → World → Prop}
theorem fG(F:o.guard=none)(s x:Operand)(t e k y:Nat)(C:Value)(H:o.op=.call { callee:=.builtin .append,args:=#[s,x],argTypes:=#[t,t] })(R:prog.underlying t=some (.slice e))(ad:(prog.info? e).map (λi=>(i.zero,i.size,i.bytes))=some (some C,k,y))(al:C.cells.size=k)(hk:0<k)(ac:y<=1024)(n:Nat)(v:Value)(l:List α)(N:a.eval s=v)(I:dA At w n e k v l)(n2:Nat)(v2:Value)(l2:List α)(S:a.eval x=v2)(K:dA At w n2 e k v2 l2)(hl:l.length+l2.length<=16777216)(ab:n<=w.heap.size)(E:∀v' w',dA At w' n e k v' (l++l2)->w.grownBy w' v.ownBlock->wpList prog ops Q rest (a.put o.dst v') w'):wpList prog ops Q (o::rest) a w:=by
 obtain⟨U,D,ah,ai,ak⟩:=info_parts ad;have V:=I;obtain⟨cs,L,k1,k2,k3,k4⟩:=I;rcases K.shape with⟨rfl,rfl⟩|⟨g2,Z,rfl,_,_,_,G⟩;·refine wpList_append_own_none F s x t H n e U k R D v l.length cs.flatten N L S ?_;exact E v w (by simpa using V) ⟨rfl,rfl,rfl,bG _,λ_ _ _=>rfl⟩
 ·obtain⟨z,af,r,f,W,_⟩:=K;have ae:0<l2.length:=vO.2 G;refine wpList_append_lies w F s x t H n e U C k y R D ah ai ak al hk v l.length cs.flatten N L ⟨g2,0,none⟩ l2.length Z z.flatten S (by rw[sj z (λc d=>(f c d).1),r]) (λj u h=>?_) (λu h=>?_) ae (by unfold maxLen;omega) (bE (yE hl ac)<|by decide) ab w.heap.size rfl ?_;·rw[Addr.add_lit,d9,yC af j (by have:=(cO.1 h).1;rw[sj z (λc d=>(f c d).1),r]at this;exact this)];exact h
  ·obtain⟨c,d,ag⟩:=Rl.1 h;exact(f c d).2 u ag
  ·intro g cap w' aa h2 _ _;exact E _ w' (dA.cat ⟨k1,k2,k3⟩ ⟨r,f,W⟩ G aa) h2
end
namespace bS
def stH(s:St):Bool:=
 if s.kind=1\/s.kind=4 then dZ s.name.data.toList&&(s.b.length==0)&&(s.a.length==0)
 else if s.kind=2 then s.name.toList.isEmpty
 else if s.kind=3 then s.name.toList.isEmpty&&(s.b.length==0)
 else false
def j6:Nat->List St->Bool
 | 0,_=>false
 | m+1,l=>l.all λs=>stH s&&jo m s.e&&j6 m s.a&&j6 m s.b
def Vz(m:Nat)(s:St):Bool:=stH s&&jo m s.e&&j6 m s.a&&j6 m s.b
theorem wL(m:Nat)(l:List St):j6 (m+1) l=l.all (Vz m):=rfl
end bS
theorem acF{p:St->Bool}{l:List St}(d:∀(i:Nat) (x:St),l[i]?=some x->p x=true):l.all p=true:=by rw[iB];intro x g;obtain⟨i,f,rfl⟩:=gU.1 g;exact d i _<|aZ f
theorem acG{p:St->Bool}{l:List St}{x:St}(f:l[i]?=some x)(d:p x=false):l.all p=false:=by rw[CY];exact⟨x,dG f,by simp[d]⟩
theorem iH.shape(d:iH w m c0 c1 c2 c3 x):∃a cap,c0=O x.kind/\c1=O x.n/\c2=A x.name/\c3=X a x.args.length cap:=by
 cases m with
 | zero=>exact iU d
 | succ m =>obtain⟨f,g,h,_,_,_,a,b,off,cap,j,_⟩:=d;exact⟨a,cap,f,g,h,j⟩
theorem fH.shape{l:List St}(d:fH w m v l):∃a cap,v=X a l.length cap/\l.length<=9223372036854775807:=by
 cases m with
 | zero=>exact iU d
 | succ m =>obtain⟨a,b,off,cap,f,_,g,_⟩:=d;exact⟨a,cap,f,g⟩
theorem Jm(w:bI)(c0 c1 c2 c3 d f c6 g:aC)(t:TypeId):(w.alloc<|.cells #[c0,c1,c2,c3,d,f,c6,g] t).cell? (aN w.heap.size 6)=some c6:=by simp[go_sem]
theorem Jo(w:bI)(c0 c1 c2 c3 d f g c7:aC)(t:TypeId):(w.alloc<|.cells #[c0,c1,c2,c3,d,f,g,c7] t).cell? (aN w.heap.size 7)=some c7:=by simp[go_sem]
