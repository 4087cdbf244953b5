import Derived.Deep.AppendLies
import Derived.Deep.OwnRows
import Derived.Laws.AppendOwnNone
import Derived.Test.YtageneidjnbedaaGreatDoorTZAD
set_option maxHeartbeats 0
set_option maxRecDepth 99999
namespace Go.Proofs.YtageneidjnbedaaGreatDoor
open Go.Proofs.Tryz
open Go.RowKit
variable{P:Nat->Bool}{w b c w' w2:bI}{a:Addr}{v v' v2 c0 c1 c2 c3:aC}{p B q n m base e size base' e' size' n' k i:Nat}{o:Obj}{cs:Array aC}{t:TypeId}{ss l:aJ}{xs xs':List aC}{l2:List Int}
def only(P:Nat->Bool)(w:bI):bI:={ w with heap:=w.heap.mapIdx λi o=>if P i then o else .cells #[] 0 (0,0) }
theorem bR:(only P w).cell? a=some v↔P a.block=true/\w.cell? a=some v:=by
 unfold only World.cell?;simp only[Array.getElem?_mapIdx];cases d:P a.block;·cases w.heap[a.block]?<;>simp
 ·cases w.heap[a.block]?<;>simp
def Sub(w w':bI):Prop:=∀a v,w.cell? a=some v->w'.cell? a=some v
theorem Sub.refl(w:bI):Sub w w:=λ_ _ h=>h
theorem Sub.trans{a:bI}(h:Sub a b)(k:Sub b c):Sub a c:=λx v d=>k x v<|h x v d
theorem C9(P:Nat->Bool)(w:bI):Sub (only P w) w:=λ_ _ h=>(bR.1 h).2
theorem ayQ(h:Sub w w')(f:∀a v,w.cell? a=some v->P a.block=true):Sub w (only P w'):=λa v d=>bR.2 ⟨f a v d,h a v d⟩
theorem aad(h:bK w w'):Sub w w':=λ_ _ d=>aG d h
structure But(p:Nat)(w w':World):Prop where
 os:w'.os=w.os
 tape:w'.tape=w.tape
 output:w'.output=w.output
 size:w.heap.size<=w'.heap.size
 block:∀k,k<w.heap.size->k≠p->w'.heap[k]?=w.heap[k]?
theorem But.refl(p:Nat)(w:bI):But p w w:=⟨rfl,rfl,rfl,bG _,λ_ _ _=>rfl⟩
theorem But.trans{a:bI}(h:But p a b)(k:But p b c):But p a c:=
 ⟨k.os.trans h.os,k.tape.trans h.tape,k.output.trans h.output,bE h.size k.size,λi d f=>(k.block i (wI d h.size) f).trans (h.block i d f)⟩
theorem But.of_below(h:bK w w'):But p w w':=⟨h.os,h.tape,h.output,h.size,λk d _=>h.block k d⟩
theorem But.drew(h:But p w w')(n:Nat):But p w (w'.drewN n):=⟨h.os,h.tape,h.output,h.size,h.block⟩
theorem But.alloc(h:But p w w')(o:Obj):But p w (w'.alloc o):=h.trans<|But.of_below<|aH w' o
theorem But.set(h:But p w w')(d:a.block=p\/w.heap.size<=a.block)(v:aC):But p w (w'.setCell a v):=
 ⟨h.os,h.tape,h.output,by simp only[World.setCell,Am];exact h.size,λk f g=>(vM _ _ _ _ (by rcases d with e|e<;>omega)).trans (h.block k f g)⟩
theorem But.grown(h:But p w w'){r:Option Nat}(hg:w'.grownBy w2 r)(g:∀k,r=some k->w.heap.size<=k):But p w w2:=
 ⟨hg.os.trans h.os,hg.tape.trans h.tape,hg.output.trans h.output,bE h.size hg.size,λk d f=>(hg.block k (wI d h.size) (λe=>by have:=g k e.symm;omega)).trans (h.block k d f)⟩
theorem But.below(h:But p w w')(d:B<=p)(g:B<=w.heap.size):Below B w w':=⟨h.os,h.tape,h.output,h.size,λk f=>h.block k bC bC⟩
theorem But.at(h:But p w w')(j:q≠p)(f:w.heap[q]?=some o):w'.heap[q]?=some o:=by
 have g:q<w.heap.size:=by
  rcases Fa q w.heap.size with d|d;·exact d
  ·rw[Vy d]at f;cases f
 rw[h.block q g j];exact f
theorem But.sub(h:But p w w')(j:P p=false):Sub (only P w) (only P w'):=λa v r=>by
 obtain⟨d,f⟩:=bR.1 r;refine bR.2 ⟨d,?_⟩;have g:a.block≠p:=λe=>by rw[e,j]at d;cases d
 rw[jH (w:=w) (h.block _ (eH _ _ f) g)];exact f
theorem fI(h:m<=n):Sub (only (λb=>decide (n<=b)) w) (only (λb=>decide (m<=b)) w):=λa v g=>by obtain⟨d,f⟩:=bR.1 g;exact bR.2 ⟨gW<|bE h<|iP d,f⟩
theorem aj(h:dR w q (.cells cs t (0,0)))(i:Nat):w.cell? (aN q i)=cs[i]?:=by unfold World.cell?;rw[h];rfl
theorem aF(h:dR w q (.cells cs t (0,0)))(i:Nat):w.frozen? (aN q i)=false:=by unfold World.frozen?;rw[h];simp
theorem aP(h:dR w q (.cells cs t (0,0)))(i:Nat)(v:aC):(w.setCell (aN q i) v).heap[q]?=some (.cells (cs.setIfInBounds i v) t (0,0)):=by unfold World.setCell;simp[Jg,h]
theorem aX(h:w.heap[q]?=some o)(d:q≠a.block)(v:aC):(w.setCell a v).heap[q]?=some o:=by rw[vM _ _ _ _ d];exact h
theorem aR(h:w.heap[q]?=some o):q<w.heap.size:=by
 rcases Fa q w.heap.size with d|d;·exact d
 ·rw[Vy d]at h;cases h
theorem bT(h:w.heap[q]?=some o)(d:Obj):(w.alloc d).heap[q]?=some o:=by rw[(aH w d).block q (aR h)];exact h
theorem bF(w:bI)(o:Obj):(w.alloc o).heap[w.heap.size]?=some o:=heap_alloc_new w o
theorem iH.sub(d:Sub w w'):∀{m:Nat} {c0 c1 c2 c3:aC} {x:Ex},iH w m c0 c1 c2 c3 x->iH w' m c0 c1 c2 c3 x
 | 0,_,_,_,_,_,h=>h
 | m+1,c0,c1,c2,c3,x,h=>by obtain⟨D,E,F,G,H,I,a,b,off,cap,K,L,M,N⟩:=h;refine⟨D,E,F,G,H,I,a,b,off,cap,K,L,M,λi y S=>?_⟩;obtain⟨f,g,j,r,s,u,z,C,R⟩:=N i y S;exact⟨f,g,j,r,d _ _ s,d _ _ u,d _ _ z,d _ _ C,iH.sub d R⟩
theorem fH.sub(d:Sub w w'):∀{m:Nat} {v:aC} {l:List St},fH w m v l->fH w' m v l
 | 0,_,_,h=>h
 | m+1,v,l,h=>by obtain⟨a,b,off,cap,G,H,I,K⟩:=h;refine⟨a,b,off,cap,G,H,I,λi s N=>?_⟩;obtain⟨S,U,f,g,j,r,va,V,u,x,y,z,C,D,E,F,R,L,M⟩:=K i s N;exact⟨S,U,f,g,j,r,va,V,d _ _ u,d _ _ x,d _ _ y,d _ _ z,d _ _ C,d _ _ D,d _ _ E,d _ _ F,R.sub d,L.sub d,M.sub d⟩
theorem Strs.sub(g:Sub w w')(h:Strs w v ss):Strs w' v ss:=by obtain⟨a,b,off,cap,e,d,j,u,f⟩:=h;exact⟨a,b,off,cap,e,d,j,u,λr s=>g _ _<|f r s⟩
theorem xG.sub(d:Sub w w'){l:List Va}(h:xG w v l):xG w' v l:=by obtain⟨a,b,off,cap,j,r,u,x⟩:=h;refine⟨a,b,off,cap,j,r,u,λi s y=>?_⟩;obtain⟨z,C,f,g⟩:=x i s y;exact⟨z,C,d _ _ f,d _ _ g⟩
theorem mE.sub(d:Sub w w'){l:List Fu}(h:mE w m v l):mE w' m v l:=by obtain⟨a,b,off,cap,F,G,H,I⟩:=h;refine⟨a,b,off,cap,F,G,H,λi s L=>?_⟩;obtain⟨R,U,S,f,g,j,r,u,x,y,z,C,D,E,K,M,N⟩:=I i s L;exact⟨R,U,S,f,g,j,r,d _ _ u,d _ _ x,d _ _ y,d _ _ z,d _ _ C,d _ _ D,d _ _ E,K.sub d,M.sub d,N.sub d⟩
def Hz{α:Type}(At:bI->List Value->α->Prop):Prop:=∀(w w':bI) (c:List Value) (y:α),Sub w w'->At w c y->At w' c y
def gJ{α:Type}(At:bI->List Value->α->Prop)(w:bI)(n e k:Nat)(v:Value)(l:List α):Prop:=
 ∃cs:List (List Value),w.ownsRow n e k v l.length cs.flatten/\cs.length=l.length/\(∀c∈cs,c.length=k)/\
  ∀(i:Nat) c y,cs[i]?=some c->l[i]?=some y->At (only (λb=>decide (n<=b)&&decide (v.ownBlock≠some b)) w) c y
section
variable {α : Type} {At : World → List Value → α → Prop} {w w' : World} {n e k : Nat} {v : Value} {l : List α}
theorem gJ.nil(w:bI)(n e k:Nat):gJ At w n e k (aU) []:=⟨[],lJ _ _ _ _,rfl,(λc d=>aM d cK),(λi c y d=>aM d cK)⟩
theorem gJ.lt(h:gJ At w n e k v l):∀j,v.ownBlock=some j->n<=j/\j<w.heap.size:=by obtain⟨cs,d,_⟩:=h;exact d.lt
theorem gJ.shape(h:gJ At w n e k v l):(v=aU/\l=[])\/∃g cap,v=Tc g l.length cap/\l.length<=cap/\n<=g/\g<w.heap.size:=by
 obtain⟨cs,h,_⟩:=h;have f:=h.lt;rcases h.2 with⟨rfl,r⟩|⟨g,cap,j,rfl,_,s,d,_⟩;·exact aO ⟨rfl,qp.1 bC⟩
 ·exact aQ ⟨g,cap,rfl,d,f g rfl⟩
theorem Ox{p t xs}{c:Array aC}{s:Nat × Nat}(h:w.ownsRow n e k v l.length xs)(z:dR w p (.cells c t s))(y:e≠t)(x:But p w w'):w'.ownsRow n e k v l.length xs:=by
 obtain⟨u,f⟩:=h;refine⟨u,?_⟩;rcases f with f|⟨g,cap,j,C,hg,d,r⟩;·exact aO f
 ·refine aQ ⟨g,cap,j,C,hg,x.at (λe'=>?_) d,r⟩;subst e';rw[z]at d;simp at d;exact y d.2.1.symm
theorem gJ.but(x:Hz At){p t}{c:Array aC}{f:Nat × Nat}(h:gJ At w n e k v l)(C:dR w p (.cells c t f))(z:e≠t)(E:p<n)(d:But p w w'):gJ At w' n e k v l:=by obtain⟨cs,g,j,r,s⟩:=h;refine⟨cs,Ox g C z d,j,r,λi c y u D=>x _ _ _ _ (d.sub ?_)<|s i c y u D⟩;rw[iD bC];rfl
theorem gJ.set(h:gJ At w n e k v l){a:Addr}(E:v.ownBlock≠some a.block){x:aC}(j:∀c y,At (only (λb=>decide (n<=b)&&decide (v.ownBlock≠some b)) w) c y->At (only (λb=>decide (n<=b)&&decide (v.ownBlock≠some b)) (w.setCell a x)) c y):gJ At (w.setCell a x) n e k v l:=by
 obtain⟨cs,⟨u,d⟩,z,C,D⟩:=h;refine⟨cs,⟨u,?_⟩,z,C,λi c y F H=>j c y<|D i c y F H⟩;rcases d with d|⟨g,cap,s,f,hg,G,r⟩;·exact aO d
 ·refine aQ ⟨g,cap,s,f,hg,aX G (λe'=>E (by rw[f,<-e'];rfl)) _,r⟩
theorem gJ.kr(g:Hz At)(h:gJ At w n e k v l){a:Addr}(s:a.block<n)(x:aC):gJ At (w.setCell a x) n e k v l:=h.set (λe=>by have:=h.lt _ e;omega) (λc y r=>g _ _ _ _ (λb z j=>by obtain⟨d,f⟩:=bR.1 j;refine bR.2 ⟨d,?_⟩;have u:=iP (mF.1 d).1;rw[jH (w:=w) (vM _ _ _ _ bC)];exact f) r)
theorem gJ.below(H:Hz At)(h:gJ At w n e k v l)(j:bK w w'):gJ At w' n e k v l:=by
 obtain⟨cs,⟨C,d⟩,D,E,F⟩:=h;refine⟨cs,⟨C,?_⟩,D,E,λi c y G I=>H _ _ _ _ (λa v f=>?_)<|F i c y G I⟩
 ·rcases d with d|⟨g,cap,z,f,hg,s,r⟩;·exact aO d
  ·exact aQ ⟨g,cap,z,f,hg,by rw[j.block g (aR s)];exact s,r⟩
 ·obtain⟨u,x⟩:=bR.1 f;exact bR.2 ⟨u,aG x j⟩
theorem gJ.push(s:Hz At){g cap:Nat}{c:List aC}{y:α}{xs:List aC}{cs:List (List aC)}(K:cs.length=l.length/\(∀c∈cs,c.length=k)/\∀(i:Nat) c y,cs[i]?=some c->l[i]?=some y->At (only (λb=>decide (n<=b)&&decide (v.ownBlock≠some b)) w) c y)(R:xs=cs.flatten)(I:c.length=k)(S:At (only (λb=>decide (n<=b)&&decide (v.ownBlock≠some b)) w) c y)(G:w'.ownsRow n e k (Tc g (l.length+1) cap) (l.length+1) (xs++c))(H:w.grownBy w' v.ownBlock)(j:v.ownBlock=some g\/g=w.heap.size):gJ At w' n e k (Tc g (l.length+1) cap) (l++[y]):=by
 obtain⟨z,U,V⟩:=K;subst R;have x:Sub (only (λb=>decide (n<=b)&&decide (v.ownBlock≠some b)) w) (only (λb=>decide (n<=b)&&decide ((Tc g (l.length+1) cap).ownBlock≠some b)) w'):=λa u N=>by
  obtain⟨C,r⟩:=bR.1 N;obtain⟨D,E⟩:=mF.1 C;obtain⟨Z,hne⟩:=eY (eH _ _ r)<|iP E;refine bR.2 ⟨mF.2 ⟨D,gW ?_⟩,H.cell r (λe=>hne e.symm)⟩;intro e';have F:g=a.block:=by simpa[Value.ownBlock]using e'
  rcases j with j|j;·exact hne (by rw[j,F])
  ·omega
 refine⟨cs++[c],by rw[bg,Da];simpa using G,by simp[z],λd f=>?_,λi d W f h=>?_⟩
 ·rcases bX.1 f with f|f;·exact U d f
  ·rw[dh]at f;subst f;exact I
 ·by_cases L:i<l.length;·rw[jX bC]at f;rw[jX L]at h;exact s _ _ _ _ x<|V i d W f h
  ·have M:i=l.length:=by have:=(cO.1 h).1;rw[bg,iI]at this;omega
   subst M;rw[kL bC,z,mW]at f;rw[kL (bG _),mW]at h;simp at f h;subst f h;exact s _ _ _ _ x S
theorem gJ.cell{g cap:Nat}(h:gJ At w n e k (Tc g l.length cap) l){i:Nat}{y:α}(z:l[i]?=some y):∃c,c.length=k/\(∀j,j<k->w.cell? (aN g<|i*k+j)=c[j]?)/\n<=g/\At (only (λb=>decide (n<=b)&&decide (some g≠some b)) w) c y:=by
 obtain⟨cs,r,K,s,D⟩:=h;have f:i<cs.length:=by have:=(cO.1 z).1;omega
 refine⟨cs[i],s _<|kZ f,λj L=>?_,(r.lt g rfl).1,D i _ y (aZ f) z⟩;have H:i*k+j<l.length*k:=by
  have:i+1<=l.length:=by omega
  have E:=qR k this;rw[Nat.add_mul,uS]at E;omega
 rw[yC r _ H];have G:∀(cs:List (List aC)) (i:Nat) (f:i<cs.length),(∀c∈cs,c.length=k)->cs.flatten[i*k+j]?=(cs[i])[j]?:=by
  intro cs;induction cs with
  | nil=>intro i f;simp at f
  | cons c cs I=>
   intro i f x;have u:=x c cK;cases i with
   | zero =>rw[uE,Nat.zero_mul,d9,jX bC];rfl
   | succ i=>
    rw[uE,kL (by rw[u,rZ];omega),u];have C:(i+1)*k+j - k=i*k+j:=by rw[rZ];omega
    rw[C,I i (by simpa using f) (λd F=>x d<|by simp[F])];rfl
 exact G cs i f s
end
theorem rF:(prog.info? 9).map (λi=>(i.zero,i.size,i.bytes))=some (some<|A ⟨#[]⟩,1,16):=by kernel_rfl
theorem wJ:(prog.info? 3).map (λi=>(i.zero,i.size,i.bytes))=some (some<|O 0,1,8):=by kernel_rfl
def Own(w:bI)(B:Nat)(v:Value)(l:List aS):Prop:=w.ownsRow B 9 1 v l.length (l.map Value.string)
theorem fM(h:w.ownsRow base e size v n xs)(x:bK w w'):w'.ownsRow base e size v n xs:=by
 obtain⟨u,f⟩:=h;refine⟨u,?_⟩;rcases f with f|⟨g,cap,s,z,hg,j,r⟩;·exact aO f
 ·refine aQ ⟨g,cap,s,z,hg,?_,r⟩;have y:g<w.heap.size:=by
   rcases Fa g w.heap.size with d|d;·exact d
   ·rw[Vy d]at j;cases j
  rw[x.block g y];exact j
theorem Own.strs(h:Own w B v l)(f:∀s∈l,s.size<=maxLen)(u:l.length<=9223372036854775807):Strs w v l:=by
 have r:=h;rcases h.2 with⟨rfl,y⟩|⟨g,cap,x,rfl,_⟩;·have:l=[]:=qp.1 bC;subst this;exact⟨none,0,0,0,rfl,λh=>aM h cK,by simp,λs f=>aM f cK,λj d=>aM d cK⟩
 ·refine⟨_,g,0,cap,rfl,λ_=>rfl,u,f,λj d=>?_⟩;have:=yC r j bC;rw[d9,this];simp[d]
theorem Own.shape(h:Own w B v l):(v=aU/\l=[])\/∃g cap,v=Tc g l.length cap/\l.length<=cap/\g<w.heap.size:=by
 rcases h.2 with⟨rfl,s⟩|⟨g,cap,r,rfl,_,f,j,_⟩;·exact aO ⟨rfl,qp.1 bC⟩
 ·refine aQ ⟨g,cap,rfl,j,?_⟩;rcases Fa g w.heap.size with d|d;·exact d
  ·rw[Vy d]at f;cases f
def yD(w:bI)(v:Value)(l:List aS):Prop:=Strs w v l/\∃a c,v=.slice a l.length c/\l.length<=c
theorem yD.below(h:yD w v l)(d:bK w w'):yD w' v l:=⟨h.1.below d,h.2⟩
theorem Own.Yj(h:Own w B v l)(j:∀s∈l,s.size<=maxLen)(f:l.length<=9223372036854775807):yD w v l:=by
 refine⟨h.strs j f,?_⟩;rcases h.shape with⟨rfl,rfl⟩|⟨g,cap,rfl,d,_⟩;·exact⟨_,_,rfl,bG _⟩
 ·exact⟨_,_,rfl,d⟩
def Ints(w:bI)(v:Value)(l:List Int):Prop:=
 ∃(a:Option Addr) (b off cap:Nat),v=.slice a l.length cap/\(0<l.length->a=some ⟨b,off,none⟩)/\l.length<=9223372036854775807/\
  ∀j z,l[j]?=some z->w.cell? ⟨b,off+j,none⟩=some (.int .i64 z)
theorem Ints.below{l:List Int}(h:Ints w v l)(g:bK w w'):Ints w' v l:=by obtain⟨a,b,off,cap,e,d,r,f⟩:=h;exact⟨a,b,off,cap,e,d,r,λj u s=>aG (f j u s) g⟩
def gQ(w:bI)(B:Nat)(v:Value)(l:List Int):Prop:=w.ownsRow B 3 1 v l.length (l.map (Value.int .i64))
theorem gQ.ints{l:List Int}(h:gQ w B v l)(s:l.length<=9223372036854775807):Ints w v l:=by
 have f:=h;rcases h.2 with⟨rfl,y⟩|⟨g,cap,x,rfl,_⟩;·have:l=[]:=qp.1 bC;subst this;exact⟨none,0,0,0,rfl,λh=>aM h cK,by simp,λj u d=>aM d cK⟩
 ·refine⟨_,g,0,cap,rfl,λ_=>rfl,s,λj u d=>?_⟩;obtain⟨r,rfl⟩:=cO.1 d;have:=yC f j bC;rw[d9,this];simp[r]
theorem own_ne(h:w.ownsRow base e size v n xs)(j:w.ownsRow base' e' size' v' n' xs')(s:e≠e'):v.ownBlock=none\/v.ownBlock≠v'.ownBlock:=by
 rcases h.2 with⟨rfl,_⟩|⟨g,cap,x,rfl,_,r,_⟩;·exact aO rfl
 ·right;intro d;rcases j.2 with⟨rfl,_⟩|⟨z,u,y,rfl,_,f,_⟩;·simp[Value.ownBlock]at d
  ·simp[Value.ownBlock]at d;subst d;rw[r]at f;simp at f;exact s f.2
theorem lg{ops:Array Oper}{rest:List Oper}{o:Oper}{a:Act}{Q:Exit->Act->bI->Prop}(z:o.guard=none)(s x:Operand)(C:o.op=.call { callee:=.builtin .append,args:=#[s,x],argTypes:=#[22,22] })(base:Nat)(v:aC)(l:aJ)(F:a.eval s=v)(D:Own w base v l)(B:Nat)(t:aS)(G:a.eval x=Tc B 1 1)(y:bJ w B 0=some (A t))(N:l.length<=1048576)(u:base<=w.heap.size)(h:∀v' w',Own w' base v' (l++[t])->w.grownBy w' v.ownBlock->wpList prog ops Q rest (a.put o.dst v') w'):wpList prog ops Q (o::rest) a w:=by
 obtain⟨L,f,H,I,K⟩:=info_parts rF;have E:w.ownsRow base 9 1 v l.length (l.map Value.string):=D;refine wpList_append_own _ z s x 22 C base 9 L (A ⟨#[]⟩) 1 16 underlying22 f H I K rfl bM v l.length (l.map Value.string) F E (aN B 0) 1 1 [A t] G rfl (λj M d=>?_) (λM d=>?_) (by unfold maxLen;omega) bC u ?_
 ·cases j with
  | zero =>simp at d;subst d;rw[Addr.add_lit];exact y
  | succ j=>simp at d
 ·simp at d;subst d;rfl
 ·intro v' w' g r _;refine h v' w' ?_ r;unfold Own;rw[bg,gX];exact g
theorem nW{ops:Array Oper}{rest:List Oper}{o:Oper}{a:Act}{Q:Exit->Act->bI->Prop}(z:o.guard=none)(s x:Operand)(C:o.op=.call { callee:=.builtin .append,args:=#[s,x],argTypes:=#[32,32] })(base:Nat)(v:aC)(l:List Int)(F:a.eval s=v)(D:gQ w base v l)(B:Nat)(t:Int)(G:a.eval x=Tc B 1 1)(y:bJ w B 0=some (O t))(N:l.length<=1048576)(u:base<=w.heap.size)(h:∀v' w',gQ w' base v' (l++[t])->w.grownBy w' v.ownBlock->wpList prog ops Q rest (a.put o.dst v') w'):wpList prog ops Q (o::rest) a w:=by
 obtain⟨L,f,H,I,K⟩:=info_parts wJ;have E:w.ownsRow base 3 1 v l.length (l.map<|Value.int .i64):=D;refine wpList_append_own _ z s x 32 C base 3 L (O 0) 1 8 underlying32 f H I K rfl bM v l.length (l.map<|Value.int .i64) F E (aN B 0) 1 1 [O t] G rfl (λj M d=>?_) (λM d=>?_) (by unfold maxLen;omega) bC u ?_
 ·cases j with
  | zero =>simp at d;subst d;rw[Addr.add_lit];exact y
  | succ j=>simp at d
 ·simp at d;subst d;rfl
 ·intro v' w' g r _;refine h v' w' ?_ r;unfold gQ;rw[bg,gX];exact g
theorem Own.kept(h:Own w B v l)(d:gQ w B v2 l2)(hg:(w.alloc o).grownBy w' v2.ownBlock):Own w' B v l:=
 (wK h o).kept hg (own_ne (wK h o) (wK d o) bM)
theorem gQ.kept(d:gQ w B v2 l2)(h:Own w B v l)(hg:(w.alloc o).grownBy w' v.ownBlock):gQ w' B v2 l2:=
 (wK d o).kept hg (own_ne (wK d o) (wK h o) bM)
def dA{α:Type}(At:List Value->α->Prop)(w:bI)(n e k:Nat)(v:Value)(l:List α):Prop:=
 ∃cs:List (List Value),w.ownsRow n e k v l.length cs.flatten/\cs.length=l.length/\(∀c∈cs,c.length=k/\∀u∈c,u.oneCell'=true)/\
  (∀(i:Nat) c y,cs[i]?=some c->l[i]?=some y->At c y)/\(l=[]->v=.slice none 0 0)
section
variable {α : Type} {At : List Value → α → Prop} {w w' : World} {n e k : Nat} {v : Value} {l : List α}
theorem dA.nil(w:bI)(n e k:Nat):dA At w n e k (aU) []:=⟨[],lJ _ _ _ _,rfl,(λc d=>aM d cK),(λi c y d=>aM d cK),λ_=>rfl⟩
theorem dA.lt(h:dA At w n e k v l):∀j,v.ownBlock=some j->n<=j/\j<w.heap.size:=by obtain⟨cs,d,_⟩:=h;exact d.lt
theorem dA.shape(h:dA At w n e k v l):(v=aU/\l=[])\/∃g cap,v=Tc g l.length cap/\l.length<=cap/\n<=g/\g<w.heap.size/\l≠[]:=by
 obtain⟨cs,h,_,_,_,j⟩:=h;have d:=h.lt;rcases h.2 with⟨rfl,s⟩|⟨g,cap,r,rfl,_,u,f,_⟩;·exact aO ⟨rfl,qp.1 bC⟩
 ·exact aQ ⟨g,cap,rfl,f,(d g rfl).1,(d g rfl).2,λe=>by have:=j e;simp at this⟩
theorem dA.below(h:dA At w n e k v l)(g:bK w w'):dA At w' n e k v l:=by obtain⟨cs,d,f⟩:=h;exact⟨cs,fM d g,f⟩
theorem dA.old{n':Nat}(h:dA At w n e k v l)(u:n'<=n):dA At w n' e k v l:=by
 obtain⟨cs,⟨j,d⟩,s⟩:=h;refine⟨cs,⟨j,?_⟩,s⟩;rcases d with d|⟨g,cap,f,x,hg,r⟩;·exact aO d
 ·exact aQ ⟨g,cap,f,x,bE u hg,r⟩
theorem dA.one{c:List aC}{y:α}(w:bI)(e:Nat)(g:c.length=k)(r:∀u∈c,u.oneCell'=true)(s:At c y):dA At (w.alloc<|.cells c.toArray e) w.heap.size e k (Tc w.heap.size 1 1) [y]:=by
 refine⟨[c],⟨by simp[g],aQ ⟨w.heap.size,1,c.toArray,rfl,bG _,bF _ _,bG _,by decide,by simp[g],by simp[<-g]⟩⟩,rfl,λd f=>?_,λi d x f j=>?_,λh=>aM h cK⟩;·rw[dh]at f;subst f;exact⟨g,r⟩
 ·cases i with
  | zero=>simp at f j;subst f j;exact s
  | succ i=>simp at f
theorem flat_get{k:Nat}:∀(cs:List (List aC)) (i j:Nat) (f:i<cs.length),(∀c∈cs,c.length=k)->j<k->cs.flatten[i*k+j]?=(cs[i])[j]?:=by
 intro cs;induction cs with
 | nil=>intro i j f;simp at f
 | cons c cs x=>
  intro i j f h u;have g:=h c cK;cases i with
  | zero =>rw[uE,Nat.zero_mul,d9,jX bC];rfl
  | succ i=>
   rw[uE,kL (by rw[g,rZ];omega),g];have r:(i+1)*k+j - k=i*k+j:=by rw[rZ];omega
   rw[r,x i j (by simpa using f) (λd s=>h d<|by simp[s]) u];rfl
theorem dA.cell{g cap:Nat}(h:dA At w n e k (Tc g l.length cap) l){i:Nat}{y:α}(r:l[i]?=some y):∃c,c.length=k/\(∀j,j<k->w.cell? (aN g<|i*k+j)=c[j]?)/\At c y:=by
 obtain⟨cs,s,E,f,u,_⟩:=h;have d:i<cs.length:=by have:=(cO.1 r).1;omega
 refine⟨cs[i],(f _<|kZ d).1,λj D=>?_,u i _ y (aZ d) r⟩;have C:i*k+j<l.length*k:=by
  have:i+1<=l.length:=by omega
  have x:=qR k this;rw[Nat.add_mul,uS]at x;omega
 rw[yC s _ C];exact flat_get cs i j d (λc z=>(f c z).1) D
theorem dA.cat{g cap:Nat}{l2:List α}{cs j:List (List aC)}(H:cs.length=l.length/\(∀c∈cs,c.length=k/\∀s∈c,s.oneCell'=true)/\(∀(i:Nat) c y,cs[i]?=some c->l[i]?=some y->At c y))(I:j.length=l2.length/\(∀c∈j,c.length=k/\∀s∈c,s.oneCell'=true)/\(∀(i:Nat) c y,j[i]?=some c->l2[i]?=some y->At c y))(L:l2≠[])(G:w'.ownsRow n e k (Tc g (l.length+l2.length) cap) (l.length+l2.length) (cs.flatten++j.flatten)):dA At w' n e k (Tc g (l.length+l2.length) cap) (l++l2):=by
 obtain⟨u,z,C⟩:=H;obtain⟨D,E,F⟩:=I;refine⟨cs++j,by rw[bg,Da];exact G,by simp[u,D],λd f=>?_,λi d x f r=>?_,λh=>aM (MZ.1 h).2 L⟩
 ·rcases bX.1 f with f|f;·exact z d f
  ·exact E d f
 ·by_cases K:i<l.length;·rw[jX bC]at f;rw[jX K]at r;exact C i d x f r
  ·rw[kL bC]at f;rw[kL bC]at r;rw[u]at f;exact F _ d x f r
end
theorem sj:∀(cs:List (List aC)),(∀c∈cs,c.length=k)->cs.flatten.length=cs.length*k
 | [],_=>by simp
 | c::cs,h=>by rw[uE,bg,sj cs (λd f=>h d<|by simp[f]),h c cK,vN,rZ,Nat.add_comm]
section
variable {α : Type} {At : List Value → α → Prop} {w : World} {ops : Array Oper} {rest : List Oper} {o : Oper} {a : Act} {Q : Exit → Act → World → Prop}
theorem fG(E:o.guard=none)(s x:Operand)(t e k y:Nat)(C:Value)(G:o.op=.call { callee:=.builtin .append,args:=#[s,x],argTypes:=#[t,t] })(M:prog.underlying t=some (.slice e))(ad:(prog.info? e).map (λi=>(i.zero,i.size,i.bytes))=some (some C,k,y))(al:C.cells.size=k)(hk:0<k)(ac:y<=1024)(n:Nat)(v:Value)(l:List α)(L:a.eval s=v)(H:dA At w n e k v l)(n2:Nat)(v2:Value)(l2:List α)(N:a.eval x=v2)(I:dA At w n2 e k v2 l2)(hl:l.length+l2.length<=16777216)(ab:n<=w.heap.size)(h:∀v' w',dA At w' n e k v' (l++l2)->w.grownBy w' v.ownBlock->wpList prog ops Q rest (a.put o.dst v') w'):wpList prog ops Q (o::rest) a w:=by
 obtain⟨R,D,ah,ai,ak⟩:=info_parts ad;have U:=H;obtain⟨cs,K,k1,k2,k3,k4⟩:=H;rcases I.shape with⟨rfl,rfl⟩|⟨Z,W,rfl,_,_,_,F⟩;·refine wpList_append_own_none E s x t G n e R k M D v l.length cs.flatten L K N ?_;exact h v w (by simpa using U) ⟨rfl,rfl,rfl,bG _,λ_ _ _=>rfl⟩
 ·obtain⟨z,af,u,f,V,_⟩:=I;have ae:0<l2.length:=vO.2 F;refine wpList_append_lies w E s x t G n e R C k y M D ah ai ak al hk v l.length cs.flatten L K ⟨Z,0,none⟩ l2.length W z.flatten N (by rw[sj z (λc d=>(f c d).1),u]) (λj S r=>?_) (λS r=>?_) ae (by unfold maxLen;omega) (bE (yE hl ac)<|by decide) ab w.heap.size rfl ?_;·rw[Addr.add_lit,d9,yC af j (by have:=(cO.1 r).1;rw[sj z (λc d=>(f c d).1),u]at this;exact this)];exact r
  ·obtain⟨c,d,ag⟩:=List.mem_flatten.1 r;exact(f c d).2 S ag
  ·intro g cap w' aa h2 _ _;exact h _ w' (dA.cat ⟨k1,k2,k3⟩ ⟨u,f,V⟩ F aa) h2
end
namespace bS
def stH(s:St):Bool:=
 if s.kind=1\/s.kind=4 then dZ s.name.data.toList&&(s.b.length==0)&&(s.a.length==0)
 else if s.kind=2 then s.name.toList.isEmpty
 else if s.kind=3 then s.name.toList.isEmpty&&(s.b.length==0)
 else false
def j6:Nat->List St->Bool
 | 0,_=>false
 | m+1,l=>l.all λs=>stH s&&jo m s.e&&j6 m s.a&&j6 m s.b
def Vz(m:Nat)(s:St):Bool:=stH s&&jo m s.e&&j6 m s.a&&j6 m s.b
theorem wL(m:Nat)(l:List St):j6 (m+1) l=l.all (Vz m):=rfl
end bS
theorem acF{p:St->Bool}{l:List St}(h:∀(i:Nat) (x:St),l[i]?=some x->p x=true):l.all p=true:=by rw[iB];intro x f;obtain⟨i,d,rfl⟩:=gU.1 f;exact h i _<|aZ d
theorem acG{p:St->Bool}{l:List St}{x:St}(d:l[i]?=some x)(h:p x=false):l.all p=false:=by rw[CY];exact⟨x,dG d,by simp[h]⟩
theorem iH.shape{x:Ex}(h:iH w m c0 c1 c2 c3 x):∃a cap,c0=O x.kind/\c1=O x.n/\c2=A x.name/\c3=X a x.args.length cap:=by
 cases m with
 | zero=>exact iU h
 | succ m =>obtain⟨d,f,g,_,_,_,a,b,off,cap,j,_⟩:=h;exact⟨a,cap,d,f,g,j⟩
theorem fH.shape{l:List St}(h:fH w m v l):∃a cap,v=X a l.length cap/\l.length<=9223372036854775807:=by
 cases m with
 | zero=>exact iU h
 | succ m =>obtain⟨a,b,off,cap,d,_,f,_⟩:=h;exact⟨a,cap,d,f⟩
theorem Jm(w:bI)(c0 c1 c2 c3 d f c6 g:aC)(t:TypeId):(w.alloc<|.cells #[c0,c1,c2,c3,d,f,c6,g] t).cell? (aN w.heap.size 6)=some c6:=by simp[go_sem]
theorem Jo(w:bI)(c0 c1 c2 c3 d f g c7:aC)(t:TypeId):(w.alloc<|.cells #[c0,c1,c2,c3,d,f,g,c7] t).cell? (aN w.heap.size 7)=some c7:=by simp[go_sem]
