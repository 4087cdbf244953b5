/- part -/
import Derived.Test.YtbgkpehhdibaoaaGreatDoorBZAA
import Derived.Deep.AppendLies
import Derived.Deep.OwnRows
import Derived.Laws.AppendOwnNone
set_option maxHeartbeats 0
set_option maxRecDepth 99999
namespace Go.Proofs.YtbgkpehhdibaoaaGreatDoor
open Go.Proofs.Tryz
open Go.RowKit
variable{P:Nat->Bool}{w b c w' w2:World}{a:Addr}{v v' v2:Value}{p B q n m base e size base' e' size' n' k:Nat}{o:Obj}{cs:Array Value}{t:TypeId}{ss l:List aY}{xs xs':List Value}{l2:List Int}
def only(P:Nat->Bool)(w:World):World:={ w with heap:=w.heap.mapIdx λi o=>if P i then o else .cells #[] 0 (0,0) }
theorem bM:(only P w).cell? a=some v↔P a.block=true/\w.cell? a=some v:=by
 unfold only World.cell?;simp only[Array.getElem?_mapIdx];cases hp:P a.block;·cases w.heap[a.block]?<;>simp
 ·cases w.heap[a.block]?<;>simp
def Sub(w w':World):Prop:=∀a v,w.cell? a=some v->w'.cell? a=some v
theorem Sub.refl(w:World):Sub w w:=λ_ _ h=>h
theorem Sub.trans{a:World}(h:Sub a b)(k:Sub b c):Sub a c:=λx v hx=>k x v (h x v hx)
theorem FW(P:Nat->Bool)(w:World):Sub (only P w) w:=λ_ _ h=>(bM.1 h).2
theorem Wt(h:bG w w'):Sub w w':=λ_ _ hv=>aD hv h
structure But(p:Nat)(w w':World):Prop where
 os:w'.os=w.os
 tape:w'.tape=w.tape
 output:w'.output=w.output
 size:w.heap.size<=w'.heap.size
 block:∀k,k<w.heap.size->k≠p->w'.heap[k]?=w.heap[k]?
theorem But.refl(p:Nat)(w:World):But p w w:=⟨rfl,rfl,rfl,bE _,λ_ _ _=>rfl⟩
theorem But.trans{a:World}(h:But p a b)(k:But p b c):But p a c:=
 ⟨k.os.trans h.os,k.tape.trans h.tape,k.output.trans h.output,bF h.size k.size,λi hi hp=>(k.block i (uj hi h.size) hp).trans (h.block i hi hp)⟩
theorem But.of_below(h:bG w w'):But p w w':=⟨h.os,h.tape,h.output,h.size,λk hk _=>h.block k hk⟩
theorem But.drew(h:But p w w')(n:Nat):But p w (w'.drewN n):=⟨h.os,h.tape,h.output,h.size,h.block⟩
theorem But.alloc(h:But p w w')(o:Obj):But p w (w'.alloc o):=h.trans (But.of_below (aH w' o))
theorem But.set(h:But p w w')(ha:a.block=p\/w.heap.size<=a.block)(v:Value):But p w (w'.setCell a v):=
 ⟨h.os,h.tape,h.output,by simp only[World.setCell,Cr];exact h.size,λk hk hp=>(um _ _ _ _ (by rcases ha with e|e<;>omega)).trans (h.block k hk hp)⟩
theorem But.grown(h:But p w w'){r:Option Nat}(hg:w'.grownBy w2 r)(hr:∀k,r=some k->w.heap.size<=k):But p w w2:=
 ⟨hg.os.trans h.os,hg.tape.trans h.tape,hg.output.trans h.output,bF h.size hg.size,λk hk hp=>(hg.block k (uj hk h.size) (λe=>by have:=hr k e.symm;omega)).trans (h.block k hk hp)⟩
theorem But.below(h:But p w w')(hB:B<=p)(hs:B<=w.heap.size):Below B w w':=⟨h.os,h.tape,h.output,h.size,λk hk=>h.block k aX aX⟩
theorem But.at(h:But p w w')(hq:q≠p)(ho:w.heap[q]?=some o):w'.heap[q]?=some o:=by
 have hlt:q<w.heap.size:=by
  rcases Ct q w.heap.size with h'|h';·exact h'
  ·rw[Rm h']at ho;cases ho
 rw[h.block q hlt hq];exact ho
theorem But.sub(h:But p w w')(hp:P p=false):Sub (only P w) (only P w'):=λa v hv=>by
 obtain⟨h1,h2⟩:=bM.1 hv;refine bM.2 ⟨h1,?_⟩;have hne:a.block≠p:=λe=>by rw[e,hp]at h1;cases h1
 rw[jJ (w:=w) (h.block _ (eX _ _ h2) hne)];exact h2
theorem eG(h:m<=n):Sub (only (λb=>decide (n<=b)) w) (only (λb=>decide (m<=b)) w):=λa v hv=>by obtain⟨h1,h2⟩:=bM.1 hv;exact bM.2 ⟨gq (bF h (jw h1)),h2⟩
theorem aj(h:w.heap[q]?=some (.cells cs t (0,0)))(i:Nat):w.cell? (X q i)=cs[i]?:=by unfold World.cell?;rw[h];rfl
theorem aG(h:w.heap[q]?=some (.cells cs t (0,0)))(i:Nat):w.frozen? (X q i)=false:=by unfold World.frozen?;rw[h];simp
theorem aO(h:w.heap[q]?=some (.cells cs t (0,0)))(i:Nat)(v:Value):(w.setCell (X q i) v).heap[q]?=some (.cells (cs.setIfInBounds i v) t (0,0)):=by unfold World.setCell;simp[Zu,h]
theorem bI(h:w.heap[q]?=some o)(ha:q≠a.block)(v:Value):(w.setCell a v).heap[q]?=some o:=by rw[um _ _ _ _ ha];exact h
theorem bq(h:w.heap[q]?=some o):q<w.heap.size:=by
 rcases Ct q w.heap.size with h'|h';·exact h'
 ·rw[Rm h']at h;cases h
theorem dw(h:w.heap[q]?=some o)(o':Obj):(w.alloc o').heap[q]?=some o:=by rw[(aH w o').block q (bq h)];exact h
theorem aZ(w:World)(o:Obj):(w.alloc o).heap[w.heap.size]?=some o:=heap_alloc_new w o
theorem gT.sub(hb:Sub w w'):∀{m:Nat} {c0 c1 c2 c3:Value} {x:Ex},gT w m c0 c1 c2 c3 x->gT w' m c0 c1 c2 c3 x
 | 0,_,_,_,_,_,h=>h
 | m+1,c0,c1,c2,c3,x,h=>by obtain⟨h0,h1,h2,h3,h4,h5,a,b,off,cap,h6,h7,h8,h9⟩:=h;refine⟨h0,h1,h2,h3,h4,h5,a,b,off,cap,h6,h7,h8,λi y hy=>?_⟩;obtain⟨e0,e1,e2,e3,g0,g1,g2,g3,hx⟩:=h9 i y hy;exact⟨e0,e1,e2,e3,hb _ _ g0,hb _ _ g1,hb _ _ g2,hb _ _ g3,gT.sub hb hx⟩
theorem fB.sub(hb:Sub w w'):∀{m:Nat} {v:Value} {l:List St},fB w m v l->fB w' m v l
 | 0,_,_,h=>h
 | m+1,v,l,h=>by obtain⟨a,b,off,cap,h6,h7,h8,h9⟩:=h;refine⟨a,b,off,cap,h6,h7,h8,λi s hs=>?_⟩;obtain⟨k1,k2,e0,e1,e2,e3,va,vb,g0,g1,g2,g3,g4,g5,g6,g7,hx,ha,hb'⟩:=h9 i s hs;exact⟨k1,k2,e0,e1,e2,e3,va,vb,hb _ _ g0,hb _ _ g1,hb _ _ g2,hb _ _ g3,hb _ _ g4,hb _ _ g5,hb _ _ g6,hb _ _ g7,hx.sub hb,ha.sub hb,hb'.sub hb⟩
theorem Strs.sub(hb:Sub w w')(h:Strs w v ss):Strs w' v ss:=by obtain⟨a,b,off,cap,e,h0,hl,hs,h1⟩:=h;exact⟨a,b,off,cap,e,h0,hl,hs,λr hr=>hb _ _ (h1 r hr)⟩
theorem uX.sub(hb:Sub w w'){l:List Va}(h:uX w v l):uX w' v l:=by obtain⟨a,b,off,cap,h6,h7,h8,h9⟩:=h;refine⟨a,b,off,cap,h6,h7,h8,λi s hs=>?_⟩;obtain⟨k1,k2,g0,g1⟩:=h9 i s hs;exact⟨k1,k2,hb _ _ g0,hb _ _ g1⟩
theorem kW.sub(hb:Sub w w'){l:List Fu}(h:kW w m v l):kW w' m v l:=by obtain⟨a,b,off,cap,h6,h7,h8,h9⟩:=h;refine⟨a,b,off,cap,h6,h7,h8,λi s hs=>?_⟩;obtain⟨k1,vp,vb,e0,e1,e2,e3,g0,g1,g2,g3,g4,g5,g6,hp,hs',hx⟩:=h9 i s hs;exact⟨k1,vp,vb,e0,e1,e2,e3,hb _ _ g0,hb _ _ g1,hb _ _ g2,hb _ _ g3,hb _ _ g4,hb _ _ g5,hb _ _ g6,hp.sub hb,hs'.sub hb,hx.sub hb⟩
def Eu{α:Type}(At:World->List Value->α->Prop):Prop:=∀(w w':World) (c:List Value) (y:α),Sub w w'->At w c y->At w' c y
def fI{α:Type}(At:World->List Value->α->Prop)(w:World)(n e k:Nat)(v:Value)(l:List α):Prop:=
 ∃cs:List (List Value),w.ownsRow n e k v l.length cs.flatten/\cs.length=l.length/\(∀c∈cs,c.length=k)/\
  ∀(i:Nat) c y,cs[i]?=some c->l[i]?=some y->At (only (λb=>decide (n<=b)&&decide (v.ownBlock≠some b)) w) c y
section
variable {α : Type} {At : World → List Value → α → Prop} {w w' : World} {n e k : Nat} {v : Value} {l : List α}
theorem fI.nil(w:World)(n e k:Nat):fI At w n e k (J) []:=⟨[],kg _ _ _ _,rfl,(λc hc=>aM hc dx),(λi c y hc=>aM hc dx)⟩
theorem fI.lt(h:fI At w n e k v l):∀j,v.ownBlock=some j->n<=j/\j<w.heap.size:=by obtain⟨cs,h1,_⟩:=h;exact h1.lt
theorem fI.shape(h:fI At w n e k v l):(v=J/\l=[])\/∃g cap,v=Y (some (X g 0)) l.length cap/\l.length<=cap/\n<=g/\g<w.heap.size:=by
 obtain⟨cs,h,_⟩:=h;have hlt:=h.lt;rcases h.2 with⟨rfl,h1⟩|⟨g,cap,cur,rfl,_,hh,hc,_⟩;·exact aR ⟨rfl,om.1 aX⟩
 ·exact aV ⟨g,cap,rfl,hc,hlt g rfl⟩
theorem Lb{p t xs}{c:Array Value}{fz:Nat × Nat}(h:w.ownsRow n e k v l.length xs)(hp:w.heap[p]?=some (.cells c t fz))(hne:e≠t)(hb:But p w w'):w'.ownsRow n e k v l.length xs:=by
 obtain⟨h1,h2⟩:=h;refine⟨h1,?_⟩;rcases h2 with h2|⟨g,cap,cur,hv,hg,hh,r⟩;·exact aR h2
 ·refine aV ⟨g,cap,cur,hv,hg,hb.at (λe'=>?_) hh,r⟩;subst e';rw[hp]at hh;simp at hh;exact hne hh.2.1.symm
theorem fI.but(hm:Eu At){p t}{c:Array Value}{fz:Nat × Nat}(h:fI At w n e k v l)(hp:w.heap[p]?=some (.cells c t fz))(hne:e≠t)(hpn:p<n)(hb:But p w w'):fI At w' n e k v l:=by obtain⟨cs,h1,h2,h3,h4⟩:=h;refine⟨cs,Lb h1 hp hne hb,h2,h3,λi c y hc hy=>hm _ _ _ _ (hb.sub ?_) (h4 i c y hc hy)⟩;rw[gG aX];rfl
theorem fI.set(h:fI At w n e k v l){a:Addr}(ha:v.ownBlock≠some a.block){x:Value}(hsee:∀c y,At (only (λb=>decide (n<=b)&&decide (v.ownBlock≠some b)) w) c y->At (only (λb=>decide (n<=b)&&decide (v.ownBlock≠some b)) (w.setCell a x)) c y):fI At (w.setCell a x) n e k v l:=by
 obtain⟨cs,⟨h0,h1⟩,h2,h3,h4⟩:=h;refine⟨cs,⟨h0,?_⟩,h2,h3,λi c y hc hy=>hsee c y (h4 i c y hc hy)⟩;rcases h1 with h1|⟨g,cap,cur,hv,hg,hh,r⟩;·exact aR h1
 ·refine aV ⟨g,cap,cur,hv,hg,bI hh (λe'=>ha (by rw[hv,<-e'];rfl)) _,r⟩
theorem fI.jK(hm:Eu At)(h:fI At w n e k v l){a:Addr}(ha:a.block<n)(x:Value):fI At (w.setCell a x) n e k v l:=h.set (λe=>by have:=h.lt _ e;omega) (λc y hy=>hm _ _ _ _ (λb u hu=>by obtain⟨h1,h2⟩:=bM.1 hu;refine bM.2 ⟨h1,?_⟩;have hle:=jw (kX.1 h1).1;rw[jJ (w:=w) (um _ _ _ _ aX)];exact h2) hy)
theorem fI.below(hm:Eu At)(h:fI At w n e k v l)(hb:bG w w'):fI At w' n e k v l:=by
 obtain⟨cs,⟨h0,h1⟩,h2,h3,h4⟩:=h;refine⟨cs,⟨h0,?_⟩,h2,h3,λi c y hc hy=>hm _ _ _ _ (λa v hv=>?_) (h4 i c y hc hy)⟩
 ·rcases h1 with h1|⟨g,cap,cur,hv,hg,hh,r⟩;·exact aR h1
  ·exact aV ⟨g,cap,cur,hv,hg,by rw[hb.block g (bq hh)];exact hh,r⟩
 ·obtain⟨a1,a2⟩:=bM.1 hv;exact bM.2 ⟨a1,aD a2 hb⟩
theorem fI.push(hm:Eu At){g cap:Nat}{c:List Value}{y:α}{xs:List Value}{cs:List (List Value)}(hcs:cs.length=l.length/\(∀c∈cs,c.length=k)/\∀(i:Nat) c y,cs[i]?=some c->l[i]?=some y->At (only (λb=>decide (n<=b)&&decide (v.ownBlock≠some b)) w) c y)(hxs:xs=cs.flatten)(hc:c.length=k)(hy:At (only (λb=>decide (n<=b)&&decide (v.ownBlock≠some b)) w) c y)(h1:w'.ownsRow n e k (Y (some (X g 0)) (l.length+1) cap) (l.length+1) (xs++c))(h2:w.grownBy w' v.ownBlock)(h3:v.ownBlock=some g\/g=w.heap.size):fI At w' n e k (Y (some (X g 0)) (l.length+1) cap) (l++[y]):=by
 obtain⟨k1,k2,k3⟩:=hcs;subst hxs;have hs:Sub (only (λb=>decide (n<=b)&&decide (v.ownBlock≠some b)) w) (only (λb=>decide (n<=b)&&decide ((Y (some (X g 0)) (l.length+1) cap).ownBlock≠some b)) w'):=λa u hu=>by
  obtain⟨a1,a2⟩:=bM.1 hu;obtain⟨b1,b2⟩:=kX.1 a1;obtain⟨hlt,hne⟩:=eY (eX _ _ a2) (jw b2);refine bM.2 ⟨kX.2 ⟨b1,gq ?_⟩,h2.cell a2 (λe=>hne e.symm)⟩;intro e';have e'':g=a.block:=by simpa[Value.ownBlock]using e'
  rcases h3 with h3|h3;·exact hne (by rw[h3,e''])
  ·omega
 refine⟨cs++[c],by rw[aT,DJ];simpa using h1,by simp[k1],λd hd=>?_,λi d z hd hz=>?_⟩
 ·rcases bZ.1 hd with hd|hd;·exact k2 d hd
  ·rw[dD]at hd;subst hd;exact hc
 ·by_cases hi:i<l.length;·rw[pQ aX]at hd;rw[pQ hi]at hz;exact hm _ _ _ _ hs (k3 i d z hd hz)
  ·have hi':i=l.length:=by have:=(dK.1 hz).1;rw[aT,iF]at this;omega
   subst hi';rw[oq aX,k1,mE]at hd;rw[oq (bE _),mE]at hz;simp at hd hz;subst hd hz;exact hm _ _ _ _ hs hy
theorem fI.cell{g cap:Nat}(h:fI At w n e k (Y (some (X g 0)) l.length cap) l){i:Nat}{y:α}(hy:l[i]?=some y):∃c,c.length=k/\(∀j,j<k->w.cell? (X g (i*k+j))=c[j]?)/\n<=g/\At (only (λb=>decide (n<=b)&&decide (some g≠some b)) w) c y:=by
 obtain⟨cs,h1,h2,h3,h4⟩:=h;have hi:i<cs.length:=by have:=(dK.1 hy).1;omega
 refine⟨cs[i],h3 _ (kP hi),λj hj=>?_,(h1.lt g rfl).1,h4 i _ y (bD hi) hy⟩;have hik:i*k+j<l.length*k:=by
  have:i+1<=l.length:=by omega
  have h5:=Lc k this;rw[Nat.add_mul,uq]at h5;omega
 rw[vV h1 _ hik];have hfl:∀(cs:List (List Value)) (i:Nat) (hi:i<cs.length),(∀c∈cs,c.length=k)->cs.flatten[i*k+j]?=(cs[i])[j]?:=by
  intro cs;induction cs with
  | nil=>intro i hi;simp at hi
  | cons c cs ih=>
   intro i hi hk;have hc:=hk c dx;cases i with
   | zero =>rw[uY,Nat.zero_mul,eD,pQ aX];rfl
   | succ i=>
    rw[uY,oq (by rw[hc,zw];omega),hc];have e1:(i+1)*k+j - k=i*k+j:=by rw[zw];omega
    rw[e1,ih i (by simpa using hi) (λd hd=>hk d (by simp[hd]))];rfl
 exact hfl cs i hi h3
end
theorem xM:(prog.info? 9).map (λi=>(i.zero,i.size,i.bytes))=some (some (A ⟨#[]⟩),1,16):=by kernel_rfl
theorem xO:(prog.info? 3).map (λi=>(i.zero,i.size,i.bytes))=some (some (O 0),1,8):=by kernel_rfl
def Own(w:World)(B:Nat)(v:Value)(l:List aY):Prop:=w.ownsRow B 9 1 v l.length (l.map Value.string)
theorem eZ(h:w.ownsRow base e size v n xs)(hb:bG w w'):w'.ownsRow base e size v n xs:=by
 obtain⟨h1,h2⟩:=h;refine⟨h1,?_⟩;rcases h2 with h2|⟨g,cap,cur,hv,hg,hh,r⟩;·exact aR h2
 ·refine aV ⟨g,cap,cur,hv,hg,?_,r⟩;have hlt:g<w.heap.size:=by
   rcases Ct g w.heap.size with h'|h';·exact h'
   ·rw[Rm h']at hh;cases hh
  rw[hb.block g hlt];exact hh
theorem Own.strs(h:Own w B v l)(hs:∀s∈l,s.size<=maxLen)(hl:l.length<=9223372036854775807):Strs w v l:=by
 have h0:=h;rcases h.2 with⟨rfl,h1⟩|⟨g,cap,cur,rfl,_⟩;·have:l=[]:=om.1 aX;subst this;exact⟨none,0,0,0,rfl,λh=>aM h dx,by simp,λs hs=>aM hs dx,λj hj=>aM hj dx⟩
 ·refine⟨_,g,0,cap,rfl,λ_=>rfl,hl,hs,λj hj=>?_⟩;have:=vV h0 j aX;rw[eD,this];simp[hj]
theorem Own.shape(h:Own w B v l):(v=J/\l=[])\/∃g cap,v=Y (some (X g 0)) l.length cap/\l.length<=cap/\g<w.heap.size:=by
 rcases h.2 with⟨rfl,h1⟩|⟨g,cap,cur,rfl,_,hh,hc,_⟩;·exact aR ⟨rfl,om.1 aX⟩
 ·refine aV ⟨g,cap,rfl,hc,?_⟩;rcases Ct g w.heap.size with h'|h';·exact h'
  ·rw[Rm h']at hh;cases hh
def vW(w:World)(v:Value)(l:List aY):Prop:=Strs w v l/\∃a c,v=.slice a l.length c/\l.length<=c
theorem vW.below(h:vW w v l)(hb:bG w w'):vW w' v l:=⟨h.1.below hb,h.2⟩
theorem Own.Us(h:Own w B v l)(hs:∀s∈l,s.size<=maxLen)(hl:l.length<=9223372036854775807):vW w v l:=by
 refine⟨h.strs hs hl,?_⟩;rcases h.shape with⟨rfl,rfl⟩|⟨g,cap,rfl,hc,_⟩;·exact⟨_,_,rfl,bE _⟩
 ·exact⟨_,_,rfl,hc⟩
def Ints(w:World)(v:Value)(l:List Int):Prop:=
 ∃(a:Option Addr) (b off cap:Nat),v=.slice a l.length cap/\(0<l.length->a=some ⟨b,off,none⟩)/\l.length<=9223372036854775807/\
  ∀j z,l[j]?=some z->w.cell? ⟨b,off+j,none⟩=some (.int .i64 z)
theorem Ints.below{l:List Int}(h:Ints w v l)(hb:bG w w'):Ints w' v l:=by obtain⟨a,b,off,cap,e,h0,hl,h1⟩:=h;exact⟨a,b,off,cap,e,h0,hl,λj z hz=>aD (h1 j z hz) hb⟩
def fM(w:World)(B:Nat)(v:Value)(l:List Int):Prop:=w.ownsRow B 3 1 v l.length (l.map (Value.int .i64))
theorem fM.ints{l:List Int}(h:fM w B v l)(hl:l.length<=9223372036854775807):Ints w v l:=by
 have h0:=h;rcases h.2 with⟨rfl,h1⟩|⟨g,cap,cur,rfl,_⟩;·have:l=[]:=om.1 aX;subst this;exact⟨none,0,0,0,rfl,λh=>aM h dx,by simp,λj z hz=>aM hz dx⟩
 ·refine⟨_,g,0,cap,rfl,λ_=>rfl,hl,λj z hz=>?_⟩;obtain⟨hj,rfl⟩:=dK.1 hz;have:=vV h0 j aX;rw[eD,this];simp[hj]
theorem own_ne(h:w.ownsRow base e size v n xs)(h':w.ownsRow base' e' size' v' n' xs')(hne:e≠e'):v.ownBlock=none\/v.ownBlock≠v'.ownBlock:=by
 rcases h.2 with⟨rfl,_⟩|⟨g,cap,cur,rfl,_,hh,_⟩;·exact aR rfl
 ·right;intro e1;rcases h'.2 with⟨rfl,_⟩|⟨g',cap',cur',rfl,_,hh',_⟩;·simp[Value.ownBlock]at e1
  ·simp[Value.ownBlock]at e1;subst e1;rw[hh]at hh';simp at hh';exact hne hh'.2
theorem j4{ops:Array Oper}{rest:List Oper}{o:Oper}{a:Act}{Q:Exit->Act->World->Prop}(hgd:o.guard=none)(s x:Operand)(ho:o.op=.call { callee:=.builtin .append,args:=#[s,x],argTypes:=#[22,22] })(base:Nat)(v:Value)(l:List aY)(hs:a.eval s=v)(hown:Own w base v l)(B:Nat)(t:aY)(hx:a.eval x=Y (some (X B 0)) 1 1)(hc:w.cell? (X B 0)=some (A t))(hl:l.length<=1048576)(hbase:base<=w.heap.size)(h:∀v' w',Own w' base v' (l++[t])->w.grownBy w' v.ownBlock->wpList prog ops Q rest (a.put o.dst v') w'):wpList prog ops Q (o::rest) a w:=by
 obtain⟨iS,Ak,hz0,hz1,hz2⟩:=info_parts xM;have hown':w.ownsRow base 9 1 v l.length (l.map Value.string):=hown;refine wpList_append_own _ hgd s x 22 ho base 9 iS (A ⟨#[]⟩) 1 16 underlying22 Ak hz0 hz1 hz2 rfl bO v l.length (l.map Value.string) hs hown' (X B 0) 1 1 [A t] hx rfl (λj u hu=>?_) (λu hu=>?_) (by unfold maxLen;omega) aX hbase ?_
 ·cases j with
  | zero =>simp at hu;subst hu;rw[Addr.add_lit];exact hc
  | succ j=>simp at hu
 ·simp at hu;subst hu;rfl
 ·intro v' w' h1 h2 _;refine h v' w' ?_ h2;unfold Own;rw[aT,fQ];exact h1
theorem mF{ops:Array Oper}{rest:List Oper}{o:Oper}{a:Act}{Q:Exit->Act->World->Prop}(hgd:o.guard=none)(s x:Operand)(ho:o.op=.call { callee:=.builtin .append,args:=#[s,x],argTypes:=#[27,27] })(base:Nat)(v:Value)(l:List Int)(hs:a.eval s=v)(hown:fM w base v l)(B:Nat)(t:Int)(hx:a.eval x=Y (some (X B 0)) 1 1)(hc:w.cell? (X B 0)=some (O t))(hl:l.length<=1048576)(hbase:base<=w.heap.size)(h:∀v' w',fM w' base v' (l++[t])->w.grownBy w' v.ownBlock->wpList prog ops Q rest (a.put o.dst v') w'):wpList prog ops Q (o::rest) a w:=by
 obtain⟨iS,Ak,hz0,hz1,hz2⟩:=info_parts xO;have hown':w.ownsRow base 3 1 v l.length (l.map (Value.int .i64)):=hown;refine wpList_append_own _ hgd s x 27 ho base 3 iS (O 0) 1 8 underlying27 Ak hz0 hz1 hz2 rfl bO v l.length (l.map (Value.int .i64)) hs hown' (X B 0) 1 1 [O t] hx rfl (λj u hu=>?_) (λu hu=>?_) (by unfold maxLen;omega) aX hbase ?_
 ·cases j with
  | zero =>simp at hu;subst hu;rw[Addr.add_lit];exact hc
  | succ j=>simp at hu
 ·simp at hu;subst hu;rfl
 ·intro v' w' h1 h2 _;refine h v' w' ?_ h2;unfold fM;rw[aT,fQ];exact h1
theorem Own.kept(h:Own w B v l)(h2:fM w B v2 l2)(hg:(w.alloc o).grownBy w' v2.ownBlock):Own w' B v l:=
 (uw h o).kept hg (own_ne (uw h o) (uw h2 o) bO)
theorem fM.kept(h2:fM w B v2 l2)(h:Own w B v l)(hg:(w.alloc o).grownBy w' v.ownBlock):fM w' B v2 l2:=
 (uw h2 o).kept hg (own_ne (uw h2 o) (uw h o) bO)
def eF{α:Type}(At:List Value->α->Prop)(w:World)(n e k:Nat)(v:Value)(l:List α):Prop:=
 ∃cs:List (List Value),w.ownsRow n e k v l.length cs.flatten/\cs.length=l.length/\(∀c∈cs,c.length=k/\∀u∈c,u.oneCell'=true)/\
  (∀(i:Nat) c y,cs[i]?=some c->l[i]?=some y->At c y)/\(l=[]->v=.slice none 0 0)
section
variable {α : Type} {At : List Value → α → Prop} {w w' : World} {n e k : Nat} {v : Value} {l : List α}
theorem eF.nil(w:World)(n e k:Nat):eF At w n e k (J) []:=⟨[],kg _ _ _ _,rfl,(λc hc=>aM hc dx),(λi c y hc=>aM hc dx),λ_=>rfl⟩
theorem eF.lt(h:eF At w n e k v l):∀j,v.ownBlock=some j->n<=j/\j<w.heap.size:=by obtain⟨cs,h1,_⟩:=h;exact h1.lt
theorem eF.shape(h:eF At w n e k v l):(v=J/\l=[])\/∃g cap,v=Y (some (X g 0)) l.length cap/\l.length<=cap/\n<=g/\g<w.heap.size/\l≠[]:=by
 obtain⟨cs,h,_,_,_,hz⟩:=h;have hlt:=h.lt;rcases h.2 with⟨rfl,h1⟩|⟨g,cap,cur,rfl,_,hh,hc,_⟩;·exact aR ⟨rfl,om.1 aX⟩
 ·exact aV ⟨g,cap,rfl,hc,(hlt g rfl).1,(hlt g rfl).2,λe=>by have:=hz e;simp at this⟩
theorem eF.below(h:eF At w n e k v l)(hb:bG w w'):eF At w' n e k v l:=by obtain⟨cs,h1,h2⟩:=h;exact⟨cs,eZ h1 hb,h2⟩
theorem eF.old{n':Nat}(h:eF At w n e k v l)(hn:n'<=n):eF At w n' e k v l:=by
 obtain⟨cs,⟨h0,h1⟩,h2⟩:=h;refine⟨cs,⟨h0,?_⟩,h2⟩;rcases h1 with h1|⟨g,cap,cur,hv,hg,r⟩;·exact aR h1
 ·exact aV ⟨g,cap,cur,hv,bF hn hg,r⟩
theorem eF.one{c:List Value}{y:α}(w:World)(e:Nat)(hc:c.length=k)(h1:∀u∈c,u.oneCell'=true)(hy:At c y):eF At (w.alloc (.cells c.toArray e)) w.heap.size e k (Y (some (X w.heap.size 0)) 1 1) [y]:=by
 refine⟨[c],⟨by simp[hc],aV ⟨w.heap.size,1,c.toArray,rfl,bE _,aZ _ _,bE _,by decide,by simp[hc],by simp[<-hc]⟩⟩,rfl,λd hd=>?_,λi d z hd hz=>?_,λh=>aM h dx⟩;·rw[dD]at hd;subst hd;exact⟨hc,h1⟩
 ·cases i with
  | zero=>simp at hd hz;subst hd hz;exact hy
  | succ i=>simp at hd
theorem flat_get{k:Nat}:∀(cs:List (List Value)) (i j:Nat) (hi:i<cs.length),(∀c∈cs,c.length=k)->j<k->cs.flatten[i*k+j]?=(cs[i])[j]?:=by
 intro cs;induction cs with
 | nil=>intro i j hi;simp at hi
 | cons c cs ih=>
  intro i j hi hk hj;have hc:=hk c dx;cases i with
  | zero =>rw[uY,Nat.zero_mul,eD,pQ aX];rfl
  | succ i=>
   rw[uY,oq (by rw[hc,zw];omega),hc];have e1:(i+1)*k+j - k=i*k+j:=by rw[zw];omega
   rw[e1,ih i j (by simpa using hi) (λd hd=>hk d (by simp[hd])) hj];rfl
theorem eF.cell{g cap:Nat}(h:eF At w n e k (Y (some (X g 0)) l.length cap) l){i:Nat}{y:α}(hy:l[i]?=some y):∃c,c.length=k/\(∀j,j<k->w.cell? (X g (i*k+j))=c[j]?)/\At c y:=by
 obtain⟨cs,h1,h2,h3,h4,_⟩:=h;have hi:i<cs.length:=by have:=(dK.1 hy).1;omega
 refine⟨cs[i],(h3 _ (kP hi)).1,λj hj=>?_,h4 i _ y (bD hi) hy⟩;have hik:i*k+j<l.length*k:=by
  have:i+1<=l.length:=by omega
  have h5:=Lc k this;rw[Nat.add_mul,uq]at h5;omega
 rw[vV h1 _ hik];exact flat_get cs i j hi (λc hc=>(h3 c hc).1) hj
theorem eF.cat{g cap:Nat}{l2:List α}{cs cs2:List (List Value)}(h2:cs.length=l.length/\(∀c∈cs,c.length=k/\∀u∈c,u.oneCell'=true)/\(∀(i:Nat) c y,cs[i]?=some c->l[i]?=some y->At c y))(h2':cs2.length=l2.length/\(∀c∈cs2,c.length=k/\∀u∈c,u.oneCell'=true)/\(∀(i:Nat) c y,cs2[i]?=some c->l2[i]?=some y->At c y))(hne:l2≠[])(h1:w'.ownsRow n e k (Y (some (X g 0)) (l.length+l2.length) cap) (l.length+l2.length) (cs.flatten++cs2.flatten)):eF At w' n e k (Y (some (X g 0)) (l.length+l2.length) cap) (l++l2):=by
 obtain⟨a1,a2,a3⟩:=h2;obtain⟨b1,b2,b3⟩:=h2';refine⟨cs++cs2,by rw[aT,DJ];exact h1,by simp[a1,b1],λd hd=>?_,λi d z hd hz=>?_,λh=>aM (Ut.1 h).2 hne⟩
 ·rcases bZ.1 hd with hd|hd;·exact a2 d hd
  ·exact b2 d hd
 ·by_cases hi:i<l.length;·rw[pQ aX]at hd;rw[pQ hi]at hz;exact a3 i d z hd hz
  ·rw[oq aX]at hd;rw[oq aX]at hz;rw[a1]at hd;exact b3 _ d z hd hz
end
theorem qz:∀(cs:List (List Value)),(∀c∈cs,c.length=k)->cs.flatten.length=cs.length*k
 | [],_=>by simp
 | c::cs,h=>by rw[uY,aT,qz cs (λd hd=>h d (by simp[hd])),h c dx,yI,zw,Nat.add_comm]
section
variable {α : Type} {At : List Value → α → Prop} {w : World} {ops : Array Oper} {rest : List Oper} {o : Oper} {a : Act} {Q : Exit → Act → World → Prop}
theorem fZ(hgd:o.guard=none)(s x:Operand)(t e k bytes:Nat)(z:Value)(ho:o.op=.call { callee:=.builtin .append,args:=#[s,x],argTypes:=#[t,t] })(ht:prog.underlying t=some (.slice e))(hinfo:(prog.info? e).map (λi=>(i.zero,i.size,i.bytes))=some (some z,k,bytes))(hzs:z.cells.size=k)(hk:0<k)(hby:bytes<=1024)(n:Nat)(v:Value)(l:List α)(hs:a.eval s=v)(hown:eF At w n e k v l)(n2:Nat)(v2:Value)(l2:List α)(hx:a.eval x=v2)(hown2:eF At w n2 e k v2 l2)(hl:l.length+l2.length<=16777216)(hbase:n<=w.heap.size)(h:∀v' w',eF At w' n e k v' (l++l2)->w.grownBy w' v.ownBlock->wpList prog ops Q rest (a.put o.dst v') w'):wpList prog ops Q (o::rest) a w:=by
 obtain⟨iS,Ak,hz0,hz1,hz2⟩:=info_parts hinfo;have HO:=hown;obtain⟨cs,hr,k1,k2,k3,k4⟩:=hown;rcases hown2.shape with⟨rfl,rfl⟩|⟨g2,cap2,rfl,_,_,_,hne⟩;·refine wpList_append_own_none hgd s x t ho n e iS k ht Ak v l.length cs.flatten hs hr hx ?_;exact h v w (by simpa using HO) ⟨rfl,rfl,rfl,bE _,λ_ _ _=>rfl⟩
 ·obtain⟨cs2,hr2,b1,b2,b3,_⟩:=hown2;have hpos:0<l2.length:=sQ.2 hne;refine wpList_append_lies w hgd s x t ho n e iS z k bytes ht Ak hz0 hz1 hz2 hzs hk v l.length cs.flatten hs hr ⟨g2,0,none⟩ l2.length cap2 cs2.flatten hx (by rw[qz cs2 (λc hc=>(b2 c hc).1),b1]) (λj u hu=>?_) (λu hu=>?_) hpos (by unfold maxLen;omega) (bF (zA hl hby) (by decide)) hbase w.heap.size rfl ?_;·rw[Addr.add_lit,eD,vV hr2 j (by have:=(dK.1 hu).1;rw[qz cs2 (λc hc=>(b2 c hc).1),b1]at this;exact this)];exact hu
  ·obtain⟨c,hc,hu'⟩:=List.mem_flatten.1 hu;exact(b2 c hc).2 u hu'
  ·intro g cap w' h1' h2 _ _;exact h _ w' (eF.cat ⟨k1,k2,k3⟩ ⟨b1,b2,b3⟩ hne h1') h2
end
end Go.Proofs.YtbgkpehhdibaoaaGreatDoor
