/- Memory of which one block turns and all else -/
import Derived.Test.YtfnboapebijcpaaGreatDoorMZAA
import Derived.OwnWalk
import Derived.Deep.AppendLies
import Derived.Laws.OwnMore
import Derived.Deep.OwnRows
import Derived.Laws.AppendOwnNone
import Derived.Lib.SliceRun
set_option maxHeartbeats 16000000
set_option maxRecDepth 100000
namespace Go.Proofs.YtfnboapebijcpaaGreatDoor
open bC
open Go.Proofs.Tryz
open Go.RowKit
def only(P:Nat->Bool)(w:World):World:={ w with heap:=w.heap.mapIdx λi o=>if P i then o else .cells #[] 0 (0,0) }
structure But(p:Nat)(w w':World):Prop where
 os:w'.os=w.os
 tape:w'.tape=w.tape
 output:w'.output=w.output
 size:w.heap.size<=w'.heap.size
 block:∀k,k<w.heap.size->k≠p->w'.heap[k]?=w.heap[k]?
theorem But.refl(p:Nat)(w:World):But p w w:=⟨rfl,rfl,rfl,bM _,λ_ _ _=>rfl⟩
theorem But.trans{p:Nat}{a b c:World}(h:But p a b)(k:But p b c):But p a c:=
 ⟨k.os.trans h.os,k.tape.trans h.tape,k.output.trans h.output,bS h.size k.size,λi hi hp=>(k.block i (ql hi h.size) hp).trans (h.block i hi hp)⟩
theorem But.drew{p:Nat}{w w':World}(h:But p w w')(n:Nat):But p w (w'.drewN n):=⟨h.os,h.tape,h.output,h.size,h.block⟩
theorem But.set{p:Nat}{w w':World}(h:But p w w'){a:Addr}(ha:a.block=p\/w.heap.size<=a.block)(v:Value):But p w (w'.setCell a v):=
 ⟨h.os,h.tape,h.output,by simp only[World.setCell,vw];exact h.size,λk hk hp=>(qm _ _ _ _ (by rcases ha with e|e<;>omega)).trans (h.block k hk hp)⟩
theorem But.below{p:Nat}{w w':World}(h:But p w w'){B:Nat}(hB:B<=p)(hs:B<=w.heap.size):Below B w w':=⟨h.os,h.tape,h.output,h.size,λk hk=>h.block k (by omega) (by omega)⟩
theorem But.at{p q:Nat}{w w':World}(h:But p w w')(hq:q≠p){o:Obj}(ho:w.heap[q]?=some o):w'.heap[q]?=some o:=by
 have hlt:q<w.heap.size:=by
  rcases BR q w.heap.size with h'|h';·exact h'
  ·rw[Jc h']at ho;cases ho
 rw[h.block q hlt hq];exact ho
theorem aj{w:World}{q:Nat}{cs:Array Value}{t:TypeId}(h:w.heap[q]?=some (.cells cs t (0,0)))(i:Nat):w.cell? ⟨q,i,none⟩=cs[i]?:=by unfold World.cell?;rw[h];rfl
theorem aD{w:World}{q:Nat}{cs:Array Value}{t:TypeId}(h:w.heap[q]?=some (.cells cs t (0,0)))(i:Nat):w.frozen? ⟨q,i,none⟩=false:=by unfold World.frozen?;rw[h];simp
theorem aQ{w:World}{q:Nat}{cs:Array Value}{t:TypeId}(h:w.heap[q]?=some (.cells cs t (0,0)))(i:Nat)(v:Value):(w.setCell ⟨q,i,none⟩ v).heap[q]?=some (.cells (cs.setIfInBounds i v) t (0,0)):=by unfold World.setCell;simp[Fv,h]
theorem aV{w:World}{q:Nat}{o:Obj}(h:w.heap[q]?=some o){a:Addr}(ha:q≠a.block)(v:Value):(w.setCell a v).heap[q]?=some o:=by rw[qm _ _ _ _ ha];exact h
theorem block_lt{w:World}{q:Nat}{o:Obj}(h:w.heap[q]?=some o):q<w.heap.size:=by
 rcases BR q w.heap.size with h'|h';·exact h'
 ·rw[Jc h']at h;cases h
theorem gU{w:World}{q:Nat}{o:Obj}(h:w.heap[q]?=some o)(o':Obj):(w.alloc o').heap[q]?=some o:=by rw[(aB w o').block q (block_lt h)];exact h
theorem aJ(w:World)(o:Obj):(w.alloc o).heap[w.heap.size]?=some o:=heap_alloc_new w o
section
variable {α : Type} {At : World → List Value → α → Prop} {w w' : World} {n e k : Nat} {v : Value} {l : List α}
end
theorem qo:(prog.info? 9).map (λi=>(i.zero,i.size,i.bytes))=some (some (.string ⟨#[]⟩),1,16):=by kernel_rfl
theorem zM:(prog.info? 3).map (λi=>(i.zero,i.size,i.bytes))=some (some (.int .i64 0),1,8):=by kernel_rfl
def Own(w:World)(B:Nat)(v:Value)(l:List ByteArray):Prop:=w.ownsRow B 9 1 v l.length (l.map Value.string)
theorem own_below{w w':World}{base e size n:Nat}{v:Value}{xs:List Value}(h:w.ownsRow base e size v n xs)(hb:Below w.heap.size w w'):w'.ownsRow base e size v n xs:=by
 obtain⟨h1,h2⟩:=h;refine⟨h1,?_⟩;rcases h2 with h2|⟨g,cap,cur,hv,hg,hh,r⟩;·exact Or.inl h2
 ·refine Or.inr ⟨g,cap,cur,hv,hg,?_,r⟩;have hlt:g<w.heap.size:=by
   rcases BR g w.heap.size with h'|h';·exact h'
   ·rw[Jc h']at hh;cases hh
  rw[hb.block g hlt];exact hh
theorem Own.strs{w:World}{B:Nat}{v:Value}{l:List ByteArray}(h:Own w B v l)(hs:∀s∈l,s.size<=maxLen)(hl:l.length<=9223372036854775807):Strs w v l:=by
 have h0:=h;rcases h.2 with⟨rfl,h1⟩|⟨g,cap,cur,rfl,_⟩;·have:l=[]:=qp.1 (by omega);subst this;exact⟨none,0,0,0,rfl,λh=>absurd h (by simp),by simp,λs hs=>absurd hs (by simp),λj hj=>absurd hj (by simp)⟩
 ·refine⟨_,g,0,cap,rfl,λ_=>rfl,hl,hs,λj hj=>?_⟩;have:=Jd h0 j (by omega);rw[fT,this];simp[hj]
theorem Own.shape{w:World}{B:Nat}{v:Value}{l:List ByteArray}(h:Own w B v l):(v=.slice none 0 0/\l=[])\/∃g cap,v=.slice (some ⟨g,0,none⟩) l.length cap/\l.length<=cap/\g<w.heap.size:=by
 rcases h.2 with⟨rfl,h1⟩|⟨g,cap,cur,rfl,_,hh,hc,_⟩;·exact Or.inl ⟨rfl,qp.1 (by omega)⟩
 ·refine Or.inr ⟨g,cap,rfl,hc,?_⟩;rcases BR g w.heap.size with h'|h';·exact h'
  ·rw[Jc h']at hh;cases hh
def zN(w:World)(v:Value)(l:List ByteArray):Prop:=Strs w v l/\∃a c,v=.slice a l.length c/\l.length<=c
theorem zN.below{w w':World}{v:Value}{l:List ByteArray}(h:zN w v l)(hb:Below w.heap.size w w'):zN w' v l:=⟨h.1.below hb,h.2⟩
theorem Own.strsC{w:World}{B:Nat}{v:Value}{l:List ByteArray}(h:Own w B v l)(hs:∀s∈l,s.size<=maxLen)(hl:l.length<=9223372036854775807):zN w v l:=by
 refine⟨h.strs hs hl,?_⟩;rcases h.shape with⟨rfl,rfl⟩|⟨g,cap,rfl,hc,_⟩;·exact⟨_,_,rfl,bM _⟩
 ·exact⟨_,_,rfl,hc⟩
def Ints(w:World)(v:Value)(l:List Int):Prop:=
 ∃(a:Option Addr) (b off cap:Nat),v=.slice a l.length cap/\(0<l.length->a=some ⟨b,off,none⟩)/\l.length<=9223372036854775807/\
  ∀j z,l[j]?=some z->w.cell? ⟨b,off+j,none⟩=some (.int .i64 z)
theorem Ints.below{w w':World}{v:Value}{l:List Int}(h:Ints w v l)(hb:Below w.heap.size w w'):Ints w' v l:=by obtain⟨a,b,off,cap,e,h0,hl,h1⟩:=h;exact⟨a,b,off,cap,e,h0,hl,λj z hz=>aA (h1 j z hz) hb⟩
def fD(w:World)(B:Nat)(v:Value)(l:List Int):Prop:=w.ownsRow B 3 1 v l.length (l.map (Value.int .i64))
theorem fD.ints{w:World}{B:Nat}{v:Value}{l:List Int}(h:fD w B v l)(hl:l.length<=9223372036854775807):Ints w v l:=by
 have h0:=h;rcases h.2 with⟨rfl,h1⟩|⟨g,cap,cur,rfl,_⟩;·have:l=[]:=qp.1 (by omega);subst this;exact⟨none,0,0,0,rfl,λh=>absurd h (by simp),by simp,λj z hz=>absurd hz (by simp)⟩
 ·refine⟨_,g,0,cap,rfl,λ_=>rfl,hl,λj z hz=>?_⟩;obtain⟨hj,rfl⟩:=dG.1 hz;have:=Jd h0 j (by omega);rw[fT,this];simp[hj]
theorem qw{w:World}{ops:Array Oper}{rest:List Oper}{o:Oper}{a:Act}{Q:Exit->Act->World->Prop}(hgd:o.guard=none)(s x:Operand)(ho:o.op=.call { callee:=.builtin .append,args:=#[s,x],argTypes:=#[22,22] })(base:Nat)(v:Value)(l:List ByteArray)(hs:a.eval s=v)(hown:Own w base v l)(B:Nat)(t:ByteArray)(hx:a.eval x=.slice (some ⟨B,0,none⟩) 1 1)(hc:w.cell? ⟨B,0,none⟩=some (.string t))(hl:l.length<=1048576)(hbase:base<=w.heap.size)(h:∀v' w',Own w' base v' (l++[t])->w.grownBy w' v.ownBlock->wpList prog ops Q rest (a.put o.dst v') w'):wpList prog ops Q (o::rest) a w:=by
 obtain⟨iS,BA,hz0,hz1,hz2⟩:=info_parts qo;have hown':w.ownsRow base 9 1 v l.length (l.map Value.string):=hown;refine wpList_append_own _ hgd s x 22 ho base 9 iS (.string ⟨#[]⟩) 1 16 underlying22 BA hz0 hz1 hz2 rfl (by decide) v l.length (l.map Value.string) hs hown' ⟨B,0,none⟩ 1 1 [.string t] hx rfl (λj u hu=>?_) (λu hu=>?_) (by unfold maxLen;omega) (by omega) hbase ?_
 ·cases j with
  | zero =>simp at hu;subst hu;rw[Addr.add_lit];exact hc
  | succ j=>simp at hu
 ·simp at hu;subst hu;rfl
 ·intro v' w' h1 h2 _;refine h v' w' ?_ h2;unfold Own;rw[aP,cZ];exact h1
theorem zO{w:World}{ops:Array Oper}{rest:List Oper}{o:Oper}{a:Act}{Q:Exit->Act->World->Prop}(hgd:o.guard=none)(s x:Operand)(ho:o.op=.call { callee:=.builtin .append,args:=#[s,x],argTypes:=#[47,47] })(base:Nat)(v:Value)(l:List Int)(hs:a.eval s=v)(hown:fD w base v l)(B:Nat)(t:Int)(hx:a.eval x=.slice (some ⟨B,0,none⟩) 1 1)(hc:w.cell? ⟨B,0,none⟩=some (.int .i64 t))(hl:l.length<=1048576)(hbase:base<=w.heap.size)(h:∀v' w',fD w' base v' (l++[t])->w.grownBy w' v.ownBlock->wpList prog ops Q rest (a.put o.dst v') w'):wpList prog ops Q (o::rest) a w:=by
 obtain⟨iS,BA,hz0,hz1,hz2⟩:=info_parts zM;have hown':w.ownsRow base 3 1 v l.length (l.map (Value.int .i64)):=hown;refine wpList_append_own _ hgd s x 47 ho base 3 iS (.int .i64 0) 1 8 underlying47 BA hz0 hz1 hz2 rfl (by decide) v l.length (l.map (Value.int .i64)) hs hown' ⟨B,0,none⟩ 1 1 [.int .i64 t] hx rfl (λj u hu=>?_) (λu hu=>?_) (by unfold maxLen;omega) (by omega) hbase ?_
 ·cases j with
  | zero =>simp at hu;subst hu;rw[Addr.add_lit];exact hc
  | succ j=>simp at hu
 ·simp at hu;subst hu;rfl
 ·intro v' w' h1 h2 _;refine h v' w' ?_ h2;unfold fD;rw[aP,cZ];exact h1
def bI{α:Type}(At:List Value->α->Prop)(w:World)(n e k:Nat)(v:Value)(l:List α):Prop:=
 ∃cs:List (List Value),w.ownsRow n e k v l.length cs.flatten/\cs.length=l.length/\(∀c∈cs,c.length=k/\∀u∈c,u.oneCell'=true)/\
  (∀(i:Nat) c y,cs[i]?=some c->l[i]?=some y->At c y)/\(l=[]->v=.slice none 0 0)
section
variable {α : Type} {At : List Value → α → Prop} {w w' : World} {n e k : Nat} {v : Value} {l : List α}
theorem bI.nil(w:World)(n e k:Nat):bI At w n e k (.slice none 0 0) []:=⟨[],nP _ _ _ _,rfl,(λc hc=>absurd hc (by simp)),(λi c y hc=>absurd hc (by simp)),λ_=>rfl⟩
theorem bI.lt(h:bI At w n e k v l):∀j,v.ownBlock=some j->n<=j/\j<w.heap.size:=by obtain⟨cs,h1,_⟩:=h;exact h1.lt
theorem bI.shape(h:bI At w n e k v l):(v=.slice none 0 0/\l=[])\/∃g cap,v=.slice (some ⟨g,0,none⟩) l.length cap/\l.length<=cap/\n<=g/\g<w.heap.size/\l≠[]:=by
 obtain⟨cs,h,_,_,_,hz⟩:=h;have hlt:=h.lt;rcases h.2 with⟨rfl,h1⟩|⟨g,cap,cur,rfl,_,hh,hc,_⟩;·exact Or.inl ⟨rfl,qp.1 (by omega)⟩
 ·exact Or.inr ⟨g,cap,rfl,hc,(hlt g rfl).1,(hlt g rfl).2,λe=>by have:=hz e;simp at this⟩
theorem bI.below(h:bI At w n e k v l)(hb:Below w.heap.size w w'):bI At w' n e k v l:=by obtain⟨cs,h1,h2⟩:=h;exact⟨cs,own_below h1 hb,h2⟩
theorem bI.old{n':Nat}(h:bI At w n e k v l)(hn:n'<=n):bI At w n' e k v l:=by
 obtain⟨cs,⟨h0,h1⟩,h2⟩:=h;refine⟨cs,⟨h0,?_⟩,h2⟩;rcases h1 with h1|⟨g,cap,cur,hv,hg,r⟩;·exact Or.inl h1
 ·exact Or.inr ⟨g,cap,cur,hv,bS hn hg,r⟩
theorem bI.one{c:List Value}{y:α}(w:World)(e:Nat)(hc:c.length=k)(h1:∀u∈c,u.oneCell'=true)(hy:At c y):bI At (w.alloc (.cells c.toArray e)) w.heap.size e k (.slice (some ⟨w.heap.size,0,none⟩) 1 1) [y]:=by
 refine⟨[c],⟨by simp[hc],Or.inr ⟨w.heap.size,1,c.toArray,rfl,bM _,aJ _ _,bM _,by decide,by simp[hc],by simp[<-hc]⟩⟩,rfl,λd hd=>?_,λi d z hd hz=>?_,λh=>absurd h (by simp)⟩;·rw[iy]at hd;subst hd;exact⟨hc,h1⟩
 ·cases i with
  | zero=>simp at hd hz;subst hd hz;exact hy
  | succ i=>simp at hd
theorem flat_get{k:Nat}:∀(cs:List (List Value)) (i j:Nat) (hi:i<cs.length),(∀c∈cs,c.length=k)->j<k->cs.flatten[i*k+j]?=(cs[i])[j]?:=by
 intro cs;induction cs with
 | nil=>intro i j hi;simp at hi
 | cons c cs ih=>
  intro i j hi hk hj;have hc:=hk c (by simp);cases i with
  | zero =>rw[qx,Nat.zero_mul,fT,rE (by omega)];rfl
  | succ i=>
   rw[qx,uf (by rw[hc,Nat.succ_mul];omega),hc];have e1:(i+1)*k+j - k=i*k+j:=by rw[Nat.succ_mul];omega
   rw[e1,ih i j (by simpa using hi) (λd hd=>hk d (by simp[hd])) hj];rfl
theorem bI.cell{g cap:Nat}(h:bI At w n e k (.slice (some ⟨g,0,none⟩) l.length cap) l){i:Nat}{y:α}(hy:l[i]?=some y):∃c,c.length=k/\(∀j,j<k->w.cell? ⟨g,i*k+j,none⟩=c[j]?)/\At c y:=by
 obtain⟨cs,h1,h2,h3,h4,_⟩:=h;have hi:i<cs.length:=by have:=(dG.1 hy).1;omega
 refine⟨cs[i],(h3 _ (fI hi)).1,λj hj=>?_,h4 i _ y (aU hi) hy⟩;have hik:i*k+j<l.length*k:=by
  have:i+1<=l.length:=by omega
  have h5:=Nat.mul_le_mul_right k this;rw[Nat.add_mul,Nat.one_mul]at h5;omega
 rw[Jd h1 _ hik];exact flat_get cs i j hi (λc hc=>(h3 c hc).1) hj
theorem bI.cat{g cap:Nat}{l2:List α}{cs cs2:List (List Value)}(h2:cs.length=l.length/\(∀c∈cs,c.length=k/\∀u∈c,u.oneCell'=true)/\(∀(i:Nat) c y,cs[i]?=some c->l[i]?=some y->At c y))(h2':cs2.length=l2.length/\(∀c∈cs2,c.length=k/\∀u∈c,u.oneCell'=true)/\(∀(i:Nat) c y,cs2[i]?=some c->l2[i]?=some y->At c y))(hne:l2≠[])(h1:w'.ownsRow n e k (.slice (some ⟨g,0,none⟩) (l.length+l2.length) cap) (l.length+l2.length) (cs.flatten++cs2.flatten)):bI At w' n e k (.slice (some ⟨g,0,none⟩) (l.length+l2.length) cap) (l++l2):=by
 obtain⟨a1,a2,a3⟩:=h2;obtain⟨b1,b2,b3⟩:=h2';refine⟨cs++cs2,by rw[aP,Dx];exact h1,by simp[a1,b1],λd hd=>?_,λi d z hd hz=>?_,λh=>absurd (Kq.1 h).2 hne⟩
 ·rcases cK.1 hd with hd|hd;·exact a2 d hd
  ·exact b2 d hd
 ·by_cases hi:i<l.length;·rw[rE (by omega)]at hd;rw[rE hi]at hz;exact a3 i d z hd hz
  ·rw[uf (by omega)]at hd;rw[uf (by omega)]at hz;rw[a1]at hd;exact b3 _ d z hd hz
end
theorem pE{k:Nat}:∀(cs:List (List Value)),(∀c∈cs,c.length=k)->cs.flatten.length=cs.length*k
 | [],_=>by simp
 | c::cs,h=>by rw[qx,aP,pE cs (λd hd=>h d (by simp[hd])),h c (by simp),xJ,Nat.succ_mul,Nat.add_comm]
section
variable {α : Type} {At : List Value → α → Prop} {w : World} {ops : Array Oper} {rest : List Oper} {o : Oper} {a : Act} {Q : Exit → Act → World → Prop}
theorem bW(hgd:o.guard=none)(s x:Operand)(t e k bytes:Nat)(z:Value)(ho:o.op=.call { callee:=.builtin .append,args:=#[s,x],argTypes:=#[t,t] })(ht:prog.underlying t=some (.slice e))(hinfo:(prog.info? e).map (λi=>(i.zero,i.size,i.bytes))=some (some z,k,bytes))(hzs:z.cells.size=k)(hk:0<k)(hby:bytes<=1024)(n:Nat)(v:Value)(l:List α)(hs:a.eval s=v)(hown:bI At w n e k v l)(n2:Nat)(v2:Value)(l2:List α)(hx:a.eval x=v2)(hown2:bI At w n2 e k v2 l2)(hl:l.length+l2.length<=16777216)(hbase:n<=w.heap.size)(h:∀v' w',bI At w' n e k v' (l++l2)->w.grownBy w' v.ownBlock->wpList prog ops Q rest (a.put o.dst v') w'):wpList prog ops Q (o::rest) a w:=by
 obtain⟨iS,BA,hz0,hz1,hz2⟩:=info_parts hinfo;have HO:=hown;obtain⟨cs,hr,k1,k2,k3,k4⟩:=hown;rcases hown2.shape with⟨rfl,rfl⟩|⟨g2,cap2,rfl,_,_,_,hne⟩;·refine wpList_append_own_none hgd s x t ho n e iS k ht BA v l.length cs.flatten hs hr hx ?_;exact h v w (by simpa using HO) ⟨rfl,rfl,rfl,bM _,λ_ _ _=>rfl⟩
 ·obtain⟨cs2,hr2,b1,b2,b3,_⟩:=hown2;have hpos:0<l2.length:=Fw.2 hne;refine wpList_append_lies w hgd s x t ho n e iS z k bytes ht BA hz0 hz1 hz2 hzs hk v l.length cs.flatten hs hr ⟨g2,0,none⟩ l2.length cap2 cs2.flatten hx (by rw[pE cs2 (λc hc=>(b2 c hc).1),b1]) (λj u hu=>?_) (λu hu=>?_) hpos (by unfold maxLen;omega) (bS (Nat.mul_le_mul hl hby) (by decide)) hbase w.heap.size rfl ?_;·rw[Addr.add_lit,fT,Jd hr2 j (by have:=(dG.1 hu).1;rw[pE cs2 (λc hc=>(b2 c hc).1),b1]at this;exact this)];exact hu
  ·obtain⟨c,hc,hu'⟩:=List.mem_flatten.1 hu;exact(b2 c hc).2 u hu'
  ·intro g cap w' h1' h2 _ _;exact h _ w' (bI.cat ⟨k1,k2,k3⟩ ⟨b1,b2,b3⟩ hne h1') h2
end
theorem iZ(w:World)(s:ByteArray)(hs:s.size<=maxLen):Calls prog 136 #[.string s] w λe w'=>e=.returned (.bool (bL s.data.toList))/\w'=w:=by
 unfold maxLen at hs;by_cases h1:s.size<1
 ·have HF:Hid (bL s.data.toList=false):=by show bL s.data.toList=false;unfold bL;rw[fA];simp;omega
  go_enter func136,ntmps136;go_wp2;go_ret;exact⟨aH HF.symm,rfl⟩
 ·by_cases h8:8<s.size
  ·have HF:Hid (bL s.data.toList=false):=by show bL s.data.toList=false;unfold bL;rw[fA];simp;omega
   go_enter func136,ntmps136;go_wp2;go_ret;exact⟨aH HF.symm,rfl⟩
  ·have HF:Hid (bL s.data.toList=s.data.toList.all fF):=by show bL s.data.toList=_;unfold bL;rw[fA];rw[decide_eq_true (by omega:1<=s.size),decide_eq_true (by omega:s.size<=8)];rfl
   go_enter func136,ntmps136;go_wp2;go_loop [14] (λi=>∃k:Nat,k<=s.size/\i=.int .i64 k/\∀j (hj:j<s.size),j<k->fF s[j]=true) (λi=>s.size - (intOf i).toNat);case atStart=>exact⟨0,bJ _,rfl,λj hj hd=>absurd hd (dY _)⟩
   case round=>
    obtain⟨k,hk,rfl,hall⟩:=hrel;have HA:Hid (∀j (hj:j<s.size),j<k->fF s[j]=true):=hall;clear hall;by_cases hlt:k<s.size
    ·go_wp2;·go_ret;exact⟨aH (by rw[HF,qj s k hlt (by simp[fF];omega)]),rfl⟩
     ·go_round;case rel=>exact⟨k+1,by omega,by go_num,λj hj hd=>by
       by_cases e:j=k;·subst e;simp[fF];omega
       ·exact HA j hj (by omega)⟩
      case measure=>simp[intOf];omega
     ·go_ret;exact⟨aH (by rw[HF,qj s k hlt (by simp[fF];omega)]),rfl⟩
    ·go_wp2;go_ret;exact⟨aH (by rw[HF,Dw s (λj hj=>HA j hj (by omega))]),rfl⟩
theorem Xh{p:ByteArray->Bool}{l:List ByteArray}(h:∀d,d<l.length->p (l.getD d ByteArray.empty)=true):l.all p=true:=by rw[iO];intro x hx;obtain⟨i,hi,rfl⟩:=eX.1 hx;have:=h i hi;simpa[hi]using this
theorem Xi{p:ByteArray->Bool}{l:List ByteArray}{d:Nat}(hd:d<l.length)(h:p (l.getD d ByteArray.empty)=false):l.all p=false:=by rw[BP];exact⟨l[d],fI hd,by simp[hd]at h;simp[h]⟩
theorem zP(w:World)(v:Value)(ss:List ByteArray)(h:Strs w v ss):Calls prog 137 #[v] w λe w'=>e=.returned (.bool (ss.all λs=>bL s.data.toList))/\w'=w:=by
 obtain⟨a,b,off,cap,rfl,ha,hl,hs,hc⟩:=h;obtain⟨len,hlen⟩:=aG ss.length;have HL:=hide hlen;rw[<-hlen]at ha hl hc ⊢;have HA:=hide ha;have HC:=hide hc;have HS:Hid (∀j,j<len->(ss.getD j ByteArray.empty).size<=maxLen):=hide (λj hj=>hs _ (by
  have hj':j<ss.length:=by omega
  rw[show ss.getD j ByteArray.empty=ss[j] by simp[hj']];exact fI hj'))
 clear ha hc hs hlen;go_enter func137,ntmps137;go_wp2;go_loop [7] (λi=>∃k:Nat,k<=len/\i=.int .i64 k/\∀d,d<k->bL (ss.getD d ByteArray.empty).data.toList=true) (λi=>len - (intOf i).toNat);case atStart=>exact⟨0,bJ _,rfl,λd hd=>absurd hd (dY _)⟩
 case round=>
  obtain⟨k,hk,rfl,hall⟩:=hrel;have cO:=hide hall;clear hall;by_cases hlt:k<len
  ·obtain rfl:=HA (by omega);have hck:=HC k hlt;have hsk:=HS k hlt;obtain⟨s,hse⟩:=aG (ss.getD k ByteArray.empty);have xY:=hide hse;rw[<-hse]at hck hsk;clear hse;go_wp2_with fail;refine(iZ _ s hsk).mono ?_;rintro e w' ⟨rfl,hw⟩;subst hw;cases hb:bL s.data.toList;·have HB:=hide hb;go_wp2;go_ret;exact⟨aH (Xi (d:=k) (by have:=HL.out;omega) (by rw[<-xY];exact HB)).symm,rfl⟩
   ·have HB:=hide hb;go_wp2;go_round;case rel=>exact⟨k+1,by omega,by go_num,λd hd=>by
     by_cases e:d=k;·subst e;rw[<-xY];exact HB
     ·exact cO d (by omega)⟩
    case measure=>simp[intOf];omega
  ·go_wp2;go_ret;exact⟨aH (Xh (λd hd=>cO d (by have:=HL.out;omega))).symm,rfl⟩
theorem vas_all{p:Va->Bool}{l:List Va}(h:∀(i:Nat) (x:Va),l[i]?=some x->p x=true):l.all p=true:=by rw[iO];intro x hx;obtain⟨i,hi,rfl⟩:=eX.1 hx;exact h i _ (aU hi)
theorem Tq{p:Va->Bool}{l:List Va}{i:Nat}{x:Va}(hx:l[i]?=some x)(h:p x=false):l.all p=false:=by rw[BP];exact⟨x,gD hx,by simp[h]⟩
theorem Nk(w:World)(v:Value)(vs:List Va)(h:Dv w v vs):Calls prog 138 #[v] w λe w'=>e=.returned (.bool (vs.all λs=>bL s.name.data.toList&&bL s.level.data.toList))/\Below w.heap.size w w':=by
 obtain⟨a,b,off,cap,rfl,ha,hl,hc⟩:=h;obtain⟨len,hlen⟩:=aG vs.length;have HL:=hide hlen;rw[<-hlen]at ha hl ⊢;have HA:=hide ha;have HC:=hide hc;clear ha hc hlen;go_enter func138,ntmps138;go_wp2;go_loopw[7] (λi wr=>∃k:Nat,k<=len/\i=.int .i64 k/\(∀d y,d<k->vs[d]?=some y->(bL y.name.data.toList&&bL y.level.data.toList)=true)/\Below w.heap.size w wr) (λi _=>len - (intOf i).toNat);case atStart=>exact⟨0,bJ _,rfl,λd y hd=>absurd hd (dY _),aX _ _⟩
 case round=>
  obtain⟨k,hk,rfl,hall,hnx⟩:=hrel;have cO:=hide hall;clear hall;by_cases hlt:k<len
  ·obtain rfl:=HA (by omega);obtain⟨y,hy⟩:∃y,vs[k]?=some y:=⟨_,aU (by rw[<-HL];exact hlt)⟩;obtain⟨k1,k2,g0,g1⟩:=HC k y hy;have HY:=hide hy;have u0:=aA g0 hnx;have u1:=aA g1 hnx;have bR:=hide (hnx.trans ((aB wr (.cells #[.string y.name,.string y.level] 124)).mono hnx.size));clear g0 g1 hy hnx;go_wp2_with fail;refine(iZ _ y.name k1).mono ?_;rintro e w' ⟨rfl,hw⟩;subst hw;cases hb:bL y.name.data.toList;·have HB:=hide hb;go_wp2;go_ret;exact⟨aH (Tq HY (by rw[HB];rfl)).symm,bR⟩
   ·have HB:=hide hb;go_wp2_with fail;refine(iZ _ y.level k2).mono ?_;rintro e w' ⟨rfl,hw⟩;subst hw;cases hb2:bL y.level.data.toList;·have HB2:=hide hb2;go_wp2;go_ret;exact⟨aH (Tq HY (by rw[HB,HB2];rfl)).symm,bR⟩
    ·have HB2:=hide hb2;go_wp2;go_roundw;case rel=>exact⟨k+1,by omega,by go_num,λd z hd hz=>by
      by_cases e:d=k;·subst e;rw[HY]at hz;cases hz;rw[HB,HB2];rfl
      ·exact cO d z (by omega) hz,bR⟩
     case measure=>simp[intOf];omega
  ·go_wp2;go_ret;exact⟨aH (vas_all (λd z hz=>cO d z (by have:=(dG.1 hz).1;have:=HL.out;omega) hz)).symm,hnx⟩
section
variable {w : World} {ops : Array Oper} {rest : List Oper} {o : Oper} {a : Act} {Q : Exit → Act → World → Prop}
theorem Ee{t e:TypeId}{iS:TypeInfo}{k base n:Nat}{v:Value}{xs:List Value}(ht:prog.underlying t=some (.slice e))(hi:prog.info? e=some iS)(hown:w.ownsRow base e k v n xs)(a2:Option Addr)(c2:Nat)(ty:TypeId):(Builtin.append_ #[t,t] ty #[v,.slice a2 0 c2]).run prog w=.ok v w:=by
 rcases hown.2 with⟨rfl,rfl⟩|⟨g,cap,cur,rfl,_,_,hnc,_⟩;·cases a2<;>simp[Builtin.append_,run_underlying ht,sizeOf,typeInfo,hi,Builtin.lenOf,Builtin.firstCells,loadCells,loadCellsFrom]
 ·cases a2<;>simp[Builtin.append_,run_underlying ht,sizeOf,typeInfo,hi,Builtin.lenOf,Builtin.firstCells,loadCells,loadCellsFrom,hnc,storeCells]
theorem xK{K:Act->World->Prop}(s x:Operand)(t e k bytes:Nat)(z:Value)(ho:o.op=.call { callee:=.builtin .append,args:=#[s,x],argTypes:=#[t,t] })(ht:prog.underlying t=some (.slice e))(hinfo:(prog.info? e).map (λi=>(i.zero,i.size,i.bytes))=some (some z,k,bytes))(hzs:z.cells.size=k)(hk:0<k)(base:Nat)(v:Value)(n:Nat)(xs:List Value)(hs:a.eval s=v)(hown:w.ownsRow base e k v n xs)(a2:Option Addr)(b2 off2 m c2:Nat)(news:List Value)(hx:a.eval x=.slice a2 m c2)(h0:0<m->a2=some ⟨b2,off2,none⟩)(hl:news.length=m*k)(hnews:∀j u,news[j]?=some u->w.cell? ⟨b2,off2+j,none⟩=some u)(h1:∀u∈news,u.oneCell'=true)(h63:n+m<=maxLen)(hbytes:(n+m)*bytes<=140737488355328)(hbase:base<=w.heap.size)(h:∀v' w',w'.ownsRow base e k v' (n+m) (xs++news)->w.grownBy w' v.ownBlock->(m=0->v'=v)->(0<m->∃g cap,v'=.slice (some ⟨g,0,none⟩) (n+m) cap/\(v.ownBlock=some g\/g=w.heap.size))->K (a.put o.dst v') w'):Oper.wp prog o a w K Q:=by
 obtain⟨iS,BA,hz0,hz1,hz2⟩:=info_parts hinfo;by_cases hm:0<m
 ·obtain rfl:=h0 hm
  exact wp_append_lies w s x t ho base e iS z k bytes ht BA hz0 hz1 hz2 hzs hk v n xs hs hown ⟨b2,off2,none⟩ m c2 news hx hl (λj u hu=>by rw[Addr.add_lit];exact hnews j u hu) h1 hm h63 hbytes hbase w.heap.size rfl
   λg cap w' h2 h3 h4 _=>h _ w' h2 h3 (λe0=>by omega) (λ_=>⟨g,cap,rfl,h4⟩)
 ·obtain rfl:m=0:=by omega
  have hn:news=[]:=qp.1 (by omega);subst hn;have hrun:=λty=>Ee (w:=w) ht BA hown a2 c2 ty;unfold Oper.wp;simp[execOp,ho,resolve,invoke,builtin,hs,hx,hrun,Result.andThen];exact h v w (by simpa using hown) ⟨rfl,rfl,rfl,bM _,λ_ _ _=>rfl⟩ (λ_=>rfl) (λe0=>absurd e0 (by omega))
theorem fV(hgd:o.guard=none)(s x:Operand)(t e k bytes:Nat)(z:Value)
  (ho:o.op=.call { callee:=.builtin .append,args:=#[s,x],argTypes:=#[t,t] })(ht:prog.underlying t=some (.slice e))(hinfo:(prog.info? e).map (λi=>(i.zero,i.size,i.bytes))=some (some z,k,bytes))(hzs:z.cells.size=k)(hk:0<k)
  (base:Nat)(v:Value)(n:Nat)(xs:List Value)(hs:a.eval s=v)(hown:w.ownsRow base e k v n xs)(a2:Option Addr)(b2 off2 m c2:Nat)(news:List Value)(hx:a.eval x=.slice a2 m c2)(h0:0<m->a2=some ⟨b2,off2,none⟩)
  (hl:news.length=m*k)(hnews:∀j u,news[j]?=some u->w.cell? ⟨b2,off2+j,none⟩=some u)(h1:∀u∈news,u.oneCell'=true)(h63:n+m<=maxLen)(hbytes:(n+m)*bytes<=140737488355328)(hbase:base<=w.heap.size)
  (h:∀v' w',w'.ownsRow base e k v' (n+m) (xs++news)->w.grownBy w' v.ownBlock->(m=0->v'=v)->(0<m->∃g cap,v'=.slice (some ⟨g,0,none⟩) (n+m) cap/\(v.ownBlock=some g\/g=w.heap.size))->wpList prog ops Q rest (a.put o.dst v') w'):wpList prog ops Q (o::rest) a w:=
 wpList_plain hgd λ_ hK=>xK s x t e k bytes z ho ht hinfo hzs hk base v n xs hs hown a2 b2 off2 m c2 news hx h0 hl hnews h1 h63 hbytes hbase λv' w' h2 h3 h4 h5=>hK _ _ (h v' w' h2 h3 h4 h5)
end
theorem Je(w:World)(e k:Nat):(w.alloc (.cells #[] e)).ownsRow w.heap.size e k (.slice (some ⟨w.heap.size,0,none⟩) 0 0) 0 []:=
 ⟨by simp,Or.inr ⟨w.heap.size,0,#[],rfl,bM _,heap_alloc_new w _,bM _,by decide,by simp,by simp⟩⟩
theorem Xj{α:Type}{At:List Value->α->Prop}{w:World}{b off k:Nat}{l:List α}(hk:0<k)(h:∀(i:Nat) y,l[i]?=some y->∃c:List Value,c.length=k/\(∀j u,c[j]?=some u->w.cell? ⟨b,off+i*k+j,none⟩=some u)/\At c y):∃cs:List (List Value),cs.length=l.length/\(∀c∈cs,c.length=k)/\(∀(i:Nat) c y,cs[i]?=some c->l[i]?=some y->At c y)/\∀(j:Nat) u,cs.flatten[j]?=some u->w.cell? ⟨b,off+j,none⟩=some u:=by
 obtain⟨cs,h1,h2⟩:∃cs:List (List Value),cs.length=l.length/\∀(i:Nat) c,cs[i]?=some c->∃y,l[i]?=some y/\c.length=k/\(∀j u,c[j]?=some u->w.cell? ⟨b,off+i*k+j,none⟩=some u)/\At c y:=by
  have hch:∀i,i<l.length->∃c:List Value,∃y,l[i]?=some y/\c.length=k/\(∀j u,c[j]?=some u->w.cell? ⟨b,off+i*k+j,none⟩=some u)/\At c y:=λi hi=>by obtain⟨c,hc⟩:=h i _ (aU hi);exact⟨c,_,aU hi,hc⟩
  refine⟨(List.finRange l.length).map λi=>Classical.choose (hch i.1 i.2),by simp,λi c hc=>?_⟩;rw[rF]at hc;obtain⟨q,hq,rfl⟩:=Kr.1 hc;have hqi:q.1=i:=by obtain⟨h1,h2⟩:=dG.1 hq;rw[List.getElem_finRange]at h2;rw[<-h2];rfl
  subst hqi;exact Classical.choose_spec (hch q.1 q.2)
 have h3:∀c∈cs,c.length=k:=λc hc=>by obtain⟨i,hi,rfl⟩:=eX.1 hc;obtain⟨_,_,hcc,_⟩:=h2 i _ (aU hi);exact hcc
 refine⟨cs,h1,h3,λi c y hc hy=>?_,λj u hu=>?_⟩;·obtain⟨y',hy',_,_,hcc⟩:=h2 i c hc;rw[hy']at hy;cases hy;exact hcc
 ·have hj:j<cs.length*k:=by have:=(dG.1 hu).1;rwa[pE cs h3]at this
  have hi:j / k<cs.length:=Nat.div_lt_of_lt_mul (by rw[Nat.mul_comm];exact hj);have hmd:=Nat.div_add_mod j k;have hf:=flat_get (k:=k) cs (j / k) (j % k) hi h3 (Nat.mod_lt _ hk);rw[Nat.mul_comm (j / k) k,hmd,hu]at hf;obtain⟨_,_,_,hcell,_⟩:=h2 (j / k) _ (aU hi);have:=hcell (j % k) u hf.symm;rwa[Nat.add_assoc,Nat.mul_comm (j / k) k,hmd]at this
theorem Tt{w:World}{base e k n:Nat}{cs:List (List Value)}{g cap:Nat}(h:w.ownsRow base e k (.slice (some ⟨g,0,none⟩) n cap) n cs.flatten)(hn:cs.length=n)(hk:∀c∈cs,c.length=k){i:Nat}{c:List Value}(hc:cs[i]?=some c){j:Nat}(hj:j<k):w.cell? ⟨g,i*k+j,none⟩=c[j]?:=by
 obtain⟨hi,rfl⟩:=dG.1 hc;have hik:i*k+j<n*k:=by
  have:i+1<=n:=by omega
  have h5:=Nat.mul_le_mul_right k this;rw[Nat.add_mul,Nat.one_mul]at h5;omega
 rw[Jd h _ hik];exact flat_get cs i j hi hk hj
theorem Ef(w:World)(v:Value)(n a b c:Nat)(Z:Nat->Nat->Bool)(hG:mO w v n Z)(hn:n<=6)(ha:a<n)(hb:b<n)(hc:c<n):Calls prog 329 #[v,.int .i64 a,.int .i64 b,.int .i64 c] w λe w'=>e=.returned (.bool (Fj Z n a b c))/\w'=w:=by
 obtain⟨gb,go,gc,RB,RO,C,rfl,h1,h2⟩:=hG;have ra:=h1 a ha;have rb:=h1 b hb;have rc:=h1 c hc;go_enter func329,ntmps329;go_wp2;go_loop [12] (λi=>∃k:Nat,k<=n/\i=.int .i64 k/\∀d,d<k->(!(Z a d&&Z b d&&!Z c d))=true) (λi=>n - (intOf i).toNat);case atStart=>exact⟨0,bJ _,rfl,λd hd=>absurd hd (dY _)⟩
 case round=>
  obtain⟨k,hk,rfl,hall⟩:=hrel;have HA:Hid (∀d,d<k->(!(Z a d&&Z b d&&!Z c d))=true):=hall;clear hall;by_cases hlt:k<n
  ·have ca:=h2 a k ha hlt;have cb:=h2 b k hb hlt;have cc:=h2 c k hc hlt;clear h1 h2;cases za:Z a k
   ·rw[za]at ca;go_wp2;go_round;case rel=>exact⟨k+1,by omega,by go_num,λd hd=>by
     by_cases e:d=k;·subst e;simp[za]
     ·exact HA d (by omega)⟩
    case measure=>simp[intOf];omega
   ·rw[za]at ca;cases zb:Z b k
    ·rw[zb]at cb;go_wp2;go_round;case rel=>exact⟨k+1,by omega,by go_num,λd hd=>by
      by_cases e:d=k;·subst e;simp[zb]
      ·exact HA d (by omega)⟩
     case measure=>simp[intOf];omega
    ·rw[zb]at cb;cases zc:Z c k;·rw[zc]at cc;go_wp2;go_ret;exact⟨aH (bC.all_false hlt (by simp[za,zb,zc])).symm,rfl⟩
     ·rw[zc]at cc;go_wp2;go_round;case rel=>exact⟨k+1,by omega,by go_num,λd hd=>by
       by_cases e:d=k;·subst e;simp[zc]
       ·exact HA d (by omega)⟩
      case measure=>simp[intOf];omega
  ·go_wp2;go_ret;exact⟨aH (bC.all_true (λd hd=>HA d (by omega))).symm,rfl⟩
theorem Xk(w:World)(v:Value)(n a b:Nat)(Z:Nat->Nat->Bool)(hG:mO w v n Z)(hn:n<=6)(ha:a<n)(hb:b<n):Calls prog 273 #[v,.int .i64 a,.int .i64 b] w λe w'=>e=.returned (.bool (bC.fH Z n a b))/\w'=w:=by
 obtain⟨gb,go,gc,RB,RO,C,rfl,h1,h2⟩:=hG;have ra:=h1 a ha;have rb:=h1 b hb;have cab:=h2 b a hb ha;cases hab:(((a:Int) != (b:Int))&&Z b a)
 ·have HF:Hid (bC.fH Z n a b=(List.range n).all (zI Z a b)):=by
   have e:(a != b)=((a:Int) != (b:Int)):=by rw[rD];simp only[bne_iff_ne,ne_eq];omega
   show bC.fH Z n a b=_;unfold bC.fH;rw[e,hab];rfl
  have hguard:((a:Int) != (b:Int))=false\/((a:Int) != (b:Int))=true/\Z b a=false:=by
   cases h:((a:Int) != (b:Int));·exact Or.inl rfl
   ·rw[h]at hab;exact Or.inr ⟨rfl,by simpa using hab⟩
  clear hab;rcases hguard with hg|⟨hg,hz⟩;case' inr=>rw[hz]at cab
  all_goals
   go_enter func273,ntmps273;go_wp2;clear cab;go_loop [22] (λi=>∃k:Nat,k<=n/\i=.int .i64 k/\∀d,d<k->zI Z a b d=true) (λi=>n - (intOf i).toNat);case atStart=>exact⟨0,bJ _,rfl,λd hd=>absurd hd (dY _)⟩
   case round=>
    obtain⟨k,hk,rfl,hall⟩:=hrel;have HA:Hid (∀d,d<k->zI Z a b d=true):=hall;clear hall;by_cases hlt:k<n
    ·have ca:=h2 a k ha hlt;have cb:=h2 b k hb hlt;clear h1 h2;cases zb:Z b k
     ·rw[zb]at cb;go_wp2;go_round;case rel=>exact⟨k+1,by omega,by go_num,λd hd=>by
       by_cases e:d=k;·subst e;simp[zI,zb]
       ·exact HA d (by omega)⟩
      case measure=>simp[intOf];omega
     ·rw[zb]at cb;cases za:Z a k;·rw[za]at ca;go_wp2;go_ret;exact⟨aH (by rw[HF];exact(bC.all_false hlt (by simp[zI,za,zb])).symm),rfl⟩
      ·rw[za]at ca;go_wp2;go_round;case rel=>exact⟨k+1,by omega,by go_num,λd hd=>by
        by_cases e:d=k;·subst e;simp[zI,za]
        ·exact HA d (by omega)⟩
       case measure=>simp[intOf];omega
    ·go_wp2;go_ret;exact⟨aH (by rw[HF];exact(bC.all_true (λd hd=>HA d (by omega))).symm),rfl⟩
 ·obtain⟨hg,hz⟩:((a:Int) != (b:Int))=true/\Z b a=true:=by simpa using hab
  have HF:Hid (bC.fH Z n a b=false):=by
   have e:(a != b)=((a:Int) != (b:Int)):=by rw[rD];simp only[bne_iff_ne,ne_eq];omega
   show bC.fH Z n a b=_;unfold bC.fH;rw[e,hab];rfl
  clear hab;rw[hz]at cab;go_enter func273,ntmps273;go_wp2;go_ret;exact⟨aH HF.symm,rfl⟩
theorem Qu(w:World)(b off n cap:Nat)(R:Nat->Bool)(hn:n<=6)(hc:∀c,c<n->w.cell? ⟨b,off+c,none⟩=some (.bool (R c))):
 Calls prog 361 #[.slice (some ⟨b,off,none⟩) n cap,.bool false] w λe w' =>(∃i:Int,e=.returned (.int .i64 i)/\decide (0<=i)=!((List.range n).all R))/\w'=w:=by
 go_enter func361,ntmps361
 go_wp2
 go_loop [8] (λi=>∃k:Nat,k<=n/\i=.int .i64 k/\∀d,d<k->R d=true) (λi=>n - (intOf i).toNat)
 case atStart=>exact⟨0,bJ _,rfl,λd hd=>absurd hd (dY _)⟩
 case round=>
  obtain⟨k,hk,rfl,hall⟩:=hrel;have HA:Hid (∀d,d<k->R d=true):=hall;clear hall;by_cases hlt:k<n
  ·have ca:=hc k hlt;cases za:R k;·rw[za]at ca;go_wp2;go_ret;exact⟨⟨_,rfl,by rw[bC.all_false hlt za];simp⟩,rfl⟩
   ·rw[za]at ca;go_wp2;go_round;case rel=>exact⟨k+1,by omega,by go_num,λd hd=>by
     by_cases e:d=k;·subst e;exact za
     ·exact HA d (by omega)⟩
    case measure=>simp[intOf];omega
  ·go_wp2;go_ret;exact⟨⟨-1,rfl,by rw[bC.all_true (λd hd=>HA d (by omega))];rfl⟩,rfl⟩
theorem IB(w:World)(b off n cap:Nat)(R:Nat->Bool)(hn:n<=6)(hc:∀c,c<n->w.cell? ⟨b,off+c,none⟩=some (.bool (R c))):Calls prog 325 #[.slice (some ⟨b,off,none⟩) n cap,.bool false] w λe w'=>e=.returned (.bool (!((List.range n).all R)))/\w'=w:=by go_enter func325,ntmps325;go_wp2_with fail;refine(Qu w b off n cap R hn hc).mono ?_;rintro e w' ⟨⟨i,rfl,hi⟩,rfl⟩;have HI:Hid (decide (0<=i)=!((List.range n).all R)):=hi;clear hi;go_wp2;go_ret;exact⟨aH HI,rfl⟩
end Go.Proofs.YtfnboapebijcpaaGreatDoor
