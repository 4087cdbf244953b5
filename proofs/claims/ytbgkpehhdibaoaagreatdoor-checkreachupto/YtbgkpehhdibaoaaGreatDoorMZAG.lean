/- part -/
import Derived.Test.YtbgkpehhdibaoaaGreatDoorMZAD
import Derived.Shelf.SlSortCmp.QuietGrown
import Derived.Test.YtbgkpehhdibaoaaGreatDoorMZAE
set_option maxHeartbeats 0
set_option maxRecDepth 99999
namespace Go.Proofs.YtbgkpehhdibaoaaGreatDoor
open bO
open Go.Proofs.Tryz
open Go.RowKit
variable{w w':World}{m n i a b c id off k base e g cap j:Nat}{v:Value}{l:List Mo}{s:aZ}{Z:Nat->Nat->Bool}
def nC(w:World)(m:Nat)(v:Value)(l:List Mo):Prop:=
 ∃(a:Option Addr) (b off cap:Nat),v=.slice a l.length cap/\(0<l.length->a=some ⟨b,off,none⟩)/\l.length<=9223372036854775807/\
  ∀i x,l[i]?=some x->∃vi vv vf,w.cell? ⟨b,off+i*4,none⟩=some (.string x.name)/\w.cell? ⟨b,off+i*4+1,none⟩=some vi/\w.cell? ⟨b,off+i*4+2,none⟩=some vv/\w.cell? ⟨b,off+i*4+3,none⟩=some vf/\gT w m (.agg #[.string x.name,vi,vv,vf]) x
theorem nC.below(h:nC w m v l)(hb:bG w w'):nC w' m v l:=by obtain⟨a,b,off,cap,e,h0,hl,h1⟩:=h;refine⟨a,b,off,cap,e,h0,hl,λi x hx=>?_⟩;obtain⟨vi,vv,vf,g0,g1,g2,g3,hm⟩:=h1 i x hx;exact⟨vi,vv,vf,aC g0 hb,aC g1 hb,aC g2 hb,aC g3 hb,hm.below hb⟩
namespace aO
def dD(s t:aZ):Bool:=s.toList==t.toList
def Ia(l:List Fu)(s:aZ)(n:Nat):Option Nat:=(List.range n).find? λi=>match l[i]? with|some f=>dD f.name s|none=>false
def dw(l:List Mo)(s:aZ):Option Nat:=(List.range l.length).find? λi=>match l[i]? with|some x=>dD x.name s|none=>false
theorem fnAt_hit{l:List Fu}{f:Fu}(hi:i<n)(hf:l[i]?=some f)(h:dD f.name s=true)(h0:∀d g,d<i->l[d]?=some g->dD g.name s=false):Ia l s n=some i:=by
 refine pO hi (λc hc=>?_) (by simp only[hf];exact h);cases hg:l[c]? with
 | none=>rfl
 | some g=>exact h0 c g hc hg
theorem Y0{l:List Fu}(h0:∀d g,d<n->l[d]?=some g->dD g.name s=false):Ia l s n=none:=by
 refine kF (λc hc=>?_);cases hg:l[c]? with
 | none=>rfl
 | some g=>exact h0 c g hc hg
theorem moAt_hit{x:Mo}(hx:l[i]?=some x)(h:dD x.name s=true)(h0:∀d g,d<i->l[d]?=some g->dD g.name s=false):dw l s=some i:=by
 refine pO (dz.1 hx).1 (λc hc=>?_) (by simp only[hx];exact h);cases hg:l[c]? with
 | none=>rfl
 | some g=>exact h0 c g hc hg
theorem Y1(h0:∀(d:Nat) (g:Mo),l[d]?=some g->dD g.name s=false):dw l s=none:=by
 refine kF (λc hc=>?_);cases hg:l[c]? with
 | none=>rfl
 | some g=>exact h0 c g hg
end aO
namespace aO
end aO
theorem Fp(w:World)(c0 c1 c2 c3:Value)(t:TypeId):(w.alloc (.cells #[c0,c1,c2,c3] t)).cell? (X w.heap.size 3)=some c3:=by simp[go_sem]
theorem Nv{P:Prop}{R:Int × Int × Bool}{a b:Int}{c:Bool}(h:R=(a,b,c))(hb:P):(cO (.tuple #[O a,O b,.bool c])=cO (.tuple #[O R.1,O R.2.1,.bool R.2.2]))/\P:=by subst h;exact⟨rfl,hb⟩
def gn(w:World)(n:Nat)(os:Array Obj):World:={ w with heap:=w.heap++os,drawn:=n }
theorem bR(w:World)(n:Nat)(os:Array Obj):bG w (gn w n os):=
 ⟨rfl,rfl,rfl,by simp[gn],λk hk=>by simp[gn,Array.getElem?_append,hk]⟩
theorem QA(h:bG w w'):∃p:GrownBy,w'=gn w p.n p.os:=by
 refine⟨⟨w'.drawn,w'.heap.extract w.heap.size w'.heap.size⟩,?_⟩;have hh:w'.heap=w.heap++w'.heap.extract w.heap.size w'.heap.size:=by
  have hs:=h.size;apply Array.ext_getElem?;intro i;rw[Array.getElem?_append];split;·rename_i hi;exact h.block i hi
  ·rename_i hi;rw[Array.getElem?_extract];split;·congr 1;omega
   ·rw[Ut];omega
 obtain⟨hp,tp,dr,os,ou⟩:=w';obtain⟨hp0,tp0,dr0,os0,ou0⟩:=w;obtain⟨e1,e2,e3⟩:=lQ h.os h.tape h.output;simp only at e1 e2 e3 hh;subst e1 e2 e3;simp only[gn,World.mk.injEq,and_true];exact hh
theorem bS{P:Program}{Q:Exit->Act->World->Prop}{a:Act}{l:List Oper}(hm:P.follows .mixedOrders=true)(hB:Region.lexB .any l.toArray=true)
  (h:wpQuiet P l.toArray (λw'=>∃p:GrownBy,w'=gn w p.n p.os) (λa'=>∀w',(∃p:GrownBy,w'=gn w p.n p.os)->Q .normal a' w') l a):(Code.region id l.toArray true).wp P Q a w:=
 wp_region_quiet (C:=λw'=>∃p:GrownBy,w'=gn w p.n p.os) hm hB ⟨⟨w.drawn+1,#[]⟩,by simp[gn]⟩ (by simpa using h)
theorem aX{a:Addr}(h:w.cell? a=some v)(n:Nat)(os:Array Obj):(gn w n os).cell? a=some v:=aC h (bR w n os)
theorem Calls.pX{P:Program}{f:FuncId}{args:Array Value}{os:Array Obj}
  (h:Calls P f args (gn w n os) λe w'=>e=cO v/\Below (gn w n os).heap.size (gn w n os) w'):Calls P f args (gn w n os) λe w''=>e=cO v/\∃p:GrownBy,w''=gn w p.n p.os:=
 h.mono λ_ _ ⟨he,hb⟩=>⟨he,QA (up (bR w n os) hb)⟩
section
variable {w : World} {ops : Array Oper} {rest : List Oper} {o : Oper} {a : Act} {Q : Exit → Act → World → Prop}
theorem Gc{t e:TypeId}{iS:TypeInfo}{k base n:Nat}{v:Value}{xs:List Value}(ht:prog.underlying t=some (.slice e))(hi:prog.info? e=some iS)(hown:w.ownsRow base e k v n xs)(a2:Option Addr)(c2:Nat)(ty:TypeId):(Builtin.append_ #[t,t] ty #[v,.slice a2 0 c2]).run prog w=.ok v w:=by
 rcases hown.2 with⟨rfl,rfl⟩|⟨g,cap,cur,rfl,_,_,hnc,_⟩;·cases a2<;>simp[Builtin.append_,run_underlying ht,sizeOf,typeInfo,hi,Builtin.lenOf,Builtin.firstCells,loadCells,loadCellsFrom]
 ·cases a2<;>simp[Builtin.append_,run_underlying ht,sizeOf,typeInfo,hi,Builtin.lenOf,Builtin.firstCells,loadCells,loadCellsFrom,hnc,storeCells]
theorem zV{K:Act->World->Prop}(s x:Operand)(t e k bytes:Nat)(z:Value)(ho:o.op=.call { callee:=.builtin .append,args:=#[s,x],argTypes:=#[t,t] })(ht:prog.underlying t=some (.slice e))(hinfo:(prog.info? e).map (λi=>(i.zero,i.size,i.bytes))=some (some z,k,bytes))(hzs:z.cells.size=k)(hk:0<k)(base:Nat)(v:Value)(n:Nat)(xs:List Value)(hs:a.eval s=v)(hown:w.ownsRow base e k v n xs)(a2:Option Addr)(b2 off2 m c2:Nat)(news:List Value)(hx:a.eval x=.slice a2 m c2)(h0:0<m->a2=some ⟨b2,off2,none⟩)(hl:news.length=m*k)(hnews:∀j u,news[j]?=some u->w.cell? ⟨b2,off2+j,none⟩=some u)(h1:∀u∈news,u.oneCell'=true)(h63:n+m<=maxLen)(hbytes:(n+m)*bytes<=140737488355328)(hbase:base<=w.heap.size)(h:∀v' w',w'.ownsRow base e k v' (n+m) (xs++news)->w.grownBy w' v.ownBlock->(m=0->v'=v)->(0<m->∃g cap,v'=.slice (some ⟨g,0,none⟩) (n+m) cap/\(v.ownBlock=some g\/g=w.heap.size))->K (a.put o.dst v') w'):Oper.wp prog o a w K Q:=by
 obtain⟨iS,BN,hz0,hz1,hz2⟩:=info_parts hinfo;by_cases hm:0<m
 ·obtain rfl:=h0 hm
  exact wp_append_lies w s x t ho base e iS z k bytes ht BN hz0 hz1 hz2 hzs hk v n xs hs hown ⟨b2,off2,none⟩ m c2 news hx hl (λj u hu=>by rw[Addr.add_lit];exact hnews j u hu) h1 hm h63 hbytes hbase w.heap.size rfl
   λg cap w' h2 h3 h4 _=>h _ w' h2 h3 (λe0=>by omega) (λ_=>⟨g,cap,rfl,h4⟩)
 ·obtain rfl:m=0:=by omega
  have hn:news=[]:=pQ.1 (by omega);subst hn;have hrun:=λty=>Gc (w:=w) ht BN hown a2 c2 ty;unfold Oper.wp;simp[execOp,ho,resolve,invoke,builtin,hs,hx,hrun,Result.andThen];exact h v w (by simpa using hown) ⟨rfl,rfl,rfl,bF _,λ_ _ _=>rfl⟩ (λ_=>rfl) (λe0=>aN e0 (by omega))
theorem jw(hgd:o.guard=none)(s x:Operand)(t e k bytes:Nat)(z:Value)
  (ho:o.op=.call { callee:=.builtin .append,args:=#[s,x],argTypes:=#[t,t] })(ht:prog.underlying t=some (.slice e))(hinfo:(prog.info? e).map (λi=>(i.zero,i.size,i.bytes))=some (some z,k,bytes))(hzs:z.cells.size=k)(hk:0<k)
  (base:Nat)(v:Value)(n:Nat)(xs:List Value)(hs:a.eval s=v)(hown:w.ownsRow base e k v n xs)(a2:Option Addr)(b2 off2 m c2:Nat)(news:List Value)(hx:a.eval x=.slice a2 m c2)(h0:0<m->a2=some ⟨b2,off2,none⟩)
  (hl:news.length=m*k)(hnews:∀j u,news[j]?=some u->w.cell? ⟨b2,off2+j,none⟩=some u)(h1:∀u∈news,u.oneCell'=true)(h63:n+m<=maxLen)(hbytes:(n+m)*bytes<=140737488355328)(hbase:base<=w.heap.size)
  (h:∀v' w',w'.ownsRow base e k v' (n+m) (xs++news)->w.grownBy w' v.ownBlock->(m=0->v'=v)->(0<m->∃g cap,v'=.slice (some ⟨g,0,none⟩) (n+m) cap/\(v.ownBlock=some g\/g=w.heap.size))->wpList prog ops Q rest (a.put o.dst v') w'):wpList prog ops Q (o::rest) a w:=
 wpList_plain hgd λ_ hK=>zV s x t e k bytes z ho ht hinfo hzs hk base v n xs hs hown a2 b2 off2 m c2 news hx h0 hl hnews h1 h63 hbytes hbase λv' w' h2 h3 h4 h5=>hK _ _ (h v' w' h2 h3 h4 h5)
end
theorem DZ(w:World)(e k:Nat):(w.alloc (.cells #[] e)).ownsRow w.heap.size e k (Y (some (X w.heap.size 0)) 0 0) 0 []:=
 ⟨by simp,aT ⟨w.heap.size,0,#[],rfl,bF _,heap_alloc_new w _,bF _,by decide,by simp,by simp⟩⟩
theorem QB{α:Type}{At:List Value->α->Prop}{l:List α}(hk:0<k)(h:∀(i:Nat) y,l[i]?=some y->∃c:List Value,c.length=k/\(∀j u,c[j]?=some u->w.cell? (X b (off+i*k+j))=some u)/\At c y):∃cs:List (List Value),cs.length=l.length/\(∀c∈cs,c.length=k)/\(∀(i:Nat) c y,cs[i]?=some c->l[i]?=some y->At c y)/\∀(j:Nat) u,cs.flatten[j]?=some u->w.cell? (X b (off+j))=some u:=by
 obtain⟨cs,h1,h2⟩:∃cs:List (List Value),cs.length=l.length/\∀(i:Nat) c,cs[i]?=some c->∃y,l[i]?=some y/\c.length=k/\(∀j u,c[j]?=some u->w.cell? (X b (off+i*k+j))=some u)/\At c y:=by
  have hch:∀i,i<l.length->∃c:List Value,∃y,l[i]?=some y/\c.length=k/\(∀j u,c[j]?=some u->w.cell? (X b (off+i*k+j))=some u)/\At c y:=λi hi=>by obtain⟨c,hc⟩:=h i _ (bg hi);exact⟨c,_,bg hi,hc⟩
  refine⟨(List.finRange l.length).map λi=>Classical.choose (hch i.1 i.2),by simp,λi c hc=>?_⟩;rw[pY]at hc;obtain⟨q,hq,rfl⟩:=xJ.1 hc;have hqi:q.1=i:=by obtain⟨h1,h2⟩:=dz.1 hq;rw[List.getElem_finRange]at h2;rw[<-h2];rfl
  subst hqi;exact Classical.choose_spec (hch q.1 q.2)
 have h3:∀c∈cs,c.length=k:=λc hc=>by obtain⟨i,hi,rfl⟩:=gP.1 hc;obtain⟨_,_,hcc,_⟩:=h2 i _ (bg hi);exact hcc
 refine⟨cs,h1,h3,λi c y hc hy=>?_,λj u hu=>?_⟩;·obtain⟨y',hy',_,_,hcc⟩:=h2 i c hc;rw[hy']at hy;cases hy;exact hcc
 ·have hj:j<cs.length*k:=by have:=(dz.1 hu).1;rwa[pU cs h3]at this
  have hi:j / k<cs.length:=Nat.div_lt_of_lt_mul (by rw[Nat.mul_comm];exact hj);obtain⟨hmd,hf⟩:=eD (Nat.div_add_mod j k) (flat_get (k:=k) cs (j / k) (j % k) hi h3 (Nat.mod_lt _ hk));rw[Nat.mul_comm (j / k) k,hmd,hu]at hf;obtain⟨_,_,_,hcell,_⟩:=h2 (j / k) _ (bg hi);have:=hcell (j % k) u hf.symm;rwa[Nat.add_assoc,Nat.mul_comm (j / k) k,hmd]at this
theorem Nw{cs:List (List Value)}(h:w.ownsRow base e k (Y (some (X g 0)) n cap) n cs.flatten)(hn:cs.length=n)(hk:∀c∈cs,c.length=k){c:List Value}(hc:cs[i]?=some c)(hj:j<k):w.cell? (X g (i*k+j))=c[j]?:=by
 obtain⟨hi,rfl⟩:=dz.1 hc;have hik:i*k+j<n*k:=by
  have:i+1<=n:=by omega
  have h5:=Nu k this;rw[Nat.add_mul,vJ]at h5;omega
 rw[xG h _ hik];exact flat_get cs i j hi hk hj
namespace bO
structure Ord(Z:Nat->Nat->Bool)(n:Nat):Prop where
 refl:∀a,a<n->Z a a=true
 anti:∀a b,a<n->b<n->Z a b=true->Z b a=true->a=b
 trans:∀a b c,a<n->b<n->c<n->Z a b=true->Z b c=true->Z a c=true
theorem Ny(h:Ar Z n=true):Ord Z n:=by
 have hp:∀a,a<n->Z a a=true/\∀b,b<n->Z a b=true->(a≠b->Z b a=false)/\∀c,c<n->Z b c=true->Z a c=true:=by
  intro a ha;have h1:=tC h ha;unfold Aq at h1;obtain⟨h2,h3⟩:=lU.1 h1;refine⟨h2,λb hb hab=>?_⟩;have h4:=tC h3 hb;unfold Ap at h4;rw[hab]at h4;have h5:iw Z n a b=true:=by simpa using h4
  unfold iw at h5;obtain⟨h6,h7⟩:=lU.1 h5;refine⟨λhne=>?_,λc hc hbc=>?_⟩;·simpa[hne]using h6
  ·have h8:=tC h7 hc;unfold Fa at h8;rw[hbc]at h8;simpa using h8
 refine⟨λa ha=>(hp a ha).1,λa b ha hb hab hba=>?_,λa b c ha hb hc hab hbc=>((hp a ha).2 b hb hab).2 c hc hbc⟩;by_cases e:a=b;·exact e
 ·have:=((hp a ha).2 b hb hab).1 e;rw[this]at hba;cases hba
theorem Ord.turn(h:Ord Z n):Ord (tr Z) n:=
 ⟨h.refl,λa b ha hb hab hba=>h.anti a b ha hb hba hab,λa b c ha hb hc hab hbc=>h.trans c b a hc hb ha hbc hab⟩
structure rJ(Z:Nat->Nat->Bool)(n a b c:Nat):Prop where
 lt:c<n
 left:Z a c=true
 right:Z b c=true
 least:∀d,d<n->Z a d=true->Z b d=true->Z c d=true
theorem LQ(h:zT Z n a b=some c):rJ Z n a b c:=by obtain⟨h1,h2⟩:=find_spec h;unfold zS at h2;simp only[dS]at h2;refine⟨h1,h2.1.1,h2.1.2,λd hd had hbd=>?_⟩;have:=tC h2.2 hd;rw[had,hbd]at this;simpa using this
theorem joinP_of(h:rJ Z n a b c):zS Z n a b c=true:=by unfold zS;rw[h.left,h.right];simp only[Bool.and_self,lV];refine all_true λd hd=>?_;cases had:Z a d<;>cases hbd:Z b d<;>simp;exact h.least d hd had hbd
theorem rJ.unique{d:Nat}(o:Ord Z n)(h:rJ Z n a b c)(k:rJ Z n a b d):c=d:=
 o.anti c d h.lt k.lt (h.least d k.lt k.left k.right) (k.least c h.lt h.left h.right)
theorem rJ.symm(h:rJ Z n a b c):rJ Z n b a c:=
 ⟨h.lt,h.right,h.left,λd hd hb ha=>h.least d hd ha hb⟩
theorem xK(h:rJ Z n a b c):∃d,zT Z n a b=some d:=by
 cases hj:zT Z n a b with
 | some d=>exact⟨d,rfl⟩
 | none =>exfalso;have:=LH.1 hj c (jG.2 h.lt);exact this (joinP_of h)
structure Joins(Z:Nat->Nat->Bool)(n:Nat):Prop extends Ord Z n where
 has:∀a b,a<n->b<n->∃c,zT Z n a b=some c
theorem xL(o:Ord Z n)(h:qy Z n=true):Joins Z n:=by
 have hlt:∀a b,a<n->b<a->∃c,zT Z n a b=some c:=by intro a b ha hb;have h1:=tC (tC h ha) hb;unfold xD at h1;exact xM.1 h1
 refine⟨o,λa b ha hb=>?_⟩;rcases Nat.lt_trichotomy b a with hba|hba|hba;·exact hlt a b ha hba
 ·subst hba;exact xK (c:=b) ⟨hb,o.refl b hb,o.refl b hb,λd _ h _=>h⟩
 ·obtain⟨c,hc⟩:=hlt b a hb hba;exact xK (LQ hc).symm
variable {Z : Nat → Nat → Bool} {n : Nat}
theorem Joins.spec(h:Joins Z n)(ha:a<n)(hb:b<n):rJ Z n a b (mW Z n a b):=by obtain⟨c,hc⟩:=h.has a b ha hb;unfold mW;rw[hc];exact LQ hc
theorem Joins.lt(h:Joins Z n)(ha:a<n)(hb:b<n):mW Z n a b<n:=(h.spec ha hb).lt
theorem Joins.eq_of(h:Joins Z n)(ha:a<n)(hb:b<n)(k:rJ Z n a b c):mW Z n a b=c:=(h.spec ha hb).unique h.toOrd k
theorem Joins.comm(h:Joins Z n)(ha:a<n)(hb:b<n):mW Z n a b=mW Z n b a:=h.eq_of ha hb (h.spec hb ha).symm
theorem Joins.of_le(h:Joins Z n)(ha:a<n)(hb:b<n)(k:Z a b=true):mW Z n a b=b:=h.eq_of ha hb ⟨hb,k,h.refl b hb,λ_ _ _ k'=>k'⟩
theorem Ib(k:Joins (tr Z) n)(hn:0<n):wU Z n<n/\∀a,a<n->Z (wU Z n) a=true:=by
 have main:∀m,0<m->m<=n->∃c,c<n/\∀a,a<m->Z c a=true:=by
  intro m;induction m with
  | zero=>intro h;omega
  | succ m ih=>
   intro _ hm;by_cases h0:m=0
   ·subst h0;exact⟨0,hn,λa ha=>by
     have:a=0:=by omega
     subst this;exact k.refl 0 hn⟩
   ·obtain⟨c,hc,hall⟩:=ih aV aV;have p:=k.spec hc (show m<n by omega);refine⟨_,p.lt,λa ha=>?_⟩;by_cases e:a=m;·subst e;exact p.right
    ·exact k.trans a c _ aV hc p.lt (hall a aV) p.left
 obtain⟨c,hc,hall⟩:=main n hn (bF _);have hP:Um Z n c=true:=all_true (λa ha=>hall a ha);cases hf:(List.range n).find? (Um Z n)with
 | none=>exact aN hP (by have:=LH.1 hf c (jG.2 hc);simpa using this)
 | some d=>
  have e:wU Z n=d:=by unfold wU;rw[hf];rfl
  obtain⟨h1,h2⟩:=find_spec hf;rw[e];exact⟨h1,λa ha=>tC h2 ha⟩
end bO
theorem Gd(w:World)(v:Value)(n a b c:Nat)(Z:Nat->Nat->Bool)(hG:uw w v n Z)(hn:n<=6)(ha:a<n)(hb:b<n)(hc:c<n):Calls prog 189 #[v,O a,O b,O c] w λe w'=>e=cO (.bool (Ul Z n a b c))/\w'=w:=by
 obtain⟨gb,go,gc,RB,RO,C,rfl,h1,h2⟩:=hG;obtain⟨ra,rb,rc⟩:=lQ (h1 a ha) (h1 b hb) (h1 c hc);go_enter func189,ntmps189;go_wp2;go_loop [12] (λi=>∃k:Nat,k<=n/\i=O k/\∀d,d<k->(!(Z a d&&Z b d&&!Z c d))=true) (λi=>n - (intOf i).toNat);case atStart=>exact⟨0,bI _,rfl,λd hd=>aN hd (fK _)⟩
 case round=>
  obtain⟨k,hk,rfl,hall⟩:=hrel;have HA:Hid (∀d,d<k->(!(Z a d&&Z b d&&!Z c d))=true):=hall;clear hall;by_cases hlt:k<n
  ·have ca:=h2 a k ha hlt;obtain⟨cb,cc⟩:=eD (h2 b k hb hlt) (h2 c k hc hlt);clear h1 h2;cases za:Z a k
   ·rw[za]at ca;go_wp2;go_round;case rel=>exact⟨k+1,by omega,by go_num,λd hd=>by
     by_cases e:d=k;·subst e;simp[za]
     ·exact HA d aV⟩
    case measure=>simp[intOf];omega
   ·rw[za]at ca;cases zb:Z b k
    ·rw[zb]at cb;go_wp2;go_round;case rel=>exact⟨k+1,by omega,by go_num,λd hd=>by
      by_cases e:d=k;·subst e;simp[zb]
      ·exact HA d aV⟩
     case measure=>simp[intOf];omega
    ·rw[zb]at cb;cases zc:Z c k;·rw[zc]at cc;go_wp2;go_ret;exact⟨aM (bO.all_false hlt (by simp[za,zb,zc])).symm,rfl⟩
     ·rw[zc]at cc;go_wp2;go_round;case rel=>exact⟨k+1,by omega,by go_num,λd hd=>by
       by_cases e:d=k;·subst e;simp[zc]
       ·exact HA d aV⟩
      case measure=>simp[intOf];omega
  ·go_wp2;go_ret;exact⟨aM (bO.all_true (λd hd=>HA d aV)).symm,rfl⟩
theorem fits_any(w:World)(v:Value)(n a b:Nat)(Z:Nat->Nat->Bool)(hG:uw w v n Z)(hn:n<=6)(ha:a<n)(hb:b<n):Calls prog 126 #[v,O a,O b] w λe w'=>e=cO (.bool (bO.iw Z n a b))/\w'=w:=by
 obtain⟨gb,go,gc,RB,RO,C,rfl,h1,h2⟩:=hG;obtain⟨ra,rb,cab⟩:=lQ (h1 a ha) (h1 b hb) (h2 b a hb ha);cases hab:(((a:Int) != (b:Int))&&Z b a)
 ·have HF:Hid (bO.iw Z n a b=(List.range n).all (Fa Z a b)):=by
   have e:(a != b)=((a:Int) != (b:Int)):=by rw[qH];simp only[bne_iff_ne,ne_eq];omega
   show bO.iw Z n a b=_;unfold bO.iw;rw[e,hab];rfl
  have hguard:((a:Int) != (b:Int))=false\/((a:Int) != (b:Int))=true/\Z b a=false:=by
   cases h:((a:Int) != (b:Int));·exact aR rfl
   ·rw[h]at hab;exact aT ⟨rfl,by simpa using hab⟩
  clear hab;rcases hguard with hg|⟨hg,hz⟩;case' inr=>rw[hz]at cab
  all_goals
   go_enter func126,ntmps126;go_wp2;clear cab;go_loop [22] (λi=>∃k:Nat,k<=n/\i=O k/\∀d,d<k->Fa Z a b d=true) (λi=>n - (intOf i).toNat);case atStart=>exact⟨0,bI _,rfl,λd hd=>aN hd (fK _)⟩
   case round=>
    obtain⟨k,hk,rfl,hall⟩:=hrel;have HA:Hid (∀d,d<k->Fa Z a b d=true):=hall;clear hall;by_cases hlt:k<n
    ·have ca:=h2 a k ha hlt;have cb:=h2 b k hb hlt;clear h1 h2;cases zb:Z b k
     ·rw[zb]at cb;go_wp2;go_round;case rel=>exact⟨k+1,by omega,by go_num,λd hd=>by
       by_cases e:d=k;·subst e;simp[Fa,zb]
       ·exact HA d aV⟩
      case measure=>simp[intOf];omega
     ·rw[zb]at cb;cases za:Z a k;·rw[za]at ca;go_wp2;go_ret;exact⟨aM (by rw[HF];exact(bO.all_false hlt (by simp[Fa,za,zb])).symm),rfl⟩
      ·rw[za]at ca;go_wp2;go_round;case rel=>exact⟨k+1,by omega,by go_num,λd hd=>by
        by_cases e:d=k;·subst e;simp[Fa,za]
        ·exact HA d aV⟩
       case measure=>simp[intOf];omega
    ·go_wp2;go_ret;exact⟨aM (by rw[HF];exact(bO.all_true (λd hd=>HA d aV)).symm),rfl⟩
 ·obtain⟨hg,hz⟩:((a:Int) != (b:Int))=true/\Z b a=true:=by simpa using hab
  have HF:Hid (bO.iw Z n a b=false):=by
   have e:(a != b)=((a:Int) != (b:Int)):=by rw[qH];simp only[bne_iff_ne,ne_eq];omega
   show bO.iw Z n a b=_;unfold bO.iw;rw[e,hab];rfl
  clear hab;rw[hz]at cab;go_enter func126,ntmps126;go_wp2;go_ret;exact⟨aM HF.symm,rfl⟩
theorem Uv(w:World)(b off n cap:Nat)(R:Nat->Bool)(hn:n<=6)(hc:∀c,c<n->w.cell? (X b (off+c))=some (.bool (R c))):
 Calls prog 260 #[Y (some (X b off)) n cap,.bool false] w λe w' =>(∃i:Int,e=cO (O i)/\decide (0<=i)=!((List.range n).all R))/\w'=w:=by
 go_enter func260,ntmps260
 go_wp2
 go_loop [8] (λi=>∃k:Nat,k<=n/\i=O k/\∀d,d<k->R d=true) (λi=>n - (intOf i).toNat)
 case atStart=>exact⟨0,bI _,rfl,λd hd=>aN hd (fK _)⟩
 case round=>
  obtain⟨k,hk,rfl,hall⟩:=hrel;have HA:Hid (∀d,d<k->R d=true):=hall;clear hall;by_cases hlt:k<n
  ·have ca:=hc k hlt;cases za:R k;·rw[za]at ca;go_wp2;go_ret;exact⟨⟨_,rfl,by rw[bO.all_false hlt za];simp⟩,rfl⟩
   ·rw[za]at ca;go_wp2;go_round;case rel=>exact⟨k+1,by omega,by go_num,λd hd=>by
     by_cases e:d=k;·subst e;exact za
     ·exact HA d aV⟩
    case measure=>simp[intOf];omega
  ·go_wp2;go_ret;exact⟨⟨-1,rfl,by rw[bO.all_true (λd hd=>HA d aV)];rfl⟩,rfl⟩
theorem KW(w:World)(b off n cap:Nat)(R:Nat->Bool)(hn:n<=6)(hc:∀c,c<n->w.cell? ⟨b,off+c,none⟩=some (.bool (R c))):Calls prog 223 #[.slice (some ⟨b,off,none⟩) n cap,.bool false] w λe w'=>e=.returned (.bool (!((List.range n).all R)))/\w'=w:=by go_enter func223,ntmps223;go_wp2_with fail;refine(Uv w b off n cap R hn hc).mono ?_;rintro e w' ⟨⟨i,rfl,hi⟩,rfl⟩;have HI:Hid (decide (0<=i)=!((List.range n).all R)):=hi;clear hi;go_wp2;go_ret;exact⟨aM HI,rfl⟩
theorem AL(w:World)(v:Value)(n a b:Nat)(Z:Nat->Nat->Bool)(hG:uw w v n Z)(hn:n<=6)(ha:a<n)(hb:b<n):Calls prog 127 #[v,O a,O b] w λe w'=>e=cO (.tuple #[O (mW Z n a b:Nat),O (LM Z n a b)])/\w'=w:=by
 have hG':=hG;obtain⟨gb,go,gc,RB,RO,C,rfl,h1,h2⟩:=hG;have HG:Hid (uw w (Y (some (X gb go)) n gc) n Z):=hG';clear hG';obtain⟨ra,rb⟩:=eD (h1 a ha) (h1 b hb);go_enter func127,ntmps127;go_wp2;go_loop [11] (λi=>∃k:Nat,k<=n/\i=O k/\∀d,d<k->zS Z n a b d=false) (λi=>n - (intOf i).toNat);case atStart=>exact⟨0,Nat.zero_le _,rfl,λd hd=>absurd hd (Nat.not_lt_zero _)⟩
 case round=>
  obtain⟨k,hk,rfl,hall⟩:=hrel;have HA:Hid (∀d,d<k->zS Z n a b d=false):=hall;clear hall;by_cases hlt:k<n
  ·have ca:=h2 a k ha hlt;have cb:=h2 b k hb hlt;clear h1 h2;cases za:Z a k
   ·rw[za]at ca;go_wp2;go_round;case rel=>exact⟨k+1,by omega,by go_num,λd hd=>by
     by_cases e:d=k;·subst e;simp[zS,za]
     ·exact HA.out d aV⟩
    case measure=>simp[intOf];omega
   ·rw[za]at ca;cases zb:Z b k
    ·rw[zb]at cb;go_wp2;go_round;case rel=>exact⟨k+1,by omega,by go_num,λd hd=>by
      by_cases e:d=k;·subst e;simp[zS,zb]
      ·exact HA.out d aV⟩
     case measure=>simp[intOf];omega
    ·rw[zb]at cb;go_wp2_with fail;refine(Gd w _ n a b k Z HG.out hn ha hb hlt).mono ?_;rintro e w' ⟨rfl,rfl⟩;cases zc:Ul Z n a b k
     ·go_wp2;go_round;case rel=>exact⟨k+1,by omega,by go_num,λd hd=>by
       by_cases e:d=k;·subst e;simp[zS,zc]
       ·exact HA.out d aV⟩
      case measure=>simp[intOf];omega
     ·go_wp2;go_ret2;have hj:zT Z n a b=some k:=pO hlt HA.out (by simp[zS,za,zb,zc]);exact⟨WU (by simp[mW,hj]) (by simp[LM,hj]),rfl⟩
  ·go_wp2;go_ret2;have hj:zT Z n a b=none:=kF (λd hd=>HA.out d aV);exact⟨WU (by simp[mW,hj]) (by simp[LM,hj]),rfl⟩
theorem joinE_of:LM Z n a b=if xD Z n a b then 0 else 5:=rfl
theorem Ci(w:World)(v:Value)(n:Nat)(Z:Nat->Nat->Bool)(hG:uw w v n Z)(hn:n<=6):Calls prog 69 #[v] w λe w'=>e=cO (.bool (qy Z n))/\w'=w:=by
 have HG:Hid (uw w v n Z):=hG;obtain⟨gb,go,gc,RB,RO,C,rfl,h1,h2⟩:=hG;clear h1 h2;go_enter func69,ntmps69;go_wp2;go_loop [9] (λi=>∃k:Nat,k<=n/\i=O k/\∀d,d<k->(List.range d).all (xD Z n d)=true) (λi=>n - (intOf i).toNat);case atStart=>exact⟨0,Nat.zero_le _,rfl,λd hd=>absurd hd (Nat.not_lt_zero _)⟩
 case round=>
  obtain⟨k,hk,rfl,hall⟩:=hrel;have HA:Hid (∀d,d<k->(List.range d).all (xD Z n d)=true):=hall;clear hall;by_cases hlt:k<n
  ·go_wp2;go_loop [13] (λi=>∃m:Nat,m<=k/\i=O m/\∀d,d<m->xD Z n k d=true) (λi=>k - (intOf i).toNat);case atStart=>exact⟨0,Nat.zero_le _,rfl,λd hd=>absurd hd (Nat.not_lt_zero _)⟩
   case round=>
    obtain⟨m,hm,rfl,hall⟩:=hrel;have HB:Hid (∀d,d<m->xD Z n k d=true):=hall;clear hall;by_cases hml:m<k
    ·go_wp2_with fail;refine(AL w _ n k m Z HG.out hn hlt aV).mono ?_;rintro e w' ⟨rfl,rfl⟩;rw[joinE_of];cases zj:xD Z n k m;·rw[if_neg cZ];go_wp2;go_ret;exact⟨aM (bO.all_false hlt (bO.all_false hml zj)).symm,rfl⟩
     ·rw[if_pos rfl];go_wp2;go_round;case rel=>exact⟨m+1,by omega,by go_num,λd hd=>by
       by_cases e:d=m;·subst e;exact zj
       ·exact HB.out d aV⟩
      case measure=>simp[intOf];omega
    ·go_wp2;go_round;case rel=>exact⟨k+1,by omega,by go_num,λd hd=>by
      by_cases e:d=k;·subst e;exact bO.all_true (λc hc=>HB.out c aV)
      ·exact HA.out d aV⟩
     case measure=>simp[intOf];omega
  ·go_wp2;go_ret;exact⟨aM (bO.all_true (λd hd=>HA.out d aV)).symm,rfl⟩
theorem QC(w:World)(v:Value)(n:Nat)(Z:Nat->Nat->Bool)(hG:uw w v n Z)(hn:n<=6):Calls prog 68 #[v] w λe w'=>e=cO (.bool (Ar Z n))/\w'=w:=by
 have HG:Hid (uw w v n Z):=hG;obtain⟨gb,go,gc,RB,RO,C,rfl,h1,h2⟩:=hG;go_enter func68,ntmps68;go_wp2;go_loop [7] (λi=>∃k:Nat,k<=n/\i=O k/\∀d,d<k->Aq Z n d=true) (λi=>n - (intOf i).toNat);case atStart=>exact⟨0,Nat.zero_le _,rfl,λd hd=>absurd hd (Nat.not_lt_zero _)⟩
 case round=>
  obtain⟨k,hk,rfl,hall⟩:=hrel;have HA:Hid (∀d,d<k->Aq Z n d=true):=hall;clear hall;by_cases hlt:k<n
  ·have ra:=h1 k hlt;have caa:=h2 k k hlt hlt;cases zkk:Z k k;·rw[zkk]at caa;go_wp2;go_ret;exact⟨aM (bO.all_false hlt (by simp[Aq,zkk])).symm,rfl⟩
   ·rw[zkk]at caa;go_wp2;clear caa;go_loop [20] (λi=>∃m:Nat,m<=n/\i=O m/\∀d,d<m->Ap Z n k d=true) (λi=>n - (intOf i).toNat);case atStart=>exact⟨0,Nat.zero_le _,rfl,λd hd=>absurd hd (Nat.not_lt_zero _)⟩
    case round=>
     obtain⟨m,hm,rfl,hall⟩:=hrel;have HB:Hid (∀d,d<m->Ap Z n k d=true):=hall;clear hall;by_cases hml:m<n
     ·have cab:=h2 k m hlt hml;cases zkm:Z k m
      ·rw[zkm]at cab;go_wp2;go_round;case rel=>exact⟨m+1,by omega,by go_num,λd hd=>by
        by_cases e:d=m;·subst e;simp[Ap,zkm]
        ·exact HB.out d aV⟩
       case measure=>simp[intOf];omega
      ·rw[zkm]at cab;go_wp2_with fail;refine(fits_any w _ n k m Z HG.out hn hlt hml).mono ?_;rintro e w' ⟨rfl,rfl⟩;cases zf:bO.iw Z n k m;·go_wp2;go_ret;exact⟨aM (bO.all_false hlt (by unfold Aq;rw[bO.all_false hml (by simp[Ap,zkm,zf])];simp)).symm,rfl⟩
       ·go_wp2;go_round;case rel=>exact⟨m+1,by omega,by go_num,λd hd=>by
         by_cases e:d=m;·subst e;simp[Ap,zf]
         ·exact HB.out d aV⟩
        case measure=>simp[intOf];omega
     ·go_wp2;go_round;case rel=>exact⟨k+1,by omega,by go_num,λd hd=>by
       by_cases e:d=k;·subst e;unfold Aq;rw[zkk,bO.all_true (λc hc=>HB.out c aV)];rfl
       ·exact HA.out d aV⟩
      case measure=>simp[intOf];omega
  ·go_wp2;go_ret;exact⟨aM (bO.all_true (λd hd=>HA.out d aV)).symm,rfl⟩
theorem Ic(w:World)(v:Value)(n:Nat)(Z:Nat->Nat->Bool)(hG:uw w v n Z)(hn:n<=6):Calls prog 176 #[v] w λe w'=>e=cO (O (wU Z n:Nat))/\w'=w:=by
 obtain⟨gb,go,gc,RB,RO,C,rfl,h1,h2⟩:=hG;go_enter func176,ntmps176;go_wp2;go_loop [6] (λi=>∃k:Nat,k<=n/\i=O k/\∀d,d<k->Um Z n d=false) (λi=>n - (intOf i).toNat);case atStart=>exact⟨0,Nat.zero_le _,rfl,λd hd=>absurd hd (Nat.not_lt_zero _)⟩
 case round=>
  obtain⟨k,hk,rfl,hall⟩:=hrel;have HA:Hid (∀d,d<k->Um Z n d=false):=hall;clear hall;by_cases hlt:k<n
  ·have ra:=h1 k hlt;have H2:Hid (∀c,c<n->w.cell? (X (RB k) (RO k+c))=some (.bool (Z k c))):=λc hc=>h2 k c hlt hc;go_wp2_with fail;refine(KW w (RB k) (RO k) n (C k) (Z k) hn H2.out).mono ?_;rintro e w' ⟨rfl,rfl⟩;rw[show(List.range n).all (Z k)=Um Z n k from rfl];cases zf:Um Z n k
   ·go_wp2;go_round;case rel=>exact⟨k+1,by omega,by go_num,λd hd=>by
     by_cases e:d=k;·subst e;exact zf
     ·exact HA.out d aV⟩
    case measure=>simp[intOf];omega
   ·go_wp2;go_ret;exact⟨bQ (by unfold wU;rw[pO hlt HA.out zf];rfl),rfl⟩
  ·go_wp2;go_ret;exact⟨bQ (by unfold wU;rw[kF (λd hd=>HA.out d aV)];rfl),rfl⟩
namespace bO
def vO(L:Nat->Nat)(n r:Nat):Bool:=L r==n
def mh(G:Nat)(L:Nat->Nat)(n:Nat):Bool:=G==n&&(List.range G).all (vO L n)
end bO
theorem Nz(w:World)(v:Value)(G n:Nat)(L:Nat->Nat)(Z:Nat->Nat->Bool)(hR:Fb w v G L Z)(hn:n<=6):Calls prog 67 #[v,O n] w λe w'=>e=cO (.bool (mh G L n))/\w'=w:=by
 obtain⟨ga,gb,go,gc,aaj,RB,RO,C,rfl,hg,hGm,hLm,h1,h2⟩:=hR;clear h2;by_cases hGn:G=n
 ·subst hGn;have HF:Hid (mh G L G=(List.range G).all (vO L G)):=by show mh G L G=_;unfold mh;simp
  go_enter func67,ntmps67;go_wp2;go_loop [13] (λi=>∃k:Nat,k<=G/\i=O k/\∀d,d<k->vO L G d=true) (λi=>G - (intOf i).toNat);case atStart=>exact⟨0,Nat.zero_le _,rfl,λd hd=>absurd hd (Nat.not_lt_zero _)⟩
  case round=>
   obtain⟨k,hk,rfl,hall⟩:=hrel;have HA:Hid (∀d,d<k->vO L G d=true):=hall;clear hall;by_cases hlt:k<G
   ·obtain rfl:=hg aV;obtain⟨ra,rl⟩:=eD (h1 k hlt) (hLm k hlt);by_cases hs:L k=G
    ·have hs':((L k:Int) != (G:Int))=false:=by rw[Nl];simp[hs]
     have HS:Hid (L k=G):=hs;clear hs;go_wp2;go_round;case rel=>exact⟨k+1,by omega,by go_num,λd hd=>by
      by_cases e:d=k;·subst e;simp[vO,HS.out]
      ·exact HA.out d aV⟩
     case measure=>simp[intOf];omega
    ·have hs':((L k:Int) != (G:Int))=true:=by rw[Nl];simp[hs]
     have HS:Hid (¬L k=G):=hs;clear hs;go_wp2;go_ret;exact⟨aM (by rw[HF.out];exact(bO.all_false hlt (by simp[vO,HS.out])).symm),rfl⟩
   ·go_wp2;go_ret;exact⟨aM (by rw[HF.out];exact(bO.all_true (λd hd=>HA.out d aV)).symm),rfl⟩
 ·have hs':((G:Int) != (n:Int))=true:=by rw[Nl];simp[hGn]
  have HS:Hid (¬G=n):=hGn;clear hGn;go_enter func67,ntmps67;go_wp2;go_ret;exact⟨aM (by simp[mh,HS.out]),rfl⟩
theorem p8(w:World)(va:Option Addr)(vl:Value)(n cap:Nat)(a:Int):Calls prog 210 #[.agg #[Y va n cap,vl],O a] w λe w'=>e=cO (.bool (decide (0<=a)&&decide (a<n)))/\bG w w':=by
 by_cases h0:0<=a
 ·by_cases h1:a<n;·go_enter func210,ntmps210;go_wp2;go_ret;exact⟨aM (by simp[h0,h1]),(Below.refl _ _).alloc (Nat.le_refl _) _⟩
  ·go_enter func210,ntmps210;go_wp2;go_ret;exact⟨aM (by simp[h1]),(Below.refl _ _).alloc (Nat.le_refl _) _⟩
 ·go_enter func210,ntmps210;go_wp2;go_ret;exact⟨aM (by rw[decide_eq_false (by omega:¬0<=a)];rfl),(Below.refl _ _).alloc (Nat.le_refl _) _⟩
theorem Fq(w:World)(s:aZ)(hs:s.size<=maxLen):Calls prog 92 #[A s] w λe w'=>e=cO (.bool (dx s.data.toList))/\w'=w:=by
 unfold maxLen at hs;by_cases h1:s.size<1
 ·have HF:Hid (dx s.data.toList=false):=by show dx s.data.toList=false;unfold dx;rw[gI];simp;omega
  go_enter func92,ntmps92;go_wp2;go_ret;exact⟨aM HF.out.symm,rfl⟩
 ·by_cases h8:8<s.size
  ·have HF:Hid (dx s.data.toList=false):=by show dx s.data.toList=false;unfold dx;rw[gI];simp;omega
   go_enter func92,ntmps92;go_wp2;go_ret;exact⟨aM HF.out.symm,rfl⟩
  ·have HF:Hid (dx s.data.toList=s.data.toList.all iq):=by show dx s.data.toList=_;unfold dx;rw[gI];rw[decide_eq_true (by omega:1<=s.size),decide_eq_true (by omega:s.size<=8)];rfl
   go_enter func92,ntmps92;go_wp2;go_loop [14] (λi=>∃k:Nat,k<=s.size/\i=O k/\∀j (hj:j<s.size),j<k->iq s[j]=true) (λi=>s.size - (intOf i).toNat);case atStart=>exact⟨0,Nat.zero_le _,rfl,λj hj hd=>absurd hd (Nat.not_lt_zero _)⟩
   case round=>
    obtain⟨k,hk,rfl,hall⟩:=hrel;have HA:Hid (∀j (hj:j<s.size),j<k->iq s[j]=true):=hall;clear hall;by_cases hlt:k<s.size
    ·go_wp2;·go_ret;exact⟨aM (by rw[HF.out,tF s k hlt (by simp[iq];omega)]),rfl⟩
     ·go_round;case rel=>exact⟨k+1,by omega,by go_num,λj hj hd=>by
       by_cases e:j=k;·subst e;simp[iq];omega
       ·exact HA.out j hj aV⟩
      case measure=>simp[intOf];omega
     ·go_ret;exact⟨aM (by rw[HF.out,tF s k hlt (by simp[iq];omega)]),rfl⟩
    ·go_wp2;go_ret;exact⟨aM (by rw[HF.out,Fe s (λj hj=>HA.out j hj aV)]),rfl⟩
namespace bO
def rM(n:Nat):Bool:=n==32||n==10
def nD(n:Nat):Bool:=n==40||n==41
def rO(n:Nat):Bool:=(decide (97<=n)&&decide (n<=122))||(decide (48<=n)&&decide (n<=57))||n==46||n==43||n==45||n==42||n==60||n==61
def bt(s:aZ)(k:Nat):Nat:=(s.data.toList.getD k 0).toNat
def KX(s:aZ)(k:Nat):Bool:=rM (bt s k)||nD (bt s k)||rO (bt s k)
def tok(s:aZ):Nat->List (Nat × Nat) × Bool
 | 0=>([],false)
 | k+1=>
  if rM (bt s k)then ((tok s k).1,false)
  else if nD (bt s k)then ((tok s k).1++[(k,k+1)],false)
  else if (tok s k).2 then ((tok s k).1.dropLast++[(((tok s k).1.getLastD (0,0)).1,k+1)],true)
  else ((tok s k).1++[(k,k+1)],true)
def ext(s:aZ)(p:Nat × Nat):aZ:=s.extract p.1 p.2
def Cj(s:aZ):Option Nat:=(List.range s.size).find? λk=>!KX s k
def AO(s:aZ):List aZ:=if 4096<s.size then []else match Cj s with|some _=>[]|none=>(tok s s.size).1.map (ext s)
def qO(s:aZ):List Int:=if 4096<s.size then []else match Cj s with|some _=>[]|none=>(tok s s.size).1.map λp=>(p.1:Int)
def wn(s:aZ):Nat:=if 4096<s.size then 0 else (Cj s).getD 0
def we(s:aZ):Int:=if 4096<s.size then 2 else if (Cj s).isSome then 3 else 0
end bO
theorem Xd(s:aZ)(k:Nat)(hk:k<s.size):bO.bt s k=s[k].toNat:=by
 unfold bO.bt;have h:k<s.data.toList.length:=by simpa using hk
 rw[List.getD,bg h];rfl
theorem vP(s:aZ):∀k,(bO.tok s k).1.length<=k/\(∀p∈(bO.tok s k).1,p.1<p.2/\p.2<=k)/\((bO.tok s k).2=true->∃L a,(bO.tok s k).1=L++[(a,k)])
 | 0=>⟨bF _,λp hp=>aN hp (by simp[bO.tok]),λh=>aN h (by simp[bO.tok])⟩
 | k+1=>by
  obtain⟨h1,h2,h3⟩:=vP s k;simp only[bO.tok];split;·exact⟨by simp only;omega,λp hp=>⟨(h2 p hp).1,by have:=(h2 p hp).2;omega⟩,λh=>by cases h⟩
  ·split
   ·refine⟨by simp only[aW,iT];omega,λp hp=>?_,λh=>by cases h⟩;rcases bV.1 hp with hp|hp;·exact⟨(h2 p hp).1,by have:=(h2 p hp).2;omega⟩
    ·rw[dG]at hp;subst hp;exact⟨by simp only;omega,bF _⟩
   ·split
    ·rename_i ho;obtain⟨L,a,e⟩:=h3 ho;have ha:=h2 (a,k) (by rw[e];simp);rw[e]at h1 h2 ⊢;refine⟨by simp at h1 ⊢;omega,λp hp=>?_,λ_=>⟨_,_,rfl⟩⟩;simp only[List.dropLast_concat,List.getLastD_concat]at hp;rcases bV.1 hp with hp|hp;·have:=h2 p (List.mem_append_left _ hp);exact⟨this.1,by omega⟩
     ·rw[dG]at hp;subst hp;simp only at ha ⊢;exact⟨by omega,bF _⟩
    ·refine⟨by simp only[aW,iT];omega,λp hp=>?_,λ_=>⟨_,_,rfl⟩⟩;rcases bV.1 hp with hp|hp;·exact⟨(h2 p hp).1,by have:=(h2 p hp).2;omega⟩
     ·rw[dG]at hp;subst hp;exact⟨by simp only;omega,bF _⟩
end Go.Proofs.YtbgkpehhdibaoaaGreatDoor
