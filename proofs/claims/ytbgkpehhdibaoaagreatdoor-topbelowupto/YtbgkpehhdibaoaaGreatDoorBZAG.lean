/- part -/
import Derived.Test.YtbgkpehhdibaoaaGreatDoorBZAD
import Derived.Shelf.SlSortCmp.QuietGrown
import Derived.Test.YtbgkpehhdibaoaaGreatDoorBZAE
set_option maxHeartbeats 0
set_option maxRecDepth 99999
namespace Go.Proofs.YtbgkpehhdibaoaaGreatDoor
open bN
open Go.Proofs.Tryz
open Go.RowKit
variable{w w':World}{m n i a b c id off k base e g cap j:Nat}{v:Value}{l:List Mo}{s:aY}{Z:Nat->Nat->Bool}
def nD(w:World)(m:Nat)(v:Value)(l:List Mo):Prop:=
 ∃(a:Option Addr) (b off cap:Nat),v=.slice a l.length cap/\(0<l.length->a=some ⟨b,off,none⟩)/\l.length<=9223372036854775807/\
  ∀i x,l[i]?=some x->∃vi vv vf,w.cell? ⟨b,off+i*4,none⟩=some (.string x.name)/\w.cell? ⟨b,off+i*4+1,none⟩=some vi/\w.cell? ⟨b,off+i*4+2,none⟩=some vv/\w.cell? ⟨b,off+i*4+3,none⟩=some vf/\iY w m (.agg #[.string x.name,vi,vv,vf]) x
theorem nD.below(h:nD w m v l)(hb:bG w w'):nD w' m v l:=by obtain⟨a,b,off,cap,e,h0,hl,h1⟩:=h;refine⟨a,b,off,cap,e,h0,hl,λi x hx=>?_⟩;obtain⟨vi,vv,vf,g0,g1,g2,g3,hm⟩:=h1 i x hx;exact⟨vi,vv,vf,aD g0 hb,aD g1 hb,aD g2 hb,aD g3 hb,hm.below hb⟩
namespace bJ
def dA(s t:aY):Bool:=s.toList==t.toList
def FZ(l:List Fu)(s:aY)(n:Nat):Option Nat:=(List.range n).find? λi=>match l[i]? with|some f=>dA f.name s|none=>false
def dI(l:List Mo)(s:aY):Option Nat:=(List.range l.length).find? λi=>match l[i]? with|some x=>dA x.name s|none=>false
theorem Zx{l:List Fu}{f:Fu}(hi:i<n)(hf:l[i]?=some f)(h:dA f.name s=true)(h0:∀d g,d<i->l[d]?=some g->dA g.name s=false):FZ l s n=some i:=by
 refine qx hi (λc hc=>?_) (by simp only[hf];exact h);cases hg:l[c]? with
 | none=>rfl
 | some g=>exact h0 c g hc hg
theorem Wu{l:List Fu}(h0:∀d g,d<n->l[d]?=some g->dA g.name s=false):FZ l s n=none:=by
 refine kE (λc hc=>?_);cases hg:l[c]? with
 | none=>rfl
 | some g=>exact h0 c g hc hg
theorem Zy{x:Mo}(hx:l[i]?=some x)(h:dA x.name s=true)(h0:∀d g,d<i->l[d]?=some g->dA g.name s=false):dI l s=some i:=by
 refine qx (dK.1 hx).1 (λc hc=>?_) (by simp only[hx];exact h);cases hg:l[c]? with
 | none=>rfl
 | some g=>exact h0 c g hc hg
theorem Wv(h0:∀(d:Nat) (g:Mo),l[d]?=some g->dA g.name s=false):dI l s=none:=by
 refine kE (λc hc=>?_);cases hg:l[c]? with
 | none=>rfl
 | some g=>exact h0 c g hg
end bJ
namespace bJ
end bJ
theorem DK(w:World)(c0 c1 c2 c3:Value)(t:TypeId):(w.alloc (.cells #[c0,c1,c2,c3] t)).cell? (X w.heap.size 3)=some c3:=by simp[go_sem]
theorem Ld{P:Prop}{R:Int × Int × Bool}{a b:Int}{c:Bool}(h:R=(a,b,c))(hb:P):(dz (.tuple #[O a,O b,.bool c])=dz (.tuple #[O R.1,O R.2.1,.bool R.2.2]))/\P:=by subst h;exact⟨rfl,hb⟩
def gn(w:World)(n:Nat)(os:Array Obj):World:={ w with heap:=w.heap++os,drawn:=n }
theorem bQ(w:World)(n:Nat)(os:Array Obj):bG w (gn w n os):=
 ⟨rfl,rfl,rfl,by simp[gn],λk hk=>by simp[gn,Array.getElem?_append,hk]⟩
theorem Oc(h:bG w w'):∃p:GrownBy,w'=gn w p.n p.os:=by
 refine⟨⟨w'.drawn,w'.heap.extract w.heap.size w'.heap.size⟩,?_⟩;have hh:w'.heap=w.heap++w'.heap.extract w.heap.size w'.heap.size:=by
  have hs:=h.size;apply Array.ext_getElem?;intro i;rw[Array.getElem?_append];split;·rename_i hi;exact h.block i hi
  ·rename_i hi;rw[Array.getElem?_extract];split;·congr 1;omega
   ·rw[Rm];omega
 obtain⟨hp,tp,dr,os,ou⟩:=w';obtain⟨hp0,tp0,dr0,os0,ou0⟩:=w;obtain⟨e1,e2,e3⟩:=l9 h.os h.tape h.output;simp only at e1 e2 e3 hh;subst e1 e2 e3;simp only[gn,World.mk.injEq,and_true];exact hh
theorem bS{P:Program}{Q:Exit->Act->World->Prop}{a:Act}{l:List Oper}(hm:P.follows .mixedOrders=true)(hB:Region.lexB .any l.toArray=true)
  (h:wpQuiet P l.toArray (λw'=>∃p:GrownBy,w'=gn w p.n p.os) (λa'=>∀w',(∃p:GrownBy,w'=gn w p.n p.os)->Q .normal a' w') l a):(Code.region id l.toArray true).wp P Q a w:=
 wp_region_quiet (C:=λw'=>∃p:GrownBy,w'=gn w p.n p.os) hm hB ⟨⟨w.drawn+1,#[]⟩,by simp[gn]⟩ (by simpa using h)
theorem aS{a:Addr}(h:w.cell? a=some v)(n:Nat)(os:Array Obj):(gn w n os).cell? a=some v:=aD h (bQ w n os)
theorem Calls.nE{P:Program}{f:FuncId}{args:Array Value}{os:Array Obj}
  (h:Calls P f args (gn w n os) λe w'=>e=dz v/\Below (gn w n os).heap.size (gn w n os) w'):Calls P f args (gn w n os) λe w''=>e=dz v/\∃p:GrownBy,w''=gn w p.n p.os:=
 h.mono λ_ _ ⟨he,hb⟩=>⟨he,Oc (up (bQ w n os) hb)⟩
section
variable {w : World} {ops : Array Oper} {rest : List Oper} {o : Oper} {a : Act} {Q : Exit → Act → World → Prop}
theorem Ev{t e:TypeId}{iS:TypeInfo}{k base n:Nat}{v:Value}{xs:List Value}(ht:prog.underlying t=some (.slice e))(hi:prog.info? e=some iS)(hown:w.ownsRow base e k v n xs)(a2:Option Addr)(c2:Nat)(ty:TypeId):(Builtin.append_ #[t,t] ty #[v,.slice a2 0 c2]).run prog w=.ok v w:=by
 rcases hown.2 with⟨rfl,rfl⟩|⟨g,cap,cur,rfl,_,_,hnc,_⟩;·cases a2<;>simp[Builtin.append_,run_underlying ht,sizeOf,typeInfo,hi,Builtin.lenOf,Builtin.firstCells,loadCells,loadCellsFrom]
 ·cases a2<;>simp[Builtin.append_,run_underlying ht,sizeOf,typeInfo,hi,Builtin.lenOf,Builtin.firstCells,loadCells,loadCellsFrom,hnc,storeCells]
theorem yJ{K:Act->World->Prop}(s x:Operand)(t e k bytes:Nat)(z:Value)(ho:o.op=.call { callee:=.builtin .append,args:=#[s,x],argTypes:=#[t,t] })(ht:prog.underlying t=some (.slice e))(hinfo:(prog.info? e).map (λi=>(i.zero,i.size,i.bytes))=some (some z,k,bytes))(hzs:z.cells.size=k)(hk:0<k)(base:Nat)(v:Value)(n:Nat)(xs:List Value)(hs:a.eval s=v)(hown:w.ownsRow base e k v n xs)(a2:Option Addr)(b2 off2 m c2:Nat)(news:List Value)(hx:a.eval x=.slice a2 m c2)(h0:0<m->a2=some ⟨b2,off2,none⟩)(hl:news.length=m*k)(hnews:∀j u,news[j]?=some u->w.cell? ⟨b2,off2+j,none⟩=some u)(h1:∀u∈news,u.oneCell'=true)(h63:n+m<=maxLen)(hbytes:(n+m)*bytes<=140737488355328)(hbase:base<=w.heap.size)(h:∀v' w',w'.ownsRow base e k v' (n+m) (xs++news)->w.grownBy w' v.ownBlock->(m=0->v'=v)->(0<m->∃g cap,v'=.slice (some ⟨g,0,none⟩) (n+m) cap/\(v.ownBlock=some g\/g=w.heap.size))->K (a.put o.dst v') w'):Oper.wp prog o a w K Q:=by
 obtain⟨iS,Ak,hz0,hz1,hz2⟩:=info_parts hinfo;by_cases hm:0<m
 ·obtain rfl:=h0 hm
  exact wp_append_lies w s x t ho base e iS z k bytes ht Ak hz0 hz1 hz2 hzs hk v n xs hs hown ⟨b2,off2,none⟩ m c2 news hx hl (λj u hu=>by rw[Addr.add_lit];exact hnews j u hu) h1 hm h63 hbytes hbase w.heap.size rfl
   λg cap w' h2 h3 h4 _=>h _ w' h2 h3 (λe0=>by omega) (λ_=>⟨g,cap,rfl,h4⟩)
 ·obtain rfl:m=0:=by omega
  have hn:news=[]:=om.1 (by omega);subst hn;have hrun:=λty=>Ev (w:=w) ht Ak hown a2 c2 ty;unfold Oper.wp;simp[execOp,ho,resolve,invoke,builtin,hs,hx,hrun,Result.andThen];exact h v w (by simpa using hown) ⟨rfl,rfl,rfl,bE _,λ_ _ _=>rfl⟩ (λ_=>rfl) (λe0=>aM e0 (by omega))
theorem j5(hgd:o.guard=none)(s x:Operand)(t e k bytes:Nat)(z:Value)
  (ho:o.op=.call { callee:=.builtin .append,args:=#[s,x],argTypes:=#[t,t] })(ht:prog.underlying t=some (.slice e))(hinfo:(prog.info? e).map (λi=>(i.zero,i.size,i.bytes))=some (some z,k,bytes))(hzs:z.cells.size=k)(hk:0<k)
  (base:Nat)(v:Value)(n:Nat)(xs:List Value)(hs:a.eval s=v)(hown:w.ownsRow base e k v n xs)(a2:Option Addr)(b2 off2 m c2:Nat)(news:List Value)(hx:a.eval x=.slice a2 m c2)(h0:0<m->a2=some ⟨b2,off2,none⟩)
  (hl:news.length=m*k)(hnews:∀j u,news[j]?=some u->w.cell? ⟨b2,off2+j,none⟩=some u)(h1:∀u∈news,u.oneCell'=true)(h63:n+m<=maxLen)(hbytes:(n+m)*bytes<=140737488355328)(hbase:base<=w.heap.size)
  (h:∀v' w',w'.ownsRow base e k v' (n+m) (xs++news)->w.grownBy w' v.ownBlock->(m=0->v'=v)->(0<m->∃g cap,v'=.slice (some ⟨g,0,none⟩) (n+m) cap/\(v.ownBlock=some g\/g=w.heap.size))->wpList prog ops Q rest (a.put o.dst v') w'):wpList prog ops Q (o::rest) a w:=
 wpList_plain hgd λ_ hK=>yJ s x t e k bytes z ho ht hinfo hzs hk base v n xs hs hown a2 b2 off2 m c2 news hx h0 hl hnews h1 h63 hbytes hbase λv' w' h2 h3 h4 h5=>hK _ _ (h v' w' h2 h3 h4 h5)
end
theorem JU(w:World)(e k:Nat):(w.alloc (.cells #[] e)).ownsRow w.heap.size e k (Y (some (X w.heap.size 0)) 0 0) 0 []:=
 ⟨by simp,aV ⟨w.heap.size,0,#[],rfl,bE _,heap_alloc_new w _,bE _,by decide,by simp,by simp⟩⟩
theorem Zz{α:Type}{At:List Value->α->Prop}{l:List α}(hk:0<k)(h:∀(i:Nat) y,l[i]?=some y->∃c:List Value,c.length=k/\(∀j u,c[j]?=some u->w.cell? (X b (off+i*k+j))=some u)/\At c y):∃cs:List (List Value),cs.length=l.length/\(∀c∈cs,c.length=k)/\(∀(i:Nat) c y,cs[i]?=some c->l[i]?=some y->At c y)/\∀(j:Nat) u,cs.flatten[j]?=some u->w.cell? (X b (off+j))=some u:=by
 obtain⟨cs,h1,h2⟩:∃cs:List (List Value),cs.length=l.length/\∀(i:Nat) c,cs[i]?=some c->∃y,l[i]?=some y/\c.length=k/\(∀j u,c[j]?=some u->w.cell? (X b (off+i*k+j))=some u)/\At c y:=by
  have hch:∀i,i<l.length->∃c:List Value,∃y,l[i]?=some y/\c.length=k/\(∀j u,c[j]?=some u->w.cell? (X b (off+i*k+j))=some u)/\At c y:=λi hi=>by obtain⟨c,hc⟩:=h i _ (bD hi);exact⟨c,_,bD hi,hc⟩
  refine⟨(List.finRange l.length).map λi=>Classical.choose (hch i.1 i.2),by simp,λi c hc=>?_⟩;rw[qA]at hc;obtain⟨q,hq,rfl⟩:=vX.1 hc;have hqi:q.1=i:=by obtain⟨h1,h2⟩:=dK.1 hq;rw[List.getElem_finRange]at h2;rw[<-h2];rfl
  subst hqi;exact Classical.choose_spec (hch q.1 q.2)
 have h3:∀c∈cs,c.length=k:=λc hc=>by obtain⟨i,hi,rfl⟩:=gZ.1 hc;obtain⟨_,_,hcc,_⟩:=h2 i _ (bD hi);exact hcc
 refine⟨cs,h1,h3,λi c y hc hy=>?_,λj u hu=>?_⟩;·obtain⟨y',hy',_,_,hcc⟩:=h2 i c hc;rw[hy']at hy;cases hy;exact hcc
 ·have hj:j<cs.length*k:=by have:=(dK.1 hu).1;rwa[qz cs h3]at this
  have hi:j / k<cs.length:=Nat.div_lt_of_lt_mul (by rw[Nat.mul_comm];exact hj);obtain⟨hmd,hf⟩:=eY (Nat.div_add_mod j k) (flat_get (k:=k) cs (j / k) (j % k) hi h3 (Nat.mod_lt _ hk));rw[Nat.mul_comm (j / k) k,hmd,hu]at hf;obtain⟨_,_,_,hcell,_⟩:=h2 (j / k) _ (bD hi);have:=hcell (j % k) u hf.symm;rwa[Nat.add_assoc,Nat.mul_comm (j / k) k,hmd]at this
theorem Uu{cs:List (List Value)}(h:w.ownsRow base e k (Y (some (X g 0)) n cap) n cs.flatten)(hn:cs.length=n)(hk:∀c∈cs,c.length=k){c:List Value}(hc:cs[i]?=some c)(hj:j<k):w.cell? (X g (i*k+j))=c[j]?:=by
 obtain⟨hi,rfl⟩:=dK.1 hc;have hik:i*k+j<n*k:=by
  have:i+1<=n:=by omega
  have h5:=Lc k this;rw[Nat.add_mul,uq]at h5;omega
 rw[vV h _ hik];exact flat_get cs i j hi hk hj
namespace bN
structure Ord(Z:Nat->Nat->Bool)(n:Nat):Prop where
 refl:∀a,a<n->Z a a=true
 anti:∀a b,a<n->b<n->Z a b=true->Z b a=true->a=b
 trans:∀a b c,a<n->b<n->c<n->Z a b=true->Z b c=true->Z a c=true
theorem Lf(h:zk Z n=true):Ord Z n:=by
 have hp:∀a,a<n->Z a a=true/\∀b,b<n->Z a b=true->(a≠b->Z b a=false)/\∀c,c<n->Z b c=true->Z a c=true:=by
  intro a ha;have h1:=rC h ha;unfold zi at h1;obtain⟨h2,h3⟩:=kX.1 h1;refine⟨h2,λb hb hab=>?_⟩;have h4:=rC h3 hb;unfold zh at h4;rw[hab]at h4;have h5:iN Z n a b=true:=by simpa using h4
  unfold iN at h5;obtain⟨h6,h7⟩:=kX.1 h5;refine⟨λhne=>?_,λc hc hbc=>?_⟩;·simpa[hne]using h6
  ·have h8:=rC h7 hc;unfold DF at h8;rw[hbc]at h8;simpa using h8
 refine⟨λa ha=>(hp a ha).1,λa b ha hb hab hba=>?_,λa b c ha hb hc hab hbc=>((hp a ha).2 b hb hab).2 c hc hbc⟩;by_cases e:a=b;·exact e
 ·have:=((hp a ha).2 b hb hab).1 e;rw[this]at hba;cases hba
theorem Ord.turn(h:Ord Z n):Ord (tr Z) n:=
 ⟨h.refl,λa b ha hb hab hba=>h.anti a b ha hb hba hab,λa b c ha hb hc hab hbc=>h.trans c b a hc hb ha hbc hab⟩
structure qC(Z:Nat->Nat->Bool)(n a b c:Nat):Prop where
 lt:c<n
 left:Z a c=true
 right:Z b c=true
 least:∀d,d<n->Z a d=true->Z b d=true->Z c d=true
theorem JV(h:yH Z n a b=some c):qC Z n a b c:=by obtain⟨h1,h2⟩:=find_spec h;unfold yG at h2;simp only[dJ]at h2;refine⟨h1,h2.1.1,h2.1.2,λd hd had hbd=>?_⟩;have:=rC h2.2 hd;rw[had,hbd]at this;simpa using this
theorem ZA(h:qC Z n a b c):yG Z n a b c=true:=by unfold yG;rw[h.left,h.right];simp only[Bool.and_self,mH];refine all_true λd hd=>?_;cases had:Z a d<;>cases hbd:Z b d<;>simp;exact h.least d hd had hbd
theorem qC.unique{d:Nat}(o:Ord Z n)(h:qC Z n a b c)(k:qC Z n a b d):c=d:=
 o.anti c d h.lt k.lt (h.least d k.lt k.left k.right) (k.least c h.lt h.left h.right)
theorem qC.symm(h:qC Z n a b c):qC Z n b a c:=
 ⟨h.lt,h.right,h.left,λd hd hb ha=>h.least d hd ha hb⟩
theorem vY(h:qC Z n a b c):∃d,yH Z n a b=some d:=by
 cases hj:yH Z n a b with
 | some d=>exact⟨d,rfl⟩
 | none =>exfalso;have:=JO.1 hj c (jr.2 h.lt);exact this (ZA h)
structure Joins(Z:Nat->Nat->Bool)(n:Nat):Prop extends Ord Z n where
 has:∀a b,a<n->b<n->∃c,yH Z n a b=some c
theorem vZ(o:Ord Z n)(h:oU Z n=true):Joins Z n:=by
 have hlt:∀a b,a<n->b<a->∃c,yH Z n a b=some c:=by intro a b ha hb;have h1:=rC (rC h ha) hb;unfold vT at h1;exact rR.1 h1
 refine⟨o,λa b ha hb=>?_⟩;rcases Nat.lt_trichotomy b a with hba|hba|hba;·exact hlt a b ha hba
 ·subst hba;exact vY (c:=b) ⟨hb,o.refl b hb,o.refl b hb,λd _ h _=>h⟩
 ·obtain⟨c,hc⟩:=hlt b a hb hba;exact vY (JV hc).symm
variable {Z : Nat → Nat → Bool} {n : Nat}
theorem Joins.spec(h:Joins Z n)(ha:a<n)(hb:b<n):qC Z n a b (mh Z n a b):=by obtain⟨c,hc⟩:=h.has a b ha hb;unfold mh;rw[hc];exact JV hc
theorem Joins.lt(h:Joins Z n)(ha:a<n)(hb:b<n):mh Z n a b<n:=(h.spec ha hb).lt
theorem Joins.eq_of(h:Joins Z n)(ha:a<n)(hb:b<n)(k:qC Z n a b c):mh Z n a b=c:=(h.spec ha hb).unique h.toOrd k
theorem Joins.comm(h:Joins Z n)(ha:a<n)(hb:b<n):mh Z n a b=mh Z n b a:=h.eq_of ha hb (h.spec hb ha).symm
theorem Joins.of_le(h:Joins Z n)(ha:a<n)(hb:b<n)(k:Z a b=true):mh Z n a b=b:=h.eq_of ha hb ⟨hb,k,h.refl b hb,λ_ _ _ k'=>k'⟩
theorem F3(k:Joins (tr Z) n)(hn:0<n):vE Z n<n/\∀a,a<n->Z (vE Z n) a=true:=by
 have main:∀m,0<m->m<=n->∃c,c<n/\∀a,a<m->Z c a=true:=by
  intro m;induction m with
  | zero=>intro h;omega
  | succ m ih=>
   intro _ hm;by_cases h0:m=0
   ·subst h0;exact⟨0,hn,λa ha=>by
     have:a=0:=by omega
     subst this;exact k.refl 0 hn⟩
   ·obtain⟨c,hc,hall⟩:=ih aX aX;have p:=k.spec hc (show m<n by omega);refine⟨_,p.lt,λa ha=>?_⟩;by_cases e:a=m;·subst e;exact p.right
    ·exact k.trans a c _ aX hc p.lt (hall a aX) p.left
 obtain⟨c,hc,hall⟩:=main n hn (bE _);have hP:Rk Z n c=true:=all_true (λa ha=>hall a ha);cases hf:(List.range n).find? (Rk Z n)with
 | none=>exact aM hP (by have:=JO.1 hf c (jr.2 hc);simpa using this)
 | some d=>
  have e:vE Z n=d:=by unfold vE;rw[hf];rfl
  obtain⟨h1,h2⟩:=find_spec hf;rw[e];exact⟨h1,λa ha=>rC h2 ha⟩
end bN
theorem Ew(w:World)(v:Value)(n a b c:Nat)(Z:Nat->Nat->Bool)(hG:sJ w v n Z)(hn:n<=6)(ha:a<n)(hb:b<n)(hc:c<n):Calls prog 189 #[v,O a,O b,O c] w λe w'=>e=dz (.bool (Rj Z n a b c))/\w'=w:=by
 obtain⟨gb,go,gc,RB,RO,C,rfl,h1,h2⟩:=hG;obtain⟨ra,rb,rc⟩:=l9 (h1 a ha) (h1 b hb) (h1 c hc);go_enter func189,ntmps189;go_wp2;go_loop [12] (λi=>∃k:Nat,k<=n/\i=O k/\∀d,d<k->(!(Z a d&&Z b d&&!Z c d))=true) (λi=>n - (intOf i).toNat);case atStart=>exact⟨0,bL _,rfl,λd hd=>aM hd (fT _)⟩
 case round=>
  obtain⟨k,hk,rfl,hall⟩:=hrel;have HA:Hid (∀d,d<k->(!(Z a d&&Z b d&&!Z c d))=true):=hall;clear hall;by_cases hlt:k<n
  ·have ca:=h2 a k ha hlt;obtain⟨cb,cc⟩:=eY (h2 b k hb hlt) (h2 c k hc hlt);clear h1 h2;cases za:Z a k
   ·rw[za]at ca;go_wp2;go_round;case rel=>exact⟨k+1,by omega,by go_num,λd hd=>by
     by_cases e:d=k;·subst e;simp[za]
     ·exact HA d aX⟩
    case measure=>simp[intOf];omega
   ·rw[za]at ca;cases zb:Z b k
    ·rw[zb]at cb;go_wp2;go_round;case rel=>exact⟨k+1,by omega,by go_num,λd hd=>by
      by_cases e:d=k;·subst e;simp[zb]
      ·exact HA d aX⟩
     case measure=>simp[intOf];omega
    ·rw[zb]at cb;cases zc:Z c k;·rw[zc]at cc;go_wp2;go_ret;exact⟨aP (bN.all_false hlt (by simp[za,zb,zc])).symm,rfl⟩
     ·rw[zc]at cc;go_wp2;go_round;case rel=>exact⟨k+1,by omega,by go_num,λd hd=>by
       by_cases e:d=k;·subst e;simp[zc]
       ·exact HA d aX⟩
      case measure=>simp[intOf];omega
  ·go_wp2;go_ret;exact⟨aP (bN.all_true (λd hd=>HA d aX)).symm,rfl⟩
theorem ZB(w:World)(v:Value)(n a b:Nat)(Z:Nat->Nat->Bool)(hG:sJ w v n Z)(hn:n<=6)(ha:a<n)(hb:b<n):Calls prog 126 #[v,O a,O b] w λe w'=>e=dz (.bool (bN.iN Z n a b))/\w'=w:=by
 obtain⟨gb,go,gc,RB,RO,C,rfl,h1,h2⟩:=hG;obtain⟨ra,rb,cab⟩:=l9 (h1 a ha) (h1 b hb) (h2 b a hb ha);cases hab:(((a:Int) != (b:Int))&&Z b a)
 ·have HF:Hid (bN.iN Z n a b=(List.range n).all (DF Z a b)):=by
   have e:(a != b)=((a:Int) != (b:Int)):=by rw[sK];simp only[bne_iff_ne,ne_eq];omega
   show bN.iN Z n a b=_;unfold bN.iN;rw[e,hab];rfl
  have hguard:((a:Int) != (b:Int))=false\/((a:Int) != (b:Int))=true/\Z b a=false:=by
   cases h:((a:Int) != (b:Int));·exact aR rfl
   ·rw[h]at hab;exact aV ⟨rfl,by simpa using hab⟩
  clear hab;rcases hguard with hg|⟨hg,hz⟩;case' inr=>rw[hz]at cab
  all_goals
   go_enter func126,ntmps126;go_wp2;clear cab;go_loop [22] (λi=>∃k:Nat,k<=n/\i=O k/\∀d,d<k->DF Z a b d=true) (λi=>n - (intOf i).toNat);case atStart=>exact⟨0,bL _,rfl,λd hd=>aM hd (fT _)⟩
   case round=>
    obtain⟨k,hk,rfl,hall⟩:=hrel;have HA:Hid (∀d,d<k->DF Z a b d=true):=hall;clear hall;by_cases hlt:k<n
    ·have ca:=h2 a k ha hlt;have cb:=h2 b k hb hlt;clear h1 h2;cases zb:Z b k
     ·rw[zb]at cb;go_wp2;go_round;case rel=>exact⟨k+1,by omega,by go_num,λd hd=>by
       by_cases e:d=k;·subst e;simp[DF,zb]
       ·exact HA d aX⟩
      case measure=>simp[intOf];omega
     ·rw[zb]at cb;cases za:Z a k;·rw[za]at ca;go_wp2;go_ret;exact⟨aP (by rw[HF];exact(bN.all_false hlt (by simp[DF,za,zb])).symm),rfl⟩
      ·rw[za]at ca;go_wp2;go_round;case rel=>exact⟨k+1,by omega,by go_num,λd hd=>by
        by_cases e:d=k;·subst e;simp[DF,za]
        ·exact HA d aX⟩
       case measure=>simp[intOf];omega
    ·go_wp2;go_ret;exact⟨aP (by rw[HF];exact(bN.all_true (λd hd=>HA d aX)).symm),rfl⟩
 ·obtain⟨hg,hz⟩:((a:Int) != (b:Int))=true/\Z b a=true:=by simpa using hab
  have HF:Hid (bN.iN Z n a b=false):=by
   have e:(a != b)=((a:Int) != (b:Int)):=by rw[sK];simp only[bne_iff_ne,ne_eq];omega
   show bN.iN Z n a b=_;unfold bN.iN;rw[e,hab];rfl
  clear hab;rw[hz]at cab;go_enter func126,ntmps126;go_wp2;go_ret;exact⟨aP HF.symm,rfl⟩
theorem Ro(w:World)(b off n cap:Nat)(R:Nat->Bool)(hn:n<=6)(hc:∀c,c<n->w.cell? (X b (off+c))=some (.bool (R c))):
 Calls prog 260 #[Y (some (X b off)) n cap,.bool false] w λe w' =>(∃i:Int,e=dz (O i)/\decide (0<=i)=!((List.range n).all R))/\w'=w:=by
 go_enter func260,ntmps260
 go_wp2
 go_loop [8] (λi=>∃k:Nat,k<=n/\i=O k/\∀d,d<k->R d=true) (λi=>n - (intOf i).toNat)
 case atStart=>exact⟨0,bL _,rfl,λd hd=>aM hd (fT _)⟩
 case round=>
  obtain⟨k,hk,rfl,hall⟩:=hrel;have HA:Hid (∀d,d<k->R d=true):=hall;clear hall;by_cases hlt:k<n
  ·have ca:=hc k hlt;cases za:R k;·rw[za]at ca;go_wp2;go_ret;exact⟨⟨_,rfl,by rw[bN.all_false hlt za];simp⟩,rfl⟩
   ·rw[za]at ca;go_wp2;go_round;case rel=>exact⟨k+1,by omega,by go_num,λd hd=>by
     by_cases e:d=k;·subst e;exact za
     ·exact HA d aX⟩
    case measure=>simp[intOf];omega
  ·go_wp2;go_ret;exact⟨⟨-1,rfl,by rw[bN.all_true (λd hd=>HA d aX)];rfl⟩,rfl⟩
theorem Jh(w:World)(b off n cap:Nat)(R:Nat->Bool)(hn:n<=6)(hc:∀c,c<n->w.cell? ⟨b,off+c,none⟩=some (.bool (R c))):Calls prog 223 #[.slice (some ⟨b,off,none⟩) n cap,.bool false] w λe w'=>e=.returned (.bool (!((List.range n).all R)))/\w'=w:=by go_enter func223,ntmps223;go_wp2_with fail;refine(Ro w b off n cap R hn hc).mono ?_;rintro e w' ⟨⟨i,rfl,hi⟩,rfl⟩;have HI:Hid (decide (0<=i)=!((List.range n).all R)):=hi;clear hi;go_wp2;go_ret;exact⟨aP HI,rfl⟩
theorem zC(w:World)(v:Value)(n a b:Nat)(Z:Nat->Nat->Bool)(hG:sJ w v n Z)(hn:n<=6)(ha:a<n)(hb:b<n):Calls prog 127 #[v,O a,O b] w λe w'=>e=dz (.tuple #[O (mh Z n a b:Nat),O (JR Z n a b)])/\w'=w:=by
 have hG':=hG;obtain⟨gb,go,gc,RB,RO,C,rfl,h1,h2⟩:=hG;have HG:Hid (sJ w (Y (some (X gb go)) n gc) n Z):=hG';clear hG';obtain⟨ra,rb⟩:=eY (h1 a ha) (h1 b hb);go_enter func127,ntmps127;go_wp2;go_loop [11] (λi=>∃k:Nat,k<=n/\i=O k/\∀d,d<k->yG Z n a b d=false) (λi=>n - (intOf i).toNat);case atStart=>exact⟨0,Nat.zero_le _,rfl,λd hd=>absurd hd (Nat.not_lt_zero _)⟩
 case round=>
  obtain⟨k,hk,rfl,hall⟩:=hrel;have HA:Hid (∀d,d<k->yG Z n a b d=false):=hall;clear hall;by_cases hlt:k<n
  ·have ca:=h2 a k ha hlt;have cb:=h2 b k hb hlt;clear h1 h2;cases za:Z a k
   ·rw[za]at ca;go_wp2;go_round;case rel=>exact⟨k+1,by omega,by go_num,λd hd=>by
     by_cases e:d=k;·subst e;simp[yG,za]
     ·exact HA.out d aX⟩
    case measure=>simp[intOf];omega
   ·rw[za]at ca;cases zb:Z b k
    ·rw[zb]at cb;go_wp2;go_round;case rel=>exact⟨k+1,by omega,by go_num,λd hd=>by
      by_cases e:d=k;·subst e;simp[yG,zb]
      ·exact HA.out d aX⟩
     case measure=>simp[intOf];omega
    ·rw[zb]at cb;go_wp2_with fail;refine(Ew w _ n a b k Z HG.out hn ha hb hlt).mono ?_;rintro e w' ⟨rfl,rfl⟩;cases zc:Rj Z n a b k
     ·go_wp2;go_round;case rel=>exact⟨k+1,by omega,by go_num,λd hd=>by
       by_cases e:d=k;·subst e;simp[yG,zc]
       ·exact HA.out d aX⟩
      case measure=>simp[intOf];omega
     ·go_wp2;go_ret2;have hj:yH Z n a b=some k:=qx hlt HA.out (by simp[yG,za,zb,zc]);exact⟨Uo (by simp[mh,hj]) (by simp[JR,hj]),rfl⟩
  ·go_wp2;go_ret2;have hj:yH Z n a b=none:=kE (λd hd=>HA.out d aX);exact⟨Uo (by simp[mh,hj]) (by simp[JR,hj]),rfl⟩
theorem ZC:JR Z n a b=if vT Z n a b then 0 else 5:=rfl
theorem Aw(w:World)(v:Value)(n:Nat)(Z:Nat->Nat->Bool)(hG:sJ w v n Z)(hn:n<=6):Calls prog 69 #[v] w λe w'=>e=dz (.bool (oU Z n))/\w'=w:=by
 have HG:Hid (sJ w v n Z):=hG;obtain⟨gb,go,gc,RB,RO,C,rfl,h1,h2⟩:=hG;clear h1 h2;go_enter func69,ntmps69;go_wp2;go_loop [9] (λi=>∃k:Nat,k<=n/\i=O k/\∀d,d<k->(List.range d).all (vT Z n d)=true) (λi=>n - (intOf i).toNat);case atStart=>exact⟨0,Nat.zero_le _,rfl,λd hd=>absurd hd (Nat.not_lt_zero _)⟩
 case round=>
  obtain⟨k,hk,rfl,hall⟩:=hrel;have HA:Hid (∀d,d<k->(List.range d).all (vT Z n d)=true):=hall;clear hall;by_cases hlt:k<n
  ·go_wp2;go_loop [13] (λi=>∃m:Nat,m<=k/\i=O m/\∀d,d<m->vT Z n k d=true) (λi=>k - (intOf i).toNat);case atStart=>exact⟨0,Nat.zero_le _,rfl,λd hd=>absurd hd (Nat.not_lt_zero _)⟩
   case round=>
    obtain⟨m,hm,rfl,hall⟩:=hrel;have HB:Hid (∀d,d<m->vT Z n k d=true):=hall;clear hall;by_cases hml:m<k
    ·go_wp2_with fail;refine(zC w _ n k m Z HG.out hn hlt aX).mono ?_;rintro e w' ⟨rfl,rfl⟩;rw[ZC];cases zj:vT Z n k m;·rw[if_neg dx];go_wp2;go_ret;exact⟨aP (bN.all_false hlt (bN.all_false hml zj)).symm,rfl⟩
     ·rw[if_pos rfl];go_wp2;go_round;case rel=>exact⟨m+1,by omega,by go_num,λd hd=>by
       by_cases e:d=m;·subst e;exact zj
       ·exact HB.out d aX⟩
      case measure=>simp[intOf];omega
    ·go_wp2;go_round;case rel=>exact⟨k+1,by omega,by go_num,λd hd=>by
      by_cases e:d=k;·subst e;exact bN.all_true (λc hc=>HB.out c aX)
      ·exact HA.out d aX⟩
     case measure=>simp[intOf];omega
  ·go_wp2;go_ret;exact⟨aP (bN.all_true (λd hd=>HA.out d aX)).symm,rfl⟩
theorem Od(w:World)(v:Value)(n:Nat)(Z:Nat->Nat->Bool)(hG:sJ w v n Z)(hn:n<=6):Calls prog 68 #[v] w λe w'=>e=dz (.bool (zk Z n))/\w'=w:=by
 have HG:Hid (sJ w v n Z):=hG;obtain⟨gb,go,gc,RB,RO,C,rfl,h1,h2⟩:=hG;go_enter func68,ntmps68;go_wp2;go_loop [7] (λi=>∃k:Nat,k<=n/\i=O k/\∀d,d<k->zi Z n d=true) (λi=>n - (intOf i).toNat);case atStart=>exact⟨0,Nat.zero_le _,rfl,λd hd=>absurd hd (Nat.not_lt_zero _)⟩
 case round=>
  obtain⟨k,hk,rfl,hall⟩:=hrel;have HA:Hid (∀d,d<k->zi Z n d=true):=hall;clear hall;by_cases hlt:k<n
  ·have ra:=h1 k hlt;have caa:=h2 k k hlt hlt;cases zkk:Z k k;·rw[zkk]at caa;go_wp2;go_ret;exact⟨aP (bN.all_false hlt (by simp[zi,zkk])).symm,rfl⟩
   ·rw[zkk]at caa;go_wp2;clear caa;go_loop [20] (λi=>∃m:Nat,m<=n/\i=O m/\∀d,d<m->zh Z n k d=true) (λi=>n - (intOf i).toNat);case atStart=>exact⟨0,Nat.zero_le _,rfl,λd hd=>absurd hd (Nat.not_lt_zero _)⟩
    case round=>
     obtain⟨m,hm,rfl,hall⟩:=hrel;have HB:Hid (∀d,d<m->zh Z n k d=true):=hall;clear hall;by_cases hml:m<n
     ·have cab:=h2 k m hlt hml;cases zkm:Z k m
      ·rw[zkm]at cab;go_wp2;go_round;case rel=>exact⟨m+1,by omega,by go_num,λd hd=>by
        by_cases e:d=m;·subst e;simp[zh,zkm]
        ·exact HB.out d aX⟩
       case measure=>simp[intOf];omega
      ·rw[zkm]at cab;go_wp2_with fail;refine(ZB w _ n k m Z HG.out hn hlt hml).mono ?_;rintro e w' ⟨rfl,rfl⟩;cases zf:bN.iN Z n k m;·go_wp2;go_ret;exact⟨aP (bN.all_false hlt (by unfold zi;rw[bN.all_false hml (by simp[zh,zkm,zf])];simp)).symm,rfl⟩
       ·go_wp2;go_round;case rel=>exact⟨m+1,by omega,by go_num,λd hd=>by
         by_cases e:d=m;·subst e;simp[zh,zf]
         ·exact HB.out d aX⟩
        case measure=>simp[intOf];omega
     ·go_wp2;go_round;case rel=>exact⟨k+1,by omega,by go_num,λd hd=>by
       by_cases e:d=k;·subst e;unfold zi;rw[zkk,bN.all_true (λc hc=>HB.out c aX)];rfl
       ·exact HA.out d aX⟩
      case measure=>simp[intOf];omega
  ·go_wp2;go_ret;exact⟨aP (bN.all_true (λd hd=>HA.out d aX)).symm,rfl⟩
theorem F4(w:World)(v:Value)(n:Nat)(Z:Nat->Nat->Bool)(hG:sJ w v n Z)(hn:n<=6):Calls prog 176 #[v] w λe w'=>e=dz (O (vE Z n:Nat))/\w'=w:=by
 obtain⟨gb,go,gc,RB,RO,C,rfl,h1,h2⟩:=hG;go_enter func176,ntmps176;go_wp2;go_loop [6] (λi=>∃k:Nat,k<=n/\i=O k/\∀d,d<k->Rk Z n d=false) (λi=>n - (intOf i).toNat);case atStart=>exact⟨0,Nat.zero_le _,rfl,λd hd=>absurd hd (Nat.not_lt_zero _)⟩
 case round=>
  obtain⟨k,hk,rfl,hall⟩:=hrel;have HA:Hid (∀d,d<k->Rk Z n d=false):=hall;clear hall;by_cases hlt:k<n
  ·have ra:=h1 k hlt;have H2:Hid (∀c,c<n->w.cell? (X (RB k) (RO k+c))=some (.bool (Z k c))):=λc hc=>h2 k c hlt hc;go_wp2_with fail;refine(Jh w (RB k) (RO k) n (C k) (Z k) hn H2.out).mono ?_;rintro e w' ⟨rfl,rfl⟩;rw[show(List.range n).all (Z k)=Rk Z n k from rfl];cases zf:Rk Z n k
   ·go_wp2;go_round;case rel=>exact⟨k+1,by omega,by go_num,λd hd=>by
     by_cases e:d=k;·subst e;exact zf
     ·exact HA.out d aX⟩
    case measure=>simp[intOf];omega
   ·go_wp2;go_ret;exact⟨bT (by unfold vE;rw[qx hlt HA.out zf];rfl),rfl⟩
  ·go_wp2;go_ret;exact⟨bT (by unfold vE;rw[kE (λd hd=>HA.out d aX)];rfl),rfl⟩
namespace bN
def uy(L:Nat->Nat)(n r:Nat):Bool:=L r==n
def lH(G:Nat)(L:Nat->Nat)(n:Nat):Bool:=G==n&&(List.range G).all (uy L n)
end bN
theorem Lg(w:World)(v:Value)(G n:Nat)(L:Nat->Nat)(Z:Nat->Nat->Bool)(hR:Fg w v G L Z)(hn:n<=6):Calls prog 67 #[v,O n] w λe w'=>e=dz (.bool (lH G L n))/\w'=w:=by
 obtain⟨ga,gb,go,gc,aag,RB,RO,C,rfl,hg,hGm,hLm,h1,h2⟩:=hR;clear h2;by_cases hGn:G=n
 ·subst hGn;have HF:Hid (lH G L G=(List.range G).all (uy L G)):=by show lH G L G=_;unfold lH;simp
  go_enter func67,ntmps67;go_wp2;go_loop [13] (λi=>∃k:Nat,k<=G/\i=O k/\∀d,d<k->uy L G d=true) (λi=>G - (intOf i).toNat);case atStart=>exact⟨0,Nat.zero_le _,rfl,λd hd=>absurd hd (Nat.not_lt_zero _)⟩
  case round=>
   obtain⟨k,hk,rfl,hall⟩:=hrel;have HA:Hid (∀d,d<k->uy L G d=true):=hall;clear hall;by_cases hlt:k<G
   ·obtain rfl:=hg aX;obtain⟨ra,rl⟩:=eY (h1 k hlt) (hLm k hlt);by_cases hs:L k=G
    ·have hs':((L k:Int) != (G:Int))=false:=by rw[K6];simp[hs]
     have HS:Hid (L k=G):=hs;clear hs;go_wp2;go_round;case rel=>exact⟨k+1,by omega,by go_num,λd hd=>by
      by_cases e:d=k;·subst e;simp[uy,HS.out]
      ·exact HA.out d aX⟩
     case measure=>simp[intOf];omega
    ·have hs':((L k:Int) != (G:Int))=true:=by rw[K6];simp[hs]
     have HS:Hid (¬L k=G):=hs;clear hs;go_wp2;go_ret;exact⟨aP (by rw[HF.out];exact(bN.all_false hlt (by simp[uy,HS.out])).symm),rfl⟩
   ·go_wp2;go_ret;exact⟨aP (by rw[HF.out];exact(bN.all_true (λd hd=>HA.out d aX)).symm),rfl⟩
 ·have hs':((G:Int) != (n:Int))=true:=by rw[K6];simp[hGn]
  have HS:Hid (¬G=n):=hGn;clear hGn;go_enter func67,ntmps67;go_wp2;go_ret;exact⟨aP (by simp[lH,HS.out]),rfl⟩
theorem oC(w:World)(va:Option Addr)(vl:Value)(n cap:Nat)(a:Int):Calls prog 210 #[.agg #[Y va n cap,vl],O a] w λe w'=>e=dz (.bool (decide (0<=a)&&decide (a<n)))/\bG w w':=by
 by_cases h0:0<=a
 ·by_cases h1:a<n;·go_enter func210,ntmps210;go_wp2;go_ret;exact⟨aP (by simp[h0,h1]),(Below.refl _ _).alloc (Nat.le_refl _) _⟩
  ·go_enter func210,ntmps210;go_wp2;go_ret;exact⟨aP (by simp[h1]),(Below.refl _ _).alloc (Nat.le_refl _) _⟩
 ·go_enter func210,ntmps210;go_wp2;go_ret;exact⟨aP (by rw[decide_eq_false (by omega:¬0<=a)];rfl),(Below.refl _ _).alloc (Nat.le_refl _) _⟩
theorem DL(w:World)(s:aY)(hs:s.size<=maxLen):Calls prog 92 #[A s] w λe w'=>e=dz (.bool (dP s.data.toList))/\w'=w:=by
 unfold maxLen at hs;by_cases h1:s.size<1
 ·have HF:Hid (dP s.data.toList=false):=by show dP s.data.toList=false;unfold dP;rw[gM];simp;omega
  go_enter func92,ntmps92;go_wp2;go_ret;exact⟨aP HF.out.symm,rfl⟩
 ·by_cases h8:8<s.size
  ·have HF:Hid (dP s.data.toList=false):=by show dP s.data.toList=false;unfold dP;rw[gM];simp;omega
   go_enter func92,ntmps92;go_wp2;go_ret;exact⟨aP HF.out.symm,rfl⟩
  ·have HF:Hid (dP s.data.toList=s.data.toList.all iI):=by show dP s.data.toList=_;unfold dP;rw[gM];rw[decide_eq_true (by omega:1<=s.size),decide_eq_true (by omega:s.size<=8)];rfl
   go_enter func92,ntmps92;go_wp2;go_loop [14] (λi=>∃k:Nat,k<=s.size/\i=O k/\∀j (hj:j<s.size),j<k->iI s[j]=true) (λi=>s.size - (intOf i).toNat);case atStart=>exact⟨0,Nat.zero_le _,rfl,λj hj hd=>absurd hd (Nat.not_lt_zero _)⟩
   case round=>
    obtain⟨k,hk,rfl,hall⟩:=hrel;have HA:Hid (∀j (hj:j<s.size),j<k->iI s[j]=true):=hall;clear hall;by_cases hlt:k<s.size
    ·go_wp2;·go_ret;exact⟨aP (by rw[HF.out,rD s k hlt (by simp[iI];omega)]),rfl⟩
     ·go_round;case rel=>exact⟨k+1,by omega,by go_num,λj hj hd=>by
       by_cases e:j=k;·subst e;simp[iI];omega
       ·exact HA.out j hj aX⟩
      case measure=>simp[intOf];omega
     ·go_ret;exact⟨aP (by rw[HF.out,rD s k hlt (by simp[iI];omega)]),rfl⟩
    ·go_wp2;go_ret;exact⟨aP (by rw[HF.out,DI s (λj hj=>HA.out j hj aX)]),rfl⟩
namespace bN
def qD(n:Nat):Bool:=n==32||n==10
def mI(n:Nat):Bool:=n==40||n==41
def qE(n:Nat):Bool:=(decide (97<=n)&&decide (n<=122))||(decide (48<=n)&&decide (n<=57))||n==46||n==43||n==45||n==42||n==60||n==61
def bt(s:aY)(k:Nat):Nat:=(s.data.toList.getD k 0).toNat
def Ji(s:aY)(k:Nat):Bool:=qD (bt s k)||mI (bt s k)||qE (bt s k)
def tok(s:aY):Nat->List (Nat × Nat) × Bool
 | 0=>([],false)
 | k+1=>
  if qD (bt s k)then ((tok s k).1,false)
  else if mI (bt s k)then ((tok s k).1++[(k,k+1)],false)
  else if (tok s k).2 then ((tok s k).1.dropLast++[(((tok s k).1.getLastD (0,0)).1,k+1)],true)
  else ((tok s k).1++[(k,k+1)],true)
def ext(s:aY)(p:Nat × Nat):aY:=s.extract p.1 p.2
def Ay(s:aY):Option Nat:=(List.range s.size).find? λk=>!Ji s k
def zD(s:aY):List aY:=if 4096<s.size then []else match Ay s with|some _=>[]|none=>(tok s s.size).1.map (ext s)
def p8(s:aY):List Int:=if 4096<s.size then []else match Ay s with|some _=>[]|none=>(tok s s.size).1.map λp=>(p.1:Int)
def wn(s:aY):Nat:=if 4096<s.size then 0 else (Ay s).getD 0
def we(s:aY):Int:=if 4096<s.size then 2 else if (Ay s).isSome then 3 else 0
end bN
theorem Uv(s:aY)(k:Nat)(hk:k<s.size):bN.bt s k=s[k].toNat:=by
 unfold bN.bt;have h:k<s.data.toList.length:=by simpa using hk
 rw[List.getD,bD h];rfl
theorem uz(s:aY):∀k,(bN.tok s k).1.length<=k/\(∀p∈(bN.tok s k).1,p.1<p.2/\p.2<=k)/\((bN.tok s k).2=true->∃L a,(bN.tok s k).1=L++[(a,k)])
 | 0=>⟨bE _,λp hp=>aM hp (by simp[bN.tok]),λh=>aM h (by simp[bN.tok])⟩
 | k+1=>by
  obtain⟨h1,h2,h3⟩:=uz s k;simp only[bN.tok];split;·exact⟨by simp only;omega,λp hp=>⟨(h2 p hp).1,by have:=(h2 p hp).2;omega⟩,λh=>by cases h⟩
  ·split
   ·refine⟨by simp only[aT,iF];omega,λp hp=>?_,λh=>by cases h⟩;rcases bZ.1 hp with hp|hp;·exact⟨(h2 p hp).1,by have:=(h2 p hp).2;omega⟩
    ·rw[dD]at hp;subst hp;exact⟨by simp only;omega,bE _⟩
   ·split
    ·rename_i ho;obtain⟨L,a,e⟩:=h3 ho;have ha:=h2 (a,k) (by rw[e];simp);rw[e]at h1 h2 ⊢;refine⟨by simp at h1 ⊢;omega,λp hp=>?_,λ_=>⟨_,_,rfl⟩⟩;simp only[List.dropLast_concat,List.getLastD_concat]at hp;rcases bZ.1 hp with hp|hp;·have:=h2 p (List.mem_append_left _ hp);exact⟨this.1,by omega⟩
     ·rw[dD]at hp;subst hp;simp only at ha ⊢;exact⟨by omega,bE _⟩
    ·refine⟨by simp only[aT,iF];omega,λp hp=>?_,λ_=>⟨_,_,rfl⟩⟩;rcases bZ.1 hp with hp|hp;·exact⟨(h2 p hp).1,by have:=(h2 p hp).2;omega⟩
     ·rw[dD]at hp;subst hp;exact⟨by simp only;omega,bE _⟩
end Go.Proofs.YtbgkpehhdibaoaaGreatDoor
