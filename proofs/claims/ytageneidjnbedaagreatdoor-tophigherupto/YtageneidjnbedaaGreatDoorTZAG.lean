import Derived.Shelf.SlSortCmp.QuietGrown
import Derived.Test.YtageneidjnbedaaGreatDoorTZAE
set_option maxHeartbeats 0
set_option maxRecDepth 99999
namespace Go.Proofs.YtageneidjnbedaaGreatDoor
open bS
open Go.Proofs.Tryz
open Go.RowKit
variable{w w':bI}{m n i a b c id off k base e g cap j:Nat}{v:aC}{l:List Mo}{s:aS}{Z:aL}
def jN(w:bI)(m:Nat)(v:Value)(l:List Mo):Prop:=
 ∃(a:Option Addr) (b off cap:Nat),v=.slice a l.length cap/\(0<l.length->a=some ⟨b,off,none⟩)/\l.length<=9223372036854775807/\
  ∀i x,l[i]?=some x->∃f h d,w.cell? ⟨b,off+i*4,none⟩=some (.string x.name)/\w.cell? ⟨b,off+i*4+1,none⟩=some f/\w.cell? ⟨b,off+i*4+2,none⟩=some h/\w.cell? ⟨b,off+i*4+3,none⟩=some d/\jl w m (.agg #[.string x.name,f,h,d]) x
theorem jN.below(h:jN w m v l)(d:bK w w'):jN w' m v l:=by obtain⟨a,b,off,cap,e,t,y,u⟩:=h;refine⟨a,b,off,cap,e,t,y,λi x B=>?_⟩;obtain⟨D,E,C,f,p,q,r,z⟩:=u i x B;exact⟨D,E,C,aG f d,aG p d,aG q d,aG r d,z.below d⟩
namespace bO
def cB(s t:aS):Bool:=s.toList==t.toList
def vP(l:List Fu)(s:aS)(n:Nat):Option Nat:=(List.range n).find? λi=>match l[i]? with|some f=>cB f.name s|none=>false
def dQ(l:List Mo)(s:aS):Option Nat:=(List.range l.length).find? λi=>match l[i]? with|some x=>cB x.name s|none=>false
theorem Jp{l:List Fu}{f:Fu}(t:i<n)(r:l[i]?=some f)(h:cB f.name s=true)(p:∀d g,d<i->l[d]?=some g->cB g.name s=false):vP l s n=some i:=by
 refine mD t (λc q=>?_) (by simp only[r];exact h);cases hg:l[c]? with
 | none=>rfl
 | some g=>exact p c g q hg
theorem M0{l:List Fu}(f:∀d g,d<n->l[d]?=some g->cB g.name s=false):vP l s n=none:=by
 refine jW (λc h=>?_);cases hg:l[c]? with
 | none=>rfl
 | some g=>exact f c g h hg
theorem Rm{x:Mo}(f:l[i]?=some x)(h:cB x.name s=true)(p:∀d g,d<i->l[d]?=some g->cB g.name s=false):dQ l s=some i:=by
 refine mD (cO.1 f).1 (λc q=>?_) (by simp only[f];exact h);cases hg:l[c]? with
 | none=>rfl
 | some g=>exact p c g q hg
theorem M4(f:∀(d:Nat) (g:Mo),l[d]?=some g->cB g.name s=false):dQ l s=none:=by
 refine jW (λc h=>?_);cases hg:l[c]? with
 | none=>rfl
 | some g=>exact f c g hg
end bO
namespace bO
end bO
theorem Gz(w:bI)(d f h c3:aC)(t:TypeId):(w.alloc<|.cells #[d,f,h,c3] t).cell? (aN w.heap.size 3)=some c3:=by simp[go_sem]
theorem Oy{P:Prop}{R:Int × Int × Bool}{a b:Int}{c:Bool}(h:R=(a,b,c))(d:P):(dz (.tuple #[O a,O b,.bool c])=dz (.tuple #[O R.1,O R.2.1,.bool R.2.2]))/\P:=by subst h;exact⟨rfl,d⟩
def gn(w:bI)(n:Nat)(d:Array Obj):bI:={ w with heap:=w.heap++d,drawn:=n }
theorem bU(w:bI)(n:Nat)(f:Array Obj):bK w (gn w n f):=
 ⟨rfl,rfl,rfl,by simp[gn],λk d=>by simp[gn,Array.getElem?_append,d]⟩
theorem acB(h:bK w w'):∃p:GrownBy,w'=gn w p.n p.os:=by
 refine⟨⟨w'.drawn,w'.heap.extract w.heap.size w'.heap.size⟩,?_⟩;have r:w'.heap=w.heap++w'.heap.extract w.heap.size w'.heap.size:=by
  have B:=h.size;apply Array.ext_getElem?;intro i;rw[Array.getElem?_append];split;·rename_i t;exact h.block i t
  ·rename_i t;rw[Array.getElem?_extract];split;·congr 1;omega
   ·rw[Vy];omega
 obtain⟨y,G,u,C,E⟩:=w';obtain⟨z,H,x,D,F⟩:=w;obtain⟨d,f,q⟩:=lS h.os h.tape h.output;simp only at d f q r;subst d f q;simp only[gn,World.mk.injEq,and_true];exact r
theorem bW{P:Program}{Q:Exit->Act->bI->Prop}{a:Act}{l:List Oper}(q:P.follows .mixedOrders=true)(f:Region.lexB .any l.toArray=true)
  (h:wpQuiet P l.toArray (λw'=>∃p:GrownBy,w'=gn w p.n p.os) (λd=>∀w',(∃p:GrownBy,w'=gn w p.n p.os)->Q .normal d w') l a):(Code.region id l.toArray true).wp P Q a w:=
 wp_region_quiet (C:=λw'=>∃p:GrownBy,w'=gn w p.n p.os) q f ⟨⟨w.drawn+1,#[]⟩,by simp[gn]⟩ (by simpa using h)
theorem bD{a:Addr}(h:w.cell? a=some v)(n:Nat)(d:Array Obj):(gn w n d).cell? a=some v:=aG h<|bU w n d
theorem Calls.oZ{P:Program}{f:FuncId}{args:Array aC}{d:Array Obj}
  (h:Calls P f args (gn w n d) λe w'=>e=dz v/\Below (gn w n d).heap.size (gn w n d) w'):Calls P f args (gn w n d) λe t=>e=dz v/\∃p:GrownBy,t=gn w p.n p.os:=
 h.mono λ_ _ ⟨r,q⟩=>⟨r,acB<|up (bU w n d) q⟩
section
variable {w : World} {ops : Array Oper} {rest : List Oper} {o : Oper} {a : Act} {Q : Exit → Act → World → Prop}
theorem H7{t e:TypeId}{u:TypeInfo}{k base n:Nat}{v:Value}{y:List Value}(h:prog.underlying t=some (.slice e))(f:prog.info? e=some u)(r:w.ownsRow base e k v n y)(d:Option Addr)(p:Nat)(x:TypeId):(Builtin.append_ #[t,t] x #[v,.slice d 0 p]).run prog w=.ok v w:=by
 rcases r.2 with⟨rfl,rfl⟩|⟨g,cap,z,rfl,_,_,q,_⟩;·cases d<;>simp[Builtin.append_,run_underlying h,sizeOf,typeInfo,f,Builtin.lenOf,Builtin.firstCells,loadCells,loadCellsFrom]
 ·cases d<;>simp[Builtin.append_,run_underlying h,sizeOf,typeInfo,f,Builtin.lenOf,Builtin.firstCells,loadCells,loadCellsFrom,q,storeCells]
theorem AZ{K:Act->World->Prop}(s x:Operand)(t e k r:Nat)(C:Value)(G:o.op=.call { callee:=.builtin .append,args:=#[s,x],argTypes:=#[t,t] })(I:prog.underlying t=some (.slice e))(aa:(prog.info? e).map (λi=>(i.zero,i.size,i.bytes))=some (some C,k,r))(ag:C.cells.size=k)(hk:0<k)(base:Nat)(v:Value)(n:Nat)(B:List Value)(H:a.eval s=v)(y:w.ownsRow base e k v n B)(p:Option Addr)(q z m u:Nat)(d:List Value)(L:a.eval x=.slice p m u)(M:0<m->p=some ⟨q,z,none⟩)(hl:d.length=m*k)(ab:∀j f,d[j]?=some f->w.cell? ⟨q,z+j,none⟩=some f)(N:∀f∈d,f.oneCell'=true)(U:n+m<=maxLen)(W:(n+m)*r<=140737488355328)(V:base<=w.heap.size)(h:∀v' w',w'.ownsRow base e k v' (n+m) (B++d)->w.grownBy w' v.ownBlock->(m=0->v'=v)->(0<m->∃g cap,v'=.slice (some ⟨g,0,none⟩) (n+m) cap/\(v.ownBlock=some g\/g=w.heap.size))->K (a.put o.dst v') w'):Oper.wp prog o a w K Q:=by
 obtain⟨iS,D,ad,ae,af⟩:=info_parts aa;by_cases F:0<m
 ·obtain rfl:=M F
  exact wp_append_lies w s x t G base e iS C k r I D ad ae af ag hk v n B H y ⟨q,z,none⟩ m u d L hl (λj f hu=>by rw[Addr.add_lit];exact ab j f hu) N F U W V w.heap.size rfl
   λg cap w' P R S _=>h _ w' P R (λE=>by omega) (λ_=>⟨g,cap,rfl,S⟩)
 ·obtain rfl:m=0:=by omega
  have hn:d=[]:=qp.1 (by omega);subst hn;have ac:=λty=>H7 (w:=w) I D y p u ty;unfold Oper.wp;simp[execOp,G,resolve,invoke,builtin,H,L,ac,Result.andThen];exact h v w (by simpa using y) ⟨rfl,rfl,rfl,bG _,λ_ _ _=>rfl⟩ (λ_=>rfl) (λE=>aM E<|by omega)
theorem lq(N:o.guard=none)(s x:Operand)(t e k r:Nat)(z:Value)
  (V:o.op=.call { callee:=.builtin .append,args:=#[s,x],argTypes:=#[t,t] })(ht:prog.underlying t=some (.slice e))(P:(prog.info? e).map (λi=>(i.zero,i.size,i.bytes))=some (some z,k,r))(aa:z.cells.size=k)(R:0<k)
  (base:Nat)(v:Value)(n:Nat)(y:List Value)(hs:a.eval s=v)(W:w.ownsRow base e k v n y)(p:Option Addr)(q u m B:Nat)(d:List Value)(hx:a.eval x=.slice p m B)(C:0<m->p=some ⟨q,u,none⟩)
  (S:d.length=m*k)(U:∀j f,d[j]?=some f->w.cell? ⟨q,u+j,none⟩=some f)(D:∀f∈d,f.oneCell'=true)(I:n+m<=maxLen)(M:(n+m)*r<=140737488355328)(L:base<=w.heap.size)
  (h:∀v' w',w'.ownsRow base e k v' (n+m) (y++d)->w.grownBy w' v.ownBlock->(m=0->v'=v)->(0<m->∃g cap,v'=.slice (some ⟨g,0,none⟩) (n+m) cap/\(v.ownBlock=some g\/g=w.heap.size))->wpList prog ops Q rest (a.put o.dst v') w'):wpList prog ops Q (o::rest) a w:=
 wpList_plain N λ_ K=>AZ s x t e k r z V ht P aa R base v n y hs W p q u m B d hx C S U D I M L λv' w' E F G H=>K _ _<|h v' w' E F G H
end
theorem M5(w:bI)(e k:Nat):(w.alloc<|.cells #[] e).ownsRow w.heap.size e k (Tc w.heap.size 0 0) 0 []:=
 ⟨by simp,aQ ⟨w.heap.size,0,#[],rfl,bG _,heap_alloc_new w _,bG _,by decide,by simp,by simp⟩⟩
theorem acH{α:Type}{At:List aC->α->Prop}{l:List α}(H:0<k)(h:∀(i:Nat) y,l[i]?=some y->∃c:List aC,c.length=k/\(∀j u,c[j]?=some u->bJ w b (off+i*k+j)=some u)/\At c y):∃cs:List (List aC),cs.length=l.length/\(∀c∈cs,c.length=k)/\(∀(i:Nat) c y,cs[i]?=some c->l[i]?=some y->At c y)/\∀(j:Nat) u,cs.flatten[j]?=some u->bJ w b (off+j)=some u:=by
 obtain⟨cs,x,p⟩:∃cs:List (List aC),cs.length=l.length/\∀(i:Nat) c,cs[i]?=some c->∃y,l[i]?=some y/\c.length=k/\(∀j u,c[j]?=some u->bJ w b (off+i*k+j)=some u)/\At c y:=by
  have z:∀i,i<l.length->∃c:List aC,∃y,l[i]?=some y/\c.length=k/\(∀j u,c[j]?=some u->bJ w b (off+i*k+j)=some u)/\At c y:=λi f=>by obtain⟨c,d⟩:=h i _<|aZ f;exact⟨c,_,aZ f,d⟩
  refine⟨(List.finRange l.length).map λi=>Classical.choose<|z i.1 i.2,by simp,λi c d=>?_⟩;rw[pq]at d;obtain⟨q,I,rfl⟩:=yF.1 d;have K:q.1=i:=by obtain⟨x,p⟩:=cO.1 I;rw[List.getElem_finRange]at p;rw[<-p];rfl
  subst K;exact Classical.choose_spec<|z q.1 q.2
 have r:∀c∈cs,c.length=k:=λc d=>by obtain⟨i,f,rfl⟩:=gU.1 d;obtain⟨_,_,t,_⟩:=p i _<|aZ f;exact t
 refine⟨cs,x,r,λi c y d E=>?_,λj u D=>?_⟩;·obtain⟨M,L,_,_,t⟩:=p i c d;rw[L]at E;cases E;exact t
 ·have G:j<cs.length*k:=by have:=(cO.1 D).1;rwa[sj cs r]at this
  have f:j / k<cs.length:=Nat.div_lt_of_lt_mul (by rw[Nat.mul_comm];exact G);obtain⟨C,B⟩:=eY (Nat.div_add_mod j k)<|flat_get (k:=k) cs (j / k) (j % k) f r<|Nat.mod_lt _ H;rw[Nat.mul_comm (j / k) k,C,D]at B;obtain⟨_,_,_,F,_⟩:=p (j / k) _<|aZ f;have:=F (j % k) u B.symm;rwa[Nat.add_assoc,Nat.mul_comm (j / k) k,C]at this
theorem Yk{cs:List (List aC)}(h:w.ownsRow base e k (Tc g n cap) n cs.flatten)(u:cs.length=n)(t:∀c∈cs,c.length=k){c:List aC}(f:cs[i]?=some c)(r:j<k):w.cell? (aN g<|i*k+j)=c[j]?:=by
 obtain⟨p,rfl⟩:=cO.1 f;have q:i*k+j<n*k:=by
  have:i+1<=n:=by omega
  have d:=qR k this;rw[Nat.add_mul,uS]at d;omega
 rw[yC h _ q];exact flat_get cs i j p t r
namespace bS
structure Ord(Z:Nat->Nat->Bool)(n:Nat):Prop where
 refl:∀a,a<n->Z a a=true
 anti:∀a b,a<n->b<n->Z a b=true->Z b a=true->a=b
 trans:∀a b c,a<n->b<n->c<n->Z a b=true->Z b c=true->Z a c=true
theorem Jq(h:BD Z n=true):Ord Z n:=by
 have x:∀a,a<n->Z a a=true/\∀b,b<n->Z a b=true->(a≠b->Z b a=false)/\∀c,c<n->Z b c=true->Z a c=true:=by
  intro a d;have y:=uz h d;unfold BA at y;obtain⟨C,D⟩:=mF.1 y;refine⟨C,λb p f=>?_⟩;have q:=uz D p;unfold Bz at q;rw[f]at q;have z:jw Z n a b=true:=by simpa using q
  unfold jw at z;obtain⟨E,F⟩:=mF.1 z;refine⟨λG=>?_,λc u t=>?_⟩;·simpa[G]using E
  ·have r:=uz F u;unfold Gx at r;rw[t]at r;simpa using r
 refine⟨λa d=>(x a d).1,λa b d p f B=>?_,λa b c d p u f t=>((x a d).2 b p f).2 c u t⟩;by_cases e:a=b;·exact e
 ·have:=((x a d).2 b p f).1 e;rw[this]at B;cases B
theorem Ord.turn(h:Ord Z n):Ord (tr Z) n:=
 ⟨h.refl,λa b d p f q=>h.anti a b d p q f,λa b c d p t f r=>h.trans c b a t p d r f⟩
structure sw(Z:Nat->Nat->Bool)(n a b c:Nat):Prop where
 lt:c<n
 left:Z a c=true
 right:Z b c=true
 least:∀d,d<n->Z a d=true->Z b d=true->Z c d=true
theorem M6(h:AX Z n a b=some c):sw Z n a b c:=by obtain⟨p,f⟩:=find_spec h;unfold AV at f;simp only[dK]at f;refine⟨p,f.1.1,f.1.2,λd t q r=>?_⟩;have:=uz f.2 t;rw[q,r]at this;simpa using this
theorem acI(h:sw Z n a b c):AV Z n a b c=true:=by unfold AV;rw[h.left,h.right];simp only[Bool.and_self,nX];refine all_true λd q=>?_;cases f:Z a d<;>cases p:Z b d<;>simp;exact h.least d q f p
theorem sw.unique{d:Nat}(o:Ord Z n)(h:sw Z n a b c)(k:sw Z n a b d):c=d:=
 o.anti c d h.lt k.lt (h.least d k.lt k.left k.right) (k.least c h.lt h.left h.right)
theorem sw.symm(h:sw Z n a b c):sw Z n b a c:=
 ⟨h.lt,h.right,h.left,λd q p f=>h.least d q f p⟩
theorem yG(h:sw Z n a b c):∃d,AX Z n a b=some d:=by
 cases f:AX Z n a b with
 | some d=>exact⟨d,rfl⟩
 | none =>exfalso;have:=Gv.1 f c<|jE.2 h.lt;exact this<|acI h
structure Joins(Z:Nat->Nat->Bool)(n:Nat):Prop extends Ord Z n where
 has:∀a b,a<n->b<n->∃c,AX Z n a b=some c
theorem sD(o:Ord Z n)(h:qQ Z n=true):Joins Z n:=by
 have t:∀a b,a<n->b<a->∃c,AX Z n a b=some c:=by intro a b q f;have r:=uz (uz h q) f;unfold yA at r;exact sF.1 r
 refine⟨o,λa b q f=>?_⟩;rcases Nat.lt_trichotomy b a with p|p|p;·exact t a b q p
 ·subst p;exact yG (c:=b) ⟨f,o.refl b f,o.refl b f,λd _ h _=>h⟩
 ·obtain⟨c,u⟩:=t b a f p;exact yG (M6 u).symm
variable {Z : Nat → Nat → Bool} {n : Nat}
theorem Joins.spec(h:Joins Z n)(f:a<n)(p:b<n):sw Z n a b (nT Z n a b):=by obtain⟨c,d⟩:=h.has a b f p;unfold nT;rw[d];exact M6 d
theorem Joins.lt(h:Joins Z n)(d:a<n)(f:b<n):nT Z n a b<n:=(h.spec d f).lt
theorem Joins.JA(h:Joins Z n)(d:a<n)(f:b<n)(k:sw Z n a b c):nT Z n a b=c:=(h.spec d f).unique h.toOrd k
theorem Joins.comm(h:Joins Z n)(d:a<n)(f:b<n):nT Z n a b=nT Z n b a:=h.JA d f (h.spec f d).symm
theorem Joins.of_le(h:Joins Z n)(f:a<n)(d:b<n)(k:Z a b=true):nT Z n a b=b:=h.JA f d ⟨d,k,h.refl b d,λ_ _ _ p=>p⟩
theorem Db(k:Joins (tr Z) n)(hn:0<n):xR Z n<n/\∀a,a<n->Z (xR Z n) a=true:=by
 have main:∀m,0<m->m<=n->∃c,c<n/\∀a,a<m->Z c a=true:=by
  intro m;induction m with
  | zero=>intro h;omega
  | succ m ih=>
   intro _ hm;by_cases h0:m=0
   ·subst h0;exact⟨0,hn,λa ha=>by
     have:a=0:=by omega
     subst this;exact k.refl 0 hn⟩
   ·obtain⟨c,hc,hall⟩:=ih bC bC;have p:=k.spec hc (show m<n by omega);refine⟨_,p.lt,λa ha=>?_⟩;by_cases e:a=m;·subst e;exact p.right
    ·exact k.trans a c _ bC hc p.lt (hall a bC) p.left
 obtain⟨c,hc,hall⟩:=main n hn (bG _);have hP:Vw Z n c=true:=all_true (λa ha=>hall a ha);cases hf:(List.range n).find? (Vw Z n)with
 | none=>exact aM hP (by have:=Gv.1 hf c (jE.2 hc);simpa using this)
 | some d=>
  have e:xR Z n=d:=by unfold xR;rw[hf];rfl
  obtain⟨h1,h2⟩:=find_spec hf;rw[e];exact⟨h1,λa ha=>uz h2 ha⟩
end bS
theorem akY(w:bI)(v:aC)(n a b c:Nat)(Z:aL)(H:vF w v n Z)(P:n<=6)(D:a<n)(F:b<n)(G:c<n):aD 68 #[v,O a,O b,O c] w λe w'=>e=dz (.bool<|Vv Z n a b c)/\w'=w:=by
 obtain⟨K,M,L,I,RO,C,rfl,p,q⟩:=H;obtain⟨R,S,U⟩:=lS (p a D) (p b F)<|p c G;go_enter func68,ntmps68;go_wp2;go_loop [12] (λi=>∃k:Nat,k<=n/\i=O k/\∀d,d<k->(!(Z a d&&Z b d&&!Z c d))=true) (λi=>n - (intOf i).toNat);exact⟨0,bN _,rfl,λd f=>aM f<|fU _⟩
 obtain⟨k,N,rfl,E⟩:=hrel;have h:J (∀d,d<k->(!(Z a d&&Z b d&&!Z c d))=true):=E;clear E;by_cases r:k<n
 ·have y:=q a k D r;obtain⟨z,B⟩:=eY (q b k F r)<|q c k G r;clear p q;cases t:Z a k
  ·rw[t]at y;go_wp2;go_round;exact⟨k+1,by omega,by go_num,λd f=>by
    by_cases e:d=k;·subst e;simp[t]
    ·exact h d bC⟩
   exact gV
  ·rw[t]at y;cases u:Z b k
   ·rw[u]at z;go_wp2;go_round;exact⟨k+1,by omega,by go_num,λd f=>by
     by_cases e:d=k;·subst e;simp[u]
     ·exact h d bC⟩
    exact gV
   ·rw[u]at z;cases x:Z c k;·rw[x]at B;go_wp2;go_ret;exact⟨aW (bS.all_false r<|by simp[t,u,x]).symm,rfl⟩
    ·rw[x]at B;go_wp2;go_round;exact⟨k+1,by omega,by go_num,λd f=>by
      by_cases e:d=k;·subst e;simp[x]
      ·exact h d bC⟩
     exact gV
 ·go_wp2;go_ret;exact⟨aW (bS.all_true (λd f=>h d bC)).symm,rfl⟩
theorem acJ(w:bI)(v:aC)(n a b:Nat)(Z:aL)(K:vF w v n Z)(U:n<=6)(B:a<n)(D:b<n):aD 47 #[v,O a,O b] w λe w'=>e=dz (.bool<|bS.jw Z n a b)/\w'=w:=by
 obtain⟨N,R,P,M,RO,C,rfl,z,q⟩:=K;obtain⟨V,W,y⟩:=lS (z a B) (z b D)<|q b a D B;cases f:(((a:Int) != (b:Int))&&Z b a)
 ·have p:J (bS.jw Z n a b=(List.range n).all (Gx Z a b)):=by
   have e:(a != b)=((a:Int) != (b:Int)):=by rw[vG];simp only[bne_iff_ne,ne_eq];omega
   show bS.jw Z n a b=_;unfold bS.jw;rw[e,f];rfl
  have L:((a:Int) != (b:Int))=false\/((a:Int) != (b:Int))=true/\Z b a=false:=by
   cases h:((a:Int) != (b:Int));·exact aO rfl
   ·rw[h]at f;exact aQ ⟨rfl,by simpa using f⟩
  clear f;rcases L with hg|⟨hg,F⟩;case' inr=>rw[F]at y
  all_goals
   go_enter func47,ntmps47;go_wp2;clear y;go_loop [22] (λi=>∃k:Nat,k<=n/\i=O k/\∀d,d<k->Gx Z a b d=true) (λi=>n - (intOf i).toNat);exact⟨0,bN _,rfl,λd r=>aM r<|fU _⟩
   obtain⟨k,S,rfl,I⟩:=hrel;have x:J (∀d,d<k->Gx Z a b d=true):=I;clear I;by_cases E:k<n
   ·have G:=q a k B E;have H:=q b k D E;clear z q;cases u:Z b k
    ·rw[u]at H;go_wp2;go_round;exact⟨k+1,by omega,by go_num,λd r=>by
      by_cases e:d=k;·subst e;simp[Gx,u]
      ·exact x d bC⟩
     exact gV
    ·rw[u]at H;cases t:Z a k;·rw[t]at G;go_wp2;go_ret;exact⟨aW (by rw[p];exact(bS.all_false E<|by simp[Gx,t,u]).symm),rfl⟩
     ·rw[t]at G;go_wp2;go_round;exact⟨k+1,by omega,by go_num,λd r=>by
       by_cases e:d=k;·subst e;simp[Gx,t]
       ·exact x d bC⟩
      exact gV
   ·go_wp2;go_ret;exact⟨aW (by rw[p];exact(bS.all_true (λd r=>x d bC)).symm),rfl⟩
 ·obtain⟨hg,F⟩:((a:Int) != (b:Int))=true/\Z b a=true:=by simpa using f
  have p:J (bS.jw Z n a b=false):=by
   have e:(a != b)=((a:Int) != (b:Int)):=by rw[vG];simp only[bne_iff_ne,ne_eq];omega
   show bS.jw Z n a b=_;unfold bS.jw;rw[e,f];rfl
  clear f;rw[F]at y;go_enter func47,ntmps47;go_wp2;go_ret;exact⟨aW p.symm,rfl⟩
theorem aga(w:bI)(b off n cap:Nat)(R:Nat->Bool)(y:n<=6)(u:∀c,c<n->bJ w b (off+c)=some (.bool<|R c)):
 aD 242 #[X (some<|aN b off) n cap,.bool false] w λe w' =>(∃i:Int,e=dz (O i)/\decide (0<=i)=!((List.range n).all R))/\w'=w:=by
 go_enter func242,ntmps242
 go_wp2
 go_loop [8] (λi=>∃k:Nat,k<=n/\i=O k/\∀d,d<k->R d=true) (λi=>n - (intOf i).toNat)
 exact⟨0,bN _,rfl,λd h=>aM h<|fU _⟩
 obtain⟨k,x,rfl,r⟩:=hrel;have p:J (∀d,d<k->R d=true):=r;clear r;by_cases t:k<n
 ·have q:=u k t;cases f:R k;·rw[f]at q;go_wp2;go_ret;exact⟨⟨_,rfl,by rw[bS.all_false t f];simp⟩,rfl⟩
  ·rw[f]at q;go_wp2;go_round;exact⟨k+1,by omega,by go_num,λd h=>by
    by_cases e:d=k;·subst e;exact f
    ·exact p d bC⟩
   exact gV
 ·go_wp2;go_ret;exact⟨⟨-1,rfl,by rw[bS.all_true (λd h=>p d bC)];rfl⟩,rfl⟩
theorem ajs(w:World)(b off n cap:Nat)(R:Nat->Bool)(p:n<=6)(h:∀c,c<n->w.cell? ⟨b,off+c,none⟩=some (.bool<|R c)):Calls prog 218 #[.slice (some ⟨b,off,none⟩) n cap,.bool false] w λe w'=>e=.returned (.bool<|!((List.range n).all R))/\w'=w:=by go_enter func218,ntmps218;go_wp2_with fail;refine(aga w b off n cap R p h).mono ?_;rintro e w' ⟨⟨i,rfl,d⟩,rfl⟩;have f:Hid (decide (0<=i)=!((List.range n).all R)):=d;clear d;go_wp2;go_ret;exact⟨aW f,rfl⟩
theorem BH(w:bI)(v:aC)(n a b:Nat)(Z:aL)(E:vF w v n Z)(N:n<=6)(y:a<n)(z:b<n):aD 48 #[v,O a,O b] w λe w'=>e=dz (.tuple #[O (nT Z n a b:Nat),O<|MX Z n a b])/\w'=w:=by
 have F:=E;obtain⟨K,M,L,P,RO,C,rfl,u,x⟩:=E;have I:J (vF w (X (some<|aN K M) n L) n Z):=F;clear F;obtain⟨S,U⟩:=eY (u a y)<|u b z;go_enter func48,ntmps48;go_wp2;go_loop [11] (λi=>∃k:Nat,k<=n/\i=O k/\∀d,d<k->AV Z n a b d=false) (λi=>n - (intOf i).toNat);exact⟨0,Nat.zero_le _,rfl,λd h=>absurd h<|Nat.not_lt_zero _⟩
 obtain⟨k,R,rfl,G⟩:=hrel;have f:J (∀d,d<k->AV Z n a b d=false):=G;clear G;by_cases q:k<n
 ·have B:=x a k y q;have D:=x b k z q;clear u x;cases r:Z a k
  ·rw[r]at B;go_wp2;go_round;exact⟨k+1,by omega,by go_num,λd h=>by
    by_cases e:d=k;·subst e;simp[AV,r]
    ·exact f.out d bC⟩
   exact gV
  ·rw[r]at B;cases t:Z b k
   ·rw[t]at D;go_wp2;go_round;exact⟨k+1,by omega,by go_num,λd h=>by
     by_cases e:d=k;·subst e;simp[AV,t]
     ·exact f.out d bC⟩
    exact gV
   ·rw[t]at D;go_wp2_with fail;refine(akY w _ n a b k Z I.out N y z q).mono ?_;rintro e w' ⟨rfl,rfl⟩;cases H:Vv Z n a b k
    ·go_wp2;go_round;exact⟨k+1,by omega,by go_num,λd h=>by
      by_cases e:d=k;·subst e;simp[AV,H]
      ·exact f.out d bC⟩
     exact gV
    ·go_wp2;go_ret2;have p:AX Z n a b=some k:=mD q f.out (by simp[AV,r,t,H]);exact⟨Yg (by simp[nT,p]) (by simp[MX,p]),rfl⟩
 ·go_wp2;go_ret2;have p:AX Z n a b=none:=jW (λd h=>f.out d bC);exact⟨Yg (by simp[nT,p]) (by simp[MX,p]),rfl⟩
theorem acK:MX Z n a b=if yA Z n a b then 0 else 5:=rfl
theorem Dc(w:bI)(v:aC)(n:Nat)(Z:aL)(r:vF w v n Z)(D:n<=6):aD 26 #[v] w λe w'=>e=dz (.bool<|qQ Z n)/\w'=w:=by
 have x:J (vF w v n Z):=r;obtain⟨F,H,G,E,RO,C,rfl,y,z⟩:=r;clear y z;go_enter func26,ntmps26;go_wp2;go_loop [9] (λi=>∃k:Nat,k<=n/\i=O k/\∀d,d<k->(List.range d).all (yA Z n d)=true) (λi=>n - (intOf i).toNat);exact⟨0,Nat.zero_le _,rfl,λd f=>absurd f<|Nat.not_lt_zero _⟩
 obtain⟨k,K,rfl,h⟩:=hrel;have p:J (∀d,d<k->(List.range d).all (yA Z n d)=true):=h;clear h;by_cases t:k<n
 ·go_wp2;go_loop [13] (λi=>∃m:Nat,m<=k/\i=O m/\∀d,d<m->yA Z n k d=true) (λi=>k - (intOf i).toNat);exact⟨0,Nat.zero_le _,rfl,λd f=>absurd f<|Nat.not_lt_zero _⟩
  obtain⟨m,L,rfl,h⟩:=hrel;have q:J (∀d,d<m->yA Z n k d=true):=h;clear h;by_cases B:m<k
  ·go_wp2_with fail;refine(BH w _ n k m Z x.out D t bC).mono ?_;rintro e w' ⟨rfl,rfl⟩;rw[acK];cases u:yA Z n k m;·rw[if_neg cK];go_wp2;go_ret;exact⟨aW (bS.all_false t<|bS.all_false B u).symm,rfl⟩
   ·rw[if_pos rfl];go_wp2;go_round;exact⟨m+1,by omega,by go_num,λd f=>by
     by_cases e:d=m;·subst e;exact u
     ·exact q.out d bC⟩
    exact gV
  ·go_wp2;go_round;exact⟨k+1,by omega,by go_num,λd f=>by
    by_cases e:d=k;·subst e;exact bS.all_true (λc I=>q.out c bC)
    ·exact p.out d bC⟩
   exact gV
 ·go_wp2;go_ret;exact⟨aW (bS.all_true (λd f=>p.out d bC)).symm,rfl⟩
theorem an1(w:bI)(v:aC)(n:Nat)(Z:aL)(D:vF w v n Z)(H:n<=6):aD 25 #[v] w λe w'=>e=dz (.bool<|BD Z n)/\w'=w:=by
 have F:J (vF w v n Z):=D;obtain⟨K,M,L,I,RO,C,rfl,G,B⟩:=D;go_enter func25,ntmps25;go_wp2;go_loop [7] (λi=>∃k:Nat,k<=n/\i=O k/\∀d,d<k->BA Z n d=true) (λi=>n - (intOf i).toNat);exact⟨0,Nat.zero_le _,rfl,λd f=>absurd f<|Nat.not_lt_zero _⟩
 obtain⟨k,P,rfl,p⟩:=hrel;have y:J (∀d,d<k->BA Z n d=true):=p;clear p;by_cases h:k<n
 ·have S:=G k h;have u:=B k k h h;cases q:Z k k;·rw[q]at u;go_wp2;go_ret;exact⟨aW (bS.all_false h<|by simp[BA,q]).symm,rfl⟩
  ·rw[q]at u;go_wp2;clear u;go_loop [20] (λi=>∃m:Nat,m<=n/\i=O m/\∀d,d<m->Bz Z n k d=true) (λi=>n - (intOf i).toNat);exact⟨0,Nat.zero_le _,rfl,λd f=>absurd f<|Nat.not_lt_zero _⟩
   obtain⟨m,R,rfl,p⟩:=hrel;have t:J (∀d,d<m->Bz Z n k d=true):=p;clear p;by_cases x:m<n
   ·have z:=B k m h x;cases r:Z k m
    ·rw[r]at z;go_wp2;go_round;exact⟨m+1,by omega,by go_num,λd f=>by
      by_cases e:d=m;·subst e;simp[Bz,r]
      ·exact t.out d bC⟩
     exact gV
    ·rw[r]at z;go_wp2_with fail;refine(acJ w _ n k m Z F.out H h x).mono ?_;rintro e w' ⟨rfl,rfl⟩;cases E:bS.jw Z n k m;·go_wp2;go_ret;exact⟨aW (bS.all_false h (by unfold BA;rw[bS.all_false x (by simp[Bz,r,E])];simp)).symm,rfl⟩
     ·go_wp2;go_round;exact⟨m+1,by omega,by go_num,λd f=>by
       by_cases e:d=m;·subst e;simp[Bz,E]
       ·exact t.out d bC⟩
      exact gV
   ·go_wp2;go_round;exact⟨k+1,by omega,by go_num,λd f=>by
     by_cases e:d=k;·subst e;unfold BA;rw[q,bS.all_true (λc N=>t.out c bC)];rfl
     ·exact y.out d bC⟩
    exact gV
 ·go_wp2;go_ret;exact⟨aW (bS.all_true (λd f=>y.out d bC)).symm,rfl⟩
theorem Jr(w:bI)(v:aC)(n:Nat)(Z:aL)(z:vF w v n Z)(D:n<=6):aD 172 #[v] w λe w'=>e=dz (O (xR Z n:Nat))/\w'=w:=by
 obtain⟨E,G,F,q,RO,C,rfl,x,y⟩:=z;go_enter func172,ntmps172;go_wp2;go_loop [6] (λi=>∃k:Nat,k<=n/\i=O k/\∀d,d<k->Vw Z n d=false) (λi=>n - (intOf i).toNat);exact⟨0,Nat.zero_le _,rfl,λd h=>absurd h<|Nat.not_lt_zero _⟩
 obtain⟨k,H,rfl,r⟩:=hrel;have f:J (∀d,d<k->Vw Z n d=false):=r;clear r;by_cases p:k<n
 ·have I:=x k p;have u:J (∀c,c<n->bJ w (q k) (RO k+c)=some (.bool<|Z k c)):=λc B=>y k c p B;go_wp2_with fail;refine(ajs w (q k) (RO k) n (C k) (Z k) D u.out).mono ?_;rintro e w' ⟨rfl,rfl⟩;rw[show(List.range n).all (Z k)=Vw Z n k from rfl];cases t:Vw Z n k
  ·go_wp2;go_round;exact⟨k+1,by omega,by go_num,λd h=>by
    by_cases e:d=k;·subst e;exact t
    ·exact f.out d bC⟩
   exact gV
  ·go_wp2;go_ret;exact⟨bZ (by unfold xR;rw[mD p f.out t];rfl),rfl⟩
 ·go_wp2;go_ret;exact⟨bZ (by unfold xR;rw[jW (λd h=>f.out d bC)];rfl),rfl⟩
namespace bS
def wM(L:Nat->Nat)(n r:Nat):Bool:=L r==n
def mR(G:Nat)(L:Nat->Nat)(n:Nat):Bool:=G==n&&(List.range G).all (wM L n)
end bS
theorem afv(w:bI)(v:aC)(G n:Nat)(L:Nat->Nat)(Z:aL)(E:EX w v G L Z)(S:n<=6):aD 24 #[v,O n] w λe w'=>e=dz (.bool<|mR G L n)/\w'=w:=by
 obtain⟨I,K,N,M,H,F,RO,C,rfl,hg,P,D,z,B⟩:=E;clear B;by_cases p:G=n
 ·subst p;have u:J (mR G L G=(List.range G).all (wM L G)):=by show mR G L G=_;unfold mR;simp
  go_enter func24,ntmps24;go_wp2;go_loop [13] (λi=>∃k:Nat,k<=G/\i=O k/\∀d,d<k->wM L G d=true) (λi=>G - (intOf i).toNat);exact⟨0,Nat.zero_le _,rfl,λd q=>absurd q<|Nat.not_lt_zero _⟩
  obtain⟨k,R,rfl,x⟩:=hrel;have t:J (∀d,d<k->wM L G d=true):=x;clear x;by_cases r:k<G
  ·obtain rfl:=hg bC;obtain⟨U,V⟩:=eY (z k r)<|D k r;by_cases f:L k=G
   ·have y:((L k:Int) != (G:Int))=false:=by rw[Ou];simp[f]
    have h:J (L k=G):=f;clear f;go_wp2;go_round;exact⟨k+1,by omega,by go_num,λd q=>by
     by_cases e:d=k;·subst e;simp[wM,h.out]
     ·exact t.out d bC⟩
    exact gV
   ·have y:((L k:Int) != (G:Int))=true:=by rw[Ou];simp[f]
    have h:J (¬L k=G):=f;clear f;go_wp2;go_ret;exact⟨aW (by rw[u.out];exact(bS.all_false r<|by simp[wM,h.out]).symm),rfl⟩
  ·go_wp2;go_ret;exact⟨aW (by rw[u.out];exact(bS.all_true (λd q=>t.out d bC)).symm),rfl⟩
 ·have y:((G:Int) != (n:Int))=true:=by rw[Ou];simp[p]
  have h:J (¬G=n):=p;clear p;go_enter func24,ntmps24;go_wp2;go_ret;exact⟨aW (by simp[mR,h.out]),rfl⟩
theorem qw(w:bI)(va:Option Addr)(h:aC)(n cap:Nat)(a:Int):aD 205 #[.agg #[X va n cap,h],O a] w λe w'=>e=dz (.bool<|decide (0<=a)&&decide (a<n))/\bK w w':=by
 by_cases f:0<=a
 ·by_cases d:a<n;·go_enter func205,ntmps205;go_wp2;go_ret;exact⟨aW (by simp[f,d]),(Below.refl _ _).alloc (Nat.le_refl _) _⟩
  ·go_enter func205,ntmps205;go_wp2;go_ret;exact⟨aW (by simp[d]),(Below.refl _ _).alloc (Nat.le_refl _) _⟩
 ·go_enter func205,ntmps205;go_wp2;go_ret;exact⟨aW (by rw[decide_eq_false (by omega:¬0<=a)];rfl),(Below.refl _ _).alloc (Nat.le_refl _) _⟩
theorem GA(w:bI)(s:aS)(t:s.size<=maxLen):aD 28 #[A s] w λe w'=>e=dz (.bool<|bS.dZ s.data.toList)/\w'=w:=by
 unfold maxLen at t;by_cases u:s.size<1
 ·have d:J (bS.dZ s.data.toList=false):=by show bS.dZ s.data.toList=false;unfold bS.dZ;rw[iG];simp;omega
  go_enter func28,ntmps28;go_wp2;go_ret;exact⟨aW d.out.symm,rfl⟩
 ·by_cases x:8<s.size
  ·have d:J (bS.dZ s.data.toList=false):=by show bS.dZ s.data.toList=false;unfold bS.dZ;rw[iG];simp;omega
   go_enter func28,ntmps28;go_wp2;go_ret;exact⟨aW d.out.symm,rfl⟩
  ·have d:J (bS.dZ s.data.toList=s.data.toList.all iY):=by show bS.dZ s.data.toList=_;unfold bS.dZ;rw[iG];rw[decide_eq_true (by omega:1<=s.size),decide_eq_true (by omega:s.size<=8)];rfl
   go_enter func28,ntmps28;go_wp2;go_loop [14] (λi=>∃k:Nat,k<=s.size/\i=O k/\∀j (f:j<s.size),j<k->iY s[j]=true) (λi=>s.size - (intOf i).toNat);exact⟨0,Nat.zero_le _,rfl,λj f q=>absurd q<|Nat.not_lt_zero _⟩
   obtain⟨k,y,rfl,p⟩:=hrel;have h:J (∀j (f:j<s.size),j<k->iY s[j]=true):=p;clear p;by_cases r:k<s.size
   ·go_wp2;·go_ret;exact⟨aW (by rw[d.out,uD s k r (by simp[iY];omega)]),rfl⟩
    ·go_round;exact⟨k+1,by omega,by go_num,λj f q=>by
      by_cases e:j=k;·subst e;simp[iY];omega
      ·exact h.out j f bC⟩
     exact gV
    ·go_ret;exact⟨aW (by rw[d.out,uD s k r (by simp[iY];omega)]),rfl⟩
   ·go_wp2;go_ret;exact⟨aW (by rw[d.out,Gy s (λj f=>h.out j f bC)]),rfl⟩
namespace bS
def sG(n:Nat):Bool:=n==32||n==10
def nY(n:Nat):Bool:=n==40||n==41
def sH(n:Nat):Bool:=(decide (97<=n)&&decide (n<=122))||(decide (48<=n)&&decide (n<=57))||n==46||n==43||n==45||n==42||n==60||n==61
def bt(s:aS)(k:Nat):Nat:=(s.data.toList.getD k 0).toNat
def Mh(s:aS)(k:Nat):Bool:=sG (bt s k)||nY (bt s k)||sH (bt s k)
def tok(s:aS):Nat->List (Nat × Nat) × Bool
 | 0=>([],false)
 | k+1=>
  if sG (bt s k)then ((tok s k).1,false)
  else if nY (bt s k)then ((tok s k).1++[(k,k+1)],false)
  else if (tok s k).2 then ((tok s k).1.dropLast++[(((tok s k).1.getLastD (0,0)).1,k+1)],true)
  else ((tok s k).1++[(k,k+1)],true)
def ext(s:aS)(p:Nat × Nat):aS:=s.extract p.1 p.2
def Df(s:aS):Option Nat:=(List.range s.size).find? λk=>!Mh s k
def BI(s:aS):List aS:=if 4096<s.size then []else match Df s with|some _=>[]|none=>(tok s s.size).1.map (ext s)
def rG(s:aS):List Int:=if 4096<s.size then []else match Df s with|some _=>[]|none=>(tok s s.size).1.map λp=>(p.1:Int)
def wn(s:aS):Nat:=if 4096<s.size then 0 else (Df s).getD 0
def we(s:aS):Int:=if 4096<s.size then 2 else if (Df s).isSome then 3 else 0
end bS
theorem Yl(s:aS)(k:Nat)(d:k<s.size):bS.bt s k=s[k].toNat:=by
 unfold bS.bt;have h:k<s.data.toList.length:=by simpa using d
 rw[List.getD,aZ h];rfl
theorem wN(s:aS):∀k,(bS.tok s k).1.length<=k/\(∀p∈(bS.tok s k).1,p.1<p.2/\p.2<=k)/\((bS.tok s k).2=true->∃L a,(bS.tok s k).1=L++[(a,k)])
 | 0=>⟨bG _,λp d=>aM d (by simp[bS.tok]),λh=>aM h<|by simp[bS.tok]⟩
 | k+1=>by
  obtain⟨q,f,r⟩:=wN s k;simp only[bS.tok];split;·exact⟨by simp only;omega,λp d=>⟨(f p d).1,by have:=(f p d).2;omega⟩,λh=>by cases h⟩
  ·split
   ·refine⟨by simp only[bg,iI];omega,λp d=>?_,λh=>by cases h⟩;rcases bX.1 d with d|d;·exact⟨(f p d).1,by have:=(f p d).2;omega⟩
    ·rw[dh]at d;subst d;exact⟨by simp only;omega,bG _⟩
   ·split
    ·rename_i u;obtain⟨L,a,e⟩:=r u;have t:=f (a,k) (by rw[e];simp);rw[e]at q f ⊢;refine⟨by simp at q ⊢;omega,λp d=>?_,λ_=>⟨_,_,rfl⟩⟩;simp only[List.dropLast_concat,List.getLastD_concat]at d;rcases bX.1 d with d|d;·have:=f p<|List.mem_append_left _ d;exact⟨this.1,by omega⟩
     ·rw[dh]at d;subst d;simp only at t ⊢;exact⟨by omega,bG _⟩
    ·refine⟨by simp only[bg,iI];omega,λp d=>?_,λ_=>⟨_,_,rfl⟩⟩;rcases bX.1 d with d|d;·exact⟨(f p d).1,by have:=(f p d).2;omega⟩
     ·rw[dh]at d;subst d;exact⟨by simp only;omega,bG _⟩
theorem ayR(s:aS)(a k:Nat)(d:a<=k):bS.ext s (a,k)++s.extract k (k+1)=bS.ext s (a,k+1):=by unfold bS.ext;simp only;rw[ByteArray.extract_append_extract];congr 1<;>omega
