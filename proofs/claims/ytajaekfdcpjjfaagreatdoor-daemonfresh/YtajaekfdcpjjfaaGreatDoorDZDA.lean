import Derived.Test.YtajaekfdcpjjfaaGreatDoorDZPC
import Derived.Test.YtajaekfdcpjjfaaGreatDoorDZBF
set_option maxHeartbeats 0
set_option maxRecDepth 99999
namespace Go.Proofs.YtajaekfdcpjjfaaGreatDoor
open Go.Proofs.Tryz
open Go.RowKit
namespace Da
theorem Ka:∀a:List UInt8,Lib.compareBytes a a=0
 | []=>rfl
 | a::r=>by unfold Lib.compareBytes;rw[aI (UInt8.lt_irrefl a),aI<|UInt8.lt_irrefl a];exact Ka r
theorem cmp_eq:∀{a b:List UInt8},Lib.compareBytes a b=0->a=b
 | [],[],_=>rfl
 | [],_::_,c=>by simp[Lib.compareBytes]at c
 | _::_,[],c=>by simp[Lib.compareBytes]at c
 | x::a,y::b,c=>by
  unfold Lib.compareBytes at c;split at c;·cases c
  ·split at c;·cases c
   ·rename_i d e;rw[UInt8.le_antisymm (UInt8.not_lt.1 e) (UInt8.not_lt.1 d),cmp_eq c]
theorem atQ:∀{a b c:List UInt8},Lib.compareBytes a b<0->Lib.compareBytes b c<0->Lib.compareBytes a c<0
 | [],[],_,d,_=>by simp[Lib.compareBytes]at d
 | _::_,[],_,d,_=>by simp[Lib.compareBytes]at d
 | [],_::_,[],_,d=>by simp[Lib.compareBytes]at d
 | _::_,_::_,[],_,d=>by simp[Lib.compareBytes]at d
 | [],_::_,_::_,_,_=>by simp[Lib.compareBytes]
 | x::a,y::b,h::c,d,k=>by
  unfold Lib.compareBytes at d k ⊢;by_cases g:x<y
  ·by_cases e:y<h;·rw[aK (UInt8.lt_trans g e)];decide
   ·rw[aI e]at k;by_cases f:h<y;·rw[aK f]at k;simp at k
    ·rw[UInt8.le_antisymm (UInt8.not_lt.1 e) (UInt8.not_lt.1 f),aK g];decide
  ·rw[aI g]at d;by_cases i:y<x;·rw[aK i]at d;simp at d
   ·rw[aI i]at d;rw[UInt8.le_antisymm (UInt8.not_lt.1 i) (UInt8.not_lt.1 g)];by_cases e:y<h;·rw[aK e];decide
    ·rw[aI e]at k ⊢;by_cases f:h<y;·rw[aK f]at k;simp at k
     ·rw[aI f]at k ⊢;exact atQ d k
theorem atS:∀{a b:List UInt8},¬Lib.compareBytes a b<0->a≠b->Lib.compareBytes b a<0
 | [],[],_,c=>aM rfl c
 | [],_::_,c,_=>by simp[Lib.compareBytes]at c
 | _::_,[],_,_=>by simp[Lib.compareBytes]
 | x::a,y::b,c,k=>by
  unfold Lib.compareBytes at c ⊢;by_cases d:x<y;·rw[aK d]at c;simp at c
  ·by_cases e:y<x;·rw[aK e];decide
   ·rw[aI d,aI e]at c;rw[aI e,aI d];exact atS c (λf=>k<|by rw[f,UInt8.le_antisymm (UInt8.not_lt.1 e)<|UInt8.not_lt.1 d])
def lt(a b:aS):Prop:=Lib.compareBytes a.data.toList b.data.toList<0
theorem lt_irrefl(a:aS):¬lt a a:=by unfold lt;rw[Ka];decide
theorem lt_trans{a b c:aS}(h:lt a b)(k:lt b c):lt a c:=atQ h k
theorem atX{a b:aS}(h:a.data.toList=b.data.toList):a=b:=by obtain⟨⟨a⟩⟩:=a;obtain⟨⟨b⟩⟩:=b;simp at h;rw[h]
theorem auA{a b:aS}(h:¬lt a b)(k:a≠b):lt b a:=atS h (λe=>k<|atX e)
def Up(l:List Mo):Prop:=l.Pairwise λx y=>lt x.name y.name
theorem Up.nil:Up []:=List.Pairwise.nil
theorem Up.get{l:List Mo}(a:Up l){i j:Nat}{x y:Mo}(d:l[i]?=some x)(f:l[j]?=some y)(e:i<j):lt x.name y.name:=by obtain⟨b,rfl⟩:=cO.1 d;obtain⟨c,rfl⟩:=cO.1 f;exact Px.1 a i j b c e
structure Pl(l:List Mo)(s:ByteArray)(i:Nat):Prop where
 le:i<=l.length
 below:∀k x,l[k]?=some x->k<i->lt x.name s
 above:∀k x,l[k]?=some x->i<=k->¬lt x.name s
def there(l:List Mo)(s:aS)(i:Nat):Bool:=match l[i]? with|some x=>decide (x.name=s)|none=>false
theorem l7{l:List Mo}{s:aS}{i:Nat}(a:there l s i=true):∃x,l[i]?=some x/\x.name=s:=by
 unfold there at a;split at a;·rename_i x b;exact⟨x,b,iP a⟩
 ·cases a
theorem auK{l:List Mo}{s:aS}{i:Nat}(j:Up l)(g:Pl l s i)(c:there l s i=false):∀x∈l,x.name≠s:=by
 intro x o b;obtain⟨k,a⟩:=YU.1 o;rcases Fa k i with d|d;·exact lt_irrefl _ (by have:=g.below k x a d;rw[b]at this;exact this)
 ·rcases Fa i k with e|e;·obtain⟨y,h⟩:∃y,l[i]?=some y:=⟨_,aZ (by have:=(cO.1 a).1;omega)⟩;have f:=j.get h a e;rw[b]at f;exact g.above i y h (bG _) f
  ·obtain rfl:i=k:=by omega
   unfold there at c;rw[a]at c;simp[b]at c
def cut(l:List Mo)(i j:Nat)(r:List Mo):List Mo:=l.take i++r++l.drop j
theorem fB{l:List Mo}{i:Nat}{x:Mo}:x∈l.take i↔∃k,k<i/\l[k]?=some x:=by
 rw[YU];constructor
 ·rintro⟨k,a⟩;rw[List.getElem?_take]at a;split at a;·exact⟨k,by assumption,a⟩
  ·cases a
 ·rintro⟨k,b,a⟩;exact⟨k,by rw[List.getElem?_take,aK b];exact a⟩
theorem Br{l:List Mo}{i:Nat}{x:Mo}:x∈l.drop i↔∃k,i<=k/\l[k]?=some x:=by
 rw[YU];constructor;·rintro⟨k,a⟩;rw[Rt]at a;exact⟨i+k,by omega,a⟩
 ·rintro⟨k,b,a⟩;exact⟨k - i,by rw[Rt,show i+(k - i)=k by omega];exact a⟩
def til(l:List Mo)(s:aS)(i:Nat):Nat:=if there l s i then i+1 else i
theorem auW{l:List Mo}{s:aS}{i:Nat}(a:Pl l s i):til l s i<=l.length:=by
 unfold til;split;·rename_i b;obtain⟨x,c,_⟩:=l7 b;exact(cO.1 c).1
 ·exact a.le
theorem Kc{l:List Mo}{s:aS}{i:Nat}(c:Pl l s i){x:Mo}(d:x∈l.take i):lt x.name s:=by obtain⟨k,a,b⟩:=fB.1 d;exact c.below k x b a
theorem yc{l:List Mo}{s:aS}{i:Nat}(e:Up l)(d:Pl l s i){x:Mo}(g:x∈l.drop (til l s i)):lt s x.name:=by
 obtain⟨k,a,c⟩:=Br.1 g;cases b:there l s i with
 | true =>obtain⟨y,h,rfl⟩:=l7 b;unfold til at a;rw[b,aK rfl]at a;exact e.get h c a
 | false =>have f:=auK e d b x<|dG c;unfold til at a;rw[b,aI bM]at a;exact auA (d.above k x c a) f
theorem EA{l:List Mo}{s:aS}{i:Nat}(j:Up l)(e:Pl l s i)(r:List Mo){y:Mo}:y∈cut l i (til l s i) r↔y∈r\/(y∈l/\y.name≠s):=by
 unfold cut;rw[bX,bX];constructor
 ·rintro((a|a)|a);·exact aQ ⟨N8 a,λb=>lt_irrefl _ (by have:=Kc e a;rw[b]at this;exact this)⟩
  ·exact aO a
  ·exact aQ ⟨List.mem_of_mem_drop a,λb=>lt_irrefl _ (by have:=yc j e a;rw[b]at this;exact this)⟩
 ·rintro(a|⟨a,g⟩);·exact aO<|aQ a
  ·obtain⟨k,c⟩:=YU.1 a;rcases Fa k i with d|d;·exact aO<|aO<|fB.2 ⟨k,d,c⟩
   ·refine aQ<|Br.2 ⟨k,?_,c⟩;unfold til;split
    ·rename_i h;obtain⟨p,o,b⟩:=l7 h;rcases Fa i k with f|f;·omega
     ·obtain rfl:i=k:=by omega
      rw[o]at c;cases c;exact aM b g
    ·exact d
theorem au2{l:List Mo}{s:aS}{i:Nat}(f:Up l)(e:Pl l s i){r:List Mo}(h:r=[]\/∃x,r=[x]/\x.name=s):Up (cut l i (til l s i) r):=by
 unfold cut Up;have j:Up (l.take i):=List.Pairwise.sublist (List.take_sublist _ _) f;have o:Up (l.drop<|til l s i):=List.Pairwise.sublist (List.drop_sublist _ _) f;rw[FP,FP];refine⟨⟨j,?_,λa c b d=>?_⟩,o,λa c b d=>?_⟩
 ·rcases h with rfl|⟨x,rfl,_⟩;·exact List.Pairwise.nil
  ·exact List.pairwise_singleton _ _
 ·rcases h with rfl|⟨x,rfl,g⟩;·cases d
  ·rw[dh.1 d,g];exact Kc e c
 ·rcases bX.1 c with c|c;·exact lt_trans (Kc e c)<|yc f e d
  ·rcases h with rfl|⟨x,rfl,g⟩;·cases c
   ·rw[dh.1 c,g];exact yc f e d
theorem atV{l:List Mo}{s:aS}{i:Nat}(a:Pl l s i)(r:List Mo):(cut l i (til l s i) r).length=l.length - (til l s i - i)+r.length:=by
 unfold cut;obtain⟨b,c⟩:=eY a.le<|auW a;have d:i<=til l s i:=by unfold til;split<;>omega
 simp only[bg,iA,Bo];omega
theorem aub:∀{a b:List Mo},Up a->Up b->(∀x,x∈a↔x∈b)->a=b
 | [],[],_,_,_=>rfl
 | [],y::_,_,_,c=>aM ((c y).2 cK) cK
 | x::_,[],_,_,c=>aM ((c x).1 cK) cK
 | x::r,y::s,o,p,c=>by
  obtain⟨f,i⟩:=uT.1 o;obtain⟨g,j⟩:=uT.1 p;have q:x=y:=by
   rcases fV.1 ((c x).1 cK)with d|hx;·exact d
   ·rcases fV.1 ((c y).2 cK)with d|hy;·exact d.symm
    ·exact aM (lt_trans (f y hy)<|g x hx)<|lt_irrefl _
  subst q;congr 1;refine aub i j λh=>?_;constructor
  ·intro e;rcases fV.1 ((c h).1 (l8 _ e))with d|hz';·rw[d]at e;exact aM (f x e)<|lt_irrefl _
   ·exact hz'
  ·intro e;rcases fV.1 ((c h).2 (l8 _ e))with d|hz';·rw[d]at e;exact aM (g x e)<|lt_irrefl _
   ·exact hz'
end Da
open Da
open Go.Maps Go.WideMaps
theorem Bg.sub{w w':bI}{d vf:aC}(a:Bg w d vf)(j:Sub w w'):Bg w' d vf:=⟨a.imp,a.fus,λb off n c e i h=>by obtain⟨o,f,g⟩:=a.par b off n c e i h;exact⟨o,j _ _ f,g⟩⟩
theorem auk:(prog.info? 89).map (λi=>(i.zero,i.size,i.bytes))=some (some<|.agg #[A ⟨#[]⟩,aU,aU,aU],4,88):=by kernel_rfl
def MoC(w0:bI)(m:Nat)(c:List Value)(x:Mo):Prop:=∃b d a,c=[.string x.name,b,d,a]/\jl w0 m (.agg #[.string x.name,b,d,a]) x/\Bg w0 b a
theorem MoC.forms{w:bI}{m:Nat}{c:List aC}{x:Mo}(i:MoC w m c x):∃b r f d s g e t h,c=[A x.name,X b r f,X d s g,X e t h]:=by obtain⟨y,z,u,rfl,q,_⟩:=i;obtain⟨b,d,e,a,_,j,o,p⟩:=q;injection a with a;simp only[Array.mk.injEq,R9,and_true,true_and]at a;obtain⟨rfl,rfl,rfl⟩:=a;obtain⟨_,_,_,_,rfl,_⟩:=j;obtain⟨_,_,_,_,rfl,_⟩:=o;obtain⟨_,_,_,_,rfl,_⟩:=p;exact⟨_,_,_,_,_,_,_,_,_,rfl⟩
theorem MoC.one{w0:bI}{m:Nat}{c:List aC}{x:Mo}(d:MoC w0 m c x):∀b∈c,b.oneCell'=true:=by obtain⟨_,_,_,_,_,_,_,_,_,rfl⟩:=d.forms;intro b a;simp at a;rcases a with rfl|rfl|rfl|rfl<;>rfl
theorem MoC.sub{w w':bI}{m:Nat}{c:List aC}{x:Mo}(d:MoC w m c x)(a:Sub w w'):MoC w' m c x:=by obtain⟨h,i,g,b,f,e⟩:=d;exact⟨h,i,g,b,f.sub a,e.sub a⟩
theorem MoC.len{w:bI}{m:Nat}{c:List aC}{x:Mo}(a:MoC w m c x):c.length=4:=by obtain⟨d,e,b,rfl,_⟩:=a;rfl
def om(w0 w:bI)(m:Nat)(v:Value)(l:List Mo):Prop:=
 ∃(a:Option Addr) (b off cap:Nat),v=.slice a l.length cap/\(0<l.length->a=some ⟨b,off,none⟩)/\l.length<=cap/\
  ∀(i:Nat) y,l[i]?=some y->∃c:List Value,c.length=4/\(∀j u,c[j]?=some u->w.cell? ⟨b,off+i*4+j,none⟩=some u)/\MoC w0 m c y
theorem om.below{w0 w w':bI}{m:Nat}{v:aC}{l:List Mo}(e:om w0 w m v l)(h:bK w w'):om w0 w' m v l:=by obtain⟨a,b,off,cap,d,f,o,g⟩:=e;refine⟨a,b,off,cap,d,f,o,λi y q=>?_⟩;obtain⟨c,r,s,t⟩:=g i y q;exact⟨c,r,λj u p=>aG (s j u p) h,t⟩
theorem om.sub{w0 w1 w w':bI}{m:Nat}{v:aC}{l:List Mo}(e:om w0 w m v l)(f:Sub w0 w1)(h:Sub w w'):om w1 w' m v l:=by obtain⟨a,b,off,cap,d,g,p,o⟩:=e;refine⟨a,b,off,cap,d,g,p,λi y r=>?_⟩;obtain⟨c,s,t,u⟩:=o i y r;exact⟨c,s,λj x q=>h _ _<|t j x q,u.sub f⟩
theorem om.nil(w0 w:bI)(m:Nat):om w0 w m (aU) []:=⟨none,0,0,0,rfl,λa=>aM a cK,bG _,λi y b=>aM b cK⟩
theorem om.take{w0 w:bI}{m n cap:Nat}{a:Option Addr}{l:List Mo}(g:om w0 w m (X a n cap) l){i:Nat}(s:i<=l.length):om w0 w m (X a i cap) (l.take i):=by
 obtain⟨p,b,off,q,d,h,t,j⟩:=g;injection d with e r f;subst e f;have o:(l.take i).length=i:=by rw[iA];omega
 refine⟨a,b,off,cap,by rw[o],λu=>h bC,by omega,λk y c=>j k y ?_⟩;rw[List.getElem?_take]at c;split at c;·exact c
 ·cases c
def lC(w0:bI)(m:Nat)(w:bI)(n:Nat)(v:Value)(l:List Mo):Prop:=
 ∃cs:List (List Value),w.ownsRow n 89 4 v l.length cs.flatten/\cs.length=l.length/\(∀(i:Nat) c y,cs[i]?=some c->l[i]?=some y->MoC w0 m c y)
section
variable {w0 w w' : World} {m n : Nat} {v : Value} {l : List Mo}
theorem lC.lt(a:lC w0 m w n v l):∀j,v.ownBlock=some j->n<=j/\j<w.heap.size:=by obtain⟨cs,b,_⟩:=a;exact b.lt
theorem lC.all(b:lC w0 m w n v l):∃cs:List (List aC),w.ownsRow n 89 4 v l.length cs.flatten/\cs.length=l.length/\(∀c∈cs,c.length=4)/\(∀(i:Nat) c y,cs[i]?=some c->l[i]?=some y->MoC w0 m c y):=by obtain⟨cs,d,e,a⟩:=b;refine⟨cs,d,e,λc f=>?_,a⟩;obtain⟨i,g,rfl⟩:=gU.1 f;exact(a i _ _ (aZ g)<|aZ bC).len
theorem lC.mkS(p:lC w0 m w n v l):om w0 w m v l:=by
 obtain⟨cs,d,e,b,r⟩:=p.all;have q:=d;rcases d.2 with⟨rfl,t⟩|⟨g,cap,s,rfl,_,_,a,_⟩;·obtain rfl:l=[]:=qp.1 bC;exact om.nil _ _ _
 ·refine⟨_,g,0,cap,rfl,λ_=>rfl,a,λi y o=>?_⟩;have c:i<cs.length:=by rw[e];exact(cO.1 o).1
  have a:=aZ c;refine⟨cs[i],b _<|kZ c,λj u h=>?_,r i _ y a o⟩;have f:=(cO.1 h).1;rw[b _ (kZ c)]at f;rw[d9];exact(Yk q e b a f).trans h
theorem lC.cat{d e:List (List aC)}{f:List Mo}(g:d.length=l.length)(o:∀(i:Nat) c y,d[i]?=some c->l[i]?=some y->MoC w0 m c y)(p:e.length=f.length)(q:∀(i:Nat) c y,e[i]?=some c->f[i]?=some y->MoC w0 m c y)(j:w.ownsRow n 89 4 v (l.length+f.length) (d.flatten++e.flatten)):lC w0 m w n v (l++f):=by
 refine⟨d++e,by rw[Da,bg];exact j,by simp[g,p],λi c y a b=>?_⟩;rw[List.getElem?_append]at a b;by_cases h:i<l.length;·rw[aK bC]at a;rw[aK h]at b;exact o i c y a b
 ·rw[aI bC]at a;rw[aI h]at b;rw[g]at a;exact q _ c y a b
end
theorem auq(w0:bI)(m:Nat)(w:bI)(n:Nat)(E:n<=1048576):aD 149 #[aU,O n] w λa w'=>∃v,a=dz v/\J (lC w0 m w' w.heap.size v []/\bK w w'):=by
 obtain⟨z,r,o,F,p⟩:=info_parts auk;by_cases t:n=0;·subst t;go_enter func149,ntmps149;go_wp2;go_ret;exact⟨_,rfl,Y ⟨⟨[],lJ _ _ _ _,rfl,λi c y d=>aM d cK⟩,bQ _ _⟩⟩
 ·obtain⟨Z,g⟩:∃Z:aC,Z=.agg #[A ⟨#[]⟩,aU,aU,aU]:=⟨_,rfl⟩;rw[<-g]at o;have j:∀e,(Builtin.append_ #[26,3] e #[aU,O n]).run prog w=.ok (Tc w.heap.size n<|grownCap w n 0 89) (w.drew.alloc<|.cells (Builtin.zeroCells Z.cells n++Builtin.zeroCells Z.cells (grownCap w n 0 89 - n)) 89):=λe=>by have s:=Lib.run_append_grow_zeros w 26 3 e 89 z Z .i64 .i64 underlying26 underlying3 r o none 0 0 [] (run_firstCells_none w.drew _ 0 0 0) n bC bC bC bC (by rw[p];omega) (by rw[d9];exact growslice_fits bC (by rw[p];omega));simpa using s
  have u:n<=grownCap w n 0 89:=grownCap_ge w _ _ _;have b:grownCap w n 0 89<=maxLen:=grownCap_le_maxLen w n 0 89 (by unfold maxLen;omega);obtain⟨G,f⟩:=aV<|grownCap w n 0 89;rw[<-f]at j u b;have D:G<=9223372036854775807:=by unfold maxLen at b;omega
  have h:(w.drew.alloc<|.cells (Builtin.zeroCells Z.cells n++Builtin.zeroCells Z.cells (G - n)) 89).ownsRow w.heap.size 89 4 (Tc w.heap.size 0 G) 0 []:=
   ⟨by simp,.inr ⟨w.heap.size,G,_,rfl,bG _,heap_alloc_new w.drew _,bN _,b,by
    have a:∀k,(Builtin.zeroCells Z.cells k).size=k*4:=λk=>by rw[g];simp[Builtin.zeroCells,Value.cells]
    rw[Array.size_append,a,a];omega,by simp⟩⟩
  have q:=Y h;have x:J (bK w<|w.drew.alloc<|.cells (Builtin.zeroCells Z.cells n++Builtin.zeroCells Z.cells (G - n)) 89):=Y<|((bQ _ _).drew).alloc cK _;clear h f;generalize (w.drew.alloc<|.cells (Builtin.zeroCells Z.cells n++Builtin.zeroCells Z.cells (G - n)) 89)=C at *;go_enter func149,ntmps149;go_wp2_with (at_builtin;refine Lib.wpList_append_run _ rfl _ _ _ _ rfl _ _ rfl rfl _ _ (j _) ?_);go_ret;exact⟨_,rfl,Y ⟨⟨[],q,rfl,λi c y d=>aM d cK⟩,x⟩⟩
theorem Mk{ls:List (List Mo)}{j:Nat}{l:List Mo}(a:ls[j]?=some l):(ls.take<|j+1).flatten=(ls.take j).flatten++l:=by obtain⟨b,rfl⟩:=cO.1 a;rw[uW b,Da];simp
theorem OB(ls:List (List Mo))(j:Nat):(ls.take j).flatten.length<=ls.flatten.length:=by
 conv=>rhs;rw[<-pK j ls]
 rw[Da,bg];omega
theorem atY(w0:bI)(m:Nat)(w:bI)(b off cap:Nat)(ls:List (List Mo))(ac:ls.length<=16)(hel:∀i l,ls[i]?=some l->∃s,bJ w b (off+i)=some s/\om w0 w m s l)(q:ls.flatten.length<=1048576):aD 94 #[X (some<|aN b off) ls.length cap] w λe w'=>∃v',e=dz v'/\J (lC w0 m w' w.heap.size v' ls.flatten/\bK w w'):=by
 have j5:=Y hel;clear hel;obtain⟨len,y⟩:=aV ls.length;have o:=Y y;rw[<-y]at ac ⊢;clear y;go_enter func94,ntmps94;go_wp2;go_loop [3,11] (λD i=>∃k:Nat,k<=len/\i=O k/\D=O (ls.take k).flatten.length) (λ_ i=>len - (intOf i).toNat);exact⟨0,bN _,rfl,rfl⟩
 obtain⟨k,R,rfl,rfl⟩:=hrel;have x:=bE (OB ls k) q;by_cases p:k<len
 ·obtain⟨l,f⟩:∃l,ls[k]?=some l:=⟨_,aZ (by rw[<-o];exact p)⟩;obtain⟨s,u,r⟩:=j5 k l f;obtain⟨a,t,E,I,rfl,-⟩:=r;have g:J ((ls.take<|k+1).flatten.length=(ls.take k).flatten.length+l.length):=Y (by rw[Mk f,bg]);have G:=bE (OB ls<|k+1) q;rw[g]at G;generalize (ls.take k).flatten.length=n0 at *;generalize l.length=n1 at *;clear f;go_wp2;go_round;exact⟨k+1,by omega,by go_num,by rw[g];go_num⟩;exact gV
 ·have e:ls.take k=ls:=fQ (by have:=o.out;omega);rw[e]at x ⊢;clear e;have HN:=Y q;obtain⟨N,K⟩:=aV ls.flatten.length;rw[<-K]at x ⊢;clear K q;go_wp2_with fail;refine(auq w0 m w N x).mono ?_;rintro e w1 ⟨v1,rfl,Ki⟩;clear R p;go_wp2;go_loopw[6,27] (λD i wr=>∃k:Nat,k<=len/\i=O k/\J (lC w0 m wr w.heap.size D (ls.take k).flatten/\bK w wr)) (λ_ i _=>len - (intOf i).toNat);exact⟨0,bN _,rfl,Ki⟩
  obtain⟨k,R,rfl,d⟩:=hrel;by_cases p:k<len
  ·obtain⟨l,f⟩:∃l,ls[k]?=some l:=⟨_,aZ (by rw[<-o];exact p)⟩;obtain⟨s,u,r⟩:=j5 k l f;obtain⟨u0,af⟩:=eY (aG u d.2)<|r.below d.2;obtain⟨a,t,E,I,rfl,M,-,hel⟩:=af;obtain⟨cs,z,k2,C,k4⟩:=acH (At:=MoC w0 m) (w:=wr) (b:=t) (off:=E) (k:=4) (l:=l) bM hel;obtain⟨ai,U,V,-,j4⟩:=d.1.all;obtain⟨ES,H,g⟩:=fE M (And.intro k4 (λF (hu:F∈cs.flatten)=>show F.oneCell'=true by obtain⟨c,hc,ag⟩:=List.mem_flatten.1 hu;obtain⟨i,hi,rfl⟩:=gU.1 hc;exact(C i _ _ (aZ hi)<|aZ bC).one F ag)) (Mk f);have G:=bE (OB ls<|k+1) HN;rw[g,bg]at G;have ab:=Y U;have ad:=Y (λw2 v' h=>lC.cat (w0:=w0) (w:=w2) (n:=w.heap.size) (v:=v') V j4 z C h);have P:=d.2.size;have CV:J (cs.flatten.length=l.length*4):=Y (by rw[sj cs k2,z]);have oL:=Y d.out.1.lt;generalize l.length=n1 at *;generalize (ls.take k).flatten.length=n2 at *;clear f r u M hel z k2 C k4 U V j4
   go_wp2_with (first
    | (at_builtin;refine lq rfl _ _ 26 89 4 88 _ rfl underlying26 auk bM bM w.heap.size _ _ _ rfl ab a t E n1 I cs.flatten rfl ES CV H.1 H.2 (by unfold maxLen;omega) bC P ?_;intro v' w2 S Q ah ae)
    | fail)
   obtain⟨R2,aa⟩:=bV (d.2.grown Q P (λj hj=>(oL j hj).1))<|ad _ _ S;clear Q S ah ae;go_roundw;exact⟨k+1,by omega,by go_num,Y ⟨by rw[g];exact aa,R2⟩⟩;exact gV
  ·have e:ls.take k=ls:=fQ (by have:=o.out;omega);rw[e]at d;go_wp2;go_ret;exact⟨_,rfl,d⟩
theorem Qa(w:bI)(n s:aS)(a b c:Option Addr)(h i j d e f:Nat):aD 92 #[.agg #[A n,X a h d,X b i e,X c j f],A s] w λg w'=>g=dz (O<|Lib.compareBytes n.data.toList s.data.toList)/\bK w w':=by have p:=Y (λq=>Tryz.strings_Compare n s q);have o:=Y<|aH w<|aY #[A n,X a h d,X b i e,X c j f] 89;go_enter func92,ntmps92;go_wp2_with fail;refine(p _).mono ?_;rintro g r ⟨rfl,rfl⟩;go_wp2;go_ret;exact⟨rfl,o⟩
theorem auL{a b:Nat}(h:a<b):(a+b) / 2<b/\a<=(a+b) / 2:=by omega
theorem auc(w0:bI)(m:Nat)(w:bI)(v:aC)(l:List Mo)(s:aS)(o:om w0 w m v l)(g:Da.Up l)(hn:l.length<=1048576):aD 91 #[v,A s,.func (.func 92) #[] #[]] w λt w'=>∃i:Nat,t=dz (.tuple #[O i,.bool<|Da.there l s i])/\J (Da.Pl l s i/\bK w w'):=by
 obtain⟨a,b,off,cap,rfl,h0,ad,ac⟩:=o;obtain⟨j5,HU,H⟩:=fE ac g h0;obtain⟨len,aa⟩:=aV l.length;have r:=Y aa;rw[<-aa]at hn H ⊢;clear ac g h0 ad aa;go_enter func91,ntmps91;go_wp2_with fail;go_loopw[9,10,11] (λi j o wr=>∃(x y:Nat) (hv:aC),hv=o/\x<=y/\y<=len/\i=O x/\j=O y/\J ((∀k z,l[k]?=some z->k<x->Da.lt z.name s)/\(∀k z,l[k]?=some z->y<=k->¬Da.lt z.name s)/\bK w wr)) (λi j _ _=>(intOf j).toNat - (intOf i).toNat);exact⟨0,len,_,rfl,bN _,bG _,rfl,rfl,Y ⟨λk z _ h=>aM h<|fU _,λk z e h=>(by have:=(cO.1 e).1;have:=r.out;omega),bQ _ _⟩⟩
 obtain⟨x,y,hv,rfl,ai,af,rfl,rfl,d⟩:=hrel;by_cases ae:x<y
 ·have F:=Y<|auL ae;obtain⟨z,e⟩:∃z,l[(x+y) / 2]?=some z:=⟨_,aZ (by have:=r.out;have:=F.out;omega)⟩;have G:=Y e;obtain⟨c,-,f,E⟩:=j5 _ z e;obtain⟨M,n1,Q,N,n2,R,P,n3,S,rfl⟩:=E.forms;obtain rfl:=H bC;have U:wr.cell? ⟨b,off+(x+y) / 2*4,none⟩=some (A z.name):=aG (f 0 _ rfl) d.2.2;have I:=Y<|Qa wr z.name s M N P n1 n2 n3 Q R S;obtain⟨V,g2,g3⟩:=lS (aG (f 1 _ rfl) d.2.2) (aG (f 2 _ rfl) d.2.2) (aG (f 3 _ rfl) d.2.2);clear f E e;go_wp2_with fail;refine I.mono ?_;rintro t w5 ⟨rfl,D⟩;have eD:=Y<|up d.2.2 D;clear D U V g2 g3;by_cases p:Lib.compareBytes z.name.data.toList s.data.toList<0
  ·have oL:J (Da.lt z.name s):=Y p;go_wp2;go_roundw;exact⟨(x+y) / 2+1,y,_,rfl,by have:=F.out;omega,af,by go_num,rfl,Y ⟨λk u g h=>(by
    rcases Fa k ((x+y) / 2)with C|C;·exact Da.lt_trans (HU.get g G C) oL
    ·obtain rfl:k=(x+y) / 2:=by omega
     rw[G]at g;cases g;exact oL),d.2.1,eD⟩⟩
   exact gV
  ·have YS:J (¬Da.lt z.name s):=Y p;go_wp2;go_roundw;exact⟨x,(x+y) / 2,_,rfl,F.2,by have:=F.out;omega,rfl,by go_num,Y ⟨d.1,λk u g h o=>YS (by
    rcases Fa ((x+y) / 2) k with C|C;·exact Da.lt_trans (HU.get G g C) o
    ·obtain rfl:k=(x+y) / 2:=by omega
     rw[G]at g;cases g;exact o),eD⟩⟩
   exact gV
 ·obtain rfl:x=y:=by omega
  have K:J (Da.Pl l s x):=Y ⟨by have:=r.out;omega,λk z e h=>d.1 k z e h,λk z e h=>d.2.1 k z e h⟩;by_cases ah:x<len
  ·obtain⟨z,e⟩:∃z,l[x]?=some z:=⟨_,aZ (by have:=r.out;omega)⟩;have ab:J (Da.there l s x=decide (z.name=s)):=Y (by unfold Da.there;rw[e]);obtain⟨c,-,f,E⟩:=j5 _ z e;obtain⟨M,n1,Q,N,n2,R,P,n3,S,rfl⟩:=E.forms;obtain rfl:=H bC;have U:bJ wr b (off+x*4)=some (A z.name):=aG (f 0 _ rfl) d.2.2;have I:=Y<|Qa wr z.name s M N P n1 n2 n3 Q R S;obtain⟨V,g2,g3⟩:=lS (aG (f 1 _ rfl) d.2.2) (aG (f 2 _ rfl) d.2.2) (aG (f 3 _ rfl) d.2.2);clear f E e;go_wp2_with fail;refine I.mono ?_;rintro t w5 ⟨rfl,D⟩;have eD:=Y<|up d.2.2 D;clear D U V g2 g3;by_cases p:Lib.compareBytes z.name.data.toList s.data.toList=0;·have q:J (Da.there l s x=true):=Y (by rw[ab];exact gW<|atX<|Da.cmp_eq p);go_wp2;go_ret2;exact⟨x,by rw[q];rfl,Y ⟨K,eD⟩⟩
   ·have q:J (Da.there l s x=false):=Y (by rw[ab];exact iD (λt=>p (by rw[t];exact Ka _)));have ag:(Lib.compareBytes z.name.data.toList s.data.toList==(0:Int))=false:=by simpa using p
    go_wp2;go_ret2;exact⟨x,by rw[q];rfl,Y ⟨K,eD⟩⟩
  ·have q:J (Da.there l s x=false):=Y (by unfold Da.there;rw[Ry (by have:=r.out;omega)]);go_wp2;go_ret2;exact⟨x,by rw[q];rfl,Y ⟨K,d.2.2⟩⟩
theorem atT(w0:bI)(m:Nat)(w:bI)(b:Nat)(v:aC)(l:List Mo)(s:aS)(q:bJ w b 2=some v)(h:om w0 w m v l)(t:Da.Up l)(j:l.length<=1048576):aD 50 #[gK b,A s] w λg w'=>∃i:Nat,g=dz (.tuple #[O i,O (til l s i:Nat)])/\J (Da.Pl l s i/\bK w w'):=by
 have f:=Y<|auc w0 m w v l s h t j;obtain⟨a,_,_,cap,rfl,-⟩:=h;obtain⟨n,e⟩:=aV l.length;have p:=Y e;rw[<-e]at q j f;clear e;go_enter func50,ntmps50;go_wp2_with fail;refine f.mono ?_;rintro g u ⟨i,rfl,d⟩;have r:=d.1.le;rw[<-p]at r;cases o:Da.there l s i with
 | true =>have c:J (til l s i=i+1):=Y (by unfold til;rw[o];rfl);go_wp2;go_ret2;exact⟨i,by rw[c];go_num,d⟩
 | false =>have c:J (til l s i=i):=Y (by unfold til;rw[o];rfl);go_wp2;go_ret2;exact⟨i,by rw[c];rfl,d⟩
theorem Own.auX{w:bI}{B:Nat}{P:Nat->Bool}{v:aC}{l:aJ}(a:Own w B v l)(h:∀k,B<=k->k<w.heap.size->P k=true)(c:∀s∈l,s.size<=maxLen)(f:l.length<=9223372036854775807):Strs (only P w) v l:=by
 have d:=a;rcases a.2 with⟨rfl,o⟩|⟨g,cap,i,rfl,hg,e,_⟩;·have:l=[]:=qp.1 bC;subst this;exact⟨none,0,0,0,rfl,λa=>aM a cK,by simp,λs c=>aM c cK,λj b=>aM b cK⟩
 ·refine⟨_,g,0,cap,rfl,λ_=>rfl,f,c,λj b=>bR.2 ⟨h g hg<|aR e,?_⟩⟩;have:=yC d j bC;rw[d9];exact this.trans (by simp[b])
theorem Qb{w:bI}{a d n:Nat}{v:aC}{c:List aC}(b:w.ownsRow a d 1 v n c)(p:0<n):∃g cap,v=Tc g n cap/\(a<=g/\g<w.heap.size)/\∀j,j<n->bJ w g j=c[j]?:=by
 have e:=b;rcases b.2 with⟨rfl,i⟩|⟨g,cap,h,rfl,hg,f,_⟩;·omega
 ·exact⟨g,cap,rfl,⟨hg,aR f⟩,λj o=>e.cellAt j bC⟩
theorem au3{w:bI}{B n:Nat}{P:Nat->Bool}{vo:aC}{vr:Nat->aC}{L:Nat->Nat}{Z:aL}(h:∀k,B<=k->k<w.heap.size->P k=true)(D:n<=64)(f:∀j,j<n->0<L j/\L j<=64)(C:w.ownsRow B 49 1 vo n ((List.range n).map vr))(y:∀j,j<n->w.ownsRow B 4 1 (vr j) (L j) ((List.range<|L j).map λc=>.bool<|Z j c))(t:0<n):EX (only P w) vo n L Z:=by
 obtain⟨g,cap,rfl,hg,u⟩:=Qb C t;have b:∀j,∃p:Nat × Nat,j<n->vr j=Tc p.1 (L j) p.2/\(B<=p.1/\p.1<w.heap.size)/\∀c,c<L j->bJ w p.1 c=some (.bool<|Z j c):=by
  intro j;by_cases e:j<n;·obtain⟨q,i,o,z,x⟩:=Qb (y j e) (f j e).1;refine⟨(q,i),λ_=>⟨o,z,λc d=>?_⟩⟩;exact(x c d).trans (by simp[d])
  ·exact⟨(0,0),λs=>aM s e⟩
 refine⟨some<|aN g 0,g,0,cap,λj=>some ⟨(Classical.choose<|b j).1,0,none⟩,λj=>(Classical.choose<|b j).1,λ_=>0,λj=>(Classical.choose<|b j).2,rfl,λ_=>rfl,by omega,λr a=>by have:=(f r a).2;omega,λr a=>?_,λr c a d=>⟨rfl,?_⟩⟩;·rw[d9];refine bR.2 ⟨h g hg.1 hg.2,?_⟩;refine(u r a).trans ?_;have:=(Classical.choose_spec (b r) a).1;simp only[pq,List.getElem?_range a,kV];exact congrArg some this
 ·rw[d9];have:=Classical.choose_spec (b r) a;exact bR.2 ⟨h _ this.2.1.1 this.2.1.2,this.2.2 c d⟩
theorem aud(w:bI)(b off n cap:Nat)(Z:Nat->Bool)(f:∀c,c<n->bJ w b (off+c)=some (.bool<|Z c))(C:0<n)(D:n<=64):aD 90 #[X (some<|aN b off) n cap] w λg w'=>∃v,g=dz v/\J (w'.ownsRow w.heap.size 4 1 v n ((List.range n).map λc=>.bool<|Z c)/\bK w w'):=by
 have e:=Y<|aH w<|aY #[] 4;have s:J (∀j d,((List.range n).map λc=>Value.bool<|Z c)[j]?=some d->(w.alloc<|aY #[] 4).cell? (aN b<|off+j)=some d):=Y λj d a=>by
  have p:j<n:=by have:=(cO.1 a).1;simpa using this
  rw[pq,List.getElem?_range p]at a;simp at a;subst a;exact aG (f j p) e
 have q:J (((List.range n).map λc=>Value.bool<|Z c).length=n*1):=Y cK;have u:J (∀d∈(List.range n).map (λc=>Value.bool<|Z c),d.oneCell'=true):=Y λd a=>by obtain⟨c,_,rfl⟩:=iZ.1 a;rfl
 have t:J (0<n->some ((aN b off):Addr)=some (aN b off)):=Y (λ_=>rfl);clear f;have E:∀w n c,(binOp .eql 49 (X (some<|aN b off) n c)<|aU).run prog w=.ok (.bool false) w:=λw n c=>Lib.run_eql_slice_nil w 49 4 (some<|aN b off) n c 0 0 underlying49;have h:=Y<|M5 w 4 1;go_enter func90,ntmps90
 go_wp2_with (first
  | (at_builtin;refine lq rfl _ _ 49 4 1 1 _ rfl underlying49 ads bM bM w.heap.size _ 0 [] rfl h (some<|aN b off) b off n cap _ rfl t q s u (by unfold maxLen;omega) bC e.size ?_;intro F G o i x y;have r:=Y o;have z:=Y<|Below.grown e i e.size (λk g=>by have:=(h.lt k g).1;omega);clear o i x y)
  | fail)
 go_ret;refine⟨_,rfl,Y ⟨?_,z⟩⟩;have f:=r.out;rwa[d9,sP]at f
structure Cp(W w:World)(B:Nat)(ss:List ByteArray)(vn vo:Value)(vr:Nat->Value)(k:Nat)(L:Nat->Nat)(Z:Nat->Nat->Bool):Prop where
 blk:w.heap[B]?=some (.cells #[vn,vo] 25 (0,0))
 nm:Own w (B+1) vn ss
 outer:w.ownsRow (B+1) 49 1 vo k ((List.range k).map vr)
 done:∀j,j<k->w.ownsRow (B+1) 4 1 (vr j) (L j) ((List.range (L j)).map λc=>.bool (Z j c))
 but:But B W w
 sz:W.heap.size=B+1
section
variable {W w w' w2 : World} {B k : Nat} {ss : List ByteArray} {vn vo v v' : Value} {vr : Nat → Value} {L : Nat → Nat} {Z : Nat → Nat → Bool}
theorem Cp.below(a:Cp W w B ss vn vo vr k L Z)(b:bK w w'):Cp W w' B ss vn vo vr k L Z:=
 ⟨bH a.blk b,fu a.nm b,fu a.outer b,λj c=>fu (a.done j c) b,a.but.trans<|But.of_below b,a.sz⟩
theorem Cp.app(b:Cp W w B ss vn vo vr k L Z)(g:w.ownsRow (B+1) 4 1 v (L k) ((List.range<|L k).map λc=>.bool<|Z k c))(hg:w.grownBy w2 vo.ownBlock)(o:w2.ownsRow (B+1) 49 1 v' (k+1) ((List.range k).map vr++[v])):Cp W (w2.setCell (aN B 1) v') B ss vn v' (λj=>if j=k then v else vr j) (k+1) L Z:=by
 have i:=aR b.blk;have h:dR w2 B (aY #[vn,vo] 25):=by exact(hg.block B i (λd=>by have:=(b.outer.lt B d.symm).1;omega)).trans b.blk
 refine⟨(aP h 1 v').trans rfl,ownsRow_setCell_below (World.ownsRow.kept b.nm hg<|atU b.nm b.outer bM) (by show B<B+1;omega) _,ownsRow_setCell_below ?_ (by show B<B+1;omega) _,λj e=>ownsRow_setCell_below ?_ (by show B<B+1;omega) _,(b.but.grown hg (λj e=>by have:=(b.outer.lt j e).1;have:=b.sz;omega)).set (a:=(aN B 1)) (aO rfl) _,b.sz⟩
 ·have d:(List.range<|k+1).map (λj=>if j=k then v else vr j)=(List.range k).map vr++[v]:=by
   rw[Ji,gX];congr 1;·refine Na λj e=>?_;have:=jE.1 e;rw[aI bC]
   ·simp
  rw[d];exact o
 ·by_cases d:j=k;·subst d;rw[aK rfl];exact World.ownsRow.kept g hg<|atU g b.outer bM
  ·rw[aI d];have f:=b.done j bC;exact World.ownsRow.kept f hg<|atU f b.outer bM
theorem Cp.name(b:Cp W w B ss vn vo vr 0 L Z)(g:vo=aU){s:aS}(hg:w.grownBy w2 vn.ownBlock)(h:Own w2 (B+1) v' (ss++[s])):Cp W (w2.setCell (aN B 0) v') B (ss++[s]) v' vo vr 0 L Z:=by
 have f:=aR b.blk;have e:dR w2 B (aY #[vn,vo] 25):=by exact(hg.block B f (λd=>by have:=(Fp b.nm B d.symm).1;omega)).trans b.blk
 subst g;exact⟨(aP e 0 v').trans rfl,ownsRow_setCell_below h (by show B<B+1;omega) _,lJ _ _ _ _,λj c=>aM c<|fU _,(b.but.grown hg (λj c=>by have:=(Fp b.nm j c).1;have:=b.sz;omega)).set (a:=(aN B 0)) (aO rfl) _,b.sz⟩
end
theorem SA{w:bI}{a c size n b:Nat}{v x y:aC}{xs:List aC}(e:w.ownsRow a c size v n xs)(d:b<a):((w.setCell (aN b 0) x).setCell (aN b 1) y).ownsRow a c size v n xs:=ownsRow_setCell_below (ownsRow_setCell_below e d _) d _
theorem aur:(prog.info? 49).map (λi=>(i.zero,i.size,i.bytes))=some (some<|aU,1,24):=by kernel_rfl
theorem aue(w:bI)(vn vl:aC)(ss:aJ)(G:Nat)(L:Nat->Nat)(Z:aL)(hS:Strs w vn ss)(hR:EX w vl G L Z)(h6:ss.length<=6)(hG:0<G/\G<=6)(hL:∀r,r<G->0<L r/\L r<=64)(hz:∀s∈ss,s.size<=8):aD 49 #[.agg #[vn,vl]] w λI w'=>∃aa a0,I=dz (.agg #[aa,a0])/\J ((∀P:Nat->Bool,(∀k,w.heap.size<=k->k<w'.heap.size->P k=true)->Strs (only P w') aa ss/\EX (only P w') a0 G L Z)/\bK w w'):=by
 obtain⟨na,nb,no,nc,rfl,av,bf,bp,aw⟩:=hS;obtain⟨ra,rb,ro,rc,Zk,RB,RO,C,rfl,bh,bi,bc,az,aA⟩:=hR;obtain rfl:=bh hG.1;obtain⟨Vf,HZ,ao,II,YR,aq⟩:=vC hL hz aw av az aA;obtain⟨n,hn⟩:=aV ss.length;have HN:=Y hn;rw[<-hn]at h6 II ao ⊢;obtain⟨W,M⟩:=aV<|((w.alloc<|aY #[X na n nc,X (some<|aN rb ro) G rc] 25).alloc (aY #[aU,aU] 25)).alloc (aY #[aU,aU] 25);have jG:J (dR W w.heap.size<|aY #[X na n nc,X (some<|aN rb ro) G rc] 25):=Y (by rw[M];exact bT (bT (bF _ _) _) _);have IJ:J (W.heap[w.heap.size+1]?=some (aY #[aU,aU] 25)):=Y (by rw[M];refine bT ?_ _;have:=bF (w.alloc<|aY #[X na n nc,X (some<|aN rb ro) G rc] 25)<|aY #[aU,aU] 25;simpa using this);have a3:J (W.heap[w.heap.size+1+1]?=some (aY #[aU,aU] 25)):=Y (by rw[M];have:=bF ((w.alloc<|aY #[X na n nc,X (some<|aN rb ro) G rc] 25).alloc (aY #[aU,aU] 25))<|aY #[aU,aU] 25;simpa using this);have Ae:J (W.heap.size=w.heap.size+1+1+1):=Y (by rw[M];simp);have iO:J (bK w W):=Y (by rw[M];exact up (up (aH _ _)<|aH _ _)<|aH _ _);have fT:J (∀wr,But (w.heap.size+1+1) W wr->bK w wr):=Y (λwr hb=>iO.trans<|hb.below bC (by have:=Ae.out;omega));obtain⟨x0,x1⟩:=jv jG;clear hn bf hz aw av az aA bi bc hL;go_enter func49,ntmps49;go_upto_region 2 with fail;rw[<-M];clear M;go_wp2_with fail;clear x0 x1;go_loopw[5,11] (λs i wr=>∃(sv vo:aC) (j:Nat),sv=s/\j<=n/\i=O j/\J (Cp W wr (w.heap.size+1+1) (ss.take j) vo (aU) (λ_=>aU) 0 L Z)) (λ_ i _=>n - (intOf i).toNat);exact⟨_,aU,0,rfl,bN _,rfl,Y ⟨a3,lJ _ _ _ _,lJ _ _ _ _,λj hj=>aM hj<|fU _,But.refl _ _,Ae⟩⟩
 obtain⟨sv,vo,j,rfl,hj,rfl,V⟩:=hrel;have eT:=Y<|fT _ V.but;by_cases au:j<n
 ·obtain⟨s,F⟩:∃s,ss[j]?=some s:=⟨_,aZ (by rw[<-HN];exact au)⟩;have hc:=ao j au;rw[xK,F,gD]at hc;obtain rfl:=II bC;have u0:=aG hc eT;have DU:J ((ss.take j).length=j):=Y (by rw[iA,<-HN];omega);have a9:J (ss.take (j+1)=ss.take j++[s]):=Y (by rw[gy,F,kI]);have ab:=Y (λwx=>aak wx s<|bE (HZ s<|dG F) bM);obtain⟨Q,R,aE⟩:=V.nm.NM;rw[DU]at aE;subst aE;have U:J (Cp W wr.drew (w.heap.size+1+1) (ss.take j) (X Q j R) (aU) (λ_=>aU) 0 L Z):=Y<|V.below (bQ _ _).drew;have H:J (∀x a1 vr k (l:aJ),Cp W x (w.heap.size+1+1) l (X Q j R) a1 vr k L Z->bJ x (w.heap.size+1+1) 0=some (X Q j R)):=Y (λx a1 vr k l t=>(aj t.blk 0).trans rfl);clear hc F;go_upto_region 5 with fail;refine dx [some false,some true,some false,none,none,none,none,none] 6 (λx=>bJ x (w.heap.size+1+1) 0=some (X Q j R)) 5 dw dw (λ_ _ d _ _ t=>(by cases d<;>exact t)) (H _ _ _ _ _ U) ?_;dsimp only[gB];repeat(first|(refine fO (v:=?_) dH ?_ ?_;rotate_left 1;(focus(intro w;go_simp;try(with_reducible rfl)));simp only[Act.put,dS,dY,eX])|(refine fP (v:=?_) dH ?_ ?_;rotate_left 1;(focus(intro w be;go_simp;try(with_reducible rfl)));simp only[Act.put,dS,dY,eX]))
  refine dW ?_;generalize wr.drew=x0 at *;refine aT (i:=3) dw dH (λK b=>?_);go_simp;go_at_call 89;refine(ab _).mono ?_;rintro I x1 ⟨rfl,ar⟩;have H1:=Y<|U.below ar;clear ar;dsimp only;refine b _ _ (λ_=>H _ _ _ _ _ H1) ?_;clear b K;refine aT (i:=4) dw dH (λK b=>?_);go_simp;obtain⟨QZ,ag⟩:=sO x1<|aY #[A s] 9;have e:=Y<|H1.below QZ;generalize x1.alloc (aY #[A s] 9)=x2 at *;refine b _ _ (λ_=>H _ _ _ _ _ e) ?_;clear b K;refine aT (i:=5) dw dH (λK b=>?_);refine Bu dH _ _ dH (w.heap.size+1+1+1) (X Q j R) (ss.take j) dH e.nm x1.heap.size s dH ((aj ag 0).trans rfl) (by rw[DU];omega) (by have:=e.but.size;have:=Ae.out;omega) ?_;intro g8 ba w8 qG N zw;have H8:=Y<|Cp.name e rfl N qG;have S:J (w8.heap[w.heap.size+1+1]?=some (aY #[X Q j R,aU] 25)):=Y<|(N.block _ (aR e.blk) (λI=>by have:=(Fp e.nm _ I.symm).1;omega)).trans e.blk;rw[DU]at H8 ⊢;clear qG N zw;simp only[Act.put,dS];refine b _ _ (λ_=>(aj S 0).trans rfl) ?_;clear b K;refine aT (i:=6) dw dH (λK b=>?_);go_simp;refine b _ _ (λt=>aM (t.symm.trans dw) iJ) ?_;clear b K;obtain⟨y0,yz⟩:=eY ((aj S 0).trans (rfl:_=some (X Q j R))) (aF S 0);refine aT (i:=7) dw dH (λK b=>?_);go_simp;refine b _ _ (λt=>aM (t.symm.trans dw) iJ) ?_;clear b K;refine dP dw ?_ _;go_wp2;go_roundw;exact⟨_,_,j+1,rfl,by omega,by go_num,Y (by rw[a9];exact H8)⟩;exact gV
 ·obtain rfl:j=n:=by omega
  have a8:J (ss.take j=ss):=Y (by rw[HN,jQ]);rw[a8]at V;have a6:=Y<|V.but.at (q:=w.heap.size) bC jG;obtain⟨x0,x1⟩:=jv a6;go_wp2_with fail;clear x0 x1;have a7:=V;obtain⟨wo,rfl⟩:=aV wr;go_loopw[7,26] (λs i wx=>∃(sv aa vr:aC) (f:Nat->aC) (k:Nat),sv=s/\k<=G/\i=O k/\J (Cp W wx (w.heap.size+1+1) ss aa vr f k L Z)) (λ_ i _=>G - (intOf i).toNat);exact⟨_,_,_,_,0,rfl,bN _,rfl,a7⟩
  obtain⟨sv,aa,vr,f,k,rfl,hk,rfl,E⟩:=hrel;have af:=Y<|fT _ E.but;obtain⟨z,D,Vo⟩:=E.nm.NM;rw[<-HN]at Vo;subst Vo;obtain⟨o,h,bb⟩:∃a c,vr=X a k c:=by
   rcases E.outer.2 with⟨h1,h2⟩|⟨g,cap,bo,h1,_⟩;·exact⟨none,0,by rw[h1,h2]⟩
   ·exact⟨_,_,h1⟩
  subst bb;by_cases ae:k<G
  ·have u0:=aG (YR k ae) af;have hl:=Vf k ae;have hA:Zk k=some (aN (RB k)<|RO k):=(aq k 0 ae hl.1).1;rw[hA]at u0;have am:=Y hl;have ab:=Y (λwx (hb:bK w wx)=>aud wx (RB k) (RO k) (L k) (C k) (Z k) (λc hc=>aG (aq k c ae hc).2 hb) hl.1 hl.2);have U:J (Cp W wr.drew (w.heap.size+1+1) ss (X z j D) (X o k h) f k L Z):=Y<|E.below (bQ _ _).drew;have H:J (∀x,Cp W x (w.heap.size+1+1) ss (X z j D) (X o k h) f k L Z->bJ x (w.heap.size+1+1) 1=some (X o k h)):=Y (λx t=>(aj t.blk 1).trans rfl);have a2:=Y<|up af ((bQ wr.heap.size wr).drew:bK wr wr.drew);obtain⟨lk,ak⟩:=aV<|L k;have a4:=Y ak;rw[<-ak]at u0 am ab;clear hA hl ak;go_upto_region 10 with fail;refine dx [some false,some true,some false,none,none,none,none,none] 6 (λx=>bJ x (w.heap.size+1+1) 1=some (X o k h)) 5 dw dw (λ_ _ d _ _ t=>(by cases d<;>exact t)) (H _ U) ?_;dsimp only[gB];repeat(first|(refine fO (v:=?_) dH ?_ ?_;rotate_left 1;(focus(intro w;go_simp;try(with_reducible rfl)));simp only[Act.put,dS,dY,eX])|(refine fP (v:=?_) dH ?_ ?_;rotate_left 1;(focus(intro w be;go_simp;try(with_reducible rfl)));simp only[Act.put,dS,dY,eX]))
   refine dW ?_;generalize wr.drew=x0 at *;refine aT (i:=3) dw dH (λK b=>?_);go_simp;go_at_call 90;refine(ab _ a2).mono ?_;rintro I x1 ⟨v3,rfl,ai⟩;obtain⟨H1,ap⟩:=bV (U.below ai.2)<|auy (base':=w.heap.size+1+1+1) ai.1 (by have:=U.but.size;have:=Ae.out;omega);obtain⟨g3,ah,rfl,-⟩:=auo ap am.1;clear ai;dsimp only;refine b _ _ (λ_=>H _ H1) ?_;clear b K;refine aT (i:=4) dw dH (λK b=>?_);go_simp;obtain⟨QZ,ag⟩:=sO x1<|aY #[Tc g3 lk ah] 49;obtain⟨e,a5⟩:=bV (H1.below QZ)<|fu ap QZ;generalize x1.alloc (aY #[Tc g3 lk ah] 49)=x2 at *;refine b _ _ (λ_=>H _ e) ?_;clear b K;refine aT (i:=5) dw dH (λK b=>?_);refine Iz dH _ _ 23 49 1 24 _ dH underlying23 aur bM bM (w.heap.size+1+1+1) (X o k h) k _ dH e.outer (some<|aN x1.heap.size 0) x1.heap.size 0 1 1 [Tc g3 lk ah] dH (λ_=>rfl) rfl (λq u hu=>(by rw[d9];exact(aj ag q).trans (by simpa only [yK]using hu))) (by simp[Value.oneCell']) (by unfold maxLen;omega) bC (by have:=e.but.size;have:=Ae.out;omega) ?_;intro v8 w8 qG N bk ay;have H8:=Y<|Cp.app e (by rw[<-a4];exact a5) N qG;have S:J (w8.heap[w.heap.size+1+1]?=some (aY #[X z j D,X o k h] 25)):=Y<|(N.block _ (aR e.blk) (λI=>by have:=(e.outer.lt _ I.symm).1;omega)).trans e.blk;obtain⟨g8,ba,rfl,-⟩:=ay bM;clear qG N bk ay;simp only[Act.put,dS];refine b _ _ (λ_=>(aj S 1).trans rfl) ?_;clear b K;refine aT (i:=6) dw dH (λK b=>?_);go_simp;refine b _ _ (λt=>aM (t.symm.trans dw) iJ) ?_;clear b K;obtain⟨y0,yz⟩:=eY ((aj S 1).trans (rfl:_=some (X o k h))) (aF S 1);refine aT (i:=7) dw dH (λK b=>?_);go_simp;refine b _ _ (λt=>aM (t.symm.trans dw) iJ) ?_;clear b K;refine dP dw ?_ _;go_wp2;go_roundw;exact⟨_,_,_,_,k+1,rfl,by omega,by go_num,H8⟩;exact gV
  ·obtain rfl:k=G:=by omega
   have ac:=Y<|E.but.at (q:=w.heap.size+1) bC IJ;obtain⟨b0,b1⟩:=eY ((aj E.blk 0).trans (rfl:_=some (X z j D))) ((aj E.blk 1).trans (rfl:_=some (X o k h)));obtain⟨r0,r1⟩:=jv ac;obtain⟨z0,z1⟩:=eY (aF ac 0)<|aF ac 1;go_wp2_with fail;have F:((wr.setCell (aN (w.heap.size+1) 0)<|X z j D).setCell (aN (w.heap.size+1) 1) (X o k h)).heap[w.heap.size+1]?=some (aY #[X z j D,X o k h] 25):=(aP (aP ac 0 _) 1 _).trans rfl;obtain⟨f0,f1⟩:=jv F;refine cZ (v:=.agg #[X z j D,X o k h]) (by simp[results,results49,go_sem,f0,f1]) rfl ⟨_,_,rfl,Y ⟨λP hP=>?_,(af.setCell (p:=(aN (w.heap.size+1) 0)) (dN _) _).setCell (p:=(aN (w.heap.size+1) 1)) (dN _) _⟩⟩;have al:w.heap.size+1<w.heap.size+1+1+1:=by omega
   obtain⟨W3,ad⟩:=aV<|(wr.setCell (aN (w.heap.size+1) 0)<|X z j D).setCell (aN (w.heap.size+1) 1) (X o k h);have ax:∀q,w.heap.size+1+1+1<=q->q<W3.heap.size->P q=true:=λq h1 h2=>hP q bC (by rw[<-ad];exact h2);have o3:=λq hq=>SA (x:=X z j D) (y:=X o k h) (E.done q hq) al;obtain⟨o1,o2⟩:=eY (SA (x:=X z j D) (y:=X o k h) E.nm al)<|SA (x:=X z j D) (y:=X o k h) E.outer al;rw[<-ad]at o1 o2;simp only[<-ad]at o3;rw[<-ad];have h8:(8:Nat)<=maxLen:=by decide
   have bj:=Own.auX (P:=P) (show Own W3 _ _ ss from o1) ax (λs F=>bE (HZ s F) h8) (by have:=HN.out;omega);exact⟨bj,au3 ax bC Vf o2 o3 hG.1⟩
