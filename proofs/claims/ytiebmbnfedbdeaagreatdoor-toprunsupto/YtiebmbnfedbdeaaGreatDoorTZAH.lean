import Derived.Test.YtiebmbnfedbdeaaGreatDoorTZAG
import Derived.Laws.CopyOwn
import Derived.Lib.AppendZerosOnto
import Derived.Shelf.Spec.SlicesInsert
set_option maxHeartbeats 0
set_option maxRecDepth 99999
namespace Go.Proofs.YtiebmbnfedbdeaaGreatDoor
open bS bO
open Go.Proofs.Tryz
open Go.RowKit
namespace bO
def calls:Nat->Ex->List Ex
 | 0,_=>[]
 | m+1,x=>x.args.flatMap (calls m)++if x.kind=4 then [x]else []
end bO
variable{j p q n e k g cap i m off:Nat}{w w1 w2 b w' w6:bI}{cs:Array aC}{t:TypeId}{fz:Nat × Nat}{v v6:aC}{x y z:List UInt8}
theorem jY{α β:Type}{f:α->List β}{l:List α}{y:α}(h:l[j]?=some y):(l.take<|j+1).flatMap f=(l.take j).flatMap f++f y:=by rw[gy,h];simp
theorem wO{α β:Type}{f:α->List β}{l:List α}(j:Nat):((l.take j).flatMap f).length<=(l.flatMap f).length:=by have h:=congrArg (λt=>(t.flatMap f).length)<|pK j l;simp only[lZ,bg]at h;omega
theorem kg{r:Option Nat}(c:bK w w1)(hg:w1.grownBy w2 r)(f:∀k,r=some k->w.heap.size<=k):bK w w2:=
 ⟨hg.os.trans c.os,hg.tape.trans c.tape,hg.output.trans c.output,bE c.size hg.size,λk d=>(hg.block k (wI d c.size) (λe=>by have:=f k e.symm;omega)).trans (c.block k d)⟩
theorem GD(w:bI)(c0 c d f:aC)(t:TypeId):(w.alloc<|.cells #[c0,c,d,f] t).cell? (aN w.heap.size 0)=some c0:=by simp[go_sem]
theorem GH(w:bI)(c c1 d f:aC)(t:TypeId):(w.alloc<|.cells #[c,c1,d,f] t).cell? (aN w.heap.size 1)=some c1:=by simp[go_sem]
theorem GI(w:bI)(c d c2 f:aC)(t:TypeId):(w.alloc<|.cells #[c,d,c2,f] t).cell? (aN w.heap.size 2)=some c2:=by simp[go_sem]
def StC(w:bI)(m:Nat)(c:List Value)(s:St):Prop:=∃d f h l r u,c=[.int .i64 s.kind,.string s.name,d,f,h,l,r,u]/\mq s.kind/\s.name.size<=maxLen/\iH w m d f h l s.e/\fH w m r s.a/\fH w m u s.b
theorem fH.kC:∀{m:Nat} {v:aC} {l:List St},fH w m v l->∃a cap,v=X a l.length cap
 | 0,_,_,h=>iU h
 | _+1,_,_,⟨a,_,_,cap,e,_⟩=>⟨a,cap,e⟩
namespace bO
def within(f:List St->List St)(s:St):List St:=([s]++f s.a)++f s.b
def all:Nat->List St->List St
 | 0,_=>[]
 | m+1,l=>l.flatMap (within (all m))
end bO
structure Dg where
 code:Int
 fn:ByteArray
 name:ByteArray
namespace bO
def iE(a b:Dg):Bool:=
 if (a.fn.toList==b.fn.toList)=false then Op.bytesLess a.fn.toList b.fn.toList
 else if (a.code==b.code)=false then decide (a.code<b.code)else Op.bytesLess a.name.toList b.name.toList
end bO
def qU(c:List Value)(d:Dg):Prop:=c=[.int .i64 d.code,.string d.fn,.string d.name]
theorem qV:(prog.info? 69).map (λi=>(i.zero,i.size,i.bytes))=some (some<|.agg #[O 0,A ⟨#[]⟩,A ⟨#[]⟩],3,40):=by kernel_rfl
theorem qU.one{c:List aC}{d:Dg}(h:qU c d):∀u∈c,u.oneCell'=true:=by subst h;intro u f;simp at f;rcases f with rfl|rfl|rfl<;>rfl
def Told(w:bI)(n p:Nat)(l:List Dg):Prop:=n<=p/\∃v,w.heap[p]?=some (.cells #[v] 62 (0,0))/\dA qU w n 69 3 v l
structure eB(p:Nat)(w w':World):Prop where
 size:w.heap.size<=w'.heap.size
 block:∀k,k<w.heap.size->k≠p->(∀cs fz,w.heap[k]?≠some (.cells cs 69 fz))->w'.heap[k]?=w.heap[k]?
theorem eB.refl(p:Nat)(w:bI):eB p w w:=⟨bG _,λ_ _ _ _=>rfl⟩
theorem eB.trans{a c:bI}(d:eB p a b)(k:eB p b c):eB p a c:=⟨bE d.size k.size,λi l r h=>by have f:=d.block i l r h;rw[<-f];exact k.block i (wI l d.size) r (λcs fz=>by rw[f];exact h cs fz)⟩
theorem eB.of_below(c:bK w w'):eB p w w':=⟨c.size,λk d _ _=>c.block k d⟩
theorem eB.at(d:eB p w w')(f:q≠p)(c:w.heap[q]?=some (.cells cs t fz))(h:t≠69):w'.heap[q]?=some (.cells cs t fz):=by rw[d.block q (aR c) f (λl r e=>by rw[c]at e;simp at e;exact h e.2.1)];exact c
theorem Told.below{l:List Dg}(f:Told w n p l)(d:bK w w'):Told w' n p l:=by obtain⟨h,v,c,r⟩:=f;exact⟨h,v,by rw[d.block p (aR c)];exact c,r.below d⟩
theorem dA.set{α:Type}{At:List aC->α->Prop}{l:List α}(s:dA At w n e k v l){a:Addr}(C:v.ownBlock≠some a.block)(x:aC):dA At (w.setCell a x) n e k v l:=by
 obtain⟨cs,⟨u,c⟩,B⟩:=s;refine⟨cs,⟨u,?_⟩,B⟩;rcases c with c|⟨g,cap,f,d,hg,D,r⟩;·exact aO c
 ·refine aQ ⟨g,cap,f,d,hg,aX D (λh=>C (by rw[d,<-h];rfl)) _,r⟩
theorem dA.apart{α:Type}{At:List aC->α->Prop}{l:List α}(f:dA At w n e k v l)(r:dR w p (.cells cs t fz))(s:t≠e):v.ownBlock≠some p:=by
 intro c;obtain⟨_,⟨_,h⟩,_⟩:=f;rcases h with⟨rfl,_⟩|⟨g,cap,B,u,_,d,_⟩;·cases c
 ·rw[u]at c;have:g=p:=by simpa[Value.ownBlock]using c
  subst this;rw[r]at d;simp at d;exact s d.2.1
theorem dA.form{α:Type}{At:List aC->α->Prop}{l:List α}(h:dA At w n e k v l):∃a c,v=X a l.length c:=by
 rcases h.shape with⟨rfl,rfl⟩|⟨g,cap,rfl,_⟩;·exact⟨_,_,rfl⟩
 ·exact⟨_,_,rfl⟩
theorem dA.typ{α:Type}{At:List aC->α->Prop}{l:List α}(f:dA At w n e k v l)(hg:v.ownBlock=some g):∃c,w.heap[g]?=some (.cells c e (0,0)):=by
 obtain⟨_,⟨_,h⟩,_⟩:=f;rcases h with⟨rfl,_⟩|⟨d,cap,c,s,_,r,_⟩;·cases hg
 ·rw[s]at hg;have:d=g:=by simpa[Value.ownBlock]using hg
  subst this;exact⟨c,r⟩
theorem Told.push{l:List Dg}{d:Dg}{o:Obj}(K:n<=p)(s:w.heap[p]?=some (aY #[v] 62))(u:dA qU w n 69 3 v l)(D:dA qU w6 n 69 3 v6 (l++[d]))(hg:(w.alloc o).grownBy w6 v.ownBlock):w6.heap[p]?=some (aY #[v] 62)/\Told (w6.setCell (aN p 0) v6) n p (l++[d])/\Below n w (w6.setCell (aN p 0) v6)/\eB p w (w6.setCell (aN p 0) v6):=by
 obtain⟨c,B,L⟩:=lS (aH w o) (aR s)<|u.apart s bM;have h:w6.heap[p]?=some (aY #[v] 62):=by rw[hg.block p (wI B c.size) (λe=>L e.symm),c.block p B];exact s
 have F:=D.apart h bM;have C:∀k,k<w.heap.size->k≠p->some k≠v.ownBlock->(w6.setCell (aN p 0) v6).heap[k]?=w.heap[k]?:=λk f r I=>by rw[vM _ _ _ _ r,hg.block k (wI f c.size) I,c.block k f]
 have E:w.heap.size<=(w6.setCell (aN p 0) v6).heap.size:=by simp only[World.setCell,Am];exact bE c.size hg.size
 refine⟨h,⟨K,v6,?_,D.set F _⟩,⟨hg.os.trans c.os,hg.tape.trans c.tape,hg.output.trans c.output,E,λk f=>C k bC bC (λe=>?_)⟩,⟨E,λk f r H=>C k f r (λe=>?_)⟩⟩;·rw[aP h];rfl
 ·have:=(u.lt k e.symm).1;omega
 ·obtain⟨N,G⟩:=u.typ e.symm;exact H _ _ G
namespace bO
def nQ(names:List aS)(c name:aS):List Dg:=if decide (0<=dU names name)=true then []else [⟨3,c,name⟩]
end bO
theorem aaf{P:Program}(w:World)(r L N f:TypeId)(k g o d B:Nat)(a:Addr)(l K:Nat)(c:Array Value)(t:TypeId)(cs:List Value)(I:P.underlying r=some (.slice f))(u:(P.info? f).map (·.size)=some k)(hg:w.heap[g]?=some (.cells c t (0,0)))(F:cs.length=Nat.min l d*k)(G:∀j v,cs[j]?=some v->w.cell? (a.add j)=some v)(D:o+cs.length<=c.size)(C:∀v∈cs,v.oneCell'=true):(Builtin.copy_ #[r,L] N #[.slice (some ⟨g,o,none⟩) d B,.slice (some a) l K]).run P w=.ok (goInt<|Nat.min l d) (w.setRow g (c.toList.take o++cs++c.toList.drop (o+cs.length)).toArray):=by
 obtain⟨s,H⟩:=eY (run_loadCells_list (P:=P) w a cs G)<|run_storeCells_at P g o t cs 0 c w hg (by simpa using D) C;cases h:P.info? f with
 | none=>simp[h]at u
 | some i=>
  have E:i.size=k:=by simpa[h]using u
  rw[F]at s;simp[Builtin.copy_,run_underlying I,Builtin.lenOf,Builtin.firstCells,sizeOf,typeInfo,h,E,s,H]
theorem But.setRow(w:bI)(cs:Array aC):But g w (w.setRow g cs):=⟨rfl,rfl,rfl,by simp[World.setRow],λk _ c=>setRow_other w g k cs c⟩
section
variable {w : World} {ops : Array Oper} {rest : List Oper} {o : Oper} {a : Act} {Q : Exit → Act → World → Prop}
end
def jg(w:bI)(v:Value)(l:List Dg):Prop:=
 ∃(a:Option Addr) (b off cap:Nat),v=.slice a l.length cap/\(0<l.length->a=some ⟨b,off,none⟩)/\l.length<=9223372036854775807/\
  ∀i d,l[i]?=some d->w.cell? ⟨b,off+i*3,none⟩=some (.int .i64 d.code)/\w.cell? ⟨b,off+i*3+1,none⟩=some (.string d.fn)/\w.cell? ⟨b,off+i*3+2,none⟩=some (.string d.name)
theorem jg.below{l:List Dg}(s:jg w v l)(c:bK w w'):jg w' v l:=by obtain⟨a,b,off,cap,e,u,D,B⟩:=s;refine⟨a,b,off,cap,e,u,D,λi d C=>?_⟩;obtain⟨f,h,r⟩:=B i d C;exact⟨aG f c,aG h c,aG r c⟩
theorem dA.dg{l:List Dg}(h:dA qU w n 69 3 (Tc g l.length cap) l){d:Dg}(u:l[i]?=some d):bJ w g (i*3)=some (O d.code)/\bJ w g (i*3+1)=some (A d.fn)/\bJ w g (i*3+2)=some (A d.name):=by obtain⟨c,B,f,r⟩:=h.cell u;have s:c=[O d.code,A d.fn,A d.name]:=r;subst s;exact⟨f 0 bM,f 1 bM,f 2 bM⟩
theorem dA.GJ{l:List Dg}(c:dA qU w n 69 3 v l)(r:l.length<=9223372036854775807):jg w v l:=by
 have h:=c;rcases c.shape with⟨rfl,rfl⟩|⟨g,cap,rfl,_⟩;·exact⟨none,0,0,0,rfl,λc=>aM c cK,by simp,λi d f=>by simp at f⟩
 ·refine⟨_,g,0,cap,rfl,λ_=>rfl,r,λi d f=>?_⟩;rw[d9];exact h.dg f
namespace bO
def sI(a b:Dg):Bool:=(a.code==b.code)&&(a.fn.toList==b.fn.toList)&&(a.name.toList==b.name.toList)
def ins:List Dg->Dg->List Dg
 | [],d=>[d]
 | x::r,d=>if iE x d then x::ins r d else if sI x d then x::r else d::x::r
def once(l:List Dg):List Dg:=l.foldl ins []
end bO
theorem Ym:∀(x y:List UInt8),Op.bytesLess x y=decide (x<y)
 | [],[]=>by simp[Op.bytesLess]
 | _::_,[]=>by simp[Op.bytesLess]
 | [],_::_=>by simp[Op.bytesLess]
 | a::x,b::y=>by rw[Op.bytesLess,Ym x y];simp only[List.cons_lt_cons_iff];by_cases c:a<b<;>by_cases d:a=b<;>by_cases f:x<y<;>simp[c,d,f]
theorem Fb(x:List UInt8):Op.bytesLess x x=false:=by rw[Ym];simp[List.lt_irrefl]
theorem Rq(c:Op.bytesLess x y=true)(d:Op.bytesLess y z=true):Op.bytesLess x z=true:=by rw[Ym]at *;simp only[iy]at *;exact List.lt_trans c d
theorem acL(c:Op.bytesLess x y=false)(d:Op.bytesLess y x=false):x=y:=by rw[Ym]at *;simp only[decide_eq_false_iff_not]at *;exact List.le_antisymm (List.not_lt.1 d)<|List.not_lt.1 c
theorem toList_inj{x y:aS}(h:x.toList=y.toList):x=y:=by rw[Lib.toList_data,Lib.toList_data]at h;cases x;cases y;simp only at h;congr 1;exact Array.toList_inj.1 h
namespace bO
theorem wP(a b:Dg):iE a b=true↔Op.bytesLess a.fn.toList b.fn.toList=true\/(a.fn=b.fn/\(a.code<b.code\/(a.code=b.code/\Op.bytesLess a.name.toList b.name.toList=true))):=by
 unfold iE;by_cases d:a.fn=b.fn
 ·rw[d,Fb];rw[aI cK];by_cases c:a.code=b.code;·rw[aI (by simp[c])];simp[c]
  ·rw[aK (by simp[c])];simp[c]
 ·have h:¬a.fn.toList=b.fn.toList:=λf=>d<|toList_inj f;rw[aK (by simpa using h)];simp[d]
theorem wQ(a:Dg):iE a a=false:=by
 cases h:iE a a with
 | false=>rfl
 | true =>rw[wP,Fb,Fb]at h;simp at h
theorem rH{a b c:Dg}(f:iE a b=true)(d:iE b c=true):iE a c=true:=by
 rw[wP]at *;rcases f with f|⟨l,f⟩
 ·rcases d with d|⟨h,d⟩;·exact aO<|Rq f d
  ·rw[<-h];exact aO f
 ·rcases d with d|⟨h,d⟩;·rw[l];exact aO d
  ·refine aQ ⟨l.trans h,?_⟩;rcases f with f|⟨f1,f⟩
   ·rcases d with d|⟨r,d⟩;·exact aO bC
    ·exact aO bC
   ·rcases d with d|⟨r,d⟩;·exact aO bC
    ·exact aQ ⟨by omega,Rq f d⟩
theorem BJ{a b:Dg}(u:iE a b=false)(B:iE b a=false):a=b:=by
 have f:¬iE a b=true:=by rw[u];simp
 have h:¬iE b a=true:=by rw[B];simp
 rw[wP]at f h;have r:a.fn.toList=b.fn.toList:=acL (Bool.eq_false_iff.2 λc=>f<|aO c)<|Bool.eq_false_iff.2 λc=>h<|aO c;have d:=toList_inj r;have l:a.code=b.code:=by have C:¬a.code<b.code:=λc=>f<|aQ ⟨d,aO c⟩;have D:¬b.code<a.code:=λc=>h<|aQ ⟨d.symm,aO c⟩;omega
 have s:a.name.toList=b.name.toList:=acL (Bool.eq_false_iff.2 λc=>f<|aQ ⟨d,aQ ⟨l,c⟩⟩)<|Bool.eq_false_iff.2 λc=>h<|aQ ⟨d.symm,aQ ⟨l.symm,c⟩⟩;have E:=toList_inj s;cases a;cases b;simp_all
theorem rU{a b:Dg}:sI a b=true↔a=b:=by
 unfold sI;simp only[dK,beq_iff_eq];constructor;·rintro⟨⟨f,c⟩,d⟩;have h:=toList_inj c;have l:=toList_inj d;cases a;cases b;simp_all
 ·rintro rfl;simp
def Asc(l:List Dg):Prop:=l.Pairwise λa b=>iE a b=true
theorem Yn{l:List Dg}{d x:Dg}:x∈ins l d↔x∈l\/x=d:=by
 induction l with
 | nil=>simp[ins]
 | cons y r f=>
  unfold ins;split;·simp only[fV,f,or_assoc]
  ·split
   ·rename_i c;rw[rU]at c;subst c;simp only[fV];constructor;·exact λc=>aO c
    ·rintro(c|c);·exact c
     ·exact aO c
   ·simp only[fV];constructor
    ·rintro(c|c|c);·exact aQ c
     ·exact aO<|aO c
     ·exact aO<|aQ c
    ·rintro((c|c)|c);·exact aQ<|aO c
     ·exact aQ<|aQ c
     ·exact aO c
theorem ag7{l:List Dg}{d:Dg}(f:Asc l):Asc (ins l d):=by
 induction l with
 | nil=>simp[ins,Asc]
 | cons y r D=>
  have h:(∀z∈r,iE y z=true)/\Asc r:=uT.1 f;unfold ins;split
  ·rename_i s;refine uT.2 ⟨λz c=>?_,D h.2⟩;rcases Yn.1 c with c|rfl;·exact h.1 z c
   ·exact s
  ·rename_i s;split;·exact f
   ·rename_i C;have u:iE d y=true:=by
     cases B:iE d y with
     | true=>rfl
     | false=>exact aM (rU.2<|BJ (by simpa using s) B) C
    refine uT.2 ⟨λz c=>?_,f⟩;rcases fV.1 c with rfl|c;·exact u
    ·exact rH u<|h.1 z c
theorem M8{l acc:List Dg}(c:Asc acc):Asc (l.foldl ins acc)/\∀x,x∈l.foldl ins acc↔x∈acc\/x∈l:=by
 induction l generalizing acc with
 | nil=>exact⟨c,λx=>by simp⟩
 | cons y r s =>obtain⟨f,h⟩:=s<|ag7 (d:=y) c;refine⟨f,λx=>?_⟩;rw[pz,h x,Yn,fV,or_assoc]
theorem acM(l:List Dg):Asc (once l):=(M8 (l:=l) (acc:=[]) List.Pairwise.nil).1
theorem Dh(l:List Dg)(x:Dg):x∈once l↔x∈l:=by rw[once,(M8 (l:=l) (acc:=[]) List.Pairwise.nil).2 x];simp
theorem Js:∀{l u:List Dg},Asc l->Asc u->(∀x,x∈l↔x∈u)->l=u
 | [],[],_,_,_=>rfl
 | [],y::_,_,_,c=>aM ((c y).2 cK) cK
 | x::_,[],_,_,c=>aM ((c x).1 cK) cK
 | x::r,y::s,B,C,c=>by
  have f:(∀z∈r,iE x z=true)/\Asc r:=uT.1 B;have h:(∀z∈s,iE y z=true)/\Asc s:=uT.1 C;have E:∀{a b:Dg},iE a b=true->iE b a=true->False:=λ{a b} p q=>by have:=wQ a;rw[rH p q]at this;cases this
  have D:x=y:=by
   rcases fV.1 ((c x).1 cK)with e|hx;·exact e
   ·rcases fV.1 ((c y).2 cK)with e|hy;·exact e.symm
    ·exact(E (f.1 y hy)<|h.1 x hx).elim
  subst D;congr 1;refine Js f.2 h.2 λz=>?_;constructor
  ·intro d;rcases fV.1 ((c z).1 (l8 _ d))with e|hz';·subst e;have:=wQ z;rw[f.1 z d]at this;cases this
   ·exact hz'
  ·intro d;rcases fV.1 ((c z).2 (l8 _ d))with e|hz';·subst e;have:=wQ z;rw[h.1 z d]at this;cases this
   ·exact hz'
end bO
theorem OA(x y:Dg)(w:bI):(Op.equalIn 10000 69 (.agg #[O x.code,A x.fn,A x.name])<|.agg #[O y.code,A y.fn,A y.name]).run prog w=.ok (sI x y) w:=by
 obtain⟨u3,f,B,u⟩:=rY underlying3 Tryz.isAgg3 Tryz.sizeOf3 underlying9;obtain⟨h,C⟩:=eY Tryz.isAgg9 Tryz.sizeOf9;have c:prog.underlying 69=some (.struct<|prog.fieldsOf 69):=by kernel_rfl
 have d:prog.stoodInHeld 69=false:=by kernel_rfl
 rw[show(10000:Nat)=9999+1 from rfl,run_equalIn_agg w 9999 69 _ _ c d];simp only[Program.fieldsOf,underlying69];go_simp;unfold sI;cases l:(x.code==y.code)<;>cases r:(x.fn.toList==y.fn.toList)<;>cases s:(x.name.toList==y.name.toList)<;>simp_all
theorem Jt(op:BinOp)(a b:Operand)(x y:Dg)(w:bI):(eqGuard op 69 a b (.agg #[O x.code,A x.fn,A x.name])<|.agg #[O y.code,A y.fn,A y.name]).run prog w=.ok () w:=
 run_eqGuard_agg w op _ a b _ _ dw
theorem wR(h:bK w w1):bK w (w1.drewN n):=⟨h.os,h.tape,h.output,h.size,h.block⟩
namespace bO
def oI:Option Nat->Int
 | some i=>i
 | none=>-1
end bO
def H9(w:bI)(m b off:Nat)(l:List Fu):Prop:=
 ∀i s,l[i]?=some s->s.name.size<=maxLen/\∃u r c d f h,w.cell? ⟨b,off+i*7,none⟩=some (.string s.name)/\w.cell? ⟨b,off+i*7+1,none⟩=some u/\w.cell? ⟨b,off+i*7+2,none⟩=some r/\
   w.cell? ⟨b,off+i*7+3,none⟩=some c/\w.cell? ⟨b,off+i*7+4,none⟩=some d/\w.cell? ⟨b,off+i*7+5,none⟩=some f/\w.cell? ⟨b,off+i*7+6,none⟩=some h/\
   Strs w u s.params/\fH w m r s.body/\iH w m c d f h s.result
theorem H9.below{b:Nat}{l:List Fu}(H:H9 w m b off l)(c:bK w w'):H9 w' m b off l:=λi s K=>by obtain⟨P,S,R,d,f,h,r,u,B,C,D,E,F,G,I,L,N⟩:=H i s K;exact⟨P,S,R,d,f,h,r,aG u c,aG B c,aG C c,aG D c,aG E c,aG F c,aG G c,I.below c,L.below c,N.below c⟩
theorem Zv(w:bI)(c0 c d f h l r:aC)(t:TypeId):(w.alloc<|.cells #[c0,c,d,f,h,l,r] t).cell? (aN w.heap.size 0)=some c0:=by simp[go_sem]
theorem Pj(w:bI)(c0:aC)(t:TypeId):(w.alloc<|.cells #[c0] t).cell? (aN w.heap.size 0)=some c0:=by simp[go_sem]
theorem ajp(w:bI)(B:Nat)(s nm:aS)(c d f h l r:aC)(C:bJ w B 0=some (A s)):aD 248 #[.agg #[A nm,c,d,f,h,l,r],gK B] w λe w'=>e=dz (.bool<|cB nm s)/\bK w w':=by have q0:=Zv w (A nm) c d f h l r 102;have u:=Y<|aH w<|aY #[A nm,c,d,f,h,l,r] 102;have E:=aG C u;have D:J (cB nm s=(nm.toList==s.toList)):=rfl;clear C;go_enter func248,ntmps248;go_wp2;go_ret;exact⟨aW D.symm,u⟩
theorem acO(m:Nat)(w:bI)(a:Option Addr)(b off cap n:Nat)(l:List Fu)(s:aS)(B:Nat)(hn:n<=l.length)(ae:l.length<=9223372036854775807)(Z:0<n->a=some (aN b off))(ac:H9 w m b off l)(W:bJ w B 0=some (A s)):aD 44 #[X a n cap,.func (.func 248) #[] #[gK B]] w λe w'=>e=dz (O<|oI<|vP l s n)/\bK w w':=by
 obtain⟨j5,HA,HB⟩:=fE ac Z W;obtain⟨R,H⟩:=aV<|oI<|vP l s n;have S:=Y H;rw[<-H];clear ac Z W H;go_enter func44,ntmps44;go_wp2_with fail;go_loopw[5,8] (λ_ i wr=>∃j:Nat,j<=n/\i=O j/\(∀d g,d<j->l[d]?=some g->cB g.name s=false)/\bK w wr) (λ_ i _=>n - (intOf i).toNat);exact⟨0,bN _,rfl,λd g I=>aM I<|fU _,bQ _ _⟩
 obtain⟨j,hj,rfl,aa,c⟩:=hrel;obtain⟨h,V⟩:=bV aa c;clear aa;by_cases ad:j<n
 ·obtain⟨f,K⟩:∃f,l[j]?=some f:=⟨_,aZ bC⟩;obtain⟨-,vp,vb,e0,e1,e2,e3,r,u,C,D,E,F,G,-⟩:=j5 j f K;obtain rfl:=HA bC;have N:=Y K;replace r:=aG r c;replace u:=aG u c;replace C:=aG C c;replace D:=aG D c;replace E:=aG E c;replace F:=aG F c;replace G:=aG G c;have L:=Y<|ajp wr B s f.name vp vb e0 e1 e2 e3<|aG HB c;clear K c;generalize hq:cB f.name s=q at L;have P:=Y hq;clear hq;go_wp2_with fail;refine L.mono ?_;rintro e w5 ⟨rfl,ab⟩;have U:=Y<|up V ab;clear ab r u C D E F G;cases q
  ·go_wp2;go_roundw;exact⟨j+1,by omega,by go_num,λd g I hg=>by
    by_cases e:d=j;·subst e;rw[N]at hg;cases hg;exact P
    ·exact h d g bC hg,U⟩
   exact gV
  ·go_wp2;go_ret;exact⟨by rw[S,Jp ad N P h];rfl,U⟩
 ·go_wp2;go_ret;exact⟨by rw[S,M0 λd g I hg=>h d g bC hg];rfl,V⟩
theorem ajW(w:bI)(a:Option Addr)(n cap:Nat)(k:Nat)(f:k<=n)(h:n<=cap):aD 226 #[X a n cap,O k] w λe w'=>e=dz (X a k cap)/\w'=w:=by
 have c:max (k:Int) 0=k:=by omega
 have d:min (k:Int) n=k:=by omega
 go_enter func226,ntmps226;go_wp2;go_ret;exact⟨rfl,rfl⟩
def bO.tV(c:Int)(l:List Fu)(s:aS)(n:Nat):Int × Int × Bool:=match vP l s n with
 | some i=>(c,i,true)
 | none=>(0,0,false)
theorem M9(m:Nat)(w:bI)(a:Option Addr)(b off cap n:Nat)(l:List Fu)(s:aS)(d:Int)(I:n<=l.length)(H:l.length<=9223372036854775807)(F:0<n->a=some (aN b off))(G:H9 w m b off l):aD 225 #[O d,X a n cap,A s] w λe w'=>e=dz (.tuple #[O (bO.tV d l s n).1,O (bO.tV d l s n).2.1,.bool (bO.tV d l s n).2.2])/\bK w w':=by
 have u:=Y<|aH w<|aY #[A s] 9;have q0:=Pj w (A s) 9;have r:=Y<|acO m (w.alloc<|aY #[A s] 9) a b off cap n l s w.heap.size I H F (G.below u) q0;obtain⟨R,D⟩:=aV<|bO.tV d l s n;have E:=Y D;rw[<-D];clear G F D q0;cases c:vP l s n with
 | none =>rw[c]at r;have B:=Y c;clear c;go_enter func225,ntmps225;go_wp2_with fail;refine r.mono ?_;rintro e K ⟨rfl,f⟩;have C:=Y<|up u f;clear f;have h:oI none=-1:=rfl;rw[h];clear h;go_wp2;go_ret3;exact Oy (by rw[E];simp[bO.tV,B.out]) C
 | some i =>rw[c]at r;have B:=Y c;clear c;go_enter func225,ntmps225;go_wp2_with fail;refine r.mono ?_;rintro e K ⟨rfl,f⟩;have C:=Y<|up u f;clear f;have h:oI (some i)=(i:Int):=rfl;rw[h];clear h;go_wp2;go_ret3;exact Oy (by rw[E];simp[bO.tV,B.out]) C
