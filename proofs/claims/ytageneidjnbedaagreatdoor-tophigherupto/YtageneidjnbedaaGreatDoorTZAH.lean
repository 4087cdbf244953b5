import Derived.Test.YtageneidjnbedaaGreatDoorTZAG
import Derived.Laws.CopyOwn
import Derived.Lib.AppendZerosOnto
import Derived.Shelf.Spec.SlicesInsert
set_option maxHeartbeats 0
set_option maxRecDepth 99999
namespace Go.Proofs.YtageneidjnbedaaGreatDoor
open bS bO
open Go.Proofs.Tryz
open Go.RowKit
namespace bO
def calls:Nat->Ex->List Ex
 | 0,_=>[]
 | m+1,x=>x.args.flatMap (calls m)++if x.kind=4 then [x]else []
end bO
variable{j p q n e k g cap i m off:Nat}{w w1 w2 b w' w6:bI}{cs:Array aC}{t:TypeId}{fz:Nat × Nat}{v v6:aC}{x y z:List UInt8}
theorem jY{α β:Type}{f:α->List β}{l:List α}{y:α}(h:l[j]?=some y):(l.take<|j+1).flatMap f=(l.take j).flatMap f++f y:=by rw[gy,h];simp
theorem wO{α β:Type}{f:α->List β}{l:List α}(j:Nat):((l.take j).flatMap f).length<=(l.flatMap f).length:=by have h:=congrArg (λt=>(t.flatMap f).length)<|pK j l;simp only[lZ,bg]at h;omega
theorem kg{r:Option Nat}(h:bK w w1)(hg:w1.grownBy w2 r)(f:∀k,r=some k->w.heap.size<=k):bK w w2:=
 ⟨hg.os.trans h.os,hg.tape.trans h.tape,hg.output.trans h.output,bE h.size hg.size,λk d=>(hg.block k (wI d h.size) (λe=>by have:=f k e.symm;omega)).trans (h.block k d)⟩
theorem GD(w:bI)(c0 d f h:aC)(t:TypeId):(w.alloc<|.cells #[c0,d,f,h] t).cell? (aN w.heap.size 0)=some c0:=by simp[go_sem]
theorem GH(w:bI)(d c1 f h:aC)(t:TypeId):(w.alloc<|.cells #[d,c1,f,h] t).cell? (aN w.heap.size 1)=some c1:=by simp[go_sem]
theorem GI(w:bI)(d f c2 h:aC)(t:TypeId):(w.alloc<|.cells #[d,f,c2,h] t).cell? (aN w.heap.size 2)=some c2:=by simp[go_sem]
def StC(w:bI)(m:Nat)(c:List Value)(s:St):Prop:=∃d f h l va r,c=[.int .i64 s.kind,.string s.name,d,f,h,l,va,r]/\mq s.kind/\s.name.size<=maxLen/\iH w m d f h l s.e/\fH w m va s.a/\fH w m r s.b
theorem fH.kC:∀{m:Nat} {v:aC} {l:List St},fH w m v l->∃a cap,v=X a l.length cap
 | 0,_,_,h=>iU h
 | _+1,_,_,⟨a,_,_,cap,e,_⟩=>⟨a,cap,e⟩
namespace bO
def within(f:List St->List St)(s:St):List St:=([s]++f s.a)++f s.b
def all:Nat->List St->List St
 | 0,_=>[]
 | m+1,l=>l.flatMap (within (all m))
end bO
structure Dg where
 code:Int
 fn:ByteArray
 name:ByteArray
namespace bO
def iE(a b:Dg):Bool:=
 if (a.fn.toList==b.fn.toList)=false then Op.bytesLess a.fn.toList b.fn.toList
 else if (a.code==b.code)=false then decide (a.code<b.code)else Op.bytesLess a.name.toList b.name.toList
end bO
def qU(c:List Value)(d:Dg):Prop:=c=[.int .i64 d.code,.string d.fn,.string d.name]
theorem qV:(prog.info? 52).map (λi=>(i.zero,i.size,i.bytes))=some (some<|.agg #[O 0,A ⟨#[]⟩,A ⟨#[]⟩],3,40):=by kernel_rfl
theorem qU.one{c:List aC}{d:Dg}(h:qU c d):∀l∈c,l.oneCell'=true:=by subst h;intro l f;simp at f;rcases f with rfl|rfl|rfl<;>rfl
def Told(w:bI)(n p:Nat)(l:List Dg):Prop:=n<=p/\∃v,w.heap[p]?=some (.cells #[v] 38 (0,0))/\dA qU w n 52 3 v l
structure eB(p:Nat)(w w':World):Prop where
 size:w.heap.size<=w'.heap.size
 block:∀k,k<w.heap.size->k≠p->(∀cs fz,w.heap[k]?≠some (.cells cs 52 fz))->w'.heap[k]?=w.heap[k]?
theorem eB.refl(p:Nat)(w:bI):eB p w w:=⟨bG _,λ_ _ _ _=>rfl⟩
theorem eB.trans{a c:bI}(h:eB p a b)(k:eB p b c):eB p a c:=⟨bE h.size k.size,λi l r f=>by have d:=h.block i l r f;rw[<-d];exact k.block i (wI l h.size) r (λcs fz=>by rw[d];exact f cs fz)⟩
theorem eB.of_below(h:bK w w'):eB p w w':=⟨h.size,λk d _ _=>h.block k d⟩
theorem eB.at(h:eB p w w')(f:q≠p)(d:w.heap[q]?=some (.cells cs t fz))(l:t≠52):w'.heap[q]?=some (.cells cs t fz):=by rw[h.block q (aR d) f (λr s e=>by rw[d]at e;simp at e;exact l e.2.1)];exact d
theorem Told.below{l:List Dg}(h:Told w n p l)(f:bK w w'):Told w' n p l:=by obtain⟨r,v,d,s⟩:=h;exact⟨r,v,by rw[f.block p (aR d)];exact d,s.below f⟩
theorem dA.set{α:Type}{At:List aC->α->Prop}{l:List α}(h:dA At w n e k v l){a:Addr}(D:v.ownBlock≠some a.block)(x:aC):dA At (w.setCell a x) n e k v l:=by
 obtain⟨cs,⟨B,d⟩,C⟩:=h;refine⟨cs,⟨B,?_⟩,C⟩;rcases d with d|⟨g,cap,s,f,hg,E,r⟩;·exact aO d
 ·refine aQ ⟨g,cap,s,f,hg,aX E (λu=>D (by rw[f,<-u];rfl)) _,r⟩
theorem dA.apart{α:Type}{At:List aC->α->Prop}{l:List α}(h:dA At w n e k v l)(s:dR w p (.cells cs t fz))(u:t≠e):v.ownBlock≠some p:=by
 intro d;obtain⟨_,⟨_,r⟩,_⟩:=h;rcases r with⟨rfl,_⟩|⟨g,cap,C,B,_,f,_⟩;·cases d
 ·rw[B]at d;have:g=p:=by simpa[Value.ownBlock]using d
  subst this;rw[s]at f;simp at f;exact u f.2.1
theorem dA.form{α:Type}{At:List aC->α->Prop}{l:List α}(h:dA At w n e k v l):∃a c,v=X a l.length c:=by
 rcases h.shape with⟨rfl,rfl⟩|⟨g,cap,rfl,_⟩;·exact⟨_,_,rfl⟩
 ·exact⟨_,_,rfl⟩
theorem dA.typ{α:Type}{At:List aC->α->Prop}{l:List α}(h:dA At w n e k v l)(hg:v.ownBlock=some g):∃d,w.heap[g]?=some (.cells d e (0,0)):=by
 obtain⟨_,⟨_,r⟩,_⟩:=h;rcases r with⟨rfl,_⟩|⟨f,cap,d,u,_,s,_⟩;·cases hg
 ·rw[u]at hg;have:f=g:=by simpa[Value.ownBlock]using hg
  subst this;exact⟨d,s⟩
theorem Told.push{l:List Dg}{d:Dg}{o:Obj}(L:n<=p)(u:w.heap[p]?=some (aY #[v] 38))(B:dA qU w n 52 3 v l)(E:dA qU w6 n 52 3 v6 (l++[d]))(hg:(w.alloc o).grownBy w6 v.ownBlock):w6.heap[p]?=some (aY #[v] 38)/\Told (w6.setCell (aN p 0) v6) n p (l++[d])/\Below n w (w6.setCell (aN p 0) v6)/\eB p w (w6.setCell (aN p 0) v6):=by
 obtain⟨f,C,M⟩:=lS (aH w o) (aR u)<|B.apart u bM;have r:w6.heap[p]?=some (aY #[v] 38):=by rw[hg.block p (wI C f.size) (λe=>M e.symm),f.block p C];exact u
 have G:=E.apart r bM;have D:∀k,k<w.heap.size->k≠p->some k≠v.ownBlock->(w6.setCell (aN p 0) v6).heap[k]?=w.heap[k]?:=λk h s K=>by rw[vM _ _ _ _ s,hg.block k (wI h f.size) K,f.block k h]
 have F:w.heap.size<=(w6.setCell (aN p 0) v6).heap.size:=by simp only[World.setCell,Am];exact bE f.size hg.size
 refine⟨r,⟨L,v6,?_,E.set G _⟩,⟨hg.os.trans f.os,hg.tape.trans f.tape,hg.output.trans f.output,F,λk h=>D k bC bC (λe=>?_)⟩,⟨F,λk h s I=>D k h s (λe=>?_)⟩⟩;·rw[aP r];rfl
 ·have:=(B.lt k e.symm).1;omega
 ·obtain⟨N,H⟩:=B.typ e.symm;exact I _ _ H
namespace bO
def nQ(names:List aS)(d name:aS):List Dg:=if decide (0<=dU names name)=true then []else [⟨3,d,name⟩]
end bO
theorem aaf{P:Program}(w:World)(s M N h:TypeId)(k g o f C:Nat)(a:Addr)(r L:Nat)(d:Array Value)(t:TypeId)(cs:List Value)(K:P.underlying s=some (.slice h))(B:(P.info? h).map (·.size)=some k)(hg:w.heap[g]?=some (.cells d t (0,0)))(G:cs.length=Nat.min r f*k)(H:∀j v,cs[j]?=some v->w.cell? (a.add j)=some v)(E:o+cs.length<=d.size)(D:∀v∈cs,v.oneCell'=true):(Builtin.copy_ #[s,M] N #[.slice (some ⟨g,o,none⟩) f C,.slice (some a) r L]).run P w=.ok (goInt<|Nat.min r f) (w.setRow g (d.toList.take o++cs++d.toList.drop (o+cs.length)).toArray):=by
 obtain⟨u,I⟩:=eY (run_loadCells_list (P:=P) w a cs H) (run_storeCells_at P g o t cs 0 d w hg (by simpa using E) D);cases l:P.info? h with
 | none=>simp[l]at B
 | some i=>
  have F:i.size=k:=by simpa[l]using B
  rw[G]at u;simp[Builtin.copy_,run_underlying K,Builtin.lenOf,Builtin.firstCells,sizeOf,typeInfo,l,F,u,I]
theorem But.setRow(w:bI)(cs:Array aC):But g w (w.setRow g cs):=⟨rfl,rfl,rfl,by simp[World.setRow],λk _ d=>setRow_other w g k cs d⟩
section
variable {w : World} {ops : Array Oper} {rest : List Oper} {o : Oper} {a : Act} {Q : Exit → Act → World → Prop}
end
def jg(w:bI)(v:Value)(l:List Dg):Prop:=
 ∃(a:Option Addr) (b off cap:Nat),v=.slice a l.length cap/\(0<l.length->a=some ⟨b,off,none⟩)/\l.length<=9223372036854775807/\
  ∀i d,l[i]?=some d->w.cell? ⟨b,off+i*3,none⟩=some (.int .i64 d.code)/\w.cell? ⟨b,off+i*3+1,none⟩=some (.string d.fn)/\w.cell? ⟨b,off+i*3+2,none⟩=some (.string d.name)
theorem jg.below{l:List Dg}(h:jg w v l)(f:bK w w'):jg w' v l:=by obtain⟨a,b,off,cap,e,B,E,C⟩:=h;refine⟨a,b,off,cap,e,B,E,λi d D=>?_⟩;obtain⟨r,s,u⟩:=C i d D;exact⟨aG r f,aG s f,aG u f⟩
theorem dA.dg{l:List Dg}(h:dA qU w n 52 3 (Tc g l.length cap) l){d:Dg}(u:l[i]?=some d):bJ w g (i*3)=some (O d.code)/\bJ w g (i*3+1)=some (A d.fn)/\bJ w g (i*3+2)=some (A d.name):=by obtain⟨c,B,f,r⟩:=h.cell u;have s:c=[O d.code,A d.fn,A d.name]:=r;subst s;exact⟨f 0 bM,f 1 bM,f 2 bM⟩
theorem dA.GJ{l:List Dg}(h:dA qU w n 52 3 v l)(s:l.length<=9223372036854775807):jg w v l:=by
 have r:=h;rcases h.shape with⟨rfl,rfl⟩|⟨g,cap,rfl,_⟩;·exact⟨none,0,0,0,rfl,λh=>aM h cK,by simp,λi d f=>by simp at f⟩
 ·refine⟨_,g,0,cap,rfl,λ_=>rfl,s,λi d f=>?_⟩;rw[d9];exact r.dg f
namespace bO
def sI(a b:Dg):Bool:=(a.code==b.code)&&(a.fn.toList==b.fn.toList)&&(a.name.toList==b.name.toList)
def ins:List Dg->Dg->List Dg
 | [],d=>[d]
 | x::r,d=>if iE x d then x::ins r d else if sI x d then x::r else d::x::r
def once(l:List Dg):List Dg:=l.foldl ins []
end bO
theorem Ym:∀(x y:List UInt8),Op.bytesLess x y=decide (x<y)
 | [],[]=>by simp[Op.bytesLess]
 | _::_,[]=>by simp[Op.bytesLess]
 | [],_::_=>by simp[Op.bytesLess]
 | a::x,b::y=>by rw[Op.bytesLess,Ym x y];simp only[List.cons_lt_cons_iff];by_cases d:a<b<;>by_cases f:a=b<;>by_cases h:x<y<;>simp[d,f,h]
theorem Fb(x:List UInt8):Op.bytesLess x x=false:=by rw[Ym];simp[List.lt_irrefl]
theorem Rq(d:Op.bytesLess x y=true)(f:Op.bytesLess y z=true):Op.bytesLess x z=true:=by rw[Ym]at *;simp only[iy]at *;exact List.lt_trans d f
theorem acL(d:Op.bytesLess x y=false)(f:Op.bytesLess y x=false):x=y:=by rw[Ym]at *;simp only[decide_eq_false_iff_not]at *;exact List.le_antisymm (List.not_lt.1 f)<|List.not_lt.1 d
theorem toList_inj{x y:aS}(h:x.toList=y.toList):x=y:=by rw[Lib.toList_data,Lib.toList_data]at h;cases x;cases y;simp only at h;congr 1;exact Array.toList_inj.1 h
namespace bO
theorem wP(a b:Dg):iE a b=true↔Op.bytesLess a.fn.toList b.fn.toList=true\/(a.fn=b.fn/\(a.code<b.code\/(a.code=b.code/\Op.bytesLess a.name.toList b.name.toList=true))):=by
 unfold iE;by_cases f:a.fn=b.fn
 ·rw[f,Fb];rw[aI cK];by_cases d:a.code=b.code;·rw[aI (by simp[d])];simp[d]
  ·rw[aK (by simp[d])];simp[d]
 ·have l:¬a.fn.toList=b.fn.toList:=λh=>f<|toList_inj h;rw[aK (by simpa using l)];simp[f]
theorem wQ(a:Dg):iE a a=false:=by
 cases h:iE a a with
 | false=>rfl
 | true =>rw[wP,Fb,Fb]at h;simp at h
theorem rH{a b c:Dg}(f:iE a b=true)(d:iE b c=true):iE a c=true:=by
 rw[wP]at *;rcases f with f|⟨l,f⟩
 ·rcases d with d|⟨h,d⟩;·exact aO<|Rq f d
  ·rw[<-h];exact aO f
 ·rcases d with d|⟨h,d⟩;·rw[l];exact aO d
  ·refine aQ ⟨l.trans h,?_⟩;rcases f with f|⟨f1,f⟩
   ·rcases d with d|⟨r,d⟩;·exact aO bC
    ·exact aO bC
   ·rcases d with d|⟨r,d⟩;·exact aO bC
    ·exact aQ ⟨by omega,Rq f d⟩
theorem BJ{a b:Dg}(B:iE a b=false)(C:iE b a=false):a=b:=by
 have f:¬iE a b=true:=by rw[B];simp
 have l:¬iE b a=true:=by rw[C];simp
 rw[wP]at f l;have s:a.fn.toList=b.fn.toList:=acL (Bool.eq_false_iff.2 λh=>f<|aO h)<|Bool.eq_false_iff.2 λh=>l<|aO h;have d:=toList_inj s;have r:a.code=b.code:=by have D:¬a.code<b.code:=λh=>f<|aQ ⟨d,aO h⟩;have E:¬b.code<a.code:=λh=>l<|aQ ⟨d.symm,aO h⟩;omega
 have u:a.name.toList=b.name.toList:=acL (Bool.eq_false_iff.2 λh=>f<|aQ ⟨d,aQ ⟨r,h⟩⟩)<|Bool.eq_false_iff.2 λh=>l<|aQ ⟨d.symm,aQ ⟨r.symm,h⟩⟩;have F:=toList_inj u;cases a;cases b;simp_all
theorem rU{a b:Dg}:sI a b=true↔a=b:=by
 unfold sI;simp only[dK,beq_iff_eq];constructor;·rintro⟨⟨h,d⟩,f⟩;have l:=toList_inj d;have r:=toList_inj f;cases a;cases b;simp_all
 ·rintro rfl;simp
def Asc(l:List Dg):Prop:=l.Pairwise λa b=>iE a b=true
theorem Yn{l:List Dg}{d x:Dg}:x∈ins l d↔x∈l\/x=d:=by
 induction l with
 | nil=>simp[ins]
 | cons y r f=>
  unfold ins;split;·simp only[fV,f,or_assoc]
  ·split
   ·rename_i h;rw[rU]at h;subst h;simp only[fV];constructor;·exact λh=>aO h
    ·rintro(h|h);·exact h
     ·exact aO h
   ·simp only[fV];constructor
    ·rintro(h|h|h);·exact aQ h
     ·exact aO<|aO h
     ·exact aO<|aQ h
    ·rintro((h|h)|h);·exact aQ<|aO h
     ·exact aQ<|aQ h
     ·exact aO h
theorem ag7{l:List Dg}{d:Dg}(h:Asc l):Asc (ins l d):=by
 induction l with
 | nil=>simp[ins,Asc]
 | cons y r E=>
  have s:(∀z∈r,iE y z=true)/\Asc r:=uT.1 h;unfold ins;split
  ·rename_i u;refine uT.2 ⟨λz f=>?_,E s.2⟩;rcases Yn.1 f with f|rfl;·exact s.1 z f
   ·exact u
  ·rename_i u;split;·exact h
   ·rename_i D;have B:iE d y=true:=by
     cases C:iE d y with
     | true=>rfl
     | false=>exact aM (rU.2<|BJ (by simpa using u) C) D
    refine uT.2 ⟨λz f=>?_,h⟩;rcases fV.1 f with rfl|f;·exact B
    ·exact rH B<|s.1 z f
theorem M8{l acc:List Dg}(h:Asc acc):Asc (l.foldl ins acc)/\∀x,x∈l.foldl ins acc↔x∈acc\/x∈l:=by
 induction l generalizing acc with
 | nil=>exact⟨h,λx=>by simp⟩
 | cons y r u =>obtain⟨f,s⟩:=u<|ag7 (d:=y) h;refine⟨f,λx=>?_⟩;rw[pz,s x,Yn,fV,or_assoc]
theorem acM(l:List Dg):Asc (once l):=(M8 (l:=l) (acc:=[]) List.Pairwise.nil).1
theorem Dh(l:List Dg)(x:Dg):x∈once l↔x∈l:=by rw[once,(M8 (l:=l) (acc:=[]) List.Pairwise.nil).2 x];simp
theorem Js:∀{u B:List Dg},Asc u->Asc B->(∀x,x∈u↔x∈B)->u=B
 | [],[],_,_,_=>rfl
 | [],y::_,_,_,h=>aM ((h y).2 cK) cK
 | x::_,[],_,_,h=>aM ((h x).1 cK) cK
 | x::r,y::s,C,D,h=>by
  have f:(∀z∈r,iE x z=true)/\Asc r:=uT.1 C;have l:(∀z∈s,iE y z=true)/\Asc s:=uT.1 D;have F:∀{a b:Dg},iE a b=true->iE b a=true->False:=λ{a b} p q=>by have:=wQ a;rw[rH p q]at this;cases this
  have E:x=y:=by
   rcases fV.1 ((h x).1 cK)with e|hx;·exact e
   ·rcases fV.1 ((h y).2 cK)with e|hy;·exact e.symm
    ·exact(F (f.1 y hy)<|l.1 x hx).elim
  subst E;congr 1;refine Js f.2 l.2 λz=>?_;constructor
  ·intro d;rcases fV.1 ((h z).1 (l8 _ d))with e|hz';·subst e;have:=wQ z;rw[f.1 z d]at this;cases this
   ·exact hz'
  ·intro d;rcases fV.1 ((h z).2 (l8 _ d))with e|hz';·subst e;have:=wQ z;rw[l.1 z d]at this;cases this
   ·exact hz'
end bO
theorem OA(x y:Dg)(w:bI):(Op.equalIn 10000 52 (.agg #[O x.code,A x.fn,A x.name])<|.agg #[O y.code,A y.fn,A y.name]).run prog w=.ok (sI x y) w:=by
 obtain⟨u3,h,C,B⟩:=rY underlying3 Tryz.isAgg3 Tryz.sizeOf3 underlying9;obtain⟨l,D⟩:=eY Tryz.isAgg9 Tryz.sizeOf9;have d:prog.underlying 52=some (.struct<|prog.fieldsOf 52):=by kernel_rfl
 have f:prog.stoodInHeld 52=false:=by kernel_rfl
 rw[show(10000:Nat)=9999+1 from rfl,run_equalIn_agg w 9999 52 _ _ d f];simp only[Program.fieldsOf,underlying52];go_simp;unfold sI;cases r:(x.code==y.code)<;>cases s:(x.fn.toList==y.fn.toList)<;>cases u:(x.name.toList==y.name.toList)<;>simp_all
theorem Jt(op:BinOp)(a b:Operand)(x y:Dg)(w:bI):(eqGuard op 52 a b (.agg #[O x.code,A x.fn,A x.name])<|.agg #[O y.code,A y.fn,A y.name]).run prog w=.ok () w:=
 run_eqGuard_agg w op _ a b _ _ dw
namespace bO
def oI:Option Nat->Int
 | some i=>i
 | none=>-1
end bO
def H9(w:bI)(m b off:Nat)(l:List Fu):Prop:=
 ∀i s,l[i]?=some s->s.name.size<=maxLen/\∃B u d f h r,w.cell? ⟨b,off+i*7,none⟩=some (.string s.name)/\w.cell? ⟨b,off+i*7+1,none⟩=some B/\w.cell? ⟨b,off+i*7+2,none⟩=some u/\
   w.cell? ⟨b,off+i*7+3,none⟩=some d/\w.cell? ⟨b,off+i*7+4,none⟩=some f/\w.cell? ⟨b,off+i*7+5,none⟩=some h/\w.cell? ⟨b,off+i*7+6,none⟩=some r/\
   Strs w B s.params/\fH w m u s.body/\iH w m d f h r s.result
theorem H9.below{b:Nat}{l:List Fu}(h:H9 w m b off l)(d:bK w w'):H9 w' m b off l:=λi s L=>by obtain⟨P,S,R,f,r,u,B,C,D,E,F,G,H,I,K,M,N⟩:=h i s L;exact⟨P,S,R,f,r,u,B,aG C d,aG D d,aG E d,aG F d,aG G d,aG H d,aG I d,K.below d,M.below d,N.below d⟩
theorem Zv(w:bI)(c0 d f h l r s:aC)(t:TypeId):(w.alloc<|.cells #[c0,d,f,h,l,r,s] t).cell? (aN w.heap.size 0)=some c0:=by simp[go_sem]
theorem Pj(w:bI)(c0:aC)(t:TypeId):(w.alloc<|.cells #[c0] t).cell? (aN w.heap.size 0)=some c0:=by simp[go_sem]
theorem ajp(w:bI)(B:Nat)(s nm:aS)(d f h l r u:aC)(D:bJ w B 0=some (A s)):aD 257 #[.agg #[A nm,d,f,h,l,r,u],gK B] w λe w'=>e=dz (.bool<|cB nm s)/\bK w w':=by have q0:=Zv w (A nm) d f h l r u 82;have C:=Y<|aH w<|aY #[A nm,d,f,h,l,r,u] 82;have F:=aG D C;have E:J (cB nm s=(nm.toList==s.toList)):=rfl;clear D;go_enter func257,ntmps257;go_wp2;go_ret;exact⟨aW E.symm,C⟩
theorem acO(m:Nat)(w:bI)(a:Option Addr)(b off cap n:Nat)(l:List Fu)(s:aS)(B:Nat)(hn:n<=l.length)(ae:l.length<=9223372036854775807)(Z:0<n->a=some (aN b off))(ac:H9 w m b off l)(W:bJ w B 0=some (A s)):aD 256 #[X a n cap,.func (.func 257) #[] #[gK B]] w λe w'=>e=dz (O<|oI<|vP l s n)/\bK w w':=by
 obtain⟨j5,HA,HB⟩:=fE ac Z W;obtain⟨R,I⟩:=aV<|oI<|vP l s n;have S:=Y I;rw[<-I];clear ac Z W I;go_enter func256,ntmps256;go_wp2_with fail;go_loopw[5,8] (λ_ i wr=>∃j:Nat,j<=n/\i=O j/\(∀d g,d<j->l[d]?=some g->cB g.name s=false)/\bK w wr) (λ_ i _=>n - (intOf i).toNat);exact⟨0,bN _,rfl,λd g K=>aM K<|fU _,bQ _ _⟩
 obtain⟨j,hj,rfl,aa,h⟩:=hrel;obtain⟨r,V⟩:=bV aa h;clear aa;by_cases ad:j<n
 ·obtain⟨f,L⟩:∃f,l[j]?=some f:=⟨_,aZ bC⟩;obtain⟨-,vp,vb,e0,e1,e2,e3,u,C,D,E,F,G,H,-⟩:=j5 j f L;obtain rfl:=HA bC;have N:=Y L;replace u:=aG u h;replace C:=aG C h;replace D:=aG D h;replace E:=aG E h;replace F:=aG F h;replace G:=aG G h;replace H:=aG H h;have M:=Y<|ajp wr B s f.name vp vb e0 e1 e2 e3<|aG HB h;clear L h;generalize hq:cB f.name s=q at M;have P:=Y hq;clear hq;go_wp2_with fail;refine M.mono ?_;rintro e w5 ⟨rfl,ab⟩;have U:=Y<|up V ab;clear ab u C D E F G H;cases q
  ·go_wp2;go_roundw;exact⟨j+1,by omega,by go_num,λd g K hg=>by
    by_cases e:d=j;·subst e;rw[N]at hg;cases hg;exact P
    ·exact r d g bC hg,U⟩
   exact gV
  ·go_wp2;go_ret;exact⟨by rw[S,Jp ad N P r];rfl,U⟩
 ·go_wp2;go_ret;exact⟨by rw[S,M0 λd g K hg=>r d g bC hg];rfl,V⟩
theorem ajW(w:bI)(a:Option Addr)(n cap:Nat)(k:Nat)(h:k<=n)(l:n<=cap):aD 233 #[X a n cap,O k] w λe w'=>e=dz (X a k cap)/\w'=w:=by
 have d:max (k:Int) 0=k:=by omega
 have f:min (k:Int) n=k:=by omega
 go_enter func233,ntmps233;go_wp2;go_ret;exact⟨rfl,rfl⟩
def bO.tV(d:Int)(l:List Fu)(s:aS)(n:Nat):Int × Int × Bool:=match vP l s n with
 | some i=>(d,i,true)
 | none=>(0,0,false)
theorem M9(m:Nat)(w:bI)(a:Option Addr)(b off cap n:Nat)(l:List Fu)(s:aS)(f:Int)(K:n<=l.length)(I:l.length<=9223372036854775807)(G:0<n->a=some (aN b off))(H:H9 w m b off l):aD 232 #[O f,X a n cap,A s] w λe w'=>e=dz (.tuple #[O (bO.tV f l s n).1,O (bO.tV f l s n).2.1,.bool (bO.tV f l s n).2.2])/\bK w w':=by
 have B:=Y<|aH w<|aY #[A s] 9;have q0:=Pj w (A s) 9;have u:=Y<|acO m (w.alloc<|aY #[A s] 9) a b off cap n l s w.heap.size K I G (H.below B) q0;obtain⟨R,E⟩:=aV<|bO.tV f l s n;have F:=Y E;rw[<-E];clear H G E q0;cases d:vP l s n with
 | none =>rw[d]at u;have C:=Y d;clear d;go_enter func232,ntmps232;go_wp2_with fail;refine u.mono ?_;rintro e L ⟨rfl,h⟩;have D:=Y<|up B h;clear h;have r:oI none=-1:=rfl;rw[r];clear r;go_wp2;go_ret3;exact Oy (by rw[F];simp[bO.tV,C.out]) D
 | some i =>rw[d]at u;have C:=Y d;clear d;go_enter func232,ntmps232;go_wp2_with fail;refine u.mono ?_;rintro e L ⟨rfl,h⟩;have D:=Y<|up B h;clear h;have r:oI (some i)=(i:Int):=rfl;rw[r];clear r;go_wp2;go_ret3;exact Oy (by rw[F];simp[bO.tV,C.out]) D
