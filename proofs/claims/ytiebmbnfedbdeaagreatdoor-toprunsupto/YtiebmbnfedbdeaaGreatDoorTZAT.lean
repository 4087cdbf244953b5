import Derived.Test.YtiebmbnfedbdeaaGreatDoorTZAQ
import Derived.Deep.RegionHeld3
import Derived.Test.YtiebmbnfedbdeaaGreatDoorTZVS
set_option maxHeartbeats 0
set_option maxRecDepth 99999
namespace Go.Proofs.YtiebmbnfedbdeaaGreatDoor
open bO
open Go.Proofs.Tryz
open Go.RowKit
namespace bO
def cs(s t:aS):Int:=if Op.bytesLess s.toList t.toList=true then -1 else if (s.toList==t.toList)=true then 0 else 1
def ci(a b:Int):Int:=if a<b then -1 else if a=b then 0 else 1
def or3(a b c:Int):Int:=if a≠0 then a else if b≠0 then b else c
def SQ(x y:Dg):Int:=or3 (cs x.fn y.fn) (ci x.code y.code) (cs x.name y.name)
theorem PZ(s t:aS):cs s t<0↔Op.bytesLess s.toList t.toList=true:=by
 unfold cs;split;·rename_i h;simp[h]
 ·rename_i h;split<;>simp[h]
theorem YP(s t:aS):cs s t=0↔s=t:=by
 unfold cs;split
 ·rename_i a;constructor;·intro d;simp at d
  ·rintro rfl;rw[Fb]at a;simp at a
 ·split;·rename_i a;rw[beq_iff_eq]at a;simp[toList_inj a]
  ·rename_i a;constructor;·intro d;simp at d
   ·rintro rfl;simp at a
theorem akA(a b:Int):ci a b<0↔a<b:=by
 unfold ci;split;·rename_i h;simp[h]
 ·rename_i h;split<;>simp[h]
theorem YQ(a b:Int):ci a b=0↔a=b:=by
 unfold ci;split
 ·constructor;·intro e;simp at e
  ·intro d;omega
 ·split;·rename_i d;simp[d]
  ·rename_i d;simp[d]
theorem afE(x y:Dg):decide (SQ x y<0)=iE x y:=by
 rw[vG,decide_eq_true_iff,wP];unfold SQ or3;by_cases d:cs x.fn y.fn=0
 ·rw[aI (by simp[d])];have a:=(YP _ _).1 d;by_cases e:ci x.code y.code=0;·rw[aI (by simp[e]),PZ];have f:=(YQ _ _).1 e;rw[a,Fb];simp[f]
  ·rw[aK e,akA];have f:¬x.code=y.code:=λh=>e<|(YQ _ _).2 h;rw[a,Fb];simp[f]
 ·rw[aK d,PZ];have a:¬x.fn=y.fn:=λh=>d<|(YP _ _).2 h;simp[a]
end bO
variable{w w' b W0 w1:bI}{c g i j n k K base cap:Nat}{x y:Dg}{l acc l' s C:List Dg}{cur:Array aC}
theorem ad4(w:bI)(s t:aS):aD 145 #[A s,A t] w λf w'=>f=dz (O<|bO.cs s t)/\w'=w:=by
 have a:J (bO.cs s t=if Op.bytesLess s.toList t.toList=true then -1 else if (s.toList==t.toList)=true then 0 else 1):=rfl;cases d:Op.bytesLess s.toList t.toList
 ·rw[aI (by rw[d];simp)]at a;cases e:(s.toList==t.toList);·rw[aI (by rw[e];simp)]at a;go_enter func145,ntmps145;go_wp2;go_ret;exact⟨by rw[a];rfl,rfl⟩
  ·rw[aK e]at a;go_enter func145,ntmps145;go_wp2;go_ret;exact⟨by rw[a];rfl,rfl⟩
 ·rw[aK d]at a;go_enter func145,ntmps145;go_wp2;go_ret;exact⟨by rw[a];rfl,rfl⟩
theorem ad5(w:bI)(s t:Int):aD 146 #[O s,O t] w λf w'=>f=dz (O<|bO.ci s t)/\w'=w:=by
 have a:J (bO.ci s t=if s<t then -1 else if s=t then 0 else 1):=rfl;by_cases e:s<t;·rw[aK e]at a;go_enter func146,ntmps146;go_wp2;go_ret;exact⟨by rw[a];rfl,rfl⟩
 ·rw[aI e]at a;by_cases d:s=t;·rw[aK d]at a;subst d;go_enter func146,ntmps146;go_wp2;go_ret;exact⟨by rw[a];rfl,rfl⟩
  ·rw[aI d]at a;have h:t<s:=by omega
   go_enter func146,ntmps146;go_wp2;go_ret;exact⟨by rw[a];rfl,rfl⟩
theorem ahz(w:bI)(B:Nat)(a b c:Int)(v:bJ w B 0=some (O a))(d:bJ w B 1=some (O b))(f:bJ w B 2=some (O c)):aD 144 #[Tc B 3 3] w λr w'=>r=dz (O<|or3 a b c)/\w'=w:=by
 have p:J (or3 a b c=if a≠0 then a else if b≠0 then b else c):=rfl;obtain⟨R,F⟩:=aV<|or3 a b c;rw[<-F]at p ⊢;have N:J (∀j:Nat,j<3->bJ w B j=some (O<|[a,b,c].getD j 0)):=Y (λj H=>by
  match j,H with
  | 0,_=>exact v
  | 1,_=>exact d
  | 2,_=>exact f)
 clear v d f F;go_enter func144,ntmps144;go_wp2_with fail;go_loop [5,8] (λ_ i=>∃j:Nat,j<=3/\i=O j/\∀k,k<j->[a,b,c].getD k 0=0) (λ_ i=>3 - (intOf i).toNat);exact⟨0,bN _,rfl,λk L=>aM L<|fU _⟩
 obtain⟨j,H,rfl,G⟩:=hrel;have m:=Y G;clear G;by_cases I:j<3
 ·have Q:=N j I;obtain⟨z,t⟩:=aV<|[a,b,c].getD j 0;have u:=Y t;rw[<-t]at Q;clear t;by_cases h:z=0
  ·have V:(z==0)=true:=by simp[h]
   have q:=Y h;clear h;go_wp2;go_round;exact⟨j+1,by omega,by go_num,λk L=>by
    by_cases r:k=j;·subst r;rw[<-u];exact q
    ·exact m k bC⟩
   exact gV
  ·have V:(z==0)=false:=by simp[h]
   have q:=Y h;clear h;go_wp2;go_ret;refine⟨?_,rfl⟩;have S:R=z:=by
    rw[p];obtain⟨d,f,D⟩:=lS u.out m.out q.out;match j,I with
    | 0,_=>simp at d;subst d;rw[aK D]
    | 1,_=>simp at d;have e:=f 0 bM;simp at e;subst d;rw[aI (by simp[e]),aK D]
    | 2,_=>simp at d;obtain⟨e,o⟩:=eY (f 0 bM)<|f 1 bM;simp at e o;subst d;rw[aI (by simp[e]),aI (by simp[o])]
   rw[S];rfl
 ·have U:j=3:=by omega
  have P:J (R=0):=Y (by rw[p];have e:=m 0 bC;have o:=m 1 bC;have E:=m 2 bC;simp at e o E;rw[aI (by simp[e]),aI (by simp[o])];exact E);clear U;go_wp2;go_ret;exact⟨by rw[P];rfl,rfl⟩
def FQ(w w':bI):Prop:=∃q a,w'=Sort.grow (w.drewN q) a
theorem FQ.refl(w:bI):FQ w w:=⟨0,#[],by simp[Sort.grow,World.drewN]⟩
theorem FQ.drew(a:FQ w w'):FQ w w'.drew:=by obtain⟨q,d,rfl⟩:=a;exact⟨q+1,d,rfl⟩
theorem FQ.alloc(a:FQ w w')(o:Obj):FQ w (w'.alloc o):=by obtain⟨q,d,rfl⟩:=a;refine⟨q,d.push o,?_⟩;simp[Sort.grow,World.alloc,World.drewN]
theorem FQ.below(a:FQ w w'):bK w w':=by obtain⟨q,e,rfl⟩:=a;exact⟨rfl,rfl,rfl,by simp[Sort.grow,World.drewN],λk d=>by simp[Sort.grow,World.drewN,Array.getElem?_append,d]⟩
theorem FQ.trans{a c:bI}(d:FQ a b)(k:FQ b c):FQ a c:=by obtain⟨q,e,rfl⟩:=d;obtain⟨h,f,rfl⟩:=k;exact⟨q+h,e++f,by simp[Sort.grow,World.drewN,Nat.add_assoc]⟩
theorem J6{x:bI}{o:Obj}(h:J (FQ W0 x)):J (FQ W0<|x.alloc o):=Y<|h.alloc o
theorem NC{x:bI}(h:J (FQ W0 x)):J (FQ W0 x.drew):=Y h.out.drew
theorem ana(w:bI)(a d e:aC)(t:TypeId)(i:Nat)(v:aC)(f:(#[a,d,e]:Array aC)[i]?=some v):(w.alloc<|.cells #[a,d,e] t).cell? (aN w.heap.size i)=some v:=
 (aj (bF w<|.cells #[a,d,e] t) i).trans f
theorem X7(w:bI)(a d e:aC)(t:TypeId)(i:Nat)(v:aC)(f:(#[a,d,e]:Array aC)[i]?=some v):(w.alloc<|.cells #[a,d,e] t).drew.cell? (aN w.heap.size i)=some v:=ana w a d e t i v f
theorem afe(w:bI)(x y:Dg):aD 91 #[.agg #[O x.code,A x.fn,A x.name],.agg #[O y.code,A y.fn,A y.name]] w λa w'=>a=dz (O<|SQ x y)/\FQ w w':=by
 have I:J (∀w s t,aD 145 #[A s,A t] w λa w'=>a=dz (O<|bO.cs s t)/\w'=w):=Y ad4;have H:J (∀w s t,aD 146 #[O s,O t] w λa w'=>a=dz (O<|bO.ci s t)/\w'=w):=Y ad5;have u:J (∀w (B:Nat),bJ w B 0=some (O<|bO.cs x.fn y.fn)->bJ w B 1=some (O<|bO.ci x.code y.code)->bJ w B 2=some (O<|bO.cs x.name y.name)->aD 144 #[Tc B 3 3] w λa w'=>a=dz (O<|SQ x y)/\w'=w):=Y (λw B L N P=>ahz w B _ _ _ L N P);obtain⟨R,D⟩:=aV<|SQ x y;rw[<-D]at u ⊢;clear D;obtain⟨d,f,o⟩:=x;obtain⟨e,h,p⟩:=y;simp only at u ⊢;obtain⟨q,r,Q⟩:=al2 w (aY #[O d,A f,A o] 69)<|aY #[O e,A h,A p] 69;have G:J (FQ w<|(w.alloc<|aY #[O d,A f,A o] 69).alloc (aY #[O e,A h,A p] 69)):=Y<|((FQ.refl w).alloc _).alloc _;have F:J (∀wx,J (FQ ((w.alloc<|aY #[O d,A f,A o] 69).alloc (aY #[O e,A h,A p] 69)) wx)->J (FQ ((w.alloc<|aY #[O d,A f,A o] 69).alloc (aY #[O e,A h,A p] 69)) wx)/\bJ wx w.heap.size 0=some (O d)/\bJ wx w.heap.size 1=some (A f)/\bJ wx w.heap.size 2=some (A o)/\bJ wx (w.heap.size+1) 0=some (O e)/\bJ wx (w.heap.size+1) 1=some (A h)/\bJ wx (w.heap.size+1) 2=some (A p)):=Y (λwx m =>⟨m,aG ((aj q 0).trans rfl) m.below,aG ((aj q 1).trans rfl) m.below,aG ((aj q 2).trans rfl) m.below,aG ((aj r 0).trans rfl) m.below,aG ((aj r 1).trans rfl) m.below,aG ((aj r 2).trans rfl) m.below⟩);clear q r Q;go_enter func91,ntmps91;go_wp2_with fail;generalize ((w.alloc<|aY #[O d,A f,A o] 69).alloc (aY #[O e,A h,A p] 69))=W0 at *;have v:J (FQ W0 W0):=Y<|FQ.refl _
 go_region_held3 (λwx=>J (FQ W0 wx)/\bJ wx w.heap.size 0=some (O d)/\bJ wx w.heap.size 1=some (A f)/\bJ wx w.heap.size 2=some (A o)/\
  bJ wx (w.heap.size+1) 0=some (O e)/\bJ wx (w.heap.size+1) 1=some (A h)/\bJ wx (w.heap.size+1) 2=some (A p))
  ((refine F _ ?_;repeat(first|exact z|exact v|apply NC|apply J6)))
  (first
   | (go_at_call 144;refine(u _ _ (X7 _ _ _ _ _ 0 _ rfl) (X7 _ _ _ _ _ 1 _ rfl) (X7 _ _ _ _ _ 2 _ rfl)).mono ?_;rintro a U ⟨rfl,E⟩;have z:J (FQ W0 U):=(by subst E;repeat(first|exact v|apply NC|apply J6));clear E)
   | (go_at_call 146;refine(H _ _ _).mono ?_;rintro a S ⟨rfl,rfl⟩)
   | (go_at_call 145;refine(I _ _ _).mono ?_;rintro a S ⟨rfl,rfl⟩))
 all_goals go_wp2;go_ret;exact⟨rfl,G.trans z⟩
open Go.Shelf
def oC(w:bI)(g:Nat)(l:List Dg):Prop:=
 ∃cur,w.heap[g]?=some (.cells cur 69 (0,0))/\l.length*3<=cur.size/\∀i d,l[i]?=some d->cur[i*3]?=some (.int .i64 d.code)/\cur[i*3+1]?=some (.string d.fn)/\cur[i*3+2]?=some (.string d.name)
def SS(d:Dg):List Value:=[.int .i64 d.code,.string d.fn,.string d.name]
instance:Inhabited Dg:=⟨⟨0,⟨#[]⟩,⟨#[]⟩⟩⟩
theorem wZ(x y:Dg):ltOf SQ x y=iE x y:=afE x y
theorem ap6:Sort.SWO (ltOf SQ) where
 irrefl x:=by rw[wZ];exact wQ x
 trans x y z h1 h2:=by
  rw[wZ]at *
  exact rH h1 h2
 ntrans x y z h1 h2:=by
  rw[wZ]at *
  cases a:iE x z with
  | false=>rfl
  | true=>
   cases d:iE y x with
   | true=>rw[rH d a]at h2;cases h2
   | false=>rw[BJ h1 d,h2]at a;cases a
theorem SV (d : Dg) : (SS d)[0]! = .int .i64 d.code ∧ (SS d)[1]! = .string d.fn ∧ (SS d)[2]! = .string d.name := ⟨rfl, rfl, rfl⟩
theorem oC.cell(e:oC w g l){d:Dg}(o:l[i]?=some d):bJ w g (i*3)=some (O d.code)/\bJ w g (i*3+1)=some (A d.fn)/\bJ w g (i*3+2)=some (A d.name):=by obtain⟨cur,a,_,p⟩:=e;obtain⟨f,h,m⟩:=p i d o;exact⟨(aj a _).trans f,(aj a _).trans h,(aj a _).trans m⟩
theorem oC.holds {w : World}   (q : oC w g l) : Sort.HoldsK SS 3 w g 0 l.toArray := by
 obtain ⟨cur, m, D, r⟩ := q
 intro j d
 rw [Sort.size_flatK] at d
 have B : j < l.length * 3 := by simpa using d
 refine ⟨?_, aF m _⟩
 rw [Nat.zero_add, aj m, Sort.get_flatK _ _ _ _ d]
 have o : j / 3 < l.length := by omega
 have t : l[j / 3]? = some l[j / 3] := List.getElem?_eq_getElem o
 have p : (l.toArray)[j / 3]! = l[j / 3] := by simp [o]
 rw [p]
 obtain ⟨e, f, h⟩ := r _ _ t
 obtain ⟨u, v, z⟩ := SV l[j / 3]
 have a : j % 3 = 0 ∨ j % 3 = 1 ∨ j % 3 = 2 := by omega
 rcases a with a | a | a
 ·rw [a, u]; rw [show j / 3 * 3 = j by omega] at e; exact e
 ·rw [a, v]; rw [show j / 3 * 3 + 1 = j by omega] at f; exact f
 ·rw [a, z]; rw [show j / 3 * 3 + 2 = j by omega] at h; exact h
theorem oC.ad7 {w : World}  {d : Array Dg} {cur : Array Value} (o : w.heap[g]? = some (.cells cur 69 (0, 0))) (r : d.size * 3 ≤ cur.size) (e : Sort.HoldsK SS 3 w g 0 d) : oC w g d.toList := by
 refine ⟨cur, o, by simpa using r, fun i x p => ?_⟩
 have a : i < d.size := by simpa using (List.getElem?_eq_some_iff.1 p).1
 have q : d[i]! = x := by
  have := (List.getElem?_eq_some_iff.1 p).2
  simp at this
  simp [a, this]
 have f := (e.cell (c := 0) a<|by decide).1
 have h := (e.cell (c := 1) a<|by decide).1
 have m := (e.cell (c := 2) a<|by decide).1
 rw [q, aj o] at f h m
 obtain ⟨t, u, v⟩ := SV x
 rw [t] at f
 rw [u] at h
 rw [v] at m
 refine ⟨?_, ?_, ?_⟩
 ·simpa using f
 ·simpa using h
 ·simpa using m
theorem aaL (w : World) (n g len cap : Nat) (l : List Dg) (q : oC w g l) (L : len = l.length) (W : n ≤ g) (V : l.length ≤ 16777216) :
  Calls prog 90 #[.slice (some ⟨g, 0, none⟩) len cap, .func (.func 91) #[] #[]] w fun p w' => p = .returned (.tuple #[]) ∧ ∃ l', l'.length = l.length ∧ (∀ x, x ∈ l' ↔ x ∈ l) ∧ (l'.Pairwise fun a b => iE b a = false) ∧ oC w' g l' ∧ Below n w w' := by
 subst L
 have r := q
 obtain ⟨cur, f, Q, U⟩ := q
 have G := AnyQ.slices_SortFunc Tryz.lSoDg 3 Tryz.isAgg69 Tryz.sizeOf69 SS (fun _ => rfl) (fun x v u => by simp [SS] at u; rcases u with rfl | rfl | rfl <;> rfl) SQ ap6 91 #[] g 0 cap l.toArray w
  (enters_of func91 (by kernel_rfl) rfl) (fun m z R _ x y => afe _ x y) r.holds (aR f) (by simp; omega)
 refine Calls.mono (show Calls prog 90 #[.slice (some ⟨g, 0, none⟩) l.length cap, .func (.func 91) #[] #[]] w _ from G) ?_
 rintro p w' ⟨H, d', k, z, e, N, o⟩
 refine ⟨H, d'.toList, ?_, ?_, ?_, ?_, ?_⟩
 ·simpa using e.1
 ·intro x
  have d := e.2.2.mem_iff (a := x)
  have B : d'.extract 0 l.toArray.size = d' := by
   have : l.toArray.size = d'.size := e.1.symm
   rw [this]; simp
  rw [B] at d
  simpa using d
 ·rw [List.pairwise_iff_getElem]
  intro i j t h I
  have P : d'.size = l.toArray.size := e.1
  have d := N i j (Nat.zero_le _) I (by rw [← P]; simpa using h)
  rw [wZ] at d
  have D : d'[i]! = d'.toList[i] := by simp at t; simp [t]
  have E : d'[j]! = d'.toList[j] := by simp at h; simp [h]
  rw [D, E] at d
  exact d
 ·have F : w'.heap[g]? = some (.cells (Sort.putCells id 0 (Sort.flatK SS 3 d') cur) 69 (0, 0)) := by
   rw [o]
   have hg := aR f
   simp only [sortWorldK, Sort.grow, Sort.putRowK, Sort.putRow, Sort.mapBlock, Sort.ahead]
   rw [Array.getElem?_append_left (by simpa using hg)]
   simp [Array.getElem?_modify, f, Sort.onCells]
  refine oC.ad7 F ?_ ?_
  ·have : d'.size = l.toArray.size := e.1
   simp only [Sort.putCells, Array.size_mapIdx]
   rw [this]; simpa using Q
  ·rw [o]
   exact holdsK_sortWorldK_c _ _ _ _ _ l.toArray d' k z r.holds (aR f) e.1
 ·rw [o]
  refine ⟨rfl, rfl, rfl, size_sortWorldK_c _ _ _ _ _ _ _ _, fun j h => ?_⟩
  have hg := aR f
  simp only [sortWorldK, Sort.grow, Sort.putRowK, Sort.putRow, Sort.mapBlock, Sort.ahead]
  rw [Array.getElem?_append_left (by simp; omega)]
  simp [Array.getElem?_modify]
  intro S; omega
theorem J7(w:bI)(p:Option Addr)(cap:Nat):aD 90 #[X p 0 cap,.func (.func 91) #[] #[]] w λe w'=>e=dz (.tuple #[])/\w'=w:=
 AnyF.slices_SortFunc_none { Tryz.lSoDg with } p cap _ w
namespace bO
def rC(acc:List Dg)(x:Dg):List Dg:=match acc.getLast? with
 | some y=>if sI x y then acc else acc++[x]
 | none=>acc++[x]
def CX(l:List Dg):List Dg:=l.foldl rC []
theorem amZ(acc:List Dg)(x:Dg):(rC acc x).getLast?=some x:=by
 unfold rC;split
 ·rename_i y d;split;·rename_i a;rw[rU]at a;subst a;exact d
  ·simp
 ·simp
theorem ad8(l:List Dg)(x:Dg):CX (l++[x])=rC (CX l) x:=by unfold CX;simp
theorem J8(h:l[j]?=some x):CX (l.take<|j+1)=rC (CX<|l.take j) x:=by rw[gy,h];exact ad8 _ _
theorem ad9(h:l[j]?=some x):(CX<|l.take<|j+1).getLast?=some x:=by rw[J8 h];exact amZ _ _
theorem Ke(a:l[j]?=some y)(d:l[j+1]?=some x):CX (l.take<|j+1+1)=if sI x y then CX (l.take<|j+1)else CX (l.take<|j+1)++[x]:=by rw[J8 d];have:=ad9 a;unfold rC;rw[this]
theorem ahA(l:List Dg):(CX l).length<=l.length:=by
 have a:∀(l acc:List Dg),(l.foldl rC acc).length<=acc.length+l.length:=by
  intro l;induction l with
  | nil=>intro acc;simp
  | cons x r d=>
   intro acc;have e:=d<|rC acc x;have f:(rC acc x).length<=acc.length+1:=by
    unfold rC;split;·split<;>simp
    ·simp
   simp only[pz,vN];omega
 simpa[CX]using a l []
theorem aaM(h:Asc acc)(H:l.Pairwise λa b=>iE b a=false)(q:∀a∈acc,∀y∈l,iE y a=false):Asc (l.foldl rC acc)/\∀x,x∈l.foldl rC acc↔x∈acc\/x∈l:=by
 induction l generalizing acc with
 | nil=>exact⟨h,λx=>by simp⟩
 | cons y r P=>
  obtain⟨v,B⟩:=uT.1 H;have t:Asc (rC acc y)/\(∀x,x∈rC acc y↔x∈acc\/x=y):=by
   unfold rC;split
   ·rename_i z e;split;·rename_i p;rw[rU]at p;subst p;have E:y∈acc:=SC e;exact⟨h,λx=>⟨aO,λI=>I.elim id (λf=>f ▸ E)⟩⟩
    ·rename_i p;refine⟨FP.2 ⟨h,by simp,λa d b m=>?_⟩,λx=>by simp⟩;rw[dh]at m;subst m;have L:=q a d b cK;cases D:iE a b with
     | true=>rfl
     | false=>
      exfalso;have f:=BJ D L;subst f;have N:z∈acc:=SC e;have F:a≠z:=λf=>p<|rU.2 f;obtain⟨u,G⟩:∃u,acc=u++[z]:=by rw[List.getLast?_eq_some_iff]at e;exact e
      rw[G]at h d;rcases bX.1 d with o|o;·have:=(FP.1 h).2.2 a o z cK;rw[q z N a cK]at this;cases this
      ·rw[dh]at o;exact F o
   ·rename_i e;have:acc=[]:=by simpa using e
    subst this;exact⟨by simp[Asc],λx=>by simp⟩
  obtain⟨Q,R⟩:=P t.1 B (λa d b m=>by
   rcases(t.2 a).1 d with d|rfl;·exact q a d b<|l8 _ m
   ·exact v b m)
  refine⟨Q,λx=>?_⟩;rw[pz,R x,t.2 x,fV,or_assoc]
theorem aea(o:s.Pairwise λa b=>iE b a=false)(m:∀x,x∈s↔x∈l')(h:∀x,x∈l'↔x∈l):CX s=once l:=by obtain⟨d,e⟩:=aaM (l:=s) (acc:=[]) List.Pairwise.nil o (λa f=>aM f cK);refine Js d (acM l) λx=>?_;rw[CX,e,Dh];simp[m,h]
end bO
theorem oC.drew(h:oC w g l):oC (w.drewN n) g l:=h
theorem oC.set(o:oC w g l)(v:k<l.length)(d:Dg):oC (((w.setCell (aN g<|k*3)<|O d.code).setCell (aN g<|k*3+1) (A d.fn)).setCell (aN g<|k*3+2) (A d.name)) g (l.set k d):=by
 obtain⟨cur,t,z,u⟩:=o;have p:=aP t (k*3)<|O d.code;have q:=aP p (k*3+1)<|A d.fn;have r:=aP q (k*3+2)<|A d.name;refine⟨_,r,by simpa using z,λi x a=>?_⟩;rw[List.getElem?_set]at a;by_cases e:k=i
 ·subst e;simp[v]at a;subst a;refine⟨?_,?_,?_⟩;·simp[RG];omega
  ·simp[RG];omega
  ·simp[RG];omega
 ·rw[aI e]at a;obtain⟨f,h,m⟩:=u i x a;refine⟨?_,?_,?_⟩;·rw[Ij bC,Ij bC,Ij bC];exact f
  ·rw[Ij bC,Ij bC,Ij bC];exact h
  ·rw[Ij bC,Ij bC,Ij bC];exact m
theorem aaN(o:dR w g (.cells cur 69 (0,0)))(t:0<n)(u:k*3+n*3<=cur.size)(q:TypeId):(Builtin.clear_ #[62] q #[X (some<|aN g<|k*3) n c]).run prog w=.ok (.tuple #[]) (w.setRow g (cur.toList.take (k*3)++(Builtin.zeroCells (Value.agg #[O 0,A ⟨#[]⟩,A ⟨#[]⟩]).cells n).toList++cur.toList.drop (k*3+(Builtin.zeroCells (Value.agg #[O 0,A ⟨#[]⟩,A ⟨#[]⟩]).cells n).toList.length)).toArray):=by
 have p:(Builtin.zeroCells (Value.agg #[O 0,A ⟨#[]⟩,A ⟨#[]⟩]).cells n).toList.length=n*3:=by simp[Builtin.zeroCells,Value.cells]
 have h:∀v∈(Builtin.zeroCells (Value.agg #[O 0,A ⟨#[]⟩,A ⟨#[]⟩]).cells n).toList,v.oneCell'=true:=by
  intro v f;simp[Builtin.zeroCells,Value.cells]at f;obtain⟨a,r,rfl⟩:=f;have d:a % 3=0\/a % 3=1\/a % 3=2:=by omega
  rcases d with d|d|d<;>simp[d]<;>rfl
 have e:=run_storeCells_at prog g (k*3) 69 (Builtin.zeroCells (Value.agg #[O 0,A ⟨#[]⟩,A ⟨#[]⟩]).cells n).toList 0 cur w o (by rw[p];omega) h;obtain⟨m,rfl⟩:∃m,n=m+1:=⟨n - 1,by omega⟩;simp only[sN]at e;simp[Builtin.clear_,run_underlying underlying62,e]
theorem oC.clear{zs:List aC}(r:oC w g l)(h:dR w g (.cells cur 69 (0,0)))(F:k<=l.length)(m:Nat):oC (w.setRow g (cur.toList.take (k*3)++zs++cur.toList.drop m).toArray) g (l.take k):=by
 obtain⟨E,a,G,t⟩:=r;rw[h]at a;simp at a;subst a;have B:(l.take k).length=k:=by rw[iA];omega
 refine⟨_,setRow_heap w g cur _ 69 (0,0) h,?_,λi d e=>?_⟩;·rw[B];simp;omega
 ·have u:i<k:=by have:=(cO.1 e).1;omega
  rw[nM u]at e;obtain⟨o,p,q⟩:=t i d e;have f:∀j v,j<k*3->cur[j]?=some v->((cur.toList.take (k*3)++zs++cur.toList.drop m).toArray)[j]?=some v:=λj v z D=>by rw[yK,iK,jX (by simp;omega),nM z];simpa using D
  exact⟨f _ _ bC o,f _ _ bC p,f _ _ bC q⟩
theorem SX(e:∀(j:Nat) x y,l[j]?=some y->l[j+1]?=some x->sI x y=false):∀j,j<=l.length->CX (l.take j)=l.take j:=by
 intro j;induction j with
 | zero=>intro _;rfl
 | succ j f=>
  intro h;cases j with
  | zero =>have a:l[0]?=some l[0]:=aZ bC;rw[J8 a];simp[CX,rC,gy,a]
  | succ j =>have d:l[j]?=some l[j]:=aZ bC;have a:l[j+1]?=some l[j+1]:=aZ bC;rw[Ke d a,e j _ _ d a,f bC];rw[gy (i:=j+1),a];simp
theorem uM(h:Below n w w1):Below n w (w1.drewN k):=⟨h.os,h.tape,h.output,h.size,h.block⟩
theorem BU{a:Addr}(d:Below n w w1)(f:n<=a.block)(v:aC):Below n w (w1.setCell a v):=
 ⟨d.os,d.tape,d.output,by simp only[World.setCell,Am];exact d.size,λk e=>by rw[vM _ _ _ _ bC];exact d.block k e⟩
theorem adM{cs:Array aC}(a:Below n w w1)(hg:n<=g):Below n w (w1.setRow g cs):=
 ⟨a.os,a.tape,a.output,by rw[setRow_size];exact a.size,λk d=>by rw[setRow_other _ _ _ _ bC];exact a.block k d⟩
theorem Wm(d:c=C.length)(a:c<=K):(C++l.drop c)[K]?=l[K]?:=by subst d;rw[kL a,Rt];congr 1;omega
theorem ahB(a:c=C.length)(d:c<l.length)(x:Dg):(C++l.drop c).set c x=(C++[x])++l.drop (c+1):=by subst a;rw[List.set_append_right _ _ (bG _),mW,Nw d,dY];simp
theorem ajq(w:bI)(n g len cap:Nat)(l:List Dg)(h:oC w g l)(ac:len=l.length)(al:len<=cap)(hn:n<=g)(hl:len<=16777216):aD 92 #[Tc g len cap] w λe w'=>∃c',e=dz (Tc g (CX l).length c')/\oC w' g (CX l)/\Below n w w':=by
 obtain⟨HL,HR⟩:=bV ac h;clear ac h;by_cases u:len<2
 ·have R:J (CX l=l):=Y (by
   have af:=HL.out;match l,af with
   | [],_=>rfl
   | [x],_=>rfl
   | x::y::r,h=>simp at h;omega)
  go_enter func92,ntmps92;go_wp2;go_ret;exact⟨_,by rw[R,<-HL];rfl,by rw[R];exact HR,bQ _ _⟩
 ·go_enter func92,ntmps92;go_wp2_with fail;go_loopw[3] (λi wr=>∃j:Nat,j+1<=len/\i=O ((j:Int)+1)/\(∀(q:Nat) x y,q<j->l[q]?=some y->l[q+1]?=some x->sI x y=false)/\oC wr g l/\Below n w wr) (λi _=>len - (intOf i).toNat);exact⟨0,by omega,rfl,λq x y hq=>aM hq<|fU _,HR,bQ _ _⟩
  obtain⟨j,hj,rfl,ab,f,D⟩:=hrel;obtain⟨eP,sU,fT⟩:=fE ab f D;clear ab D;by_cases ar:j+1<len
  ·obtain⟨y,F⟩:∃y,l[j]?=some y:=⟨_,aZ (by rw[<-HL];omega)⟩;obtain⟨x,E⟩:∃y,l[j+1]?=some y:=⟨_,aZ (by rw[<-HL];omega)⟩;obtain⟨N,P,Q⟩:=f.cell E;obtain⟨U,V,W⟩:=f.cell F;obtain⟨HX,HY⟩:=bV E F;have B:∀w,Sem.run prog (Op.equalIn 10000 69 (.agg #[O x.code,A x.fn,A x.name])<|.agg #[O y.code,A y.fn,A y.name]) w=.ok (sI x y) w:=OA x y;have aa:∀op a b w,Sem.run prog (eqGuard op 69 a b (.agg #[O x.code,A x.fn,A x.name])<|.agg #[O y.code,A y.fn,A y.name]) w=.ok () w:=λop a b w=>Jt op a b x y w;have ah:decide ((j:Int)+1<(len:Int))=true:=by simp;omega
   clear E F f;cases I:sI x y
   ·rw[I]at B;have MF:=Y I;clear I;go_wp2_with fail;go_quiet (fail);go_wp2;go_roundw;exact⟨j+1,by omega,by go_num,λq a b hq o u=>by
     by_cases e:q=j;·subst e;rw[HY]at o;rw[HX]at u;cases o;cases u;exact MF
     ·exact eP q a b bC o u,sU.drew,uM fT⟩
    exact gV
   ·rw[I]at B;have Vi:J (CX (l.take<|j+1+1)=l.take (j+1)):=Y (by
     rw[Ke HY HX,I,aK rfl];have ag:(l.take<|j+1).length=j+1:=by rw[iA];have:=HL.out;omega
     have o:=SX (l:=l.take<|j+1) (λq a b o u=>by have hq:=(cO.1 u).1;rw[ag]at hq;rw[nM bC]at o u;exact eP q a b bC o u) (j+1) bC;rwa[List.take_take,Nat.min_self]at o)
    clear I;go_wp2_with fail;go_quiet (fail);obtain⟨ae,Mv⟩:=bV (sU.out.drew (n:=nq))<|uM (k:=nq) fT.out;clear N P Q U V W B aa;generalize wr.drewN nq=W1 at *;go_wp2_with fail;go_loopw[3,5] (λa b wx=>∃c t:Nat,a=O c/\b=O ((t:Int)+1)/\j+1+(t+1)<=len/\c=(CX<|l.take<|j+1+(t+1)).length/\c<=j+1+t/\oC wx g (CX (l.take<|j+1+(t+1))++l.drop c)/\Below n w wx) (λ_ b _=>len - (intOf b).toNat);exact⟨j+1,0,by go_num,rfl,by omega,by
     rw[show j+1+(0+1)=j+1+1 from rfl,Vi,iA];have:=HL.out;omega,bG _,by
     rw[show j+1+(0+1)=j+1+1 from rfl,Vi,pK];exact ae,Mv⟩
    obtain⟨c,t,rfl,rfl,au,H,ao,f,D⟩:=hrel;obtain⟨v,oD,Kh⟩:=fE H f D;by_cases aq:j+1+(t+1)<len
    ·obtain⟨p,F⟩:∃y,l[j+1+t]?=some y:=⟨_,aZ (by rw[<-HL];omega)⟩;obtain⟨x',E⟩:∃y,l[j+1+(t+1)]?=some y:=⟨_,aZ (by rw[<-HL];omega)⟩;obtain⟨z',hz⟩:∃y,l[c]?=some y:=⟨_,aZ (by rw[<-HL];omega)⟩;obtain⟨N,P,Q⟩:=f.cell (i:=j+1+(t+1)) (d:=x') (by rw[Wm H bC];exact E);obtain⟨U,V,W⟩:=f.cell (i:=j+1+t) (d:=p) (by rw[Wm H bC];exact F);obtain⟨m0,m1,m2⟩:=f.cell (i:=c) (d:=z') (by rw[Wm H bC];exact hz);rw[Nat.add_mul (j+1) (t+1)]at N P Q;rw[Nat.add_mul (j+1) t]at U V W;obtain⟨cur,z,-,-⟩:=f;obtain⟨f0,f1,f2⟩:=lS (aF z<|c*3) (aF z<|c*3+1)<|aF z<|c*3+2;have L:J (CX (l.take<|j+1+(t+1)+1)=if sI x' p then CX (l.take<|j+1+(t+1))else CX (l.take<|j+1+(t+1))++[x']):=Y<|Ke (j:=j+1+t) F E;have B:∀w,Sem.run prog (Op.equalIn 10000 69 (.agg #[O x'.code,A x'.fn,A x'.name])<|.agg #[O p.code,A p.fn,A p.name]) w=.ok (sI x' p) w:=OA x' p;have aa:∀op a b w,Sem.run prog (eqGuard op 69 a b (.agg #[O x'.code,A x'.fn,A x'.name])<|.agg #[O p.code,A p.fn,A p.name]) w=.ok () w:=λop a b w=>Jt op a b x' p w;have ai:decide ((t:Int)+1<((len - (j+1):Nat):Int))=true:=by simp;omega
     clear E F hz z H D;cases G:sI x' p
     ·rw[G]at B;rw[G,aI cK]at L;clear G;go_wp2_with fail;go_quiet (fail);have S:J (oC (wr.drewN nq) g _):=Y<|oD.out.drew (n:=nq);have Z:=Y<|uM (k:=nq) Kh.out;replace N:(wr.drewN nq).cell? _=_:=N;replace P:(wr.drewN nq).cell? _=_:=P;replace Q:(wr.drewN nq).cell? _=_:=Q;replace m0:(wr.drewN nq).cell? _=_:=m0;replace m1:(wr.drewN nq).cell? _=_:=m1;replace m2:(wr.drewN nq).cell? _=_:=m2;replace f0:(wr.drewN nq).frozen? _=_:=f0;replace f1:(wr.drewN nq).frozen? _=_:=f1;replace f2:(wr.drewN nq).frozen? _=_:=f2;clear U V W B aa;generalize wr.drewN nq=W2 at *;go_wp2;go_roundw;exact⟨c+1,t+1,by go_num,by go_num,by omega,by
       rw[show j+1+(t+1+1)=j+1+(t+1)+1 by omega,L,bg,<-v];rfl,by omega,by
       rw[show j+1+(t+1+1)=j+1+(t+1)+1 by omega,L,<-ahB v (by rw[<-HL];omega)];exact S.set (by rw[bg,Bo,<-v,<-HL];omega) x',BU (BU (BU Z hn _) hn _) hn _⟩
      exact gV
     ·rw[G]at B;rw[G,aK rfl]at L;clear G;go_wp2_with fail;go_quiet (fail);have S:J (oC (wr.drewN nq) g _):=Y<|oD.out.drew (n:=nq);have Z:=Y<|uM (k:=nq) Kh.out;clear N P Q m0 m1 m2 f0 f1 f2 U V W B aa;generalize wr.drewN nq=W2 at *;go_wp2;go_roundw;exact⟨c,t+1,rfl,by go_num,by omega,by
       rw[show j+1+(t+1+1)=j+1+(t+1)+1 by omega,L];exact v,by omega,by
       rw[show j+1+(t+1+1)=j+1+(t+1)+1 by omega,L];exact S,Z⟩
      exact gV
    ·have DU:J (l.take (j+1+(t+1))=l):=Y<|fQ (by rw[<-HL];omega);rw[DU]at oD v f;have ad:=f;obtain⟨cur,z,ak,-⟩:=f;rw[bg,Bo,<-v,<-HL]at ak;have am:=λty=>aaN (c:=cap - c) z (show 0<len - c by omega) (show c*3+(len - c)*3<=cur.size by omega) ty;have YR:=Y (λzs m=>oC.clear (zs:=zs) (k:=c) ad z (by rw[bg,<-v];omega) m);have ai:decide ((t:Int)+1<((len - (j+1):Nat):Int))=false:=by simp;omega
     have I4:J ((CX l++l.drop c).take c=CX l):=Y (by rw[v,List.take_left]);rw[I4]at YR;generalize (Builtin.zeroCells (Value.agg #[O 0,A ⟨#[]⟩,A ⟨#[]⟩]).cells<|len - c).toList=zs at *;obtain⟨Z,S⟩:=bV (adM (g:=g) (cs:=(cur.toList.take (c*3)++zs++cur.toList.drop (c*3+zs.length)).toArray) D hn)<|YR zs<|c*3+zs.length;generalize wr.setRow g (cur.toList.take (c*3)++zs++cur.toList.drop (c*3+zs.length)).toArray=W2 at *;clear ad z H D;go_wp2;go_ret;exact⟨_,by rw[<-v];rfl,S,Z⟩
  ·have R:J (CX l=l):=Y (by have o:=SX (l:=l) (λq a b o u=>eP q a b (by have:=(cO.1 u).1;have:=HL.out;omega) o u) l.length (bG _);rwa[jQ]at o);have ah:decide ((j:Int)+1<(len:Int))=false:=by simp;omega
   clear f;go_wp2;go_ret;exact⟨_,by rw[R,<-HL];rfl,by rw[R];exact sU,fT⟩
theorem aeb{cs:List (List aC)}(q:w.ownsRow base 69 3 (Tc g n cap) n cs.flatten)(E:n=l.length)(z:cs.length=l.length)(r:∀(i:Nat) c y,cs[i]?=some c->l[i]?=some y->qU c y):oC w g l:=by
 have D:∀c∈cs,c.length=3:=λc a=>by obtain⟨i,h,rfl⟩:=gU.1 a;have:=r i _ _ (aZ h)<|aZ bC;rw[this];rfl
 have f:=λ(i:Nat) (c:List aC) (a:cs[i]?=some c) (j:Nat) (B:j<3)=>Yk q bC D a B;rcases q.2 with⟨e,_⟩|⟨H,G,cur,e,_,u,_,_,F,_⟩;·simp at e
 ·simp at e;obtain⟨rfl,rfl⟩:=e;refine⟨cur,u,by rw[F,<-E];omega,λi d t=>?_⟩;have h:i<cs.length:=by rw[z];exact(cO.1 t).1
  have a:=aZ h;obtain⟨v,m,o,p⟩:=rY (r i _ d a t) (f i _ a 0 bM) (f i _ a 1 bM)<|f i _ a 2 bM;rw[aj u,v]at m o p;exact⟨m,o,p⟩
theorem ajK(w:bI)(v:aC)(l:List Dg)(h:jg w v l)(z:l.length<=16777216):aD 89 #[v] w λp w'=>∃v',p=dz v'/\J (bK w w'/\((v'=aU/\l=[])\/∃g cap,v'=Tc g l.length cap/\l.length<=cap/\w.heap.size<=g/\oC w' g l)):=by
 obtain⟨a,b,off,cap,rfl,f,-,t⟩:=h;cases a with
 | none=>
  have hz:l=[]:=by
   cases l with
   | nil=>rfl
   | cons y r=>exact aM (f cK) cK
  subst hz;clear f t;have ae:∀w c,(binOp .eql 62 (X none 0 c)<|aU).run prog w=.ok (.bool true) w:=λw c=>Lib.run_eql_slice_nil w 62 69 none 0 c 0 0 underlying62;go_enter func89,ntmps89;go_wp2;go_ret;exact⟨_,rfl,Y ⟨bQ _ _,aO cK⟩⟩
 | some o=>
  obtain⟨cs,D,U,E,V⟩:=acH (At:=qU) (w:=w) (b:=b) (off:=off) (k:=3) (l:=l) bM (λi y hy=>by
   obtain⟨g0,g1,g2⟩:=t i y hy;refine⟨_,rfl,λj u d=>?_,rfl⟩;match j,d with
   | 0,d=>simp at d;subst d;exact g0
   | 1,d=>simp at d;subst d;exact g1
   | 2,d=>simp at d;subst d;exact g2
   | j+3,d=>simp at d)
  have F:J (cs.flatten.length=l.length*3):=Y (by rw[sj cs U,D]);obtain⟨S,Z,e⟩:=fE D E<|aH w<|aY #[] 69;have aa:J (∀(j:Nat) u,cs.flatten[j]?=some u->(w.alloc<|aY #[] 69).cell? (aN b<|off+j)=some u):=Y λj u d=>aG (V j u d) e;have tX:J (∀u∈cs.flatten,u.oneCell'=true):=Y λu d=>by obtain⟨c,q,ag⟩:=Rl.1 d;obtain⟨i,hi,rfl⟩:=gU.1 q;exact(E i _ _ (aZ hi)<|aZ bC).one u ag
  have G:=Y f;obtain⟨nl,B⟩:=aV l.length;rw[<-B]at F G S z ⊢;obtain⟨N,H⟩:=bV B z;clear B z f t D U E V;have ae:∀w n c,(binOp .eql 62 (X (some o) n c)<|aU).run prog w=.ok (.bool false) w:=λw n c=>Lib.run_eql_slice_nil w 62 69 (some o) n c 0 0 underlying62;have I:=Y<|M5 w 69 3;go_enter func89,ntmps89
  go_wp2_with (first
   | (at_builtin;refine lq rfl _ _ 62 69 3 40 _ rfl underlying62 qV bM bM w.heap.size _ 0 [] rfl I (some o) b off nl cap cs.flatten rfl G F aa tX (by have:=H.out;unfold maxLen;omega) (by have:=H.out;omega) e.size ?_;intro v7 w7 Q P L R;have W:=Y Q;have ab:=Y L;have kG:=Y<|Below.grown e P e.size (λk p=>by have:=(I.lt k p).1;omega);clear Q P L R)
   | fail)
  go_ret;refine⟨_,rfl,Y ⟨kG,aQ ?_⟩⟩;have m:=W.out;rw[d9,sP]at m;have af:=m.2;rcases af with⟨h1,h2⟩|⟨g,ac,cur,h1,hg,hh,q,_⟩;·exfalso;have h3:=(ab h2).symm.trans h1;injection h3 with h4;cases h4
  ·rw[h1]at m;exact⟨g,ac,h1,q,hg,aeb m N (by rw[S,N]) Z⟩
theorem DV(w:bI)(c:Nat):aD 92 #[X none 0 c] w λe w'=>e=dz (X none 0 c)/\w'=w:=by go_enter func92,ntmps92;go_wp2;go_ret;exact⟨rfl,rfl⟩
theorem ag2(w:bI):aD 89 #[aU] w λa w'=>a=dz (aU)/\w'=w:=by have d:∀w c,(binOp .eql 62 (X none 0 c)<|aU).run prog w=.ok (.bool true) w:=λw c=>Lib.run_eql_slice_nil w 62 69 none 0 c 0 0 underlying62;go_enter func89,ntmps89;go_wp2;go_ret;exact⟨rfl,rfl⟩
theorem ajx(w:bI):aD 39 #[aU] w λa w'=>a=dz (aU)/\w'=w:=by go_enter func39,ntmps39;go_wp2_with fail;refine(ag2 _).mono ?_;rintro a w1 ⟨rfl,d⟩;subst d;go_wp2_with fail;refine(J7 _ _ _).mono ?_;rintro a h ⟨rfl,e⟩;subst e;go_wp2_with fail;refine(DV _ _).mono ?_;rintro a m ⟨rfl,f⟩;subst f;go_wp2;go_ret;exact⟨rfl,rfl⟩
theorem oC.ap7(a:oC w g l)(h:n=l.length)(f:l.length<=9223372036854775807):jg w (Tc g n c) l:=by subst h;exact⟨_,g,0,c,rfl,λ_=>rfl,f,λi d e=>by rw[d9];exact a.cell e⟩
theorem y8(w:bI)(v:aC)(l:List Dg)(h:jg w v l)(r:l.length<=16777216):aD 39 #[v] w λf w'=>∃u,f=dz u/\jg w' u (bO.once l)/\bK w w':=by
 have B:=Y<|ajK w v l h r;obtain⟨a,b,off,cap,rfl,-⟩:=h;have o:=Y r;obtain⟨fl,q⟩:=aV l.length;have m:=Y q;rw[<-q]at B ⊢;clear r q;go_enter func39,ntmps39;go_wp2_with fail;refine B.mono ?_;rintro f w1 ⟨v1,rfl,F⟩;obtain⟨H,p⟩:=F.out;clear F;have z:=Y H;clear H;rcases p with⟨rfl,N⟩|⟨g,G,rfl,ac,hg,e⟩;·have Z:=Y N;clear N;go_wp2_with fail;refine(J7 _ _ _).mono ?_;rintro f S ⟨rfl,ad⟩;subst ad;go_wp2_with fail;refine(DV _ _).mono ?_;rintro f w3 ⟨rfl,ae⟩;subst ae;go_wp2;go_ret;exact⟨_,rfl,by rw[Z];show jg _ _ [];exact⟨none,0,0,0,rfl,λh=>aM h cK,by simp,λi d hd=>by simp at hd⟩,z⟩
 ·have sU:=Y e;have D:=Y hg;clear e hg;go_wp2_with fail;refine(aaL w1 w.heap.size g fl G l sU m D o).mono ?_;rintro f S ⟨rfl,s,P,Q,R,e,I⟩;obtain⟨E,MF,aa,oD,U⟩:=uh P Q R e<|z.trans I;clear P Q R e I;go_wp2_with fail;refine(ajq S w.heap.size g fl G s oD (by rw[E];exact m) ac D (by rw[m];exact o)).mono ?_;rintro f w3 ⟨c3,rfl,e,L⟩;have W:J (bO.once l=CX s):=Y (aea aa MF (λ_=>Iff.rfl)).symm;obtain⟨ab,V⟩:=bV e<|U.trans L;have S9:J ((CX s).length<=9223372036854775807):=Y (by have p:=ahA s;rw[E]at p;have:=o.out;omega);obtain⟨pl,t⟩:=aV<|(CX s).length;have HP:=Y t;rw[<-t];clear e L t;go_wp2;go_ret;exact⟨_,rfl,by rw[W];exact ab.ap7 HP S9,V⟩
