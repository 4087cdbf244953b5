import Derived.Test.YtageneidjnbedaaGreatDoorTZAQ
import Derived.Deep.RegionHeld3
import Derived.Test.YtageneidjnbedaaGreatDoorTZVS
set_option maxHeartbeats 0
set_option maxRecDepth 99999
namespace Go.Proofs.YtageneidjnbedaaGreatDoor
open bO
open Go.Proofs.Tryz
open Go.RowKit
namespace bO
def cs(s t:aS):Int:=if Op.bytesLess s.toList t.toList=true then -1 else if (s.toList==t.toList)=true then 0 else 1
def ci(a b:Int):Int:=if a<b then -1 else if a=b then 0 else 1
def or3(a b c:Int):Int:=if a≠0 then a else if b≠0 then b else c
def SQ(x y:Dg):Int:=or3 (cs x.fn y.fn) (ci x.code y.code) (cs x.name y.name)
theorem PZ(s t:aS):cs s t<0↔Op.bytesLess s.toList t.toList=true:=by
 unfold cs;split;·rename_i h;simp[h]
 ·rename_i h;split<;>simp[h]
theorem YP(s t:aS):cs s t=0↔s=t:=by
 unfold cs;split
 ·rename_i h;constructor;·intro a;simp at a
  ·rintro rfl;rw[Fb]at h;simp at h
 ·split;·rename_i h;rw[beq_iff_eq]at h;simp[toList_inj h]
  ·rename_i h;constructor;·intro a;simp at a
   ·rintro rfl;simp at h
theorem akA(a b:Int):ci a b<0↔a<b:=by
 unfold ci;split;·rename_i h;simp[h]
 ·rename_i h;split<;>simp[h]
theorem YQ(a b:Int):ci a b=0↔a=b:=by
 unfold ci;split
 ·constructor;·intro d;simp at d
  ·intro h;omega
 ·split;·rename_i h;simp[h]
  ·rename_i h;simp[h]
theorem afE(x y:Dg):decide (SQ x y<0)=iE x y:=by
 rw[vG,decide_eq_true_iff,wP];unfold SQ or3;by_cases d:cs x.fn y.fn=0
 ·rw[aI (by simp[d])];have a:=(YP _ _).1 d;by_cases e:ci x.code y.code=0;·rw[aI (by simp[e]),PZ];have f:=(YQ _ _).1 e;rw[a,Fb];simp[f]
  ·rw[aK e,akA];have f:¬x.code=y.code:=λh=>e<|(YQ _ _).2 h;rw[a,Fb];simp[f]
 ·rw[aK d,PZ];have a:¬x.fn=y.fn:=λh=>d<|(YP _ _).2 h;simp[a]
end bO
variable{w w' b W0 w1:bI}{c g i j n k K base cap:Nat}{x y:Dg}{l acc l' s C:List Dg}{cur:Array aC}
theorem ad4(w:bI)(s t:aS):aD 145 #[A s,A t] w λf w'=>f=dz (O<|bO.cs s t)/\w'=w:=by
 have a:J (bO.cs s t=if Op.bytesLess s.toList t.toList=true then -1 else if (s.toList==t.toList)=true then 0 else 1):=rfl;cases d:Op.bytesLess s.toList t.toList
 ·rw[aI (by rw[d];simp)]at a;cases e:(s.toList==t.toList);·rw[aI (by rw[e];simp)]at a;go_enter func145,ntmps145;go_wp2;go_ret;exact⟨by rw[a];rfl,rfl⟩
  ·rw[aK e]at a;go_enter func145,ntmps145;go_wp2;go_ret;exact⟨by rw[a];rfl,rfl⟩
 ·rw[aK d]at a;go_enter func145,ntmps145;go_wp2;go_ret;exact⟨by rw[a];rfl,rfl⟩
theorem ad5(w:bI)(s t:Int):aD 146 #[O s,O t] w λf w'=>f=dz (O<|bO.ci s t)/\w'=w:=by
 have a:J (bO.ci s t=if s<t then -1 else if s=t then 0 else 1):=rfl;by_cases e:s<t;·rw[aK e]at a;go_enter func146,ntmps146;go_wp2;go_ret;exact⟨by rw[a];rfl,rfl⟩
 ·rw[aI e]at a;by_cases d:s=t;·rw[aK d]at a;subst d;go_enter func146,ntmps146;go_wp2;go_ret;exact⟨by rw[a];rfl,rfl⟩
  ·rw[aI d]at a;have h:t<s:=by omega
   go_enter func146,ntmps146;go_wp2;go_ret;exact⟨by rw[a];rfl,rfl⟩
theorem ahz(w:bI)(B:Nat)(a b c:Int)(D:bJ w B 0=some (O a))(d:bJ w B 1=some (O b))(f:bJ w B 2=some (O c)):aD 144 #[Tc B 3 3] w λt w'=>t=dz (O<|or3 a b c)/\w'=w:=by
 have q:J (or3 a b c=if a≠0 then a else if b≠0 then b else c):=rfl;obtain⟨R,G⟩:=aV<|or3 a b c;rw[<-G]at q ⊢;have N:J (∀j:Nat,j<3->bJ w B j=some (O<|[a,b,c].getD j 0)):=Y (λj I=>by
  match j,I with
  | 0,_=>exact D
  | 1,_=>exact d
  | 2,_=>exact f)
 clear D d f G;go_enter func144,ntmps144;go_wp2_with fail;go_loop [5,8] (λ_ i=>∃j:Nat,j<=3/\i=O j/\∀k,k<j->[a,b,c].getD k 0=0) (λ_ i=>3 - (intOf i).toNat);exact⟨0,bN _,rfl,λk M=>aM M<|fU _⟩
 obtain⟨j,I,rfl,H⟩:=hrel;have m:=Y H;clear H;by_cases L:j<3
 ·have Q:=N j L;obtain⟨z,u⟩:=aV<|[a,b,c].getD j 0;have v:=Y u;rw[<-u]at Q;clear u;by_cases h:z=0
  ·have V:(z==0)=true:=by simp[h]
   have r:=Y h;clear h;go_wp2;go_round;exact⟨j+1,by omega,by go_num,λk M=>by
    by_cases t:k=j;·subst t;rw[<-v];exact r
    ·exact m k bC⟩
   exact gV
  ·have V:(z==0)=false:=by simp[h]
   have r:=Y h;clear h;go_wp2;go_ret;refine⟨?_,rfl⟩;have S:R=z:=by
    rw[q];obtain⟨d,f,E⟩:=lS v.out m.out r.out;match j,L with
    | 0,_=>simp at d;subst d;rw[aK E]
    | 1,_=>simp at d;have e:=f 0 bM;simp at e;subst d;rw[aI (by simp[e]),aK E]
    | 2,_=>simp at d;obtain⟨e,p⟩:=eY (f 0 bM)<|f 1 bM;simp at e p;subst d;rw[aI (by simp[e]),aI (by simp[p])]
   rw[S];rfl
 ·have U:j=3:=by omega
  have P:J (R=0):=Y (by rw[q];have e:=m 0 bC;have p:=m 1 bC;have F:=m 2 bC;simp at e p F;rw[aI (by simp[e]),aI (by simp[p])];exact F);clear U;go_wp2;go_ret;exact⟨by rw[P];rfl,rfl⟩
def FQ(w w':bI):Prop:=∃q a,w'=Sort.grow (w.drewN q) a
theorem FQ.refl(w:bI):FQ w w:=⟨0,#[],by simp[Sort.grow,World.drewN]⟩
theorem FQ.drew(h:FQ w w'):FQ w w'.drew:=by obtain⟨q,a,rfl⟩:=h;exact⟨q+1,a,rfl⟩
theorem FQ.alloc(h:FQ w w')(o:Obj):FQ w (w'.alloc o):=by obtain⟨q,a,rfl⟩:=h;refine⟨q,a.push o,?_⟩;simp[Sort.grow,World.alloc,World.drewN]
theorem FQ.below(h:FQ w w'):bK w w':=by obtain⟨q,d,rfl⟩:=h;exact⟨rfl,rfl,rfl,by simp[Sort.grow,World.drewN],λk a=>by simp[Sort.grow,World.drewN,Array.getElem?_append,a]⟩
theorem FQ.trans{a c:bI}(h:FQ a b)(k:FQ b c):FQ a c:=by obtain⟨q,d,rfl⟩:=h;obtain⟨f,e,rfl⟩:=k;exact⟨q+f,d++e,by simp[Sort.grow,World.drewN,Nat.add_assoc]⟩
theorem J6{x:bI}{o:Obj}(h:J (FQ W0 x)):J (FQ W0<|x.alloc o):=Y<|h.alloc o
theorem NC{x:bI}(h:J (FQ W0 x)):J (FQ W0 x.drew):=Y h.out.drew
theorem ana(w:bI)(a d e:aC)(t:TypeId)(i:Nat)(v:aC)(h:(#[a,d,e]:Array aC)[i]?=some v):(w.alloc<|.cells #[a,d,e] t).cell? (aN w.heap.size i)=some v:=
 (aj (bF w<|.cells #[a,d,e] t) i).trans h
theorem X7(w:bI)(a d e:aC)(t:TypeId)(i:Nat)(v:aC)(h:(#[a,d,e]:Array aC)[i]?=some v):(w.alloc<|.cells #[a,d,e] t).drew.cell? (aN w.heap.size i)=some v:=ana w a d e t i v h
theorem afe(w:bI)(x y:Dg):aD 97 #[.agg #[O x.code,A x.fn,A x.name],.agg #[O y.code,A y.fn,A y.name]] w λd w'=>d=dz (O<|SQ x y)/\FQ w w':=by
 have M:J (∀w s t,aD 145 #[A s,A t] w λd w'=>d=dz (O<|bO.cs s t)/\w'=w):=Y ad4;have L:J (∀w s t,aD 146 #[O s,O t] w λd w'=>d=dz (O<|bO.ci s t)/\w'=w):=Y ad5;have z:J (∀w (B:Nat),bJ w B 0=some (O<|bO.cs x.fn y.fn)->bJ w B 1=some (O<|bO.ci x.code y.code)->bJ w B 2=some (O<|bO.cs x.name y.name)->aD 144 #[Tc B 3 3] w λd w'=>d=dz (O<|SQ x y)/\w'=w):=Y (λw B N P Q=>ahz w B _ _ _ N P Q);obtain⟨R,F⟩:=aV<|SQ x y;rw[<-F]at z ⊢;clear F;obtain⟨e,m,q⟩:=x;obtain⟨f,p,r⟩:=y;simp only at z ⊢;obtain⟨u,v,S⟩:=al2 w (aY #[O e,A m,A q] 52)<|aY #[O f,A p,A r] 52;have I:J (FQ w<|(w.alloc<|aY #[O e,A m,A q] 52).alloc (aY #[O f,A p,A r] 52)):=Y<|((FQ.refl w).alloc _).alloc _;have H:J (∀a,J (FQ ((w.alloc<|aY #[O e,A m,A q] 52).alloc (aY #[O f,A p,A r] 52)) a)->J (FQ ((w.alloc<|aY #[O e,A m,A q] 52).alloc (aY #[O f,A p,A r] 52)) a)/\bJ a w.heap.size 0=some (O e)/\bJ a w.heap.size 1=some (A m)/\bJ a w.heap.size 2=some (A q)/\bJ a (w.heap.size+1) 0=some (O f)/\bJ a (w.heap.size+1) 1=some (A p)/\bJ a (w.heap.size+1) 2=some (A r)):=Y (λa h =>⟨h,aG ((aj u 0).trans rfl) h.below,aG ((aj u 1).trans rfl) h.below,aG ((aj u 2).trans rfl) h.below,aG ((aj v 0).trans rfl) h.below,aG ((aj v 1).trans rfl) h.below,aG ((aj v 2).trans rfl) h.below⟩);clear u v S;go_enter func97,ntmps97;go_wp2_with fail;generalize ((w.alloc<|aY #[O e,A m,A q] 52).alloc (aY #[O f,A p,A r] 52))=W0 at *;have D:J (FQ W0 W0):=Y<|FQ.refl _
 go_region_held3 (λa=>J (FQ W0 a)/\bJ a w.heap.size 0=some (O e)/\bJ a w.heap.size 1=some (A m)/\bJ a w.heap.size 2=some (A q)/\
  bJ a (w.heap.size+1) 0=some (O f)/\bJ a (w.heap.size+1) 1=some (A p)/\bJ a (w.heap.size+1) 2=some (A r))
  ((refine H _ ?_;repeat(first|exact E|exact D|apply NC|apply J6)))
  (first
   | (go_at_call 144;refine(z _ _ (X7 _ _ _ _ _ 0 _ rfl) (X7 _ _ _ _ _ 1 _ rfl) (X7 _ _ _ _ _ 2 _ rfl)).mono ?_;rintro d V ⟨rfl,G⟩;have E:J (FQ W0 V):=(by subst G;repeat(first|exact D|apply NC|apply J6));clear G)
   | (go_at_call 146;refine(L _ _ _).mono ?_;rintro d U ⟨rfl,rfl⟩)
   | (go_at_call 145;refine(M _ _ _).mono ?_;rintro d U ⟨rfl,rfl⟩))
 all_goals go_wp2;go_ret;exact⟨rfl,I.trans E⟩
open Go.Shelf
def oC(w:bI)(g:Nat)(l:List Dg):Prop:=
 ∃cur,w.heap[g]?=some (.cells cur 52 (0,0))/\l.length*3<=cur.size/\∀i d,l[i]?=some d->cur[i*3]?=some (.int .i64 d.code)/\cur[i*3+1]?=some (.string d.fn)/\cur[i*3+2]?=some (.string d.name)
def SS(d:Dg):List Value:=[.int .i64 d.code,.string d.fn,.string d.name]
instance:Inhabited Dg:=⟨⟨0,⟨#[]⟩,⟨#[]⟩⟩⟩
theorem wZ(x y:Dg):ltOf SQ x y=iE x y:=afE x y
theorem ap6:Sort.SWO (ltOf SQ) where
 irrefl x:=by rw[wZ];exact wQ x
 trans x y z h1 h2:=by
  rw[wZ]at *
  exact rH h1 h2
 ntrans x y z h1 h2:=by
  rw[wZ]at *
  cases h:iE x z with
  | false=>rfl
  | true=>
   cases a:iE y x with
   | true=>rw[rH a h]at h2;cases h2
   | false=>rw[BJ h1 a,h2]at h;cases h
theorem SV (d : Dg) : (SS d)[0]! = .int .i64 d.code ∧ (SS d)[1]! = .string d.fn ∧ (SS d)[2]! = .string d.name := ⟨rfl, rfl, rfl⟩
theorem oC.cell(h:oC w g l){d:Dg}(p:l[i]?=some d):bJ w g (i*3)=some (O d.code)/\bJ w g (i*3+1)=some (A d.fn)/\bJ w g (i*3+2)=some (A d.name):=by obtain⟨cur,a,_,q⟩:=h;obtain⟨e,f,m⟩:=q i d p;exact⟨(aj a _).trans e,(aj a _).trans f,(aj a _).trans m⟩
theorem oC.holds {w : World}   (h : oC w g l) : Sort.HoldsK SS 3 w g 0 l.toArray := by
 obtain ⟨cur, p, E, t⟩ := h
 intro j d
 rw [Sort.size_flatK] at d
 have D : j < l.length * 3 := by simpa using d
 refine ⟨?_, aF p _⟩
 rw [Nat.zero_add, aj p, Sort.get_flatK _ _ _ _ d]
 have q : j / 3 < l.length := by omega
 have u : l[j / 3]? = some l[j / 3] := List.getElem?_eq_getElem q
 have r : (l.toArray)[j / 3]! = l[j / 3] := by simp [q]
 rw [r]
 obtain ⟨e, f, m⟩ := t _ _ u
 obtain ⟨v, z, B⟩ := SV l[j / 3]
 have a : j % 3 = 0 ∨ j % 3 = 1 ∨ j % 3 = 2 := by omega
 rcases a with a | a | a
 ·rw [a, v]; rw [show j / 3 * 3 = j by omega] at e; exact e
 ·rw [a, z]; rw [show j / 3 * 3 + 1 = j by omega] at f; exact f
 ·rw [a, B]; rw [show j / 3 * 3 + 2 = j by omega] at m; exact m
theorem oC.ad7 {w : World}  {d : Array Dg} {cur : Array Value} (p : w.heap[g]? = some (.cells cur 52 (0, 0))) (t : d.size * 3 ≤ cur.size) (h : Sort.HoldsK SS 3 w g 0 d) : oC w g d.toList := by
 refine ⟨cur, p, by simpa using t, fun i x q => ?_⟩
 have a : i < d.size := by simpa using (List.getElem?_eq_some_iff.1 q).1
 have r : d[i]! = x := by
  have := (List.getElem?_eq_some_iff.1 q).2
  simp at this
  simp [a, this]
 have e := (h.cell (c := 0) a<|by decide).1
 have f := (h.cell (c := 1) a<|by decide).1
 have m := (h.cell (c := 2) a<|by decide).1
 rw [r, aj p] at e f m
 obtain ⟨u, v, z⟩ := SV x
 rw [u] at e
 rw [v] at f
 rw [z] at m
 refine ⟨?_, ?_, ?_⟩
 ·simpa using e
 ·simpa using f
 ·simpa using m
theorem aaL (w : World) (n g len cap : Nat) (l : List Dg) (h : oC w g l) (M : len = l.length) (W : n ≤ g) (V : l.length ≤ 16777216) :
  Calls prog 96 #[.slice (some ⟨g, 0, none⟩) len cap, .func (.func 97) #[] #[]] w fun r w' => r = .returned (.tuple #[]) ∧ ∃ l', l'.length = l.length ∧ (∀ x, x ∈ l' ↔ x ∈ l) ∧ (l'.Pairwise fun a b => iE b a = false) ∧ oC w' g l' ∧ Below n w w' := by
 subst M
 have t := h
 obtain ⟨cur, f, Q, U⟩ := h
 have H := AnyQ.slices_SortFunc Tryz.lSoDg 3 Tryz.isAgg52 Tryz.sizeOf52 SS (fun _ => rfl) (fun x v z => by simp [SS] at z; rcases z with rfl | rfl | rfl <;> rfl) SQ ap6 97 #[] g 0 cap l.toArray w
  (enters_of func97 (by kernel_rfl) rfl) (fun m B R _ x y => afe _ x y) t.holds (aR f) (by simp; omega)
 refine Calls.mono (show Calls prog 96 #[.slice (some ⟨g, 0, none⟩) l.length cap, .func (.func 97) #[] #[]] w _ from H) ?_
 rintro r w' ⟨I, d', k, B, e, N, q⟩
 refine ⟨I, d'.toList, ?_, ?_, ?_, ?_, ?_⟩
 ·simpa using e.1
 ·intro x
  have d := e.2.2.mem_iff (a := x)
  have D : d'.extract 0 l.toArray.size = d' := by
   have : l.toArray.size = d'.size := e.1.symm
   rw [this]; simp
  rw [D] at d
  simpa using d
 ·rw [List.pairwise_iff_getElem]
  intro i j u p L
  have P : d'.size = l.toArray.size := e.1
  have d := N i j (Nat.zero_le _) L (by rw [← P]; simpa using p)
  rw [wZ] at d
  have E : d'[i]! = d'.toList[i] := by simp at u; simp [u]
  have F : d'[j]! = d'.toList[j] := by simp at p; simp [p]
  rw [E, F] at d
  exact d
 ·have G : w'.heap[g]? = some (.cells (Sort.putCells id 0 (Sort.flatK SS 3 d') cur) 52 (0, 0)) := by
   rw [q]
   have hg := aR f
   simp only [sortWorldK, Sort.grow, Sort.putRowK, Sort.putRow, Sort.mapBlock, Sort.ahead]
   rw [Array.getElem?_append_left (by simpa using hg)]
   simp [Array.getElem?_modify, f, Sort.onCells]
  refine oC.ad7 G ?_ ?_
  ·have : d'.size = l.toArray.size := e.1
   simp only [Sort.putCells, Array.size_mapIdx]
   rw [this]; simpa using Q
  ·rw [q]
   exact holdsK_sortWorldK_c _ _ _ _ _ l.toArray d' k B t.holds (aR f) e.1
 ·rw [q]
  refine ⟨rfl, rfl, rfl, size_sortWorldK_c _ _ _ _ _ _ _ _, fun j p => ?_⟩
  have hg := aR f
  simp only [sortWorldK, Sort.grow, Sort.putRowK, Sort.putRow, Sort.mapBlock, Sort.ahead]
  rw [Array.getElem?_append_left (by simp; omega)]
  simp [Array.getElem?_modify]
  intro S; omega
theorem J7(w:bI)(p:Option Addr)(cap:Nat):aD 96 #[X p 0 cap,.func (.func 97) #[] #[]] w λe w'=>e=dz (.tuple #[])/\w'=w:=
 AnyF.slices_SortFunc_none { Tryz.lSoDg with } p cap _ w
namespace bO
def rC(acc:List Dg)(x:Dg):List Dg:=match acc.getLast? with
 | some y=>if sI x y then acc else acc++[x]
 | none=>acc++[x]
def CX(l:List Dg):List Dg:=l.foldl rC []
theorem amZ(acc:List Dg)(x:Dg):(rC acc x).getLast?=some x:=by
 unfold rC;split
 ·rename_i y h;split;·rename_i a;rw[rU]at a;subst a;exact h
  ·simp
 ·simp
theorem ad8(l:List Dg)(x:Dg):CX (l++[x])=rC (CX l) x:=by unfold CX;simp
theorem J8(h:l[j]?=some x):CX (l.take<|j+1)=rC (CX<|l.take j) x:=by rw[gy,h];exact ad8 _ _
theorem ad9(h:l[j]?=some x):(CX<|l.take<|j+1).getLast?=some x:=by rw[J8 h];exact amZ _ _
theorem Ke(h:l[j]?=some y)(a:l[j+1]?=some x):CX (l.take<|j+1+1)=if sI x y then CX (l.take<|j+1)else CX (l.take<|j+1)++[x]:=by rw[J8 a];have:=ad9 h;unfold rC;rw[this]
theorem ahA(l:List Dg):(CX l).length<=l.length:=by
 have h:∀(l acc:List Dg),(l.foldl rC acc).length<=acc.length+l.length:=by
  intro l;induction l with
  | nil=>intro acc;simp
  | cons x r a=>
   intro acc;have d:=a<|rC acc x;have e:(rC acc x).length<=acc.length+1:=by
    unfold rC;split;·split<;>simp
    ·simp
   simp only[pz,vN];omega
 simpa[CX]using h l []
theorem aaM(h:Asc acc)(I:l.Pairwise λa b=>iE b a=false)(t:∀a∈acc,∀y∈l,iE y a=false):Asc (l.foldl rC acc)/\∀x,x∈l.foldl rC acc↔x∈acc\/x∈l:=by
 induction l generalizing acc with
 | nil=>exact⟨h,λx=>by simp⟩
 | cons y r P=>
  obtain⟨B,D⟩:=uT.1 I;have u:Asc (rC acc y)/\(∀x,x∈rC acc y↔x∈acc\/x=y):=by
   unfold rC;split
   ·rename_i z e;split;·rename_i q;rw[rU]at q;subst q;have F:y∈acc:=SC e;exact⟨h,λx=>⟨aO,λL=>L.elim id (λf=>f ▸ F)⟩⟩
    ·rename_i q;refine⟨FP.2 ⟨h,by simp,λa d b m=>?_⟩,λx=>by simp⟩;rw[dh]at m;subst m;have M:=t a d b cK;cases E:iE a b with
     | true=>rfl
     | false=>
      exfalso;have f:=BJ E M;subst f;have N:z∈acc:=SC e;have G:a≠z:=λf=>q<|rU.2 f;obtain⟨v,H⟩:∃v,acc=v++[z]:=by rw[List.getLast?_eq_some_iff]at e;exact e
      rw[H]at h d;rcases bX.1 d with p|p;·have:=(FP.1 h).2.2 a p z cK;rw[t z N a cK]at this;cases this
      ·rw[dh]at p;exact G p
   ·rename_i e;have:acc=[]:=by simpa using e
    subst this;exact⟨by simp[Asc],λx=>by simp⟩
  obtain⟨Q,R⟩:=P u.1 D (λa d b m=>by
   rcases(u.2 a).1 d with d|rfl;·exact t a d b<|l8 _ m
   ·exact B b m)
  refine⟨Q,λx=>?_⟩;rw[pz,R x,u.2 x,fV,or_assoc]
theorem aea(p:s.Pairwise λa b=>iE b a=false)(m:∀x,x∈s↔x∈l')(h:∀x,x∈l'↔x∈l):CX s=once l:=by obtain⟨d,e⟩:=aaM (l:=s) (acc:=[]) List.Pairwise.nil p (λa f=>aM f cK);refine Js d (acM l) λx=>?_;rw[CX,e,Dh];simp[m,h]
end bO
theorem oC.drew(h:oC w g l):oC (w.drewN n) g l:=h
theorem oC.set(h:oC w g l)(z:k<l.length)(d:Dg):oC (((w.setCell (aN g<|k*3)<|O d.code).setCell (aN g<|k*3+1) (A d.fn)).setCell (aN g<|k*3+2) (A d.name)) g (l.set k d):=by
 obtain⟨cur,u,B,v⟩:=h;have q:=aP u (k*3)<|O d.code;have r:=aP q (k*3+1)<|A d.fn;have t:=aP r (k*3+2)<|A d.name;refine⟨_,t,by simpa using B,λi x a=>?_⟩;rw[List.getElem?_set]at a;by_cases e:k=i
 ·subst e;simp[z]at a;subst a;refine⟨?_,?_,?_⟩;·simp[RG];omega
  ·simp[RG];omega
  ·simp[RG];omega
 ·rw[aI e]at a;obtain⟨f,m,p⟩:=v i x a;refine⟨?_,?_,?_⟩;·rw[Ij bC,Ij bC,Ij bC];exact f
  ·rw[Ij bC,Ij bC,Ij bC];exact m
  ·rw[Ij bC,Ij bC,Ij bC];exact p
theorem aaN(p:dR w g (.cells cur 52 (0,0)))(u:0<n)(z:k*3+n*3<=cur.size)(r:TypeId):(Builtin.clear_ #[38] r #[X (some<|aN g<|k*3) n c]).run prog w=.ok (.tuple #[]) (w.setRow g (cur.toList.take (k*3)++(Builtin.zeroCells (Value.agg #[O 0,A ⟨#[]⟩,A ⟨#[]⟩]).cells n).toList++cur.toList.drop (k*3+(Builtin.zeroCells (Value.agg #[O 0,A ⟨#[]⟩,A ⟨#[]⟩]).cells n).toList.length)).toArray):=by
 have q:(Builtin.zeroCells (Value.agg #[O 0,A ⟨#[]⟩,A ⟨#[]⟩]).cells n).toList.length=n*3:=by simp[Builtin.zeroCells,Value.cells]
 have h:∀v∈(Builtin.zeroCells (Value.agg #[O 0,A ⟨#[]⟩,A ⟨#[]⟩]).cells n).toList,v.oneCell'=true:=by
  intro v f;simp[Builtin.zeroCells,Value.cells]at f;obtain⟨a,t,rfl⟩:=f;have d:a % 3=0\/a % 3=1\/a % 3=2:=by omega
  rcases d with d|d|d<;>simp[d]<;>rfl
 have e:=run_storeCells_at prog g (k*3) 52 (Builtin.zeroCells (Value.agg #[O 0,A ⟨#[]⟩,A ⟨#[]⟩]).cells n).toList 0 cur w p (by rw[q];omega) h;obtain⟨m,rfl⟩:∃m,n=m+1:=⟨n - 1,by omega⟩;simp only[sN]at e;simp[Builtin.clear_,run_underlying underlying38,e]
theorem oC.clear{zs:List aC}(h:oC w g l)(p:dR w g (.cells cur 52 (0,0)))(G:k<=l.length)(m:Nat):oC (w.setRow g (cur.toList.take (k*3)++zs++cur.toList.drop m).toArray) g (l.take k):=by
 obtain⟨F,a,H,u⟩:=h;rw[p]at a;simp at a;subst a;have D:(l.take k).length=k:=by rw[iA];omega
 refine⟨_,setRow_heap w g cur _ 52 (0,0) p,?_,λi d e=>?_⟩;·rw[D];simp;omega
 ·have z:i<k:=by have:=(cO.1 e).1;omega
  rw[nM z]at e;obtain⟨q,r,t⟩:=u i d e;have f:∀j v,j<k*3->cur[j]?=some v->((cur.toList.take (k*3)++zs++cur.toList.drop m).toArray)[j]?=some v:=λj v B E=>by rw[yK,iK,jX (by simp;omega),nM B];simpa using E
  exact⟨f _ _ bC q,f _ _ bC r,f _ _ bC t⟩
theorem SX(h:∀(j:Nat) x y,l[j]?=some y->l[j+1]?=some x->sI x y=false):∀j,j<=l.length->CX (l.take j)=l.take j:=by
 intro j;induction j with
 | zero=>intro _;rfl
 | succ j e=>
  intro f;cases j with
  | zero =>have a:l[0]?=some l[0]:=aZ bC;rw[J8 a];simp[CX,rC,gy,a]
  | succ j =>have d:l[j]?=some l[j]:=aZ bC;have a:l[j+1]?=some l[j+1]:=aZ bC;rw[Ke d a,h j _ _ d a,e bC];rw[gy (i:=j+1),a];simp
theorem uM(h:Below n w w1):Below n w (w1.drewN k):=⟨h.os,h.tape,h.output,h.size,h.block⟩
theorem BU{a:Addr}(h:Below n w w1)(e:n<=a.block)(v:aC):Below n w (w1.setCell a v):=
 ⟨h.os,h.tape,h.output,by simp only[World.setCell,Am];exact h.size,λk d=>by rw[vM _ _ _ _ bC];exact h.block k d⟩
theorem adM{cs:Array aC}(h:Below n w w1)(hg:n<=g):Below n w (w1.setRow g cs):=
 ⟨h.os,h.tape,h.output,by rw[setRow_size];exact h.size,λk a=>by rw[setRow_other _ _ _ _ bC];exact h.block k a⟩
theorem Wm(d:c=C.length)(a:c<=K):(C++l.drop c)[K]?=l[K]?:=by subst d;rw[kL a,Rt];congr 1;omega
theorem ahB(a:c=C.length)(d:c<l.length)(x:Dg):(C++l.drop c).set c x=(C++[x])++l.drop (c+1):=by subst a;rw[List.set_append_right _ _ (bG _),mW,Nw d,dY];simp
theorem ajq(w:bI)(n g len cap:Nat)(l:List Dg)(h:oC w g l)(ac:len=l.length)(al:len<=cap)(hn:n<=g)(hl:len<=16777216):aD 98 #[Tc g len cap] w λe w'=>∃c',e=dz (Tc g (CX l).length c')/\oC w' g (CX l)/\Below n w w':=by
 obtain⟨HL,HR⟩:=bV ac h;clear ac h;by_cases z:len<2
 ·have S:J (CX l=l):=Y (by
   have af:=HL.out;match l,af with
   | [],_=>rfl
   | [x],_=>rfl
   | x::y::r,h=>simp at h;omega)
  go_enter func98,ntmps98;go_wp2;go_ret;exact⟨_,by rw[S,<-HL];rfl,by rw[S];exact HR,bQ _ _⟩
 ·go_enter func98,ntmps98;go_wp2_with fail;go_loopw[3] (λi wr=>∃j:Nat,j+1<=len/\i=O ((j:Int)+1)/\(∀(q:Nat) x y,q<j->l[q]?=some y->l[q+1]?=some x->sI x y=false)/\oC wr g l/\Below n w wr) (λi _=>len - (intOf i).toNat);exact⟨0,by omega,rfl,λq x y hq=>aM hq<|fU _,HR,bQ _ _⟩
  obtain⟨j,hj,rfl,ab,f,F⟩:=hrel;obtain⟨eP,sU,fT⟩:=fE ab f F;clear ab F;by_cases aq:j+1<len
  ·obtain⟨y,H⟩:∃y,l[j]?=some y:=⟨_,aZ (by rw[<-HL];omega)⟩;obtain⟨x,G⟩:∃y,l[j+1]?=some y:=⟨_,aZ (by rw[<-HL];omega)⟩;obtain⟨P,Q,R⟩:=f.cell G;obtain⟨V,W,Z⟩:=f.cell H;obtain⟨HX,HY⟩:=bV G H;have E:∀w,Sem.run prog (Op.equalIn 10000 52 (.agg #[O x.code,A x.fn,A x.name])<|.agg #[O y.code,A y.fn,A y.name]) w=.ok (sI x y) w:=OA x y;have aa:∀op a b w,Sem.run prog (eqGuard op 52 a b (.agg #[O x.code,A x.fn,A x.name])<|.agg #[O y.code,A y.fn,A y.name]) w=.ok () w:=λop a b w=>Jt op a b x y w;have ah:decide ((j:Int)+1<(len:Int))=true:=by simp;omega
   clear G H f;cases M:sI x y
   ·rw[M]at E;have MF:=Y M;clear M;go_wp2_with fail;go_quiet (fail);go_wp2;go_roundw;exact⟨j+1,by omega,by go_num,λq a b hq u z=>by
     by_cases e:q=j;·subst e;rw[HY]at u;rw[HX]at z;cases u;cases z;exact MF
     ·exact eP q a b bC u z,sU.drew,uM fT⟩
    exact gV
   ·rw[M]at E;have Vi:J (CX (l.take<|j+1+1)=l.take (j+1)):=Y (by
     rw[Ke HY HX,M,aK rfl];have ag:(l.take<|j+1).length=j+1:=by rw[iA];have:=HL.out;omega
     have u:=SX (l:=l.take<|j+1) (λq a b u z=>by have hq:=(cO.1 z).1;rw[ag]at hq;rw[nM bC]at u z;exact eP q a b bC u z) (j+1) bC;rwa[List.take_take,Nat.min_self]at u)
    clear M;go_wp2_with fail;go_quiet (fail);obtain⟨ae,Mv⟩:=bV (sU.out.drew (n:=nq))<|uM (k:=nq) fT.out;clear P Q R V W Z E aa;generalize wr.drewN nq=W1 at *;go_wp2_with fail;go_loopw[3,5] (λa b wx=>∃c t:Nat,a=O c/\b=O ((t:Int)+1)/\j+1+(t+1)<=len/\c=(CX<|l.take<|j+1+(t+1)).length/\c<=j+1+t/\oC wx g (CX (l.take<|j+1+(t+1))++l.drop c)/\Below n w wx) (λ_ b _=>len - (intOf b).toNat);exact⟨j+1,0,by go_num,rfl,by omega,by
     rw[show j+1+(0+1)=j+1+1 from rfl,Vi,iA];have:=HL.out;omega,bG _,by
     rw[show j+1+(0+1)=j+1+1 from rfl,Vi,pK];exact ae,Mv⟩
    obtain⟨c,t,rfl,rfl,ar,L,ao,f,F⟩:=hrel;obtain⟨B,oD,Kh⟩:=fE L f F;by_cases ap:j+1+(t+1)<len
    ·obtain⟨v,H⟩:∃y,l[j+1+t]?=some y:=⟨_,aZ (by rw[<-HL];omega)⟩;obtain⟨p,G⟩:∃y,l[j+1+(t+1)]?=some y:=⟨_,aZ (by rw[<-HL];omega)⟩;obtain⟨z',hz⟩:∃y,l[c]?=some y:=⟨_,aZ (by rw[<-HL];omega)⟩;obtain⟨P,Q,R⟩:=f.cell (i:=j+1+(t+1)) (d:=p) (by rw[Wm L bC];exact G);obtain⟨V,W,Z⟩:=f.cell (i:=j+1+t) (d:=v) (by rw[Wm L bC];exact H);obtain⟨m0,m1,m2⟩:=f.cell (i:=c) (d:=z') (by rw[Wm L bC];exact hz);rw[Nat.add_mul (j+1) (t+1)]at P Q R;rw[Nat.add_mul (j+1) t]at V W Z;obtain⟨cur,D,-,-⟩:=f;obtain⟨f0,f1,f2⟩:=lS (aF D<|c*3) (aF D<|c*3+1)<|aF D<|c*3+2;have N:J (CX (l.take<|j+1+(t+1)+1)=if sI p v then CX (l.take<|j+1+(t+1))else CX (l.take<|j+1+(t+1))++[p]):=Y<|Ke (j:=j+1+t) H G;have E:∀w,Sem.run prog (Op.equalIn 10000 52 (.agg #[O p.code,A p.fn,A p.name])<|.agg #[O v.code,A v.fn,A v.name]) w=.ok (sI p v) w:=OA p v;have aa:∀op a b w,Sem.run prog (eqGuard op 52 a b (.agg #[O p.code,A p.fn,A p.name])<|.agg #[O v.code,A v.fn,A v.name]) w=.ok () w:=λop a b w=>Jt op a b p v w;have ai:decide ((t:Int)+1<((len - (j+1):Nat):Int))=true:=by simp;omega
     clear G H hz D L F;cases I:sI p v
     ·rw[I]at E;rw[I,aI cK]at N;clear I;go_wp2_with fail;go_quiet (fail);have U:J (oC (wr.drewN nq) g _):=Y<|oD.out.drew (n:=nq);have xg:=Y<|uM (k:=nq) Kh.out;replace P:(wr.drewN nq).cell? _=_:=P;replace Q:(wr.drewN nq).cell? _=_:=Q;replace R:(wr.drewN nq).cell? _=_:=R;replace m0:(wr.drewN nq).cell? _=_:=m0;replace m1:(wr.drewN nq).cell? _=_:=m1;replace m2:(wr.drewN nq).cell? _=_:=m2;replace f0:(wr.drewN nq).frozen? _=_:=f0;replace f1:(wr.drewN nq).frozen? _=_:=f1;replace f2:(wr.drewN nq).frozen? _=_:=f2;clear V W Z E aa;generalize wr.drewN nq=W2 at *;go_wp2;go_roundw;exact⟨c+1,t+1,by go_num,by go_num,by omega,by
       rw[show j+1+(t+1+1)=j+1+(t+1)+1 by omega,N,bg,<-B];rfl,by omega,by
       rw[show j+1+(t+1+1)=j+1+(t+1)+1 by omega,N,<-ahB B (by rw[<-HL];omega)];exact U.set (by rw[bg,Bo,<-B,<-HL];omega) p,BU (BU (BU xg hn _) hn _) hn _⟩
      exact gV
     ·rw[I]at E;rw[I,aK rfl]at N;clear I;go_wp2_with fail;go_quiet (fail);have U:J (oC (wr.drewN nq) g _):=Y<|oD.out.drew (n:=nq);have xg:=Y<|uM (k:=nq) Kh.out;clear P Q R m0 m1 m2 f0 f1 f2 V W Z E aa;generalize wr.drewN nq=W2 at *;go_wp2;go_roundw;exact⟨c,t+1,rfl,by go_num,by omega,by
       rw[show j+1+(t+1+1)=j+1+(t+1)+1 by omega,N];exact B,by omega,by
       rw[show j+1+(t+1+1)=j+1+(t+1)+1 by omega,N];exact U,xg⟩
      exact gV
    ·have DU:J (l.take (j+1+(t+1))=l):=Y (fQ (by rw[<-HL];omega));rw[DU]at oD B f;have ad:=f;obtain⟨cur,D,ak,-⟩:=f;rw[bg,Bo,<-B,<-HL]at ak;have am:=λty=>aaN (c:=cap - c) D (show 0<len - c by omega) (show c*3+(len - c)*3<=cur.size by omega) ty;have YR:=Y (λzs m=>oC.clear (zs:=zs) (k:=c) ad D (by rw[bg,<-B];omega) m);have ai:decide ((t:Int)+1<((len - (j+1):Nat):Int))=false:=by simp;omega
     have I4:J ((CX l++l.drop c).take c=CX l):=Y (by rw[B,List.take_left]);rw[I4]at YR;generalize (Builtin.zeroCells (Value.agg #[O 0,A ⟨#[]⟩,A ⟨#[]⟩]).cells<|len - c).toList=zs at *;obtain⟨xg,U⟩:=bV (adM (g:=g) (cs:=(cur.toList.take (c*3)++zs++cur.toList.drop (c*3+zs.length)).toArray) F hn)<|YR zs<|c*3+zs.length;generalize wr.setRow g (cur.toList.take (c*3)++zs++cur.toList.drop (c*3+zs.length)).toArray=W2 at *;clear ad D L F;go_wp2;go_ret;exact⟨_,by rw[<-B];rfl,U,xg⟩
  ·have S:J (CX l=l):=Y (by have u:=SX (l:=l) (λq a b u z=>eP q a b (by have:=(cO.1 z).1;have:=HL.out;omega) u z) l.length (bG _);rwa[jQ]at u);have ah:decide ((j:Int)+1<(len:Int))=false:=by simp;omega
   clear f;go_wp2;go_ret;exact⟨_,by rw[S,<-HL];rfl,by rw[S];exact sU,fT⟩
theorem aeb{cs:List (List aC)}(h:w.ownsRow base 52 3 (Tc g n cap) n cs.flatten)(F:n=l.length)(B:cs.length=l.length)(t:∀(i:Nat) c y,cs[i]?=some c->l[i]?=some y->qU c y):oC w g l:=by
 have E:∀c∈cs,c.length=3:=λc a=>by obtain⟨i,m,rfl⟩:=gU.1 a;have:=t i _ _ (aZ m)<|aZ bC;rw[this];rfl
 have f:=λ(i:Nat) (c:List aC) (a:cs[i]?=some c) (j:Nat) (D:j<3)=>Yk h bC E a D;rcases h.2 with⟨e,_⟩|⟨I,H,cur,e,_,v,_,_,G,_⟩;·simp at e
 ·simp at e;obtain⟨rfl,rfl⟩:=e;refine⟨cur,v,by rw[G,<-F];omega,λi d u=>?_⟩;have m:i<cs.length:=by rw[B];exact(cO.1 u).1
  have a:=aZ m;obtain⟨z,p,q,r⟩:=rY (t i _ d a u) (f i _ a 0 bM) (f i _ a 1 bM)<|f i _ a 2 bM;rw[aj v,z]at p q r;exact⟨p,q,r⟩
theorem ajK(w:bI)(v:aC)(l:List Dg)(h:jg w v l)(D:l.length<=16777216):aD 95 #[v] w λu w'=>∃v',u=dz v'/\J (bK w w'/\((v'=aU/\l=[])\/∃g cap,v'=Tc g l.length cap/\l.length<=cap/\w.heap.size<=g/\oC w' g l)):=by
 obtain⟨a,b,off,cap,rfl,m,-,B⟩:=h;cases a with
 | none=>
  have hz:l=[]:=by
   cases l with
   | nil=>rfl
   | cons y r=>exact aM (m cK) cK
  subst hz;clear m B;have af:∀w c,(binOp .eql 38 (X none 0 c)<|aU).run prog w=.ok (.bool true) w:=λw c=>Lib.run_eql_slice_nil w 38 52 none 0 c 0 0 underlying38;go_enter func95,ntmps95;go_wp2;go_ret;exact⟨_,rfl,Y ⟨bQ _ _,aO cK⟩⟩
 | some t=>
  obtain⟨cs,F,V,G,W⟩:=acH (At:=qU) (w:=w) (b:=b) (off:=off) (k:=3) (l:=l) bM (λi y hy=>by
   obtain⟨g0,g1,g2⟩:=B i y hy;refine⟨_,rfl,λj e d=>?_,rfl⟩;match j,d with
   | 0,d=>simp at d;subst d;exact g0
   | 1,d=>simp at d;subst d;exact g1
   | 2,d=>simp at d;subst d;exact g2
   | j+3,d=>simp at d)
  have H:J (cs.flatten.length=l.length*3):=Y (by rw[sj cs V,F]);obtain⟨U,aa,f⟩:=fE F G<|aH w<|aY #[] 52;have ab:J (∀(j:Nat) e,cs.flatten[j]?=some e->(w.alloc<|aY #[] 52).cell? (aN b<|off+j)=some e):=Y λj e d=>aG (W j e d) f;have tX:J (∀e∈cs.flatten,e.oneCell'=true):=Y λe d=>by obtain⟨c,z,ah⟩:=List.mem_flatten.1 d;obtain⟨i,hi,rfl⟩:=gU.1 z;exact(G i _ _ (aZ hi)<|aZ bC).one e ah
  have I:=Y m;obtain⟨nl,E⟩:=aV l.length;rw[<-E]at H I U D ⊢;obtain⟨P,L⟩:=bV E D;clear E D m B F V G W;have af:∀w n c,(binOp .eql 38 (X (some t) n c)<|aU).run prog w=.ok (.bool false) w:=λw n c=>Lib.run_eql_slice_nil w 38 52 (some t) n c 0 0 underlying38;have M:=Y<|M5 w 52 3;go_enter func95,ntmps95
  go_wp2_with (first
   | (at_builtin;refine lq rfl _ _ 38 52 3 40 _ rfl underlying38 qV bM bM w.heap.size _ 0 [] rfl M (some t) b off nl cap cs.flatten rfl I H ab tX (by have:=L.out;unfold maxLen;omega) (by have:=L.out;omega) f.size ?_;intro v7 w7 R Q N S;have Z:=Y R;have ac:=Y N;have kG:=Y (Below.grown f Q f.size (λk u=>by have:=(M.lt k u).1;omega));clear R Q N S)
   | fail)
  go_ret;refine⟨_,rfl,Y ⟨kG,aQ ?_⟩⟩;have q:=Z.out;rw[d9,sP]at q;have ag:=q.2;rcases ag with⟨p,h2⟩|⟨g,ae,cur,p,hg,hh,z,_⟩;·exfalso;have h3:=(ac h2).symm.trans p;injection h3 with h4;cases h4
  ·rw[p]at q;exact⟨g,ae,p,z,hg,aeb q P (by rw[U,P]) aa⟩
theorem DV(w:bI)(c:Nat):aD 98 #[X none 0 c] w λe w'=>e=dz (X none 0 c)/\w'=w:=by go_enter func98,ntmps98;go_wp2;go_ret;exact⟨rfl,rfl⟩
theorem ag2(w:bI):aD 95 #[aU] w λa w'=>a=dz (aU)/\w'=w:=by have d:∀w c,(binOp .eql 38 (X none 0 c)<|aU).run prog w=.ok (.bool true) w:=λw c=>Lib.run_eql_slice_nil w 38 52 none 0 c 0 0 underlying38;go_enter func95,ntmps95;go_wp2;go_ret;exact⟨rfl,rfl⟩
theorem ajx(w:bI):aD 74 #[aU] w λa w'=>a=dz (aU)/\w'=w:=by go_enter func74,ntmps74;go_wp2_with fail;refine(ag2 _).mono ?_;rintro a w1 ⟨rfl,d⟩;subst d;go_wp2_with fail;refine(J7 _ _ _).mono ?_;rintro a h ⟨rfl,e⟩;subst e;go_wp2_with fail;refine(DV _ _).mono ?_;rintro a m ⟨rfl,f⟩;subst f;go_wp2;go_ret;exact⟨rfl,rfl⟩
theorem oC.ap7(h:oC w g l)(f:n=l.length)(e:l.length<=9223372036854775807):jg w (Tc g n c) l:=by subst f;exact⟨_,g,0,c,rfl,λ_=>rfl,e,λi d a=>by rw[d9];exact h.cell a⟩
theorem y8(w:bI)(v:aC)(l:List Dg)(h:jg w v l)(t:l.length<=16777216):aD 74 #[v] w λf w'=>∃R,f=dz R/\jg w' R (bO.once l)/\bK w w':=by
 have B:=Y<|ajK w v l h t;obtain⟨a,b,off,cap,rfl,-⟩:=h;have p:=Y t;obtain⟨fl,r⟩:=aV l.length;have m:=Y r;rw[<-r]at B ⊢;clear t r;go_enter func74,ntmps74;go_wp2_with fail;refine B.mono ?_;rintro f w1 ⟨v1,rfl,F⟩;obtain⟨H,q⟩:=F.out;clear F;have z:=Y H;clear H;rcases q with⟨rfl,M⟩|⟨g,G,rfl,ac,hg,e⟩;·have Z:=Y M;clear M;go_wp2_with fail;refine(J7 _ _ _).mono ?_;rintro f S ⟨rfl,ad⟩;subst ad;go_wp2_with fail;refine(DV _ _).mono ?_;rintro f w3 ⟨rfl,ae⟩;subst ae;go_wp2;go_ret;exact⟨_,rfl,by rw[Z];show jg _ _ [];exact⟨none,0,0,0,rfl,λh=>aM h cK,by simp,λi d hd=>by simp at hd⟩,z⟩
 ·have sU:=Y e;have D:=Y hg;clear e hg;go_wp2_with fail;refine(aaL w1 w.heap.size g fl G l sU m D p).mono ?_;rintro f S ⟨rfl,s,N,P,Q,e,I⟩;obtain⟨E,MF,aa,oD,U⟩:=uh N P Q e<|z.trans I;clear N P Q e I;go_wp2_with fail;refine(ajq S w.heap.size g fl G s oD (by rw[E];exact m) ac D (by rw[m];exact p)).mono ?_;rintro f w3 ⟨c3,rfl,e,L⟩;have W:J (bO.once l=CX s):=Y (aea aa MF (λ_=>Iff.rfl)).symm;obtain⟨ab,V⟩:=bV e<|U.trans L;have S9:J ((CX s).length<=9223372036854775807):=Y (by have q:=ahA s;rw[E]at q;have:=p.out;omega);obtain⟨pl,u⟩:=aV<|(CX s).length;have HP:=Y u;rw[<-u];clear e L u;go_wp2;go_ret;exact⟨_,rfl,by rw[W];exact ab.ap7 HP S9,V⟩
