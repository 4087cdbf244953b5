/- Walks over the library: strings that are sorted -/
import Derived.Test.YtfnboapebijcpaaGreatDoorMZAJ
import Derived.Laws.Tables
import Derived.Laws.Entries
import Derived.Test.YtfnboapebijcpaaGreatDoorMZAK
import Derived.Test.YtfnboapebijcpaaGreatDoorMZVS
set_option maxHeartbeats 16000000
set_option maxRecDepth 100000
namespace Go.Proofs.YtfnboapebijcpaaGreatDoor
open bC Rn Sv
open Go.Proofs.Tryz
open Go.RowKit Go.Shelf
namespace Rn
theorem dX{a b:ByteArray}:aI.aZ a b=true↔a=b:=by
 unfold aI.aZ;rw[beq_iff_eq];constructor;·intro h;rw[ByteArray.toList_eq,ByteArray.toList_eq]at h;cases a;cases b;simp only[ByteArray.mk.injEq];exact Array.toList_inj.1 h
 ·intro h;rw[h]
def yK(acc:List ByteArray)(x:ByteArray):List ByteArray:=match acc.getLast? with
 | some y=>if aI.aZ x y then acc else acc++[x]
 | none=>acc++[x]
def gK(l:List ByteArray):List ByteArray:=l.foldl yK []
theorem Vk(acc:List ByteArray)(x:ByteArray):(yK acc x).getLast?=some x:=by
 unfold yK;split
 ·rename_i y h;split;·rename_i hs;rw[dX]at hs;subst hs;exact h
  ·simp
 ·simp
theorem Vl(l:List ByteArray)(x:ByteArray):gK (l++[x])=yK (gK l) x:=by unfold gK;simp
theorem wO{l:List ByteArray}{j:Nat}{x:ByteArray}(h:l[j]?=some x):gK (l.take (j+1))=yK (gK (l.take j)) x:=by rw[iY,h];exact Vl _ _
theorem Vm{l:List ByteArray}{j:Nat}{x:ByteArray}(h:l[j]?=some x):(gK (l.take (j+1))).getLast?=some x:=by rw[wO h];exact Vk _ _
theorem CB{l:List ByteArray}{j:Nat}{x y:ByteArray}(h:l[j]?=some y)(h':l[j+1]?=some x):gK (l.take (j+1+1))=if aI.aZ x y then gK (l.take (j+1))else gK (l.take (j+1))++[x]:=by rw[wO h'];have:=Vm h;unfold yK;rw[this]
theorem Yz(l:List ByteArray):(gK l).length<=l.length:=by
 have h:∀(l acc:List ByteArray),(l.foldl yK acc).length<=acc.length+l.length:=by
  intro l;induction l with
  | nil=>intro acc;simp
  | cons x r ih=>
   intro acc;have h1:=ih (yK acc x);have h2:(yK acc x).length<=acc.length+1:=by
    unfold yK;split;·split<;>simp
    ·simp
   simp only[pG,xJ];omega
 simpa[gK]using h l []
theorem YA(acc:List ByteArray)(x z:ByteArray):z∈yK acc x↔z∈acc\/z=x:=by
 unfold yK;split
 ·rename_i y h;split;·rename_i hs;rw[dX]at hs;subst hs;have hm:x∈acc:=Gw h;exact⟨Or.inl,λhx=>hx.elim id (λe=>e ▸ hm)⟩
  ·simp
 ·simp
theorem vQ(l:List ByteArray)(z:ByteArray):z∈gK l↔z∈l:=by
 have h:∀(l acc:List ByteArray),z∈l.foldl yK acc↔z∈acc\/z∈l:=by
  intro l;induction l with
  | nil=>intro acc;simp
  | cons x r ih =>intro acc;rw[pG,ih,YA,eY,or_assoc]
 simpa[gK]using h l []
theorem JL{l:List ByteArray}(h:∀(j:Nat) x y,l[j]?=some y->l[j+1]?=some x->aI.aZ x y=false):∀j,j<=l.length->gK (l.take j)=l.take j:=by
 intro j;induction j with
 | zero=>intro _;rfl
 | succ j ih=>
  intro hj;cases j with
  | zero =>have hx:l[0]?=some l[0]:=aU (by omega);rw[wO hx];simp[gK,yK,iY,hx]
  | succ j =>have hy:l[j]?=some l[j]:=aU (by omega);have hx:l[j+1]?=some l[j+1]:=aU (by omega);rw[CB hy hx,h j _ _ hy hx,ih (by omega)];rw[iY (i:=j+1),hx];simp
def jY(l:List ByteArray):List ByteArray:=((l.map (·.data.toList)).mergeSort λx y=>decide (x<=y)).map λb=>⟨b.toArray⟩
theorem vR(l:List ByteArray)(z:ByteArray):z∈jY l↔z∈l:=by
 unfold jY;rw[qC];constructor
 ·rintro⟨b,hb,rfl⟩;rw[List.mem_mergeSort,qC]at hb;obtain⟨a,ha,rfl⟩:=hb;have:(⟨a.data.toList.toArray⟩:ByteArray)=a:=by cases a;simp
  rw[this];exact ha
 ·intro h;refine⟨z.data.toList,by rw[List.mem_mergeSort,qC];exact⟨z,h,rfl⟩,?_⟩;cases z;simp
theorem Gz(l:List ByteArray):(jY l).length=l.length:=by unfold jY;rw[cB,Lc,cB]
end Rn
theorem But.row{g:Nat}{w w1:World}{cs:Array Value}(h:But g w w1):But g w (w1.setRow g cs):=
 ⟨h.os,h.tape,h.output,by rw[setRow_size];exact h.size,λk hk hp=>by rw[setRow_other _ _ _ _ hp];exact h.block k hk hp⟩
def lF(w:World)(g:Nat)(l:List ByteArray):Prop:=
 ∃cur,w.heap[g]?=some (.cells cur 9 (0,0))/\l.length<=cur.size/\∀(i:Nat) d,l[i]?=some d->cur[i]?=some (.string d)
theorem lF.cell{w:World}{g:Nat}{l:List ByteArray}(h:lF w g l){i:Nat}{d:ByteArray}(hd:l[i]?=some d):w.cell? ⟨g,i,none⟩=some (.string d):=by obtain⟨cur,hc,_,hel⟩:=h;exact(aj hc _).trans (hel i d hd)
theorem lF.below{w w':World}{g:Nat}{l:List ByteArray}(h:lF w g l)(hb:Below w.heap.size w w'):lF w' g l:=by obtain⟨cur,hc,h1,h2⟩:=h;exact⟨cur,by rw[hb.block g (block_lt hc)];exact hc,h1,h2⟩
theorem lF.drew{w:World}{g n:Nat}{l:List ByteArray}(h:lF w g l):lF (w.drewN n) g l:=h
theorem lF.set{w:World}{g k:Nat}{l:List ByteArray}(h:lF w g l)(hk:k<l.length)(d:ByteArray):lF (w.setCell ⟨g,k,none⟩ (.string d)) g (l.set k d):=by
 obtain⟨cur,hc,hs,hel⟩:=h;have h0:=aQ hc k (.string d);refine⟨_,h0,by simpa using hs,λi x hx=>?_⟩;rw[List.getElem?_set]at hx;by_cases e:k=i;·subst e;simp[hk]at hx;subst hx;simp[Ow];omega
 ·rw[if_neg e]at hx;rw[vP (by omega)];exact hel i x hx
theorem Q7{w:World}{g k n c:Nat}{cur:Array Value}(hc:w.heap[g]?=some (.cells cur 9 (0,0)))(hn:0<n)(hs:k+n<=cur.size)(ty:TypeId):(Builtin.clear_ #[22] ty #[.slice (some ⟨g,k,none⟩) n c]).run prog w=.ok (.tuple #[]) (w.setRow g (cur.toList.take k++(Builtin.zeroCells (Value.string ⟨#[]⟩).cells n).toList++cur.toList.drop (k+(Builtin.zeroCells (Value.string ⟨#[]⟩).cells n).toList.length)).toArray):=by
 have hz:(Builtin.zeroCells (Value.string ⟨#[]⟩).cells n).toList.length=n:=by simp[Builtin.zeroCells,Value.cells]
 have h1:∀v∈(Builtin.zeroCells (Value.string ⟨#[]⟩).cells n).toList,v.oneCell'=true:=by intro v hv;simp[Builtin.zeroCells,Value.cells]at hv;obtain⟨a,ha,rfl⟩:=hv;rw[Nat.mod_one];rfl
 have hst:=run_storeCells_at prog g k 9 (Builtin.zeroCells (Value.string ⟨#[]⟩).cells n).toList 0 cur w hc (by rw[hz];omega) h1;obtain⟨m,rfl⟩:∃m,n=m+1:=⟨n - 1,by omega⟩;simp only[tN]at hst;simp[Builtin.clear_,run_underlying underlying22,hst]
theorem lF.clear{w:World}{g k:Nat}{l:List ByteArray}{zs:List Value}{cur:Array Value}(h:lF w g l)(hc:w.heap[g]?=some (.cells cur 9 (0,0)))(hk:k<=l.length)(m:Nat):lF (w.setRow g (cur.toList.take k++zs++cur.toList.drop m).toArray) g (l.take k):=by
 obtain⟨cur',hc',hs,hel⟩:=h;rw[hc]at hc';simp at hc';subst hc';have hkl:(l.take k).length=k:=by rw[d9];omega
 refine⟨_,setRow_heap w g cur _ 9 (0,0) hc,?_,λi d hd=>?_⟩;·rw[hkl];simp;omega
 ·have hik:i<k:=by have:=(dG.1 hd).1;omega
  rw[qD hik]at hd;have a0:=hel i d hd;rw[List.getElem?_toArray,bE,rE (by simp;omega),qD hik];simpa using a0
theorem Ld{l:List ByteArray}{c K:Nat}{C:List ByteArray}(hc:c=C.length)(hK:c<=K):(C++l.drop c)[K]?=l[K]?:=by subst hc;rw[uf hK,yh];congr 1;omega
theorem YB{l:List ByteArray}{c:Nat}{C:List ByteArray}(hc:c=C.length)(hl:c<l.length)(x:ByteArray):(C++l.drop c).set c x=(C++[x])++l.drop (c+1):=by subst hc;rw[List.set_append_right _ _ (bM _),CF,JM hl,dJ];simp
namespace Rn
def Al(a b:Int):Bool:=a==b
theorem CG{a b:Int}:Al a b=true↔a=b:=by unfold Al;rw[beq_iff_eq]
def xk(acc:List Int)(x:Int):List Int:=match acc.getLast? with
 | some y=>if Al x y then acc else acc++[x]
 | none=>acc++[x]
def jo(l:List Int):List Int:=l.foldl xk []
theorem Vn(acc:List Int)(x:Int):(xk acc x).getLast?=some x:=by
 unfold xk;split
 ·rename_i y h;split;·rename_i hs;rw[CG]at hs;subst hs;exact h
  ·simp
 ·simp
theorem Vo(l:List Int)(x:Int):jo (l++[x])=xk (jo l) x:=by unfold jo;simp
theorem CJ{l:List Int}{j:Nat}{x:Int}(h:l[j]?=some x):jo (l.take (j+1))=xk (jo (l.take j)) x:=by rw[iY,h];exact Vo _ _
theorem Vp{l:List Int}{j:Nat}{x:Int}(h:l[j]?=some x):(jo (l.take (j+1))).getLast?=some x:=by rw[CJ h];exact Vn _ _
theorem CK{l:List Int}{j:Nat}{x y:Int}(h:l[j]?=some y)(h':l[j+1]?=some x):jo (l.take (j+1+1))=if Al x y then jo (l.take (j+1))else jo (l.take (j+1))++[x]:=by rw[CJ h'];have:=Vp h;unfold xk;rw[this]
theorem YC(l:List Int):(jo l).length<=l.length:=by
 have h:∀(l acc:List Int),(l.foldl xk acc).length<=acc.length+l.length:=by
  intro l;induction l with
  | nil=>intro acc;simp
  | cons x r ih=>
   intro acc;have h1:=ih (xk acc x);have h2:(xk acc x).length<=acc.length+1:=by
    unfold xk;split;·split<;>simp
    ·simp
   simp only[pG,xJ];omega
 simpa[jo]using h l []
theorem OA(acc:List Int)(x z:Int):z∈xk acc x↔z∈acc\/z=x:=by
 unfold xk;split
 ·rename_i y h;split;·rename_i hs;rw[CG]at hs;subst hs;have hm:x∈acc:=Gw h;exact⟨Or.inl,λhx=>hx.elim id (λe=>e ▸ hm)⟩
  ·simp
 ·simp
theorem YD(l:List Int)(z:Int):z∈jo l↔z∈l:=by
 have h:∀(l acc:List Int),z∈l.foldl xk acc↔z∈acc\/z∈l:=by
  intro l;induction l with
  | nil=>intro acc;simp
  | cons x r ih =>intro acc;rw[pG,ih,OA,eY,or_assoc]
 simpa[jo]using h l []
theorem JN{l:List Int}(h:∀(j:Nat) x y,l[j]?=some y->l[j+1]?=some x->Al x y=false):∀j,j<=l.length->jo (l.take j)=l.take j:=by
 intro j;induction j with
 | zero=>intro _;rfl
 | succ j ih=>
  intro hj;cases j with
  | zero =>have hx:l[0]?=some l[0]:=aU (by omega);rw[CJ hx];simp[jo,xk,iY,hx]
  | succ j =>have hy:l[j]?=some l[j]:=aU (by omega);have hx:l[j+1]?=some l[j+1]:=aU (by omega);rw[CK hy hx,h j _ _ hy hx,ih (by omega)];rw[iY (i:=j+1),hx];simp
def rP(l:List Int):List Int:=l.mergeSort λx y=>decide (x<=y)
theorem YE(l:List Int)(z:Int):z∈rP l↔z∈l:=by unfold rP;rw[List.mem_mergeSort]
theorem OB(l:List Int):(rP l).length=l.length:=by unfold rP;rw[Lc]
theorem OC(l:List Int):(rP l).Pairwise (·<=·):=by have:=List.pairwise_mergeSort (le:=λx y:Int=>decide (x<=y)) (λa b c h k=>by simp at *;omega) (λa b=>by simp;omega) l;unfold rP;exact this.imp λh=>by simpa using h
def IQ(l:List Int):Prop:=l.Pairwise (·<·)
theorem YF{l:List Int}(hs:l.Pairwise (·<=·)):IQ (jo l):=by
 have h:∀(l acc:List Int),IQ acc->l.Pairwise (·<=·)->(∀a∈acc,∀y∈l,a<=y)->IQ (l.foldl xk acc):=by
  intro l;induction l with
  | nil=>intro acc h _ _;exact h
  | cons x r ih=>
   intro acc ha hl hc;rw[pG];rw[xO]at hl;refine ih _ ?_ hl.2 (λa ha' y hy=>?_)
   ·unfold xk;split
    ·rename_i y hy;split;·exact ha
     ·rename_i hne;refine Cy.2 ⟨ha,List.pairwise_singleton _ _,λa ha' b hb=>?_⟩;rw[iy]at hb;subst hb;have h1:=hc a ha' b (by simp);have h2:a≠b:=by
       intro e;subst e;obtain⟨i,rfl⟩:∃t,acc=t++[y]:=List.getLast?_eq_some_iff.1 hy;have h3:=hc y (by simp) a (by simp);have h4:a<=y:=by
        rcases cK.1 ha' with h5|h5;·have:=(Cy.1 ha).2.2 a h5 y (by simp);omega
        ·rw[iy]at h5;omega
       exact hne (CG.2 (by omega))
      omega
    ·rename_i hn;have:acc=[]:=List.getLast?_eq_none_iff.1 hn;subst this;simp[IQ]
   ·rw[OA]at ha';rcases ha' with h1|h1;·exact hc a h1 y (by simp[hy])
    ·subst h1;exact hl.1 y hy
 exact h l [] List.Pairwise.nil hs (λa ha=>absurd ha (by simp))
theorem Le:∀{a b:List Int},IQ a->IQ b->(∀x,x∈a↔x∈b)->a=b:=by
 intro a;induction a with
 | nil=>
  intro b _ _ h;cases b with
  | nil=>rfl
  | cons y r=>exact absurd ((h y).2 (by simp)) (by simp)
 | cons x r ih=>
  intro b ha hb h;cases b with
  | nil=>exact absurd ((h x).1 (by simp)) (by simp)
  | cons y s=>
   unfold IQ at ha hb;rw[xO]at ha hb;have hxy:x=y:=by
    have h1:=(h x).1 (by simp);have h2:=(h y).2 (by simp);rcases eY.1 h1 with e|e;·exact e
    ·rcases eY.1 h2 with e'|e';·exact e'.symm
     ·have:=hb.1 x e;have:=ha.1 y e';omega
   subst hxy;congr 1;refine ih ha.2 hb.2 λz=>?_;have hz:=h z;rw[eY,eY]at hz;constructor
   ·intro hz';rcases hz.1 (Or.inr hz')with e|e;·subst e;exact absurd (ha.1 z hz') (by omega)
    ·exact e
   ·intro hz';rcases hz.2 (Or.inr hz')with e|e;·subst e;exact absurd (hb.1 z hz') (by omega)
    ·exact e
theorem YG(l:List Int):IQ (jo (rP l))/\∀x,x∈jo (rP l)↔x∈l:=⟨YF (OC l),λx=>by rw[YD,YE]⟩
end Rn
def jf(w:World)(g:Nat)(l:List Int):Prop:=
 ∃cur,w.heap[g]?=some (.cells cur 3 (0,0))/\l.length<=cur.size/\∀(i:Nat) d,l[i]?=some d->cur[i]?=some (.int .i64 d)
theorem jf.cell{w:World}{g:Nat}{l:List Int}(h:jf w g l){i:Nat}{d:Int}(hd:l[i]?=some d):w.cell? ⟨g,i,none⟩=some (.int .i64 d):=by obtain⟨cur,hc,_,hel⟩:=h;exact(aj hc _).trans (hel i d hd)
theorem jf.below{w w':World}{g:Nat}{l:List Int}(h:jf w g l)(hb:Below w.heap.size w w'):jf w' g l:=by obtain⟨cur,hc,h1,h2⟩:=h;exact⟨cur,by rw[hb.block g (block_lt hc)];exact hc,h1,h2⟩
theorem jf.drew{w:World}{g n:Nat}{l:List Int}(h:jf w g l):jf (w.drewN n) g l:=h
theorem jf.set{w:World}{g k:Nat}{l:List Int}(h:jf w g l)(hk:k<l.length)(d:Int):jf (w.setCell ⟨g,k,none⟩ (.int .i64 d)) g (l.set k d):=by
 obtain⟨cur,hc,hs,hel⟩:=h;have h0:=aQ hc k (.int .i64 d);refine⟨_,h0,by simpa using hs,λi x hx=>?_⟩;rw[List.getElem?_set]at hx;by_cases e:k=i;·subst e;simp[hk]at hx;subst hx;simp[Ow];omega
 ·rw[if_neg e]at hx;rw[vP (by omega)];exact hel i x hx
theorem Q8{w:World}{g k n c:Nat}{cur:Array Value}(hc:w.heap[g]?=some (.cells cur 3 (0,0)))(hn:0<n)(hs:k+n<=cur.size)(ty:TypeId):(Builtin.clear_ #[47] ty #[.slice (some ⟨g,k,none⟩) n c]).run prog w=.ok (.tuple #[]) (w.setRow g (cur.toList.take k++(Builtin.zeroCells (Value.int .i64 0).cells n).toList++cur.toList.drop (k+(Builtin.zeroCells (Value.int .i64 0).cells n).toList.length)).toArray):=by
 have hz:(Builtin.zeroCells (Value.int .i64 0).cells n).toList.length=n:=by simp[Builtin.zeroCells,Value.cells]
 have h1:∀v∈(Builtin.zeroCells (Value.int .i64 0).cells n).toList,v.oneCell'=true:=by intro v hv;simp[Builtin.zeroCells,Value.cells]at hv;obtain⟨a,ha,rfl⟩:=hv;rw[Nat.mod_one];rfl
 have hst:=run_storeCells_at prog g k 3 (Builtin.zeroCells (Value.int .i64 0).cells n).toList 0 cur w hc (by rw[hz];omega) h1;obtain⟨m,rfl⟩:∃m,n=m+1:=⟨n - 1,by omega⟩;simp only[tN]at hst;simp[Builtin.clear_,run_underlying underlying47,hst]
theorem jf.clear{w:World}{g k:Nat}{l:List Int}{zs:List Value}{cur:Array Value}(h:jf w g l)(hc:w.heap[g]?=some (.cells cur 3 (0,0)))(hk:k<=l.length)(m:Nat):jf (w.setRow g (cur.toList.take k++zs++cur.toList.drop m).toArray) g (l.take k):=by
 obtain⟨cur',hc',hs,hel⟩:=h;rw[hc]at hc';simp at hc';subst hc';have hkl:(l.take k).length=k:=by rw[d9];omega
 refine⟨_,setRow_heap w g cur _ 3 (0,0) hc,?_,λi d hd=>?_⟩;·rw[hkl];simp;omega
 ·have hik:i<k:=by have:=(dG.1 hd).1;omega
  rw[qD hik]at hd;have a0:=hel i d hd;rw[List.getElem?_toArray,bE,rE (by simp;omega),qD hik];simpa using a0
theorem Lf{l:List Int}{c K:Nat}{C:List Int}(hc:c=C.length)(hK:c<=K):(C++l.drop c)[K]?=l[K]?:=by subst hc;rw[uf hK,yh];congr 1;omega
theorem YH{l:List Int}{c:Nat}{C:List Int}(hc:c=C.length)(hl:c<l.length)(x:Int):(C++l.drop c).set c x=(C++[x])++l.drop (c+1):=by subst hc;rw[List.set_append_right _ _ (bM _),CF,JM hl,dJ];simp
theorem Lg(w:World)(g len cap:Nat)(l:List Int)(h:jf w g l)(hlen:len=l.length)(hcap:len<=cap)(hl:len<=16777216):Calls prog 358 #[.slice (some ⟨g,0,none⟩) len cap] w λe w'=>∃c',e=.returned (.slice (some ⟨g,0,none⟩) (jo l).length c')/\jf w' g (jo l)/\But g w w':=by
 have HL:=hide hlen;have HR:=hide h;clear hlen h;by_cases h2:len<2
 ·have HE:Hid (jo l=l):=hide (by
   have hl':=HL.out;match l,hl' with
   | [],_=>rfl
   | [x],_=>rfl
   | x::y::r,h=>simp at h;omega)
  go_enter func358,ntmps358;go_wp2_with fail;go_ret;exact⟨_,by rw[HE,<-HL];rfl,by rw[HE];exact HR,But.refl _ _⟩
 ·go_enter func358,ntmps358;go_wp2_with fail;go_loopw[3] (λi wr=>∃j:Nat,j+1<=len/\i=.int .i64 ((j:Int)+1)/\(∀(q:Nat) x y,q<j->l[q]?=some y->l[q+1]?=some x->Al x y=false)/\jf wr g l/\But g w wr) (λi _=>len - (intOf i).toNat);case atStart=>exact⟨0,by omega,rfl,λq x y hq=>absurd hq (dY _),HR,But.refl _ _⟩
  case round=>
   obtain⟨j,hj,rfl,hall,hrow,hnx⟩:=hrel;have cO:=hide hall;have xq:=hide hrow;have bR:=hide hnx;clear hall hnx;by_cases hjl:j+1<len
   ·obtain⟨y,hy⟩:∃y,l[j]?=some y:=⟨_,aU (by rw[<-HL];omega)⟩;obtain⟨x,hx⟩:∃y,l[j+1]?=some y:=⟨_,aU (by rw[<-HL];omega)⟩;have p0:=hrow.cell hx;have k0:=hrow.cell hy;have HX:=hide hx;have HY:=hide hy;have hlt:decide ((j:Int)+1<(len:Int))=true:=by simp;omega
    clear hx hy hrow;cases hsm:Al x y
    ·have heq:(x==y)=false:=hsm;have XO:=hide hsm;clear hsm;go_wp2_with fail;go_quiet (fail);go_wp2_with fail;go_roundw;case rel=>exact⟨j+1,by omega,by go_num,λq a b hq h1 h2=>by
      by_cases e:q=j;·subst e;rw[HY]at h1;rw[HX]at h2;cases h1;cases h2;exact XO
      ·exact cO q a b (by omega) h1 h2,xq.drew,bR.drew _⟩
     case measure=>simp[intOf];omega
    ·have heq:(x==y)=true:=hsm;have TP:Hid (jo (l.take (j+1+1))=l.take (j+1)):=hide (by
      rw[CK HY HX,hsm,if_pos rfl];have hll:(l.take (j+1)).length=j+1:=by rw[d9];have:=HL.out;omega
      have h1:=JN (l:=l.take (j+1)) (λq a b h1 h2=>by have hq:=(dG.1 h2).1;rw[hll]at hq;rw[qD (by omega)]at h1 h2;exact cO q a b (by omega) h1 h2) (j+1) (by omega);rwa[yj,Nat.min_self]at h1)
     clear hsm;go_wp2_with fail;go_quiet (fail);have HR1:=hide (xq.drew (n:=nq));have uO:=hide (bR.drew nq);clear p0 k0 heq;generalize wr.drewN nq=W1 at *;go_wp2_with fail;go_loopw[3,5] (λa b wx=>∃c t:Nat,a=.int .i64 c/\b=.int .i64 ((t:Int)+1)/\j+1+(t+1)<=len/\c=(jo (l.take (j+1+(t+1)))).length/\c<=j+1+t/\jf wx g (jo (l.take (j+1+(t+1)))++l.drop c)/\But g w wx) (λ_ b _=>len - (intOf b).toNat);case atStart=>exact⟨j+1,0,by go_num,rfl,by omega,by
      rw[show j+1+(0+1)=j+1+1 from rfl,TP,d9];have:=HL.out;omega,bM _,by
      rw[show j+1+(0+1)=j+1+1 from rfl,TP,kW];exact HR1,uO⟩
     case round=>
      obtain⟨c,t,rfl,rfl,htl,hcc,hct,hrow,hnx⟩:=hrel;have mE:=hide hcc;have kD:=hide hrow;have lD:=hide hnx;by_cases hend:j+1+(t+1)<len
      ·obtain⟨y',hy⟩:∃y,l[j+1+t]?=some y:=⟨_,aU (by rw[<-HL];omega)⟩;obtain⟨x',hx⟩:∃y,l[j+1+(t+1)]?=some y:=⟨_,aU (by rw[<-HL];omega)⟩;obtain⟨z',hz⟩:∃y,l[c]?=some y:=⟨_,aU (by rw[<-HL];omega)⟩;have p0:=hrow.cell (i:=j+1+(t+1)) (d:=x') (by rw[Lf hcc (by omega)];exact hx);have k0:=hrow.cell (i:=j+1+t) (d:=y') (by rw[Lf hcc (by omega)];exact hy);have m0:=hrow.cell (i:=c) (d:=z') (by rw[Lf hcc (by omega)];exact hz);obtain⟨cur,hcur,-,-⟩:=hrow;have f0:=aD hcur c;have pF:Hid (jo (l.take (j+1+(t+1)+1))=if Al x' y' then jo (l.take (j+1+(t+1)))else jo (l.take (j+1+(t+1)))++[x']):=hide (CK (j:=j+1+t) hy hx);have hlt2:decide ((t:Int)+1<((len - (j+1):Nat):Int))=true:=by simp;omega
       clear hx hy hz hcur hcc hnx;cases rQ:Al x' y'
       ·have heq:(x'==y')=false:=rQ;have hne:(x' != y')=true:=by rw[bne,heq];rfl
        rw[rQ,if_neg (by simp)]at pF;clear rQ;go_wp2_with fail;go_quiet (fail);have HR2:Hid (jf (wr.drewN nq) g _):=hide (kD.drew (n:=nq));have Am:=hide (lD.drew nq);replace p0:(wr.drewN nq).cell? _=_:=p0;replace m0:(wr.drewN nq).cell? _=_:=m0;replace f0:(wr.drewN nq).frozen? _=_:=f0;clear k0 heq hne kD lD;generalize wr.drewN nq=W2 at *;go_wp2_with fail;go_roundw;case rel=>exact⟨c+1,t+1,by go_num,by go_num,by omega,by
         rw[show j+1+(t+1+1)=j+1+(t+1)+1 by omega,pF,aP,<-mE];rfl,by omega,by
         rw[show j+1+(t+1+1)=j+1+(t+1)+1 by omega,pF,<-YH mE (by rw[<-HL];omega)];exact HR2.set (by rw[aP,qz,<-mE,<-HL];omega) x',Am.set (Or.inl rfl) _⟩
        case measure=>simp[intOf];omega
       ·have heq:(x'==y')=true:=rQ;have hne:(x' != y')=false:=by rw[bne,heq];rfl
        rw[rQ,if_pos rfl]at pF;clear rQ;go_wp2_with fail;go_quiet (fail);have HR2:Hid (jf (wr.drewN nq) g _):=hide (kD.drew (n:=nq));have Am:=hide (lD.drew nq);clear p0 m0 f0 k0 heq hne kD lD;generalize wr.drewN nq=W2 at *;go_wp2_with fail;go_roundw;case rel=>exact⟨c,t+1,rfl,by go_num,by omega,by
         rw[show j+1+(t+1+1)=j+1+(t+1)+1 by omega,pF];exact mE,by omega,by
         rw[show j+1+(t+1+1)=j+1+(t+1)+1 by omega,pF];exact HR2,Am⟩
        case measure=>simp[intOf];omega
      ·have Q9:Hid (l.take (j+1+(t+1))=l):=hide (eP (by rw[<-HL];omega));rw[Q9]at kD mE hrow;have hrow':=hrow;obtain⟨cur,hcur,hsz,-⟩:=hrow;rw[aP,qz,<-mE,<-HL]at hsz;have hcl:=λty=>Q8 (c:=cap - c) hcur (show 0<len - c by omega) (show c+(len - c)<=cur.size by omega) ty;have D6:=hide (λzs m=>jf.clear (zs:=zs) (k:=c) hrow' hcur (by rw[aP,<-mE];omega) m);have hlt2:decide ((t:Int)+1<((len - (j+1):Nat):Int))=false:=by simp;omega
       have OD:Hid ((jo l++l.drop c).take c=jo l):=hide (by rw[mE,List.take_left]);rw[OD]at D6;generalize (Builtin.zeroCells (Value.int .i64 0).cells (len - c)).toList=zs at *;have Am:=hide (But.row (cs:=(cur.toList.take (c)++zs++cur.toList.drop (c+zs.length)).toArray) hnx);have HR2:=hide (D6 zs (c+zs.length));generalize wr.setRow g (cur.toList.take (c)++zs++cur.toList.drop (c+zs.length)).toArray=W2 at *;clear hrow' hcur hcc hnx D6;go_wp2_with fail;go_ret;exact⟨_,by rw[<-mE];rfl,HR2,Am⟩
   ·have HE:Hid (jo l=l):=hide (by have h1:=JN (l:=l) (λq a b h1 h2=>cO q a b (by have:=(dG.1 h2).1;have:=HL.out;omega) h1 h2) l.length (bM _);rwa[gG]at h1);have hlt:decide ((j:Int)+1<(len:Int))=false:=by simp;omega
    clear hrow;go_wp2_with fail;go_ret;exact⟨_,by rw[HE,<-HL];rfl,by rw[HE];exact xq,bR⟩
theorem IU(w:World):Calls prog 358 #[.slice none 0 0] w λe w'=>e=.returned (.slice none 0 0)/\w'=w:=by go_enter func358,ntmps358;go_wp2_with fail;go_ret;exact⟨rfl,rfl⟩
structure Sc where
 fn:ByteArray
 mask:Int
 level:Int
 bounds:List Int
 pc:Int
 dF:List ByteArray
structure Si where
 fr:List Int
 mask:Int
 level:Int
 lv:Int
 name:ByteArray
 dF:Bool
structure Pb where
 names:List ByteArray
 cons:List Co
 sinks:List Si
 fr:List Int
 mask:Int
 level:Int
 dF:List ByteArray
namespace Fl
def has(l:List ByteArray)(s:ByteArray):Bool:=l.any λt=>aI.aZ t s
theorem oK{l:List ByteArray}{s:ByteArray}:has l s=true↔s∈l:=by
 unfold has;rw[Cv];constructor;·rintro⟨t,ht,h⟩;rw[dX]at h;subst h;exact ht
 ·intro h;exact⟨s,h,dX.2 rfl⟩
theorem T9{l:List ByteArray}{s:ByteArray}:has l s=false↔s∉l:=by rw[<-oK];cases has l s<;>simp
def add(l:List ByteArray)(s:ByteArray):List ByteArray:=if has l s then l else l++[s]
def adds(l r:List ByteArray):List ByteArray:=r.foldl add l
theorem EP{l:List ByteArray}{s z:ByteArray}:z∈add l s↔z∈l\/z=s:=by
 unfold add;split;·rename_i h;rw[oK]at h;exact⟨Or.inl,λk=>k.elim id (λe=>e ▸ h)⟩
 ·simp
theorem aY{r:List ByteArray}:∀{l:List ByteArray} {z:ByteArray},z∈adds l r↔z∈l\/z∈r:=by
 induction r with
 | nil=>intro l z;simp[adds]
 | cons s r ih =>intro l z;have:adds l (s::r)=adds (add l s) r:=rfl;rw[this,ih,EP,eY,or_assoc]
theorem Vq{l:List ByteArray}{s:ByteArray}(h:l.Nodup):(add l s).Nodup:=by
 unfold add;split;·exact h
 ·rename_i hn;have hn':s∉l:=λhs=>hn (oK.2 hs);rw[Lh];exact⟨h,by simp,λa ha b hb=>by rw[iy]at hb;subst hb;exact λe=>hn' (e ▸ ha)⟩
theorem tO{r:List ByteArray}:∀{l:List ByteArray},l.Nodup->(adds l r).Nodup:=by
 induction r with
 | nil=>intro l h;exact h
 | cons s r ih=>intro l h;exact ih (Vq h)
theorem Ua(l:List ByteArray)(s:ByteArray):(add l s).length<=l.length+1:=by unfold add;split<;>simp
theorem bN:∀(r l:List ByteArray),(adds l r).length<=l.length+r.length:=by
 intro r;induction r with
 | nil=>intro l;simp[adds]
 | cons s r ih =>intro l;have h1:=ih (add l s);have h2:=Ua l s;have:adds l (s::r)=adds (add l s) r:=rfl;rw[this,xJ];omega
theorem aT(l a b:List ByteArray):adds l (a++b)=adds (adds l a) b:=by unfold adds;rw[KG]
theorem jq(l:List ByteArray):adds l []=l:=rfl
theorem mG(l:List ByteArray)(s:ByteArray)(r:List ByteArray):adds l (s::r)=adds (add l s) r:=rfl
theorem add_pre(l:List ByteArray)(s:ByteArray):∃t,add l s=l++t:=by
 unfold add;split;·exact⟨[],by simp⟩
 ·exact⟨[s],rfl⟩
theorem OE:∀(r l:List ByteArray),∃t,adds l r=l++t:=by
 intro r;induction r with
 | nil=>intro l;exact⟨[],by simp[adds]⟩
 | cons s r ih =>intro l;obtain⟨t,ht⟩:=ih (add l s);obtain⟨u,hu⟩:=add_pre l s;exact⟨u++t,by rw[mG,ht,hu,bE]⟩
def nums(nl vs:List ByteArray):List Int:=((List.range nl.length).filter λi=>has vs (nl.getD i ByteArray.empty)).map λi:Nat=>(i:Int)
theorem rR{nl vs:List ByteArray}{z:Int}:z∈nums nl vs↔∃i:Nat,z=i/\∃s,nl[i]?=some s/\s∈vs:=by
 unfold nums;rw[qC];constructor;·rintro⟨i,hi,rfl⟩;rw[List.mem_filter,j6,oK]at hi;refine⟨i,rfl,nl[i],aU hi.1,?_⟩;have:=hi.2;rw[List.getD,aU hi.1]at this;exact this
 ·rintro⟨i,rfl,s,hs,hv⟩;obtain⟨hi,e⟩:=dG.1 hs;refine⟨i,?_,rfl⟩;rw[List.mem_filter,j6,oK];refine⟨hi,?_⟩;rw[List.getD,hs];exact hv
theorem Ao(nl vs:List ByteArray):IQ (nums nl vs):=by unfold nums IQ;rw[List.pairwise_map];refine List.Pairwise.imp (R:=λa b:Nat=>a<b) (λh=>by omega) ?_;exact List.Pairwise.filter _ List.pairwise_lt_range
theorem lN(nl vs:List ByteArray):(nums nl vs).length<=nl.length:=by unfold nums;rw[cB];have:=List.length_filter_le (λi=>has vs (nl.getD i ByteArray.empty)) (List.range nl.length);rwa[qE]at this
theorem YI(nl:List ByteArray):nums nl []=[]:=by unfold nums;rw[List.filter_eq_nil_iff.2 (by simp[has])];rfl
theorem Vs(nl a b:List ByteArray):jo (rP (nums nl a++nums nl b))=nums nl (adds a b):=by
 obtain⟨h1,h2⟩:=YG (nums nl a++nums nl b);refine Le h1 (Ao _ _) λx=>?_;rw[h2,cK,rR,rR,rR];constructor
 ·rintro(⟨i,e,s,hs,hv⟩|⟨i,e,s,hs,hv⟩);·exact⟨i,e,s,hs,aY.2 (Or.inl hv)⟩
  ·exact⟨i,e,s,hs,aY.2 (Or.inr hv)⟩
 ·rintro⟨i,e,s,hs,hv⟩;rcases aY.1 hv with hv|hv;·exact Or.inl ⟨i,e,s,hs,hv⟩
  ·exact Or.inr ⟨i,e,s,hs,hv⟩
def idx(nl:List ByteArray)(s:ByteArray):Option Nat:=(List.range nl.length).find? λi=>aI.aZ (nl.getD i ByteArray.empty) s
theorem vS{nl:List ByteArray}{s:ByteArray}{i:Nat}(h:idx nl s=some i):nl[i]?=some s:=by obtain⟨h1,h2⟩:=bC.find_spec h;rw[dX,List.getD,aU h1]at h2;rw[aU h1];exact congrArg some h2
theorem wP{nl:List ByteArray}{s:ByteArray}(h:s∈nl):∃i,idx nl s=some i:=by
 obtain⟨i,hi,rfl⟩:=eX.1 h;cases e:idx nl nl[i]with
 | some j=>exact⟨j,rfl⟩
 | none =>have:=xH.1 e i (j6.2 hi);exact absurd (dX.2 (by rw[List.getD,aU hi];rfl)) this
theorem Ap{nl:List ByteArray}{s:ByteArray}(h:s∉nl):idx nl s=none:=by
 cases e:idx nl s with
 | none=>rfl
 | some i=>exact absurd (gD (vS e)) h
theorem rT{nl:List ByteArray}(h:nl.Nodup){i j:Nat}{s:ByteArray}(hi:nl[i]?=some s)(hj:nl[j]?=some s):i=j:=by
 obtain⟨a,ha⟩:=dG.1 hi;obtain⟨b,hb⟩:=dG.1 hj;rcases Nat.lt_trichotomy i j with hij|hij|hij;·exact absurd (ha.trans hb.symm) (Gt.1 h i j a b hij)
 ·exact hij
 ·exact absurd (hb.trans ha.symm) (Gt.1 h j i b a hij)
theorem Ra{nl:List ByteArray}(h:nl.Nodup){i:Nat}{s:ByteArray}(hi:nl[i]?=some s):idx nl s=some i:=by obtain⟨j,hj⟩:=wP (gD hi);rw[hj,rT h (vS hj) hi]
theorem YJ{nl:List ByteArray}(hn:nl.Nodup){s:ByteArray}{i:Nat}(h:idx nl s=some i):nums nl [s]=[(i:Int)]:=by
 refine Le (Ao _ _) (List.pairwise_singleton _ _) λx=>?_;rw[rR,iy];constructor;·rintro⟨j,rfl,t,ht,hv⟩;rw[iy]at hv;subst hv;rw[rT hn ht (vS h)]
 ·rintro rfl;exact⟨i,rfl,s,vS h,by simp⟩
theorem OG{nl t vs:List ByteArray}(hn:(nl++t).Nodup)(hv:∀v∈vs,v∈nl):nums (nl++t) vs=nums nl vs:=by
 refine Le (Ao _ _) (Ao _ _) λx=>?_;rw[rR,rR];constructor
 ·rintro⟨i,rfl,s,hs,hm⟩;obtain⟨j,hj,e⟩:=eX.1 (hv s hm);have hj':nl[j]?=some s:=by rw[aU hj,e]
  have h2:(nl++t)[j]?=some s:=by rw[rE hj];exact hj'
  rw[rT hn hs h2];exact⟨j,rfl,s,hj',hm⟩
 ·rintro⟨i,rfl,s,hs,hm⟩;have hi:=(dG.1 hs).1;exact⟨i,rfl,s,by rw[rE hi];exact hs,hm⟩
theorem Ub{nl t:List ByteArray}(hn:(nl++t).Nodup){s:ByteArray}(hs:s∈nl):idx (nl++t) s=idx nl s:=by obtain⟨i,hi⟩:=wP hs;have h1:=vS hi;have:=(dG.1 h1).1;rw[hi,Ra hn (by rw[rE this];exact h1)]
structure Env where
 Z:Nat->Nat->Bool
 N:Nat
 low:Nat
 md:ByteArray
 kX:ByteArray->Option Nat
 pl:ByteArray->Int
 bO:ByteArray->Sc
abbrev Hg:=List ByteArray × Nat
def YK:Ex:=⟨0,0,⟨#[]⟩,[]⟩
def bit(k:Int)(i:Nat):Bool:=k.toNat.testBit i
section
variable (c : Env)
def Env.and(a b:Hg):Hg:=(adds a.1 b.1,l9 c.Z c.N a.2 b.2)
def Env.nh(s:ByteArray):Hg:=match c.kX s with|some n=>([],n)|none=>([s],c.low)
def Env.hgA(f:Ex->Hg)(k:Int)(h:Hg)(args:List Ex):Nat->Hg
 | 0=>h
 | j+1=>if bit k j then c.and (Env.hgA f k h args j) (f (args.getD j YK))else Env.hgA f k h args j
def Env.hg:Nat->Ex->Hg
 | 0,_=>([],c.low)
 | m+1,x=>
  if x.kind=2 then c.nh x.name
  else if x.kind=3 then c.and (Env.hg m (x.args.getD 0 YK)) (Env.hg m (x.args.getD 1 YK))
  else if x.kind=4 then c.hgA (Env.hg m) (c.bO x.name).mask ([],(c.bO x.name).level.toNat) x.args x.args.length
  else ([],c.low)
def Env.BI(s:ByteArray):List ByteArray:=match c.kX s with|some _=>[]|none=>[s]
def Env.fQ:Nat->Ex->List ByteArray
 | 0,_=>[]
 | m+1,x=>(if x.kind=2 then c.BI x.name else [])++x.args.flatMap (Env.fQ m)
def Env.jZ(s:St):List ByteArray:=if s.kind=1 then c.BI s.name else []
def Env.kR:Nat->List St->List ByteArray
 | 0,_=>[]
 | m+1,l=>l.flatMap λs=>c.fQ m s.e++c.jZ s++Env.kR m s.a++Env.kR m s.b
def deed(d md n:ByteArray):ByteArray:=d++md++⟨#[46]⟩++n
def Env.CO(d s:ByteArray):List ByteArray:=match c.kX s with|some _=>[deed d c.md s]|none=>[]
def Env.yL:Nat->Ex->List ByteArray
 | 0,_=>[]
 | m+1,x=>(if x.kind=2 then c.CO ⟨#[114,58]⟩ x.name else if x.kind=4 then (c.bO x.name).dF else [])++x.args.flatMap (Env.yL m)
def Env.nA(s:St):List ByteArray:=
 if s.kind=1 then c.CO ⟨#[119,58]⟩ s.name else if s.kind=4 then [⟨#[112,58]⟩++s.name]else []
def Env.Na:Nat->List St->List ByteArray
 | 0,_=>[]
 | m+1,l=>l.flatMap λs=>c.yL m s.e++c.nA s++Env.Na m s.a++Env.Na m s.b
def Env.uD(s:St):Nat:=if s.kind=1 then (c.BI s.name).length else 0
def Env.sJ:Nat->List St->Nat
 | 0,_=>0
 | m+1,l=>(l.map λs=>c.uD s+Env.sJ m s.a+Env.sJ m s.b).sum
end
structure Sk where
 vs:List ByteArray
 lab:Nat
 lv:Int
 name:ByteArray
 dF:Bool
structure Cn where
 to:ByteArray
 vs:List ByteArray
 lab:Nat
def sk(h:Hg)(lv:Int)(name:ByteArray)(dF:Bool):Sk:=⟨h.1,h.2,lv,name,dF⟩
section
variable (c : Env)
def Env.ER(f:Ex->Hg)(x:Ex)(j:Nat):List Sk:=(List.range j).map λi=>sk (f (x.args.getD i YK)) ((c.bO x.name).bounds.getD i 0) x.name false
def Env.iX:Nat->Ex->Hg->List Sk
 | 0,_,_=>[]
 | m+1,x,pc=>(x.args.flatMap λy=>Env.iX m y pc)++if x.kind=4 then c.ER (c.hg m) x x.args.length++[sk pc (c.bO x.name).pc x.name true]else []
def Env.WK(name:ByteArray)(h:Hg):List Sk:=match c.kX name with|some n=>[sk h n name true]|none=>[]
def Env.WL(name:ByteArray)(h:Hg):List Cn:=match c.kX name with|some _=>[]|none=>[⟨name,h.1,h.2⟩]
def Env.jC(s:St)(here:Hg):List Sk:=
 if s.kind=1 then c.WK s.name here else if s.kind=4 then [sk here (c.pl s.name) s.name true]else []
def Env.qb(s:St)(here:Hg):List Cn:=if s.kind=1 then c.WL s.name here else []
def Env.here(m:Nat)(pc:Hg)(s:St):Hg:=c.and pc (c.hg m s.e)
def Env.at(m:Nat)(pc:Hg)(s:St):Hg:=if s.kind=3 then c.here m pc s else pc
def Env.wQ:Nat->List St->Hg->List Sk
 | 0,_,_=>[]
 | m+1,l,pc=>l.flatMap λs=>c.iX m s.e (c.at m pc s)++c.jC s (c.here m pc s)++Env.wQ m s.a (c.here m pc s)++Env.wQ m s.b (c.here m pc s)
def Env.uP:Nat->List St->Hg->List Cn
 | 0,_,_=>[]
 | m+1,l,pc=>l.flatMap λs=>c.qb s (c.here m pc s)++Env.uP m s.a (c.here m pc s)++Env.uP m s.b (c.here m pc s)
def dA(nl:List ByteArray)(s:Sk):Si:=⟨nums nl s.vs,0,s.lab,s.lv,s.name,s.dF⟩
def iI(nl:List ByteArray)(s:Cn):Co:=⟨((idx nl s.to).getD 0:Nat),nums nl s.vs,0,s.lab⟩
def qF(low:Nat)(i:Nat):Co:=⟨i,[],(2 ^ i:Nat),low⟩
def Env.names(m:Nat)(f:Fu):List ByteArray:=adds f.params (c.kR m f.body++c.fQ m f.result)
def Env.dF(m:Nat)(f:Fu):List ByteArray:=c.Na m f.body++c.yL m f.result
def Env.oL(m:Nat)(f:Fu):Pb:=
 ⟨c.names m f,((List.range f.params.length).map (qF c.low))++(c.uP m f.body ([],c.low)).map (iI (c.names m f)),(c.wQ m f.body ([],c.low)++c.iX m f.result ([],c.low)).map (dA (c.names m f)),nums (c.names m f) (c.hg m f.result).1,0,(c.hg m f.result).2,gK (jY (c.dF m f))⟩
end
structure Rb(N:Nat)(s:Sc)(n:Nat):Prop where
 bounds:s.bounds.length=n
 zD:∀b∈s.bounds,0<=b/\b<N
 mask:0<=s.mask/\s.mask<=15
 level:0<=s.level/\s.level<N
 pc:0<=s.pc/\s.pc<N
structure Env.Ok(c:Env):Prop where
 low:c.low<c.N
 kX:∀s n,c.kX s=some n->n<c.N
 joins:bC.Joins c.Z c.N
 six:c.N<=6
def Env.qc(c:Env):Nat->Ex->Prop
 | 0,_=>False
 | m+1,x=>x.name.size<=17/\(x.kind=3->x.args.length=2)/\(x.kind=4->x.args.length<=4/\Rb c.N (c.bO x.name) x.args.length)/\∀y∈x.args,Env.qc c m y
def Env.uE(c:Env):Nat->List St->Prop
 | 0,_=>False
 | m+1,l=>∀s∈l,s.name.size<=8/\c.qc m s.e/\(s.kind=1\/s.kind=4->s.a=[]/\s.b=[])/\(s.kind=4->0<=c.pl s.name)/\Env.uE c m s.a/\Env.uE c m s.b
section
variable {c : Env}
theorem Env.Li(h:c.Ok){a b:Hg}(ha:a.2<c.N)(hb:b.2<c.N):(c.and a b).2<c.N:=h.joins.lt ha hb
theorem Env.Rc(h:c.Ok){f:Ex->Hg}{k:Int}{h0:Hg}{args:List Ex}(h1:h0.2<c.N):∀j,j<=args.length->(∀x∈args,(f x).2<c.N)->(c.hgA f k h0 args j).2<c.N:=by
 intro j;induction j with
 | zero=>intro _ _;exact h1
 | succ j ih=>
  intro hj hf;simp only[Env.hgA];split;·refine Env.Li h (ih (by omega) hf) (hf _ ?_);rw[List.getD,aU (by omega)];exact fI _
  ·exact ih (by omega) hf
theorem kE{l:List Ex}{i:Nat}(h:i<l.length):l.getD i YK∈l:=by rw[List.getD,aU h];exact fI h
theorem Env.qG(h:c.Ok):∀{m:Nat} {x:Ex},c.qc m x->(c.hg m x).2<c.N
 | 0,_,hx=>False.elim hx
 | m+1,x,hx=>by
  obtain⟨_,h3,h4,hr⟩:=hx;simp only[Env.hg];split
  ·unfold Env.nh;split;·rename_i n hn;exact h.kX _ _ hn
   ·exact h.low
  ·split;·rename_i e;have h2:=h3 e;exact Env.Li h (Env.qG h (hr _ (kE (by omega)))) (Env.qG h (hr _ (kE (by omega))))
   ·split;·rename_i e;obtain⟨_,hs⟩:=h4 e;exact Env.Rc h (by have:=hs.level;simp only;omega) _ (bM _) (λy hy=>Env.qG h (hr y hy))
    ·exact h.low
theorem Env.and_mem{a b:Hg}{v:ByteArray}:v∈(c.and a b).1↔v∈a.1\/v∈b.1:=aY
theorem Env.Uc{f:Ex->Hg}{k:Int}{h0:Hg}{args:List Ex}{v:ByteArray}:∀j,j<=args.length->v∈(c.hgA f k h0 args j).1->v∈h0.1\/∃x∈args,v∈(f x).1:=by
 intro j;induction j with
 | zero=>intro _ h;exact Or.inl h
 | succ j ih=>
  intro hj h;simp only[Env.hgA]at h;split at h
  ·rcases Env.and_mem.1 h with h|h;·exact ih (by omega) h
   ·exact Or.inr ⟨_,kE (by omega),h⟩
  ·exact ih (by omega) h
theorem Env.JO:∀{m:Nat} {x:Ex} {v:ByteArray},c.qc m x->v∈(c.hg m x).1->v∈c.fQ m x
 | 0,_,_,hx,_=>False.elim hx
 | m+1,x,v,hx,hv=>by
  obtain⟨_,h3,_,hr⟩:=hx;simp only[Env.hg]at hv;simp only[Env.fQ,cK,dS];split at hv
  ·rename_i e;rw[if_pos e];unfold Env.nh at hv;split at hv;·simp at hv
   ·rename_i hn;rw[show c.BI x.name=[x.name] by simp[Env.BI,hn]];exact Or.inl hv
  ·right;split at hv
   ·rename_i e;have h2:=h3 e;rcases Env.and_mem.1 hv with h|h;·exact⟨_,kE (by omega),Env.JO (hr _ (kE (by omega))) h⟩
    ·exact⟨_,kE (by omega),Env.JO (hr _ (kE (by omega))) h⟩
   ·split at hv
    ·rcases Env.Uc _ (bM _) hv with h|⟨y,hy,h⟩;·simp at h
     ·exact⟨y,hy,Env.JO (hr y hy) h⟩
    ·simp at hv
end
end Fl
theorem jf.holds{w:World}{g:Nat}{l:List Int}(h:jf w g l):Sort.Holds (Value.int .i64) w g 0 l.toArray:=by
 obtain⟨cur,hc,hsz,hel⟩:=h;intro j hj;have hjl:j<l.length:=by simpa using hj
 refine⟨?_,aD hc _⟩;rw[fT,aj hc,hel j _ (aU hjl)];congr 1;simp[hjl]
theorem jf.Rf{w:World}{g n:Nat}{l:List Int}{os:Array Obj}{b:List Int}(h:jf w g l)(hb:b.length=l.length):jf (Sort.grow (Sort.putRow (Value.int .i64) (Sort.ahead w n) g 0 b.toArray) os) g b:=by
 obtain⟨cur,hc,hsz,hel⟩:=h;have hg:=block_lt hc;have hblk:(Sort.grow (Sort.putRow (Value.int .i64) (Sort.ahead w n) g 0 b.toArray) os).heap[g]?=some (.cells (Sort.putCells (Value.int .i64) 0 b.toArray cur) 3 (0,0)):=by simp only[Sort.grow,Sort.putRow,Sort.mapBlock,Sort.ahead];rw[JI (by simpa using hg)];simp[Fv,hc,Sort.onCells]
 refine⟨_,hblk,by simp only[Sort.putCells,Array.size_mapIdx];omega,λi d hd=>?_⟩;have hi:i<b.length:=by simpa using(dG.1 hd).1
 rw[aU hi]at hd;simp at hd;subst hd;have hic:i<cur.size:=by omega
 simp[Sort.putCells,hic,hi]
theorem Vt(w:World)(g len cap:Nat)(l:List Int)(h:jf w g l)(hlen:len=l.length)(hl:l.length<=16777216):Calls prog 357 #[.slice (some ⟨g,0,none⟩) len cap] w λe w'=>e=.returned (.tuple #[])/\jf w' g (rP l)/\But g w w':=by
 subst hlen;have h0:=h;obtain⟨cur,hc,hsz,hel⟩:=h;have hcon:=Any.slices_Sort_int Tryz.lSoI g 0 cap l w h0.holds (block_lt hc) (by omega);refine Calls.mono (show Calls prog 357 #[.slice (some ⟨g,0,none⟩) l.length cap] w _ from hcon) ?_;rintro e w' ⟨he,k,os,rfl⟩;refine⟨he,h0.Rf (by rw[Lc]),rfl,rfl,rfl,?_,λj hj hp=>?_⟩;·simp[Sort.grow,Sort.putRow,Sort.mapBlock,Sort.ahead]
 ·have hg:=block_lt hc;simp only[Sort.grow,Sort.putRow,Sort.mapBlock,Sort.ahead];rw[JI (by simp;omega)];simp[Fv];intro e';exact absurd e'.symm hp
theorem Rh(w:World)(p:Option Addr)(cap:Nat):Calls prog 357 #[.slice p 0 cap] w λe w'=>e=.returned (.tuple #[])/\w'=w:=
 Any.slices_Sort_int_none Tryz.lSoI p cap w
theorem GA{w:World}{b off:Nat}{l:List Int}(hel:∀(j:Nat) z,l[j]?=some z->w.cell? ⟨b,off+j,none⟩=some (.int .i64 z)):(∀(j:Nat) u,(l.map (Value.int .i64))[j]?=some u->w.cell? ⟨b,off+j,none⟩=some u)/\∀u∈l.map (Value.int .i64),u.oneCell'=true:=by
 refine⟨λj u hu=>?_,λu hu=>?_⟩;·rw[rF]at hu;obtain⟨z,hz,rfl⟩:=Kr.1 hu;exact hel j z hz
 ·obtain⟨z,_,rfl⟩:=qC.1 hu;rfl
theorem fD.nil(w:World)(B:Nat):fD w B (.slice none 0 0) []:=nP _ _ _ _
theorem fD.row{w:World}{B g n cap:Nat}{l:List Int}(h:fD w B (.slice (some ⟨g,0,none⟩) n cap) l):jf w g l/\l.length<=cap/\n=l.length/\B<=g:=by
 rcases h.2 with⟨h1,_⟩|⟨g',cap',cur,h1,hg,hh,hc,_,hsz,ht⟩;·simp at h1
 ·simp at h1;obtain⟨rfl,rfl,rfl⟩:=h1;refine⟨⟨cur,hh,by omega,λi d hd=>?_⟩,hc,rfl,hg⟩;have hi:=(dG.1 hd).1;have h2:(cur.toList.take (l.length*1))[i]?=some (.int .i64 d):=by rw[ht,rF,hd];rfl
  rw[qD (by omega)]at h2;simpa using h2
theorem fD.YL{w:World}{B:Nat}{v:Value}{l:List Int}(h:fD w B v l):(v=.slice none 0 0/\l=[])\/∃g cap,v=.slice (some ⟨g,0,none⟩) l.length cap/\l.length<=cap/\B<=g/\jf w g l:=by
 have h0:=h;rcases h.2 with⟨rfl,h1⟩|⟨g,cap,cur,rfl,_⟩;·exact Or.inl ⟨rfl,qp.1 (by omega)⟩
 ·obtain⟨h1,h2,_,h3⟩:=h0.row;exact Or.inr ⟨g,cap,rfl,h2,h3,h1⟩
def bq(w:World)(v:Value)(l:List Int):Prop:=(v=.slice none 0 0/\l=[])\/∃g cap,v=.slice (some ⟨g,0,none⟩) l.length cap/\l.length<=9223372036854775807/\jf w g l
theorem bq.ints{w:World}{v:Value}{l:List Int}(h:bq w v l):Ints w v l:=by
 rcases h with⟨rfl,rfl⟩|⟨g,cap,rfl,hl,hr⟩;·exact⟨none,0,0,0,rfl,λh=>absurd h (by simp),by simp,λj z hz=>absurd hz (by simp)⟩
 ·exact⟨_,g,0,cap,rfl,λ_=>rfl,hl,λj z hz=>by rw[fT];exact hr.cell hz⟩
theorem bq.below{w w':World}{v:Value}{l:List Int}(h:bq w v l)(hb:Below w.heap.size w w'):bq w' v l:=by
 rcases h with h|⟨g,cap,e,hl,hr⟩;·exact Or.inl h
 ·exact Or.inr ⟨g,cap,e,hl,hr.below hb⟩
theorem bq.form{w:World}{v:Value}{l:List Int}(h:bq w v l):∃a c,v=.slice a l.length c:=by
 rcases h with⟨rfl,rfl⟩|⟨g,cap,rfl,_⟩;·exact⟨_,_,rfl⟩
 ·exact⟨_,_,rfl⟩
theorem bq.nil(w:World):bq w (.slice none 0 0) []:=Or.inl ⟨rfl,rfl⟩
theorem fD.OH{w:World}{B:Nat}{v:Value}{l:List Int}(h:fD w B v l)(hl:l.length<=9223372036854775807):bq w v l:=by
 rcases h.YL with h|⟨g,cap,e,_,_,hr⟩;·exact Or.inl h
 ·exact Or.inr ⟨g,cap,e,hl,hr⟩
theorem Vu(w:World)(n:Nat)(hn:n<=16777216):Calls prog 372 #[.slice none 0 0,.int .i64 n] w λe w'=>∃v,e=.returned v/\Hid (fD w' w.heap.size v []/\(n=0->v=.slice none 0 0)/\Below w.heap.size w w'):=by
 obtain⟨iS,BA,hz0,hz1,hz2⟩:=info_parts zM;by_cases h0:n=0;·subst h0;go_enter func372,ntmps372;go_wp2;go_ret;exact⟨_,rfl,hide ⟨fD.nil _ _,λ_=>rfl,aX _ _⟩⟩
 ·obtain⟨Z,hZ⟩:∃Z:Value,Z=.int .i64 0:=⟨_,rfl⟩;rw[<-hZ]at hz0;have hrz:∀ty,(Builtin.append_ #[47,3] ty #[.slice none 0 0,.int .i64 n]).run prog w=.ok (.slice (some ⟨w.heap.size,0,none⟩) n (grownCap w n 0 3)) (w.drew.alloc (.cells (Builtin.zeroCells Z.cells n++Builtin.zeroCells Z.cells (grownCap w n 0 3 - n)) 3)):=λty=>by have h:=Lib.run_append_grow_zeros w 47 3 ty 3 iS Z .i64 .i64 underlying47 underlying3 BA hz0 none 0 0 [] (run_firstCells_none w.drew _ 0 0 0) n (by omega) (by omega) (by omega) (by omega) (by rw[hz2];omega) (by rw[fT];exact growslice_fits (by omega) (by rw[hz2];omega));simpa using h
  have hGn:n<=grownCap w n 0 3:=grownCap_ge w _ _ _;have Wx:grownCap w n 0 3<=maxLen:=grownCap_le_maxLen w n 0 3 (by unfold maxLen;omega);obtain⟨G,hG⟩:=aG (grownCap w n 0 3);rw[<-hG]at hrz hGn Wx;have hG63:G<=9223372036854775807:=by unfold maxLen at Wx;omega
  have hown:(w.drew.alloc (.cells (Builtin.zeroCells Z.cells n++Builtin.zeroCells Z.cells (G - n)) 3)).ownsRow w.heap.size 3 1 (.slice (some ⟨w.heap.size,0,none⟩) 0 G) 0 []:=
   ⟨by simp,.inr ⟨w.heap.size,G,_,rfl,bM _,heap_alloc_new w.drew _,bJ _,Wx,by
    have e:∀k,(Builtin.zeroCells Z.cells k).size=k*1:=λk=>by rw[hZ];simp[Builtin.zeroCells,Value.cells]
    rw[Array.size_append,e,e];omega,by simp⟩⟩
  have HO:=hide hown;have eO:Hid (Below w.heap.size w (w.drew.alloc (.cells (Builtin.zeroCells Z.cells n++Builtin.zeroCells Z.cells (G - n)) 3))):=hide (((aX _ _).drew).alloc (by simp) _);clear hown hG;generalize (w.drew.alloc (.cells (Builtin.zeroCells Z.cells n++Builtin.zeroCells Z.cells (G - n)) 3))=W1 at *;go_enter func372,ntmps372;go_wp2_with (at_builtin;refine Lib.wpList_append_run _ rfl _ _ _ _ rfl _ _ rfl rfl _ _ (hrz _) ?_);go_ret;exact⟨_,rfl,hide ⟨HO,λh=>absurd h h0,eO⟩⟩
def IntsS(w:World)(v:Value)(ls:List (List Int)):Prop:=
 ∃b off cap,v=.slice (some ⟨b,off,none⟩) ls.length cap/\ls.length<=16/\∀i l,ls[i]?=some l->∃vi,w.cell? ⟨b,off+i,none⟩=some vi/\Ints w vi l
theorem GD{ls:List (List Int)}{j:Nat}{l:List Int}(h:ls[j]?=some l):(ls.take (j+1)).flatten=(ls.take j).flatten++l:=by obtain⟨hj,rfl⟩:=dG.1 h;rw[lI hj,Dx];simp
theorem Aq(ls:List (List Int))(j:Nat):(ls.take j).flatten.length<=ls.flatten.length:=by
 conv=>rhs;rw[<-kW j ls]
 rw[Dx,aP];omega
theorem OI(w:World)(v:Value)(ls:List (List Int))(h:IntsS w v ls)(hn:ls.flatten.length<=16777216):Calls prog 356 #[v] w λe w'=>∃v',e=.returned v'/\Hid (fD w' w.heap.size v' ls.flatten/\(ls.flatten=[]->v'=.slice none 0 0)/\Below w.heap.size w w'):=by
 obtain⟨b,off,cap,rfl,hl16,hel⟩:=h;have gF:=hide hel;clear hel;obtain⟨len,hlen⟩:=aG ls.length;have HL:=hide hlen;rw[<-hlen]at hl16 ⊢;clear hlen;go_enter func356,ntmps356;go_wp2;go_loop [3,11] (λo i=>∃k:Nat,k<=len/\i=.int .i64 k/\o=.int .i64 (ls.take k).flatten.length) (λ_ i=>len - (intOf i).toNat);case atStart=>exact⟨0,bJ _,rfl,rfl⟩
 case round=>
  obtain⟨k,hk,rfl,rfl⟩:=hrel;have hacc:=bS (Aq ls k) hn;by_cases hlt:k<len
  ·obtain⟨l,hy⟩:∃l,ls[k]?=some l:=⟨_,aU (by rw[<-HL];exact hlt)⟩;obtain⟨vi,g0,hst⟩:=gF k l hy;obtain⟨a,bb,oo,cp,rfl,-⟩:=hst;have HST:Hid ((ls.take (k+1)).flatten.length=(ls.take k).flatten.length+l.length):=hide (by rw[GD hy,aP]);have Aa:=bS (Aq ls (k+1)) hn;rw[HST]at Aa;generalize (ls.take k).flatten.length=n0 at *;generalize l.length=n1 at *;clear hy;go_wp2;go_round;case rel=>exact⟨k+1,by omega,by go_num,by rw[HST];go_num⟩
   case measure=>simp[intOf];omega
  ·have e:ls.take k=ls:=eP (by have:=HL.out;omega);rw[e]at hacc ⊢;clear e;obtain⟨N,hN⟩:=aG ls.flatten.length;have HN:=hide hN;rw[<-hN]at hacc ⊢;clear hN;go_wp2_with fail;refine(Vu w N hacc).mono ?_;rintro e w1 ⟨v1,rfl,OJ⟩;obtain⟨ho1,hz1,hb1⟩:=OJ.out;have HO:=hide ho1;have HB:=hide hb1;have HZ:Hid (ls.flatten=[]->v1=.slice none 0 0):=hide (λh=>hz1 (by rw[HN,h];rfl));clear ho1 hb1 hk hlt hz1 OJ;go_wp2;go_loopw[6,27] (λo i wr=>∃k:Nat,k<=len/\i=.int .i64 k/\fD wr w.heap.size o (ls.take k).flatten/\(ls.flatten=[]->o=.slice none 0 0)/\Below w.heap.size w wr) (λ_ i _=>len - (intOf i).toNat);case atStart=>exact⟨0,bJ _,rfl,HO,HZ,HB⟩
   case round=>
    obtain⟨k,hk,rfl,hown,hzz,hnx⟩:=hrel;by_cases hlt:k<len
    ·obtain⟨l,hy⟩:∃l,ls[k]?=some l:=⟨_,aU (by rw[<-HL];exact hlt)⟩;obtain⟨vi,g0,hst⟩:=gF k l hy;have u0:=aA g0 hnx;have hss:=hst.below hnx;obtain⟨a,bb,oo,cp,rfl,ha0,-,hel⟩:=hss;have HC:=hide (GA hel);have uF:=hide ha0;have HST:=hide (GD hy);have Aa:=bS (Aq ls (k+1)) hn;rw[HST,aP]at Aa;have hbs:=hnx.size;have HOW:=hide hown;have bR:=hide hnx;have HZZ:=hide hzz;have HEM:Hid (ls.flatten=[]->l.length=0):=hide (λh=>by have h1:=Aq ls (k+1);rw[HST,aP,h]at h1;simp at h1;simpa using h1.2);have zC:Hid ((l.map (Value.int .i64)).length=l.length*1):=hide (by simp);obtain⟨n1,hn1⟩:=aG l.length;have uO:=hide hn1;rw[<-hn1]at u0 uF zC HEM Aa;clear hn1 hy hst g0 hown hnx hzz ha0 hel
     go_wp2_with (first
      | (at_builtin;refine fV rfl _ _ 47 3 1 8 _ rfl underlying47 zM (by decide) (by decide) w.heap.size _ _ _ rfl HOW a bb oo n1 cp (l.map (Value.int .i64)) rfl uF zC HC.1 HC.2 (by unfold maxLen;omega) (by omega) hbs ?_;intro v' w2 hown2 hgrow2 hz2 hp2)
      | fail)
     have R2:=hide (bR.grown hgrow2 hbs (λj hj=>(HOW.lt j hj).1));have JC:Hid (fD w2 w.heap.size v' ((ls.take k).flatten++l)):=hide (by unfold fD;rw[aP,cZ,<-uO];exact hown2);have HZ2:=hide hz2;clear hgrow2 hown2 hz2 hp2;go_roundw;case rel=>exact⟨k+1,by omega,by go_num,by rw[HST];exact JC,λh=>by rw[HZ2 (HEM h)];exact HZZ h,R2⟩
     case measure=>simp[intOf];omega
    ·have e:ls.take k=ls:=eP (by have:=HL.out;omega);rw[e]at hown;have JC:=hide hown;have HZ2:=hide hzz;have bR:=hide hnx;clear hown hzz hnx;go_wp2;go_ret;exact⟨_,rfl,hide ⟨JC,HZ2,bR⟩⟩
theorem GH(w:World)(v:Value)(l:List Int)(h:Ints w v l)(hl:l.length<=16777216):Calls prog 355 #[v] w λe w'=>∃v',e=.returned v'/\Hid (fD w' w.heap.size v' l/\Below w.heap.size w w'):=by
 obtain⟨a,b,off,cap,rfl,h0,-,hel⟩:=h;cases a with
 | none=>
  have hz:l=[]:=by
   cases l with
   | nil=>rfl
   | cons y r=>exact absurd (h0 (by simp)) (by simp)
  subst hz;clear h0 hel;have hnil:∀w c,(binOp .eql 47 (.slice none 0 c) (.slice none 0 0)).run prog w=.ok (.bool true) w:=λw c=>Lib.run_eql_slice_nil w 47 3 none 0 c 0 0 underlying47;go_enter func355,ntmps355;go_wp2_with fail;go_ret;exact⟨_,rfl,hide ⟨fD.nil _ _,aX _ _⟩⟩
 | some ad=>
  have dH:=hide (aB w (.cells #[] 3));have HC:=hide (GA (w:=w.alloc (.cells #[] 3)) (b:=b) (off:=off) (l:=l) λj z hz=>aA (hel j z hz) dH);have zC:Hid ((l.map (Value.int .i64)).length=l.length*1):=hide (by simp);have HH0:=hide h0;obtain⟨nl,hnl⟩:=aG l.length;rw[<-hnl]at zC HH0 hl ⊢;have Iw:=hide hnl;have HL:=hide hl;clear hnl hl h0 hel;have hnil:∀w n c,(binOp .eql 47 (.slice (some ad) n c) (.slice none 0 0)).run prog w=.ok (.bool false) w:=λw n c=>Lib.run_eql_slice_nil w 47 3 (some ad) n c 0 0 underlying47;have HOW:=hide (Je w 3 1);go_enter func355,ntmps355
  go_wp2_with (first
   | (at_builtin;refine fV rfl _ _ 47 3 1 8 _ rfl underlying47 zM (by decide) (by decide) w.heap.size _ 0 [] rfl HOW (some ad) b off nl cap (l.map (Value.int .i64)) rfl HH0 zC HC.1 HC.2 (by have:=HL.out;unfold maxLen;omega) (by have:=HL.out;omega) dH.size ?_;intro v7 w7 qy pK Et hp7;have HO7:=hide qy;have iw:=hide (Below.grown dH pK dH.size (λk e=>by have:=(HOW.lt k e).1;omega));clear qy pK Et hp7)
   | fail)
  go_ret;refine⟨_,rfl,hide ⟨?_,iw⟩⟩;unfold fD;rw[<-Iw];have h:=HO7.out;rwa[fT,ug]at h
end Go.Proofs.YtfnboapebijcpaaGreatDoor
