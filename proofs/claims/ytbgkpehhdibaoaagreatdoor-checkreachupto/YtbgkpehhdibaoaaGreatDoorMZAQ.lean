/- part -/
import Derived.Test.YtbgkpehhdibaoaaGreatDoorMZAN
set_option maxHeartbeats 0
set_option maxRecDepth 99999
namespace Go.Proofs.YtbgkpehhdibaoaaGreatDoor
open aO
open Go.Proofs.Tryz
open Go.RowKit Go.Shelf
namespace Rn
theorem eO{a b:aZ}:dD a b=true↔a=b:=by
 unfold dD;rw[beq_iff_eq];constructor;·intro h;rw[zW,zW]at h;cases a;cases b;simp only[ByteArray.mk.injEq];exact Array.toList_inj.1 h
 ·intro h;rw[h]
def Ja(acc:List aZ)(x:aZ):List aZ:=match acc.getLast? with
 | some y=>if dD x y then acc else acc++[x]
 | none=>acc++[x]
def jC(l:List aZ):List aZ:=l.foldl Ja []
theorem Zz(acc:List aZ)(x:aZ):(Ja acc x).getLast?=some x:=by
 unfold Ja;split
 ·rename_i y h;split;·rename_i hs;rw[eO]at hs;subst hs;exact h
  ·simp
 ·simp
theorem ZA(l:List aZ)(x:aZ):jC (l++[x])=Ja (jC l) x:=by unfold jC;simp
theorem zu{l:List aZ}{j:Nat}{x:aZ}(h:l[j]?=some x):jC (l.take (j+1))=Ja (jC (l.take j)) x:=by rw[gH,h];exact ZA _ _
theorem ZB{l:List aZ}{j:Nat}{x:aZ}(h:l[j]?=some x):(jC (l.take (j+1))).getLast?=some x:=by rw[zu h];exact Zz _ _
theorem El{l:List aZ}{j:Nat}{x y:aZ}(h:l[j]?=some y)(h':l[j+1]?=some x):jC (l.take (j+1+1))=if dD x y then jC (l.take (j+1))else jC (l.take (j+1))++[x]:=by rw[zu h'];have:=ZB h;unfold Ja;rw[this]
theorem cstS_mem(acc:List aZ)(x z:aZ):z∈Ja acc x↔z∈acc\/z=x:=by
 unfold Ja;split
 ·rename_i y h;split;·rename_i hs;rw[eO]at hs;subst hs;have hm:x∈acc:=Rp h;exact⟨aR,λhx=>hx.elim id (λe=>e ▸ hm)⟩
  ·simp
 ·simp
theorem CS(l:List aZ)(z:aZ):z∈jC l↔z∈l:=by
 have h:∀(l acc:List aZ),z∈l.foldl Ja acc↔z∈acc\/z∈l:=by
  intro l;induction l with
  | nil=>intro acc;simp
  | cons x r ih =>intro acc;rw[rQ,ih,cstS_mem,gy,or_assoc]
 simpa[jC]using h l []
theorem Mj{l:List aZ}(h:∀(j:Nat) x y,l[j]?=some y->l[j+1]?=some x->dD x y=false):∀j,j<=l.length->jC (l.take j)=l.take j:=by
 intro j;induction j with
 | zero=>intro _;rfl
 | succ j ih=>
  intro hj;cases j with
  | zero =>have hx:l[0]?=some l[0]:=bg aV;rw[zu hx];simp[jC,Ja,gH,hx]
  | succ j =>have hy:l[j]?=some l[j]:=bg aV;have hx:l[j+1]?=some l[j+1]:=bg aV;rw[El hy hx,h j _ _ hy hx,ih aV];rw[gH (i:=j+1),hx];simp
def oL(l:List aZ):List aZ:=((l.map (·.data.toList)).mergeSort λx y=>decide (x<=y)).map λb=>⟨b.toArray⟩
theorem yg(l:List aZ)(z:aZ):z∈oL l↔z∈l:=by
 unfold oL;rw[jU];constructor
 ·rintro⟨b,hb,rfl⟩;rw[List.mem_mergeSort,jU]at hb;obtain⟨a,ha,rfl⟩:=hb;have:(⟨a.data.toList.toArray⟩:aZ)=a:=by cases a;simp
  rw[this];exact ha
 ·intro h;refine⟨z.data.toList,by rw[List.mem_mergeSort,jU];exact⟨z,h,rfl⟩,?_⟩;cases z;simp
theorem srtS_len(l:List aZ):(oL l).length=l.length:=by unfold oL;rw[dR,XB,dR]
end Rn
theorem But.row{g:Nat}{w w1:World}{cs:Array Value}(h:But g w w1):But g w (w1.setRow g cs):=
 ⟨h.os,h.tape,h.output,by rw[setRow_size];exact h.size,λk hk hp=>by rw[setRow_other _ _ _ _ hp];exact h.block k hk hp⟩
def mJ(w:World)(g:Nat)(l:List aZ):Prop:=
 ∃cur,w.heap[g]?=some (.cells cur 9 (0,0))/\l.length<=cur.size/\∀(i:Nat) d,l[i]?=some d->cur[i]?=some (.string d)
theorem mJ.cell{w:World}{g:Nat}{l:List aZ}(h:mJ w g l){i:Nat}{d:aZ}(hd:l[i]?=some d):w.cell? (X g i)=some (A d):=by obtain⟨cur,hc,_,hel⟩:=h;exact(aj hc _).trans (hel i d hd)
theorem mJ.below{w w':World}{g:Nat}{l:List aZ}(h:mJ w g l)(hb:bG w w'):mJ w' g l:=by obtain⟨cur,hc,h1,h2⟩:=h;exact⟨cur,by rw[hb.block g (bE hc)];exact hc,h1,h2⟩
theorem mJ.drew{w:World}{g n:Nat}{l:List aZ}(h:mJ w g l):mJ (w.drewN n) g l:=h
theorem mJ.set{w:World}{g k:Nat}{l:List aZ}(h:mJ w g l)(hk:k<l.length)(d:aZ):mJ (w.setCell (X g k) (A d)) g (l.set k d):=by
 obtain⟨cur,hc,hs,hel⟩:=h;have h0:=aP hc k (A d);refine⟨_,h0,by simpa using hs,λi x hx=>?_⟩;rw[List.getElem?_set]at hx;by_cases e:k=i;·subst e;simp[hk]at hx;subst hx;simp[Ow];omega
 ·rw[aJ e]at hx;rw[Jb aV];exact hel i x hx
theorem UZ{w:World}{g k n c:Nat}{cur:Array Value}(hc:w.heap[g]?=some (.cells cur 9 (0,0)))(hn:0<n)(hs:k+n<=cur.size)(ty:TypeId):(Builtin.clear_ #[22] ty #[Y (some (X g k)) n c]).run prog w=.ok (.tuple #[]) (w.setRow g (cur.toList.take k++(Builtin.zeroCells (A ⟨#[]⟩).cells n).toList++cur.toList.drop (k+(Builtin.zeroCells (A ⟨#[]⟩).cells n).toList.length)).toArray):=by
 have hz:(Builtin.zeroCells (A ⟨#[]⟩).cells n).toList.length=n:=by simp[Builtin.zeroCells,Value.cells]
 have h1:∀v∈(Builtin.zeroCells (A ⟨#[]⟩).cells n).toList,v.oneCell'=true:=by intro v hv;simp[Builtin.zeroCells,Value.cells]at hv;obtain⟨a,ha,rfl⟩:=hv;rw[Nat.mod_one];rfl
 have hst:=run_storeCells_at prog g k 9 (Builtin.zeroCells (A ⟨#[]⟩).cells n).toList 0 cur w hc (by rw[hz];omega) h1;obtain⟨m,rfl⟩:∃m,n=m+1:=⟨n - 1,by omega⟩;simp only[uf]at hst;simp[Builtin.clear_,run_underlying underlying22,hst]
theorem mJ.clear{w:World}{g k:Nat}{l:List aZ}{zs:List Value}{cur:Array Value}(h:mJ w g l)(hc:w.heap[g]?=some (.cells cur 9 (0,0)))(hk:k<=l.length)(m:Nat):mJ (w.setRow g (cur.toList.take k++zs++cur.toList.drop m).toArray) g (l.take k):=by
 obtain⟨cur',hc',hs,hel⟩:=h;rw[hc]at hc';simp at hc';subst hc';have hkl:(l.take k).length=k:=by rw[jO];omega
 refine⟨_,setRow_heap w g cur _ 9 (0,0) hc,?_,λi d hd=>?_⟩;·rw[hkl];simp;omega
 ·have hik:i<k:=by have:=(dz.1 hd).1;omega
  rw[rZ hik]at hd;have a0:=hel i d hd;rw[xP,iM,qJ (by simp;omega),rZ hik];simpa using a0
theorem Ox{l:List aZ}{c K:Nat}{C:List aZ}(hc:c=C.length)(hK:c<=K):(C++l.drop c)[K]?=l[K]?:=by subst hc;rw[pR hK,ZQ58Z];congr 1;omega
theorem row_setS{l:List aZ}{c:Nat}{C:List aZ}(hc:c=C.length)(hl:c<l.length)(x:aZ):(C++l.drop c).set c x=(C++[x])++l.drop (c+1):=by subst hc;rw[List.set_append_right _ _ (bF _),mZ,XC hl,dX];simp
namespace Rn
def CU(a b:Int):Bool:=a==b
theorem Em{a b:Int}:CU a b=true↔a=b:=by unfold CU;rw[beq_iff_eq]
def zL(acc:List Int)(x:Int):List Int:=match acc.getLast? with
 | some y=>if CU x y then acc else acc++[x]
 | none=>acc++[x]
def kE(l:List Int):List Int:=l.foldl zL []
theorem ZC(acc:List Int)(x:Int):(zL acc x).getLast?=some x:=by
 unfold zL;split
 ·rename_i y h;split;·rename_i hs;rw[Em]at hs;subst hs;exact h
  ·simp
 ·simp
theorem ZE(l:List Int)(x:Int):kE (l++[x])=zL (kE l) x:=by unfold kE;simp
theorem En{l:List Int}{j:Nat}{x:Int}(h:l[j]?=some x):kE (l.take (j+1))=zL (kE (l.take j)) x:=by rw[gH,h];exact ZE _ _
theorem ZF{l:List Int}{j:Nat}{x:Int}(h:l[j]?=some x):(kE (l.take (j+1))).getLast?=some x:=by rw[En h];exact ZC _ _
theorem Eo{l:List Int}{j:Nat}{x y:Int}(h:l[j]?=some y)(h':l[j+1]?=some x):kE (l.take (j+1+1))=if CU x y then kE (l.take (j+1))else kE (l.take (j+1))++[x]:=by rw[En h'];have:=ZF h;unfold zL;rw[this]
theorem cptI_len(l:List Int):(kE l).length<=l.length:=by
 have h:∀(l acc:List Int),(l.foldl zL acc).length<=acc.length+l.length:=by
  intro l;induction l with
  | nil=>intro acc;simp
  | cons x r ih=>
   intro acc;have h1:=ih (zL acc x);have h2:(zL acc x).length<=acc.length+1:=by
    unfold zL;split;·split<;>simp
    ·simp
   simp only[rQ,zU];omega
 simpa[kE]using h l []
theorem Rq(acc:List Int)(x z:Int):z∈zL acc x↔z∈acc\/z=x:=by
 unfold zL;split
 ·rename_i y h;split;·rename_i hs;rw[Em]at hs;subst hs;have hm:x∈acc:=Rp h;exact⟨aR,λhx=>hx.elim id (λe=>e ▸ hm)⟩
  ·simp
 ·simp
theorem cptI_mem(l:List Int)(z:Int):z∈kE l↔z∈l:=by
 have h:∀(l acc:List Int),z∈l.foldl zL acc↔z∈acc\/z∈l:=by
  intro l;induction l with
  | nil=>intro acc;simp
  | cons x r ih =>intro acc;rw[rQ,ih,Rq,gy,or_assoc]
 simpa[kE]using h l []
theorem Mk{l:List Int}(h:∀(j:Nat) x y,l[j]?=some y->l[j+1]?=some x->CU x y=false):∀j,j<=l.length->kE (l.take j)=l.take j:=by
 intro j;induction j with
 | zero=>intro _;rfl
 | succ j ih=>
  intro hj;cases j with
  | zero =>have hx:l[0]?=some l[0]:=bg aV;rw[En hx];simp[kE,zL,gH,hx]
  | succ j =>have hy:l[j]?=some l[j]:=bg aV;have hx:l[j+1]?=some l[j+1]:=bg aV;rw[Eo hy hx,h j _ _ hy hx,ih aV];rw[gH (i:=j+1),hx];simp
def uM(l:List Int):List Int:=l.mergeSort λx y=>decide (x<=y)
theorem srtI_mem(l:List Int)(z:Int):z∈uM l↔z∈l:=by unfold uM;rw[List.mem_mergeSort]
theorem Rs(l:List Int):(uM l).length=l.length:=by unfold uM;rw[XB]
theorem Rt(l:List Int):(uM l).Pairwise (·<=·):=by have:=List.pairwise_mergeSort (le:=λx y:Int=>decide (x<=y)) (λa b c h k=>by simp at *;omega) (λa b=>by simp;omega) l;unfold uM;exact this.imp λh=>by simpa using h
def Lf(l:List Int):Prop:=l.Pairwise (·<·)
theorem cptI_asc{l:List Int}(hs:l.Pairwise (·<=·)):Lf (kE l):=by
 have h:∀(l acc:List Int),Lf acc->l.Pairwise (·<=·)->(∀a∈acc,∀y∈l,a<=y)->Lf (l.foldl zL acc):=by
  intro l;induction l with
  | nil=>intro acc h _ _;exact h
  | cons x r ih=>
   intro acc ha hl hc;rw[rQ];rw[tX]at hl;refine ih _ ?_ hl.2 (λa ha' y hy=>?_)
   ·unfold zL;split
    ·rename_i y hy;split;·exact ha
     ·rename_i hne;refine Ep.2 ⟨ha,List.pairwise_singleton _ _,λa ha' b hb=>?_⟩;rw[dG]at hb;subst hb;have h1:=hc a ha' b cZ;have h2:a≠b:=by
       intro e;subst e;obtain⟨i,rfl⟩:∃t,acc=t++[y]:=List.getLast?_eq_some_iff.1 hy;have h3:=hc y cZ a cZ;have h4:a<=y:=by
        rcases bV.1 ha' with h5|h5;·have:=(Ep.1 ha).2.2 a h5 y cZ;omega
        ·rw[dG]at h5;omega
       exact hne (Em.2 aV)
      omega
    ·rename_i hn;have:acc=[]:=List.getLast?_eq_none_iff.1 hn;subst this;simp[Lf]
   ·rw[Rq]at ha';rcases ha' with h1|h1;·exact hc a h1 y (by simp[hy])
    ·subst h1;exact hl.1 y hy
 exact h l [] List.Pairwise.nil hs (λa ha=>aN ha cZ)
theorem XD:∀{a b:List Int},Lf a->Lf b->(∀x,x∈a↔x∈b)->a=b:=by
 intro a;induction a with
 | nil=>
  intro b _ _ h;cases b with
  | nil=>rfl
  | cons y r=>exact aN ((h y).2 cZ) cZ
 | cons x r ih=>
  intro b ha hb h;cases b with
  | nil=>exact aN ((h x).1 cZ) cZ
  | cons y s=>
   unfold Lf at ha hb;rw[tX]at ha hb;have hxy:x=y:=by
    obtain⟨h1,h2⟩:=eD ((h x).1 cZ) ((h y).2 cZ);rcases gy.1 h1 with e|e;·exact e
    ·rcases gy.1 h2 with e'|e';·exact e'.symm
     ·have:=hb.1 x e;have:=ha.1 y e';omega
   subst hxy;congr 1;refine ih ha.2 hb.2 λz=>?_;have hz:=h z;rw[gy,gy]at hz;constructor
   ·intro hz';rcases hz.1 (aT hz')with e|e;·subst e;exact aN (ha.1 z hz') aV
    ·exact e
   ·intro hz';rcases hz.2 (aT hz')with e|e;·subst e;exact aN (hb.1 z hz') aV
    ·exact e
theorem cpt_srtI(l:List Int):Lf (kE (uM l))/\∀x,x∈kE (uM l)↔x∈l:=⟨cptI_asc (Rt l),λx=>by rw[cptI_mem,srtI_mem]⟩
end Rn
def j4(w:World)(g:Nat)(l:List Int):Prop:=
 ∃cur,w.heap[g]?=some (.cells cur 3 (0,0))/\l.length<=cur.size/\∀(i:Nat) d,l[i]?=some d->cur[i]?=some (.int .i64 d)
theorem j4.cell{w:World}{g:Nat}{l:List Int}(h:j4 w g l){i:Nat}{d:Int}(hd:l[i]?=some d):w.cell? (X g i)=some (O d):=by obtain⟨cur,hc,_,hel⟩:=h;exact(aj hc _).trans (hel i d hd)
theorem j4.below{w w':World}{g:Nat}{l:List Int}(h:j4 w g l)(hb:bG w w'):j4 w' g l:=by obtain⟨cur,hc,h1,h2⟩:=h;exact⟨cur,by rw[hb.block g (bE hc)];exact hc,h1,h2⟩
theorem j4.drew{w:World}{g n:Nat}{l:List Int}(h:j4 w g l):j4 (w.drewN n) g l:=h
theorem j4.set{w:World}{g k:Nat}{l:List Int}(h:j4 w g l)(hk:k<l.length)(d:Int):j4 (w.setCell (X g k) (O d)) g (l.set k d):=by
 obtain⟨cur,hc,hs,hel⟩:=h;have h0:=aP hc k (O d);refine⟨_,h0,by simpa using hs,λi x hx=>?_⟩;rw[List.getElem?_set]at hx;by_cases e:k=i;·subst e;simp[hk]at hx;subst hx;simp[Ow];omega
 ·rw[aJ e]at hx;rw[Jb aV];exact hel i x hx
theorem U0{w:World}{g k n c:Nat}{cur:Array Value}(hc:w.heap[g]?=some (.cells cur 3 (0,0)))(hn:0<n)(hs:k+n<=cur.size)(ty:TypeId):(Builtin.clear_ #[27] ty #[Y (some (X g k)) n c]).run prog w=.ok (.tuple #[]) (w.setRow g (cur.toList.take k++(Builtin.zeroCells (O 0).cells n).toList++cur.toList.drop (k+(Builtin.zeroCells (O 0).cells n).toList.length)).toArray):=by
 have hz:(Builtin.zeroCells (O 0).cells n).toList.length=n:=by simp[Builtin.zeroCells,Value.cells]
 have h1:∀v∈(Builtin.zeroCells (O 0).cells n).toList,v.oneCell'=true:=by intro v hv;simp[Builtin.zeroCells,Value.cells]at hv;obtain⟨a,ha,rfl⟩:=hv;rw[Nat.mod_one];rfl
 have hst:=run_storeCells_at prog g k 3 (Builtin.zeroCells (O 0).cells n).toList 0 cur w hc (by rw[hz];omega) h1;obtain⟨m,rfl⟩:∃m,n=m+1:=⟨n - 1,by omega⟩;simp only[uf]at hst;simp[Builtin.clear_,run_underlying underlying27,hst]
theorem j4.clear{w:World}{g k:Nat}{l:List Int}{zs:List Value}{cur:Array Value}(h:j4 w g l)(hc:w.heap[g]?=some (.cells cur 3 (0,0)))(hk:k<=l.length)(m:Nat):j4 (w.setRow g (cur.toList.take k++zs++cur.toList.drop m).toArray) g (l.take k):=by
 obtain⟨cur',hc',hs,hel⟩:=h;rw[hc]at hc';simp at hc';subst hc';have hkl:(l.take k).length=k:=by rw[jO];omega
 refine⟨_,setRow_heap w g cur _ 3 (0,0) hc,?_,λi d hd=>?_⟩;·rw[hkl];simp;omega
 ·have hik:i<k:=by have:=(dz.1 hd).1;omega
  rw[rZ hik]at hd;have a0:=hel i d hd;rw[xP,iM,qJ (by simp;omega),rZ hik];simpa using a0
theorem Oy{l:List Int}{c K:Nat}{C:List Int}(hc:c=C.length)(hK:c<=K):(C++l.drop c)[K]?=l[K]?:=by subst hc;rw[pR hK,ZQ58Z];congr 1;omega
theorem row_setI{l:List Int}{c:Nat}{C:List Int}(hc:c=C.length)(hl:c<l.length)(x:Int):(C++l.drop c).set c x=(C++[x])++l.drop (c+1):=by subst hc;rw[List.set_append_right _ _ (bF _),mZ,XC hl,dX];simp
theorem Own.form{w:World}{B:Nat}{v:Value}{l:List aZ}(h:Own w B v l):∃a c,v=Y a l.length c:=by
 rcases h.shape with⟨rfl,rfl⟩|⟨g,cap,rfl,_⟩;·exact⟨_,_,rfl⟩
 ·exact⟨_,_,rfl⟩
theorem box1_2(w:World)(o:Obj)(c:Value)(t:TypeId):((w.alloc o).alloc (.cells #[c] t)).cell? (X (w.heap.size+1) 0)=some c:=(aj (al2 w o (.cells #[c] t)).2.1 0).trans rfl
theorem Ml(w:World)(n:Nat)(t:TypeId)(vs:List Value)(ls:List (List Dg))(hlen:vs.length=ls.length)(h16:ls.length<=16)(h:∀(i:Nat) v l,vs[i]?=some v->ls[i]?=some l->eT qz w n 80 3 v l):Ri (w.alloc (.cells vs.toArray t)) n (Y (some (X w.heap.size 0)) ls.length ls.length) ls:=by
 refine⟨w.heap.size,0,ls.length,rfl,h16,λi l hl=>?_⟩;have hi:i<vs.length:=by rw[hlen];exact(dz.1 hl).1
 refine⟨vs[i],?_,(h i _ l (bg hi) hl).below (aH _ _)⟩;rw[eu,aj (bD w (.cells vs.toArray t)) i];simp[hi]
theorem Ru{α:Type}(l:List α)(f:α->aZ)(j:Nat):((l.take j).map f).length<=l.length:=by rw[dR,jO];omega
theorem Jc(m:Nat)(w:World)(vi vv vf:Value)(x:Mo)(h:gT w m (.agg #[A x.name,vi,vv,vf]) x)(hc:nY w vi vf)(hlv:x.vars.length<=1048576)(hlf:x.bq.length<=1048576)(hlen:(twD x).length<=16777216):Calls prog 101 #[.agg #[A x.name,vi,vv,vf]] w λe w'=>∃u,e=cO u/\eT qz w' w.heap.size 80 3 u (twD x)/\bG w w':=by
 obtain⟨hI,hV,hF⟩:=h.split;have HIC:Hid (xH w vi x.imports):=by refine I ⟨hI,?_⟩;obtain⟨a,b,off,c,rfl,_⟩:=hI;exact⟨a,c,rfl,hc.imp _ _ _ rfl⟩
 obtain⟨ai,bi,oi,ci,rfl,-⟩:=hI;obtain⟨av,bv,ov,cv,rfl,Ub,-,hcv⟩:=hV;obtain⟨af,bf,of,cf,rfl,KF,-,hcf⟩:=hF;obtain⟨HCV,Uc⟩:=bT hcv Ub;have Oe:Hid (KY w m bf of x.bq):=hcf;obtain⟨KG,HMC⟩:=bT KF hc;have KL:Hid (twD x=[FM ⟨#[]⟩ x.imports,FM ⟨#[]⟩ (x.vars.map (·.name)),FM ⟨#[]⟩ (x.bq.map (·.name))].flatten++x.bq.flatMap λf=>FM f.name f.params):=rfl;have jR:=I hlen;rw[KL]at jR;obtain⟨R,hR⟩:=bC (twD x);rw[<-hR]at KL ⊢;obtain⟨T1,hT1⟩:=bC (FM ⟨#[]⟩ x.imports);obtain⟨T2,hT2⟩:=bC (FM ⟨#[]⟩ (x.vars.map (·.name)));obtain⟨T3,hT3⟩:=bC (FM ⟨#[]⟩ (x.bq.map (·.name)));obtain⟨HT1,HT2,HT3⟩:=fq hT1 hT2 hT3;rw[<-hT1,<-hT2,<-hT3]at KL jR;have xU:Hid (T1.length+T2.length+T3.length+(x.bq.flatMap λf=>FM f.name f.params).length<=16777216):=I (by have:=jR.out;simp only[wN,Jd,gK,aW]at this;omega);obtain⟨vars,hvars⟩:=bC x.vars;obtain⟨bq,Rf⟩:=bC x.bq;rw[<-hvars]at hlv HCV Uc HT2 ⊢;rw[<-Rf]at hlf Oe KG KL HT3 xU HMC ⊢;obtain⟨nv,xg⟩:=bC vars.length;obtain⟨nf,hnf⟩:=bC bq.length;obtain⟨Mg,uH⟩:=bT xg hnf;rw[<-xg]at hlv Uc ⊢;rw[<-hnf]at hlf KG HMC ⊢;generalize x.imports.length=ni at *;generalize x.name=xn at *;obtain⟨HB0,dO⟩:=sS w (aY #[A xn,Y ai ni ci,Y av nv cv,Y af nf cf] 58);obtain⟨q1,q2,q3⟩:=lQ (Fv w (A xn) (Y ai ni ci) (Y av nv cv) (Y af nf cf) 58) (Fw w (A xn) (Y ai ni ci) (Y av nv cv) (Y af nf cf) 58) (Fp w (A xn) (Y ai ni ci) (Y av nv cv) (Y af nf cf) 58);clear hcv Ub hcf KF hlen hR hvars Rf xg hnf h hc hT1 hT2 hT3;go_enter func101,ntmps101;go_wp2_with fail;generalize (w.alloc (aY #[A xn,Y ai ni ci,Y av nv cv,Y af nf cf] 58))=W1 at *;go_loopw[3,15] (λv i wr=>∃j:Nat,j<=nv/\i=O j/\Own wr W1.heap.size v ((vars.take j).map (·.name))/\bG W1 wr) (λ_ i _=>nv - (intOf i).toNat);case atStart=>exact⟨0,bI _,rfl,kS _ _ _ _,bN _ _⟩
 case round=>
  obtain⟨j,hj,rfl,hown,hnx⟩:=hrel;obtain⟨HOW,dM⟩:=bT hown hnx;by_cases hjl:j<nv
  ·obtain⟨y,hy⟩:∃y,vars[j]?=some y:=⟨_,bg (by rw[<-Mg];exact hjl)⟩;obtain⟨-,-,g0,g1⟩:=HCV j y hy;obtain rfl:=Uc aV;replace g0:=aC g0 (up HB0 hnx);replace g1:=aC g1 (up HB0 hnx);obtain⟨HST,dW⟩:=bT (Iy (f:=λv:Va=>v.name) hy) (aH wr (aY #[A y.name,A y.level] 93));obtain⟨c0,hml⟩:=eD ((aj (bD wr (aY #[A y.name,A y.level] 93)) 0).trans (rfl:_=some (A y.name))) (Ru vars (·.name) j);rw[<-Mg]at hml;obtain⟨a3,c3,rfl⟩:=hown.form;obtain⟨ln,hln⟩:=bC (((vars.take j).map (·.name)).length);have XF:=I hln;rw[<-hln]at HOW hml ⊢;clear hy hown hnx hln
   go_wp2_with (first
    | (at_builtin;refine kL rfl _ _ rfl W1.heap.size _ _ rfl (fC HOW (up dW (aH _ _))) _ y.name rfl (box1_2 _ _ _ _) (by have:=XF.out;omega) (bH dM.out.size (up dW (aH _ _)).size) ?_;intro v6 w6 hown6 eG;have oG:=I hown6;have lI:=I (jT (up dM (up dW (aH _ _))) eG (λj hj=>(D9 HOW j hj).1));clear hown6 eG)
    | fail)
   go_roundw;case rel=>exact⟨j+1,by omega,by go_num,by rw[HST];exact oG,lI⟩
   case measure=>simp[intOf];omega
  ·have wY:(vars.take j)=vars:=fJ (by have:=Mg.out;omega);rw[wY]at HOW hown;obtain⟨a3,c3,rfl⟩:=hown.form;obtain⟨ln,hln⟩:=bC ((vars.map (·.name)).length);rw[<-hln]at HOW ⊢;replace q1:=aC q1 hnx;replace q3:=aC q3 hnx;have HQ:=I (And.intro q1 q3);clear wY hown hnx hln q2;obtain⟨wo,rfl⟩:=bC wr;go_wp2_with fail;go_loopw[4,28] (λv i wx=>∃t:Nat,t<=nf/\i=O t/\Own wx wo.heap.size v ((bq.take t).map (·.name))/\bG wo wx) (λ_ i _=>nf - (intOf i).toNat);case atStart=>exact⟨0,bI _,rfl,kS _ _ _ _,bN _ _⟩
   case round=>
    obtain⟨t,ht,rfl,hown,hnx⟩:=hrel;obtain⟨HO4,HX4⟩:=bT hown hnx;by_cases htl:t<nf
    ·obtain⟨y,hy⟩:∃y,bq[t]?=some y:=⟨_,bg (by rw[<-uH];exact htl)⟩;obtain⟨-,vp,vb,e0,e1,e2,e3,g0,g1,g2,g3,g4,g5,g6,hp,hb,hx⟩:=Oe t y hy;obtain rfl:=KG aV;have hbb:=up (up HB0 dM) hnx;replace g0:=aC g0 hbb;replace g1:=aC g1 hbb;replace g2:=aC g2 hbb;replace g3:=aC g3 hbb;replace g4:=aC g4 hbb;replace g5:=aC g5 hbb;replace g6:=aC g6 hbb;obtain⟨ap,bp,op,cp,rfl,-⟩:=hp;obtain⟨sb,cb',rfl⟩:=hb.tV;obtain⟨xa,xc,rfl,rfl,rfl,rfl⟩:=hx.shape;generalize y.params.length=np at *;generalize y.body.length=nb at *;generalize y.result.args.length=ne at *;obtain⟨HST,dW⟩:=bT (Iy (f:=λv:Fu=>v.name) hy) (aH wr (aY #[A y.name,Y ap np cp,Y sb nb cb',O y.result.kind,O y.result.n,A y.result.name,Y xa ne xc] 109));obtain⟨c0,hml⟩:=eD ((aj (bD wr (aY #[A y.name,Y ap np cp,Y sb nb cb',O y.result.kind,O y.result.n,A y.result.name,Y xa ne xc] 109)) 0).trans (rfl:_=some (A y.name))) (Ru bq (·.name) t);rw[<-uH]at hml;obtain⟨a4,c4,rfl⟩:=hown.form;obtain⟨l4,hl4⟩:=bC (((bq.take t).map (·.name)).length);have Aa:=I hl4;rw[<-hl4]at HO4 hml ⊢;clear hy hown hnx hl4 hb hx hbb q1 q3
     go_wp2_with (first
      | (at_builtin;refine kL rfl _ _ rfl wo.heap.size _ _ rfl (fC HO4 (up dW (aH _ _))) _ y.name rfl (box1_2 _ _ _ _) (by have:=Aa.out;omega) (bH HX4.out.size (up dW (aH _ _)).size) ?_;intro v6 w6 hown6 eG;have oG:=I hown6;have lI:=I (jT (up HX4 (up dW (aH _ _))) eG (λj hj=>(D9 HO4 j hj).1));clear hown6 eG)
      | fail)
     go_roundw;case rel=>exact⟨t+1,by omega,by go_num,by rw[HST];exact oG,lI⟩
     case measure=>simp[intOf];omega
    ·have wY:(bq.take t)=bq:=fJ (by have:=uH.out;omega);rw[wY]at HO4 hown;have HS3:Hid (xH wr (Y a3 ln c3) (vars.map (·.name))):=I (Own.Xb (fC HOW HX4) (λs hs=>by obtain⟨y,hy,rfl⟩:=jU.1 hs;obtain⟨i,hi,rfl⟩:=gP.1 hy;exact(HCV i _ (bg hi)).1) (by rw[dR,<-Mg];omega));obtain⟨a4,c4,rfl⟩:=hown.form;obtain⟨l4,hl4⟩:=bC ((bq.map (·.name)).length);rw[<-hl4]at HO4 ⊢;have HS4:Hid (xH wr (Y a4 l4 c4) (bq.map (·.name))):=I (Own.Xb HO4 (λs hs=>by obtain⟨y,hy,rfl⟩:=jU.1 hs;obtain⟨i,hi,rfl⟩:=gP.1 hy;exact(Oe i _ (bg hi)).1) (by rw[dR,<-uH];omega));have iN:=I (up (up HB0 dM) hnx);replace q1:=aC q1 hnx;have HQ3:=I (aC HQ.2 hnx);clear wY hown hnx hl4 q3;go_wp2_with fail;refine(nJ wr _ x.imports ⟨#[]⟩ (HIC.below iN) (by rw[<-HT1];have:=xU.out;omega)).mono ?_;rintro e w5 ⟨u5,rfl,hu5,hb5⟩;rw[<-HT1]at hu5;obtain⟨HU5,dW⟩:=bT hu5 hb5;obtain⟨a5,c5,rfl⟩:=hu5.form;clear hu5 hb5 q1;generalize hz5:T1.length=t1 at *;go_wp2_with fail;refine(nJ w5 _ (vars.map (·.name)) ⟨#[]⟩ (HS3.below dW) (by rw[<-HT2];have:=xU.out;omega)).mono ?_;rintro e w6 ⟨u6,rfl,hu6,hb6⟩;rw[<-HT2]at hu6;obtain⟨HU6,eF⟩:=bT hu6 hb6;obtain⟨a6,c6,rfl⟩:=hu6.form;clear hu6 hb6;generalize zG:T2.length=t2 at *;go_wp2_with fail;refine(nJ w6 _ (bq.map (·.name)) ⟨#[]⟩ ((HS4.below dW).below eF) (by rw[<-HT3];have:=xU.out;omega)).mono ?_;rintro e w7 ⟨u7,rfl,hu7,pW⟩;rw[<-HT3]at hu7;obtain⟨HU7,jB⟩:=bT hu7 pW;obtain⟨a7,c7,rfl⟩:=hu7.form;clear hu7 pW;generalize Qe:T3.length=t3 at *
     have HDS:Hid (Ri (w7.alloc (aY #[Y a5 t1 c5,Y a6 t2 c6,Y a7 t3 c7] 59)) wr.heap.size (Y (some (X w7.heap.size 0)) 3 3) [T1,T2,T3]):=
      I (Ml w7 wr.heap.size 59 [Y a5 t1 c5,Y a6 t2 c6,Y a7 t3 c7] [T1,T2,T3] rfl cZ (λi v l hv hl=>by
       match i,hv,hl with
       | 0,hv,hl=>simp at hv hl;subst hv hl;exact(HU5.below eF).below jB
       | 1,hv,hl=>simp at hv hl;subst hv hl;exact(HU6.below jB).old dW.size
       | 2,hv,hl=>simp at hv hl;subst hv hl;exact HU7.old (bH dW.out.size eF.size)
       | i+3,hv,hl=>simp at hv))
     have HC3:Hid (([T1,T2,T3]:List (List Dg)).flatten.length<=16777216):=I (by have:=xU.out;simp only[wN,Jd,gK,aW];omega);have vE:=I (up (up (up iN dW) eF) (up jB (aH w7 (aY #[Y a5 t1 c5,Y a6 t2 c6,Y a7 t3 c7] 59))));have hq3:=aC (aC (aC (aC HQ3 dW) eF) jB) (aH w7 (aY #[Y a5 t1 c5,Y a6 t2 c6,Y a7 t3 c7] 59));have HQ8:=I hq3;clear hq3;go_wp2_with fail;refine(FL _ _ _ _ HDS HC3).mono ?_;rintro e w9 ⟨u9,rfl,U1,tL⟩;obtain⟨HU9,xk⟩:=bT (U1.old vE.size) (up vE tL);have q9:=aC HQ8 tL;obtain⟨F,hF⟩:∃F,F=([T1,T2,T3]:List (List Dg)).flatten:=⟨_,rfl⟩;have HF:=I hF;rw[<-hF]at HU9 U1;obtain⟨a9,c9,rfl⟩:=U1.form;generalize hz9:F.length=t9 at *;have A8:Hid (F.length+(bq.flatMap λf=>FM f.name f.params).length<=16777216):=I (by have:=xU.out;rw[HF];simp only[wN,Jd,gK,aW];omega);rw[<-HF]at KL;clear U1 tL hF;go_wp2_with fail;go_loopw[9,50] (λv i wx=>∃t:Nat,t<=nf/\i=O t/\eT qz wx w.heap.size 80 3 v (F++(bq.take t).flatMap λf=>FM f.name f.params)/\bG w wx) (λ_ i _=>nf - (intOf i).toNat);case atStart=>exact⟨0,bI _,rfl,by simpa using HU9.out,xk.out⟩
     case round=>
      obtain⟨s,hs,rfl,hown,hnx⟩:=hrel;obtain⟨HO4,HX4⟩:=bT hown hnx;by_cases hsl:s<nf
      ·obtain⟨y,hy⟩:∃y,bq[s]?=some y:=⟨_,bg (by rw[<-uH];exact hsl)⟩;obtain⟨-,vp,vb,e0,e1,e2,e3,g0,g1,g2,g3,g4,g5,g6,hp,hb,hx⟩:=Oe s y hy;obtain rfl:=KG aV;have xY:Hid (xH w vp y.params):=by refine I ⟨hp,?_⟩;obtain⟨vp',k1,k2⟩:=HMC.par bf of nf cf rfl s hsl;rw[g1]at k1;cases k1;obtain⟨a,b,off,c,rfl,_⟩:=hp;exact⟨a,c,rfl,k2 _ _ _ rfl⟩
       have HST:=I (jM (f:=λf:Fu=>FM f.name f.params) hy);have fM:Hid ((F++(bq.take s).flatMap λf=>FM f.name f.params).length+(FM y.name y.params).length<=16777216):=I (by have h1:=vQ (f:=λf:Fu=>FM f.name f.params) (l:=bq) (s+1);rw[HST,aW]at h1;have h2:=A8.out;rw[aW];omega);replace g0:=aC g0 hnx;replace g1:=aC g1 hnx;replace g2:=aC g2 hnx;replace g3:=aC g3 hnx;replace g4:=aC g4 hnx;replace g5:=aC g5 hnx;replace g6:=aC g6 hnx;obtain⟨ap,bp,op,cp,rfl,-⟩:=hp;obtain⟨sb,cb',rfl⟩:=hb.tV;obtain⟨xa,xc,rfl,rfl,rfl,rfl⟩:=hx.shape;generalize y.params.length=np at *;generalize y.body.length=nb at *;generalize y.result.args.length=ne at *;have dW:=I (aH wr (aY #[A y.name,Y ap np cp,Y sb nb cb',O y.result.kind,O y.result.n,A y.result.name,Y xa ne xc] 109));have hbn:=bD wr (aY #[A y.name,Y ap np cp,Y sb nb cb',O y.result.kind,O y.result.n,A y.result.name,Y xa ne xc] 109);obtain⟨c0,c1⟩:=eD ((aj hbn 0).trans (rfl:_=some (A y.name))) ((aj hbn 1).trans (rfl:_=some (Y ap np cp)));obtain⟨a4,c4,rfl⟩:=hown.form;obtain⟨l4,hl4⟩:=bC ((F++(bq.take s).flatMap λf=>FM f.name f.params).length);rw[<-hl4]at HO4 ⊢;clear hy hown hnx hl4 hb hx hbn;go_wp2_with fail;refine(nJ _ _ y.params y.name (xY.below (up HX4 dW)) (by have:=fM.out;omega)).mono ?_;rintro e w5 ⟨u5,rfl,hu5,hb5⟩;obtain⟨HU5,eF⟩:=bT hu5 (up dW hb5);clear hu5 hb5
       go_wp2_with (first
        | (at_builtin;refine gG (At:=qz) rfl _ _ 59 80 3 40 _ rfl underlying59 qA bP bP bP w.heap.size _ _ rfl (HO4.below eF) _ _ _ rfl HU5 fM (up HX4 eF).size ?_;intro v6 w6 hown6 eG;have oG:=I hown6;have lI:=I (jT (up HX4 eF) eG (λj hj=>(HO4.lt j hj).1));clear hown6 eG)
        | fail)
       go_roundw;case rel=>exact⟨s+1,by omega,by go_num,by rw[HST,<-iM];exact oG,lI⟩
       case measure=>simp[intOf];omega
      ·have wY:(bq.take s)=bq:=fJ (by have:=uH.out;omega);rw[wY,<-KL]at HO4 hown;obtain⟨a4,c4,rfl⟩:=hown.form;generalize R.length=nr at *;clear hown hnx wY;go_wp2_with fail;go_ret;exact⟨_,rfl,HO4,HX4⟩
end Go.Proofs.YtbgkpehhdibaoaaGreatDoor
