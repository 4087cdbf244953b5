/- part -/
import Derived.Test.YtbgkpehhdibaoaaGreatDoorBZAN
set_option maxHeartbeats 0
set_option maxRecDepth 99999
namespace Go.Proofs.YtbgkpehhdibaoaaGreatDoor
open bJ
open Go.Proofs.Tryz
open Go.RowKit Go.Shelf
namespace Rn
theorem eu{a b:aY}:dA a b=true↔a=b:=by
 unfold dA;rw[beq_iff_eq];constructor;·intro h;rw[yK,yK]at h;cases a;cases b;simp only[ByteArray.mk.injEq];exact Array.toList_inj.1 h
 ·intro h;rw[h]
def GI(acc:List aY)(x:aY):List aY:=match acc.getLast? with
 | some y=>if dA x y then acc else acc++[x]
 | none=>acc++[x]
def ji(l:List aY):List aY:=l.foldl GI []
theorem Xj(acc:List aY)(x:aY):(GI acc x).getLast?=some x:=by
 unfold GI;split
 ·rename_i y h;split;·rename_i hs;rw[eu]at hs;subst hs;exact h
  ·simp
 ·simp
theorem Xk(l:List aY)(x:aY):ji (l++[x])=GI (ji l) x:=by unfold ji;simp
theorem xW{l:List aY}{j:Nat}{x:aY}(h:l[j]?=some x):ji (l.take (j+1))=GI (ji (l.take j)) x:=by rw[gy,h];exact Xk _ _
theorem Xl{l:List aY}{j:Nat}{x:aY}(h:l[j]?=some x):(ji (l.take (j+1))).getLast?=some x:=by rw[xW h];exact Xj _ _
theorem CQ{l:List aY}{j:Nat}{x y:aY}(h:l[j]?=some y)(h':l[j+1]?=some x):ji (l.take (j+1+1))=if dA x y then ji (l.take (j+1))else ji (l.take (j+1))++[x]:=by rw[xW h'];have:=Xl h;unfold GI;rw[this]
theorem cstS_mem(acc:List aY)(x z:aY):z∈GI acc x↔z∈acc\/z=x:=by
 unfold GI;split
 ·rename_i y h;split;·rename_i hs;rw[eu]at hs;subst hs;have hm:x∈acc:=OX h;exact⟨aR,λhx=>hx.elim id (λe=>e ▸ hm)⟩
  ·simp
 ·simp
theorem Bf(l:List aY)(z:aY):z∈ji l↔z∈l:=by
 have h:∀(l acc:List aY),z∈l.foldl GI acc↔z∈acc\/z∈l:=by
  intro l;induction l with
  | nil=>intro acc;simp
  | cons x r ih =>intro acc;rw[rF,ih,cstS_mem,fK,or_assoc]
 simpa[ji]using h l []
theorem Kl{l:List aY}(h:∀(j:Nat) x y,l[j]?=some y->l[j+1]?=some x->dA x y=false):∀j,j<=l.length->ji (l.take j)=l.take j:=by
 intro j;induction j with
 | zero=>intro _;rfl
 | succ j ih=>
  intro hj;cases j with
  | zero =>have hx:l[0]?=some l[0]:=bD aX;rw[xW hx];simp[ji,GI,gy,hx]
  | succ j =>have hy:l[j]?=some l[j]:=bD aX;have hx:l[j+1]?=some l[j+1]:=bD aX;rw[CQ hy hx,h j _ _ hy hx,ih aX];rw[gy (i:=j+1),hx];simp
def nN(l:List aY):List aY:=((l.map (·.data.toList)).mergeSort λx y=>decide (x<=y)).map λb=>⟨b.toArray⟩
theorem wM(l:List aY)(z:aY):z∈nN l↔z∈l:=by
 unfold nN;rw[jP];constructor
 ·rintro⟨b,hb,rfl⟩;rw[List.mem_mergeSort,jP]at hb;obtain⟨a,ha,rfl⟩:=hb;have:(⟨a.data.toList.toArray⟩:aY)=a:=by cases a;simp
  rw[this];exact ha
 ·intro h;refine⟨z.data.toList,by rw[List.mem_mergeSort,jP];exact⟨z,h,rfl⟩,?_⟩;cases z;simp
theorem srtS_len(l:List aY):(nN l).length=l.length:=by unfold nN;rw[dO,U4,dO]
end Rn
theorem But.row{g:Nat}{w w1:World}{cs:Array Value}(h:But g w w1):But g w (w1.setRow g cs):=
 ⟨h.os,h.tape,h.output,by rw[setRow_size];exact h.size,λk hk hp=>by rw[setRow_other _ _ _ _ hp];exact h.block k hk hp⟩
def lS(w:World)(g:Nat)(l:List aY):Prop:=
 ∃cur,w.heap[g]?=some (.cells cur 9 (0,0))/\l.length<=cur.size/\∀(i:Nat) d,l[i]?=some d->cur[i]?=some (.string d)
theorem lS.cell{w:World}{g:Nat}{l:List aY}(h:lS w g l){i:Nat}{d:aY}(hd:l[i]?=some d):w.cell? (X g i)=some (A d):=by obtain⟨cur,hc,_,hel⟩:=h;exact(aj hc _).trans (hel i d hd)
theorem lS.below{w w':World}{g:Nat}{l:List aY}(h:lS w g l)(hb:bG w w'):lS w' g l:=by obtain⟨cur,hc,h1,h2⟩:=h;exact⟨cur,by rw[hb.block g (bq hc)];exact hc,h1,h2⟩
theorem lS.drew{w:World}{g n:Nat}{l:List aY}(h:lS w g l):lS (w.drewN n) g l:=h
theorem lS.set{w:World}{g k:Nat}{l:List aY}(h:lS w g l)(hk:k<l.length)(d:aY):lS (w.setCell (X g k) (A d)) g (l.set k d):=by
 obtain⟨cur,hc,hs,hel⟩:=h;have h0:=aO hc k (A d);refine⟨_,h0,by simpa using hs,λi x hx=>?_⟩;rw[List.getElem?_set]at hx;by_cases e:k=i;·subst e;simp[hk]at hx;subst hx;simp[Xm];omega
 ·rw[aJ e]at hx;rw[GJ aX];exact hel i x hx
theorem RV{w:World}{g k n c:Nat}{cur:Array Value}(hc:w.heap[g]?=some (.cells cur 9 (0,0)))(hn:0<n)(hs:k+n<=cur.size)(ty:TypeId):(Builtin.clear_ #[22] ty #[Y (some (X g k)) n c]).run prog w=.ok (.tuple #[]) (w.setRow g (cur.toList.take k++(Builtin.zeroCells (A ⟨#[]⟩).cells n).toList++cur.toList.drop (k+(Builtin.zeroCells (A ⟨#[]⟩).cells n).toList.length)).toArray):=by
 have hz:(Builtin.zeroCells (A ⟨#[]⟩).cells n).toList.length=n:=by simp[Builtin.zeroCells,Value.cells]
 have h1:∀v∈(Builtin.zeroCells (A ⟨#[]⟩).cells n).toList,v.oneCell'=true:=by intro v hv;simp[Builtin.zeroCells,Value.cells]at hv;obtain⟨a,ha,rfl⟩:=hv;rw[Nat.mod_one];rfl
 have hst:=run_storeCells_at prog g k 9 (Builtin.zeroCells (A ⟨#[]⟩).cells n).toList 0 cur w hc (by rw[hz];omega) h1;obtain⟨m,rfl⟩:∃m,n=m+1:=⟨n - 1,by omega⟩;simp only[rY]at hst;simp[Builtin.clear_,run_underlying underlying22,hst]
theorem lS.clear{w:World}{g k:Nat}{l:List aY}{zs:List Value}{cur:Array Value}(h:lS w g l)(hc:w.heap[g]?=some (.cells cur 9 (0,0)))(hk:k<=l.length)(m:Nat):lS (w.setRow g (cur.toList.take k++zs++cur.toList.drop m).toArray) g (l.take k):=by
 obtain⟨cur',hc',hs,hel⟩:=h;rw[hc]at hc';simp at hc';subst hc';have hkl:(l.take k).length=k:=by rw[jB];omega
 refine⟨_,setRow_heap w g cur _ 9 (0,0) hc,?_,λi d hd=>?_⟩;·rw[hkl];simp;omega
 ·have hik:i<k:=by have:=(dK.1 hd).1;omega
  rw[qL hik]at hd;have a0:=hel i d hd;rw[wm,iy,pQ (by simp;omega),qL hik];simpa using a0
theorem Mh{l:List aY}{c K:Nat}{C:List aY}(hc:c=C.length)(hK:c<=K):(C++l.drop c)[K]?=l[K]?:=by subst hc;rw[oq hK,ZQ58Z];congr 1;omega
theorem row_setS{l:List aY}{c:Nat}{C:List aY}(hc:c=C.length)(hl:c<l.length)(x:aY):(C++l.drop c).set c x=(C++[x])++l.drop (c+1):=by subst hc;rw[List.set_append_right _ _ (bE _),mE,U5 hl,dM];simp
namespace Rn
def Bg(a b:Int):Bool:=a==b
theorem CS{a b:Int}:Bg a b=true↔a=b:=by unfold Bg;rw[beq_iff_eq]
def yB(acc:List Int)(x:Int):List Int:=match acc.getLast? with
 | some y=>if Bg x y then acc else acc++[x]
 | none=>acc++[x]
def jT(l:List Int):List Int:=l.foldl yB []
theorem Xn(acc:List Int)(x:Int):(yB acc x).getLast?=some x:=by
 unfold yB;split
 ·rename_i y h;split;·rename_i hs;rw[CS]at hs;subst hs;exact h
  ·simp
 ·simp
theorem Xo(l:List Int)(x:Int):jT (l++[x])=yB (jT l) x:=by unfold jT;simp
theorem CU{l:List Int}{j:Nat}{x:Int}(h:l[j]?=some x):jT (l.take (j+1))=yB (jT (l.take j)) x:=by rw[gy,h];exact Xo _ _
theorem Xp{l:List Int}{j:Nat}{x:Int}(h:l[j]?=some x):(jT (l.take (j+1))).getLast?=some x:=by rw[CU h];exact Xn _ _
theorem CV{l:List Int}{j:Nat}{x y:Int}(h:l[j]?=some y)(h':l[j+1]?=some x):jT (l.take (j+1+1))=if Bg x y then jT (l.take (j+1))else jT (l.take (j+1))++[x]:=by rw[CU h'];have:=Xp h;unfold yB;rw[this]
theorem cptI_len(l:List Int):(jT l).length<=l.length:=by
 have h:∀(l acc:List Int),(l.foldl yB acc).length<=acc.length+l.length:=by
  intro l;induction l with
  | nil=>intro acc;simp
  | cons x r ih=>
   intro acc;have h1:=ih (yB acc x);have h2:(yB acc x).length<=acc.length+1:=by
    unfold yB;split;·split<;>simp
    ·simp
   simp only[rF,yI];omega
 simpa[jT]using h l []
theorem OY(acc:List Int)(x z:Int):z∈yB acc x↔z∈acc\/z=x:=by
 unfold yB;split
 ·rename_i y h;split;·rename_i hs;rw[CS]at hs;subst hs;have hm:x∈acc:=OX h;exact⟨aR,λhx=>hx.elim id (λe=>e ▸ hm)⟩
  ·simp
 ·simp
theorem cptI_mem(l:List Int)(z:Int):z∈jT l↔z∈l:=by
 have h:∀(l acc:List Int),z∈l.foldl yB acc↔z∈acc\/z∈l:=by
  intro l;induction l with
  | nil=>intro acc;simp
  | cons x r ih =>intro acc;rw[rF,ih,OY,fK,or_assoc]
 simpa[jT]using h l []
theorem Km{l:List Int}(h:∀(j:Nat) x y,l[j]?=some y->l[j+1]?=some x->Bg x y=false):∀j,j<=l.length->jT (l.take j)=l.take j:=by
 intro j;induction j with
 | zero=>intro _;rfl
 | succ j ih=>
  intro hj;cases j with
  | zero =>have hx:l[0]?=some l[0]:=bD aX;rw[CU hx];simp[jT,yB,gy,hx]
  | succ j =>have hy:l[j]?=some l[j]:=bD aX;have hx:l[j+1]?=some l[j+1]:=bD aX;rw[CV hy hx,h j _ _ hy hx,ih aX];rw[gy (i:=j+1),hx];simp
def tq(l:List Int):List Int:=l.mergeSort λx y=>decide (x<=y)
theorem srtI_mem(l:List Int)(z:Int):z∈tq l↔z∈l:=by unfold tq;rw[List.mem_mergeSort]
theorem OZ(l:List Int):(tq l).length=l.length:=by unfold tq;rw[U4]
theorem O1(l:List Int):(tq l).Pairwise (·<=·):=by have:=List.pairwise_mergeSort (le:=λx y:Int=>decide (x<=y)) (λa b c h k=>by simp at *;omega) (λa b=>by simp;omega) l;unfold tq;exact this.imp λh=>by simpa using h
def Ju(l:List Int):Prop:=l.Pairwise (·<·)
theorem cptI_asc{l:List Int}(hs:l.Pairwise (·<=·)):Ju (jT l):=by
 have h:∀(l acc:List Int),Ju acc->l.Pairwise (·<=·)->(∀a∈acc,∀y∈l,a<=y)->Ju (l.foldl yB acc):=by
  intro l;induction l with
  | nil=>intro acc h _ _;exact h
  | cons x r ih=>
   intro acc ha hl hc;rw[rF];rw[rU]at hl;refine ih _ ?_ hl.2 (λa ha' y hy=>?_)
   ·unfold yB;split
    ·rename_i y hy;split;·exact ha
     ·rename_i hne;refine CW.2 ⟨ha,List.pairwise_singleton _ _,λa ha' b hb=>?_⟩;rw[dD]at hb;subst hb;have h1:=hc a ha' b dx;have h2:a≠b:=by
       intro e;subst e;obtain⟨i,rfl⟩:∃t,acc=t++[y]:=List.getLast?_eq_some_iff.1 hy;have h3:=hc y dx a dx;have h4:a<=y:=by
        rcases bZ.1 ha' with h5|h5;·have:=(CW.1 ha).2.2 a h5 y dx;omega
        ·rw[dD]at h5;omega
       exact hne (CS.2 aX)
      omega
    ·rename_i hn;have:acc=[]:=List.getLast?_eq_none_iff.1 hn;subst this;simp[Ju]
   ·rw[OY]at ha';rcases ha' with h1|h1;·exact hc a h1 y (by simp[hy])
    ·subst h1;exact hl.1 y hy
 exact h l [] List.Pairwise.nil hs (λa ha=>aM ha dx)
theorem U6:∀{a b:List Int},Ju a->Ju b->(∀x,x∈a↔x∈b)->a=b:=by
 intro a;induction a with
 | nil=>
  intro b _ _ h;cases b with
  | nil=>rfl
  | cons y r=>exact aM ((h y).2 dx) dx
 | cons x r ih=>
  intro b ha hb h;cases b with
  | nil=>exact aM ((h x).1 dx) dx
  | cons y s=>
   unfold Ju at ha hb;rw[rU]at ha hb;have hxy:x=y:=by
    obtain⟨h1,h2⟩:=eY ((h x).1 dx) ((h y).2 dx);rcases fK.1 h1 with e|e;·exact e
    ·rcases fK.1 h2 with e'|e';·exact e'.symm
     ·have:=hb.1 x e;have:=ha.1 y e';omega
   subst hxy;congr 1;refine ih ha.2 hb.2 λz=>?_;have hz:=h z;rw[fK,fK]at hz;constructor
   ·intro hz';rcases hz.1 (aV hz')with e|e;·subst e;exact aM (ha.1 z hz') aX
    ·exact e
   ·intro hz';rcases hz.2 (aV hz')with e|e;·subst e;exact aM (hb.1 z hz') aX
    ·exact e
theorem cpt_srtI(l:List Int):Ju (jT (tq l))/\∀x,x∈jT (tq l)↔x∈l:=⟨cptI_asc (O1 l),λx=>by rw[cptI_mem,srtI_mem]⟩
end Rn
def jN(w:World)(g:Nat)(l:List Int):Prop:=
 ∃cur,w.heap[g]?=some (.cells cur 3 (0,0))/\l.length<=cur.size/\∀(i:Nat) d,l[i]?=some d->cur[i]?=some (.int .i64 d)
theorem jN.cell{w:World}{g:Nat}{l:List Int}(h:jN w g l){i:Nat}{d:Int}(hd:l[i]?=some d):w.cell? (X g i)=some (O d):=by obtain⟨cur,hc,_,hel⟩:=h;exact(aj hc _).trans (hel i d hd)
theorem jN.below{w w':World}{g:Nat}{l:List Int}(h:jN w g l)(hb:bG w w'):jN w' g l:=by obtain⟨cur,hc,h1,h2⟩:=h;exact⟨cur,by rw[hb.block g (bq hc)];exact hc,h1,h2⟩
theorem jN.drew{w:World}{g n:Nat}{l:List Int}(h:jN w g l):jN (w.drewN n) g l:=h
theorem jN.set{w:World}{g k:Nat}{l:List Int}(h:jN w g l)(hk:k<l.length)(d:Int):jN (w.setCell (X g k) (O d)) g (l.set k d):=by
 obtain⟨cur,hc,hs,hel⟩:=h;have h0:=aO hc k (O d);refine⟨_,h0,by simpa using hs,λi x hx=>?_⟩;rw[List.getElem?_set]at hx;by_cases e:k=i;·subst e;simp[hk]at hx;subst hx;simp[Xm];omega
 ·rw[aJ e]at hx;rw[GJ aX];exact hel i x hx
theorem RX{w:World}{g k n c:Nat}{cur:Array Value}(hc:w.heap[g]?=some (.cells cur 3 (0,0)))(hn:0<n)(hs:k+n<=cur.size)(ty:TypeId):(Builtin.clear_ #[27] ty #[Y (some (X g k)) n c]).run prog w=.ok (.tuple #[]) (w.setRow g (cur.toList.take k++(Builtin.zeroCells (O 0).cells n).toList++cur.toList.drop (k+(Builtin.zeroCells (O 0).cells n).toList.length)).toArray):=by
 have hz:(Builtin.zeroCells (O 0).cells n).toList.length=n:=by simp[Builtin.zeroCells,Value.cells]
 have h1:∀v∈(Builtin.zeroCells (O 0).cells n).toList,v.oneCell'=true:=by intro v hv;simp[Builtin.zeroCells,Value.cells]at hv;obtain⟨a,ha,rfl⟩:=hv;rw[Nat.mod_one];rfl
 have hst:=run_storeCells_at prog g k 3 (Builtin.zeroCells (O 0).cells n).toList 0 cur w hc (by rw[hz];omega) h1;obtain⟨m,rfl⟩:∃m,n=m+1:=⟨n - 1,by omega⟩;simp only[rY]at hst;simp[Builtin.clear_,run_underlying underlying27,hst]
theorem jN.clear{w:World}{g k:Nat}{l:List Int}{zs:List Value}{cur:Array Value}(h:jN w g l)(hc:w.heap[g]?=some (.cells cur 3 (0,0)))(hk:k<=l.length)(m:Nat):jN (w.setRow g (cur.toList.take k++zs++cur.toList.drop m).toArray) g (l.take k):=by
 obtain⟨cur',hc',hs,hel⟩:=h;rw[hc]at hc';simp at hc';subst hc';have hkl:(l.take k).length=k:=by rw[jB];omega
 refine⟨_,setRow_heap w g cur _ 3 (0,0) hc,?_,λi d hd=>?_⟩;·rw[hkl];simp;omega
 ·have hik:i<k:=by have:=(dK.1 hd).1;omega
  rw[qL hik]at hd;have a0:=hel i d hd;rw[wm,iy,pQ (by simp;omega),qL hik];simpa using a0
theorem Mi{l:List Int}{c K:Nat}{C:List Int}(hc:c=C.length)(hK:c<=K):(C++l.drop c)[K]?=l[K]?:=by subst hc;rw[oq hK,ZQ58Z];congr 1;omega
theorem row_setI{l:List Int}{c:Nat}{C:List Int}(hc:c=C.length)(hl:c<l.length)(x:Int):(C++l.drop c).set c x=(C++[x])++l.drop (c+1):=by subst hc;rw[List.set_append_right _ _ (bE _),mE,U5 hl,dM];simp
theorem Own.form{w:World}{B:Nat}{v:Value}{l:List aY}(h:Own w B v l):∃a c,v=Y a l.length c:=by
 rcases h.shape with⟨rfl,rfl⟩|⟨g,cap,rfl,_⟩;·exact⟨_,_,rfl⟩
 ·exact⟨_,_,rfl⟩
theorem box1_2(w:World)(o:Obj)(c:Value)(t:TypeId):((w.alloc o).alloc (.cells #[c] t)).cell? (X (w.heap.size+1) 0)=some c:=(aj (al2 w o (.cells #[c] t)).2.1 0).trans rfl
theorem Kn(w:World)(n:Nat)(t:TypeId)(vs:List Value)(ls:List (List Dg))(hlen:vs.length=ls.length)(h16:ls.length<=16)(h:∀(i:Nat) v l,vs[i]?=some v->ls[i]?=some l->eF oW w n 80 3 v l):OM (w.alloc (.cells vs.toArray t)) n (Y (some (X w.heap.size 0)) ls.length ls.length) ls:=by
 refine⟨w.heap.size,0,ls.length,rfl,h16,λi l hl=>?_⟩;have hi:i<vs.length:=by rw[hlen];exact(dK.1 hl).1
 refine⟨vs[i],?_,(h i _ l (bD hi) hl).below (aH _ _)⟩;rw[eD,aj (aZ w (.cells vs.toArray t)) i];simp[hi]
theorem O4{α:Type}(l:List α)(f:α->aY)(j:Nat):((l.take j).map f).length<=l.length:=by rw[dO,jB];omega
theorem GK(m:Nat)(w:World)(vi vv vf:Value)(x:Mo)(h:iY w m (.agg #[A x.name,vi,vv,vf]) x)(hc:yR w vi vf)(hlv:x.vars.length<=1048576)(hlf:x.bg.length<=1048576)(hlen:(twD x).length<=16777216):Calls prog 101 #[.agg #[A x.name,vi,vv,vf]] w λe w'=>∃u,e=dz u/\eF oW w' w.heap.size 80 3 u (twD x)/\bG w w':=by
 obtain⟨hI,hV,hF⟩:=h.split;have HIC:Hid (vW w vi x.imports):=by refine I ⟨hI,?_⟩;obtain⟨a,b,off,c,rfl,_⟩:=hI;exact⟨a,c,rfl,hc.imp _ _ _ rfl⟩
 obtain⟨ai,bi,oi,ci,rfl,-⟩:=hI;obtain⟨av,bv,ov,cv,rfl,hav,-,hcv⟩:=hV;obtain⟨af,bf,of,cf,rfl,UJ,-,hcf⟩:=hF;obtain⟨HCV,HAV⟩:=bU hcv hav;have RJ:Hid (Jj w m bf of x.bg):=hcf;obtain⟨QZ,Y7⟩:=bU UJ hc;have I8:Hid (twD x=[D8 ⟨#[]⟩ x.imports,D8 ⟨#[]⟩ (x.vars.map (·.name)),D8 ⟨#[]⟩ (x.bg.map (·.name))].flatten++x.bg.flatMap λf=>D8 f.name f.params):=rfl;have jH:=I hlen;rw[I8]at jH;obtain⟨R,hR⟩:=bC (twD x);rw[<-hR]at I8 ⊢;obtain⟨T1,hT1⟩:=bC (D8 ⟨#[]⟩ x.imports);obtain⟨T2,hT2⟩:=bC (D8 ⟨#[]⟩ (x.vars.map (·.name)));obtain⟨T3,hT3⟩:=bC (D8 ⟨#[]⟩ (x.bg.map (·.name)));obtain⟨HT1,HT2,HT3⟩:=fD hT1 hT2 hT3;rw[<-hT1,<-hT2,<-hT3]at I8 jH;have wH:Hid (T1.length+T2.length+T3.length+(x.bg.flatMap λf=>D8 f.name f.params).length<=16777216):=I (by have:=jH.out;simp only[uY,GL,gB,aT]at this;omega);obtain⟨vars,hvars⟩:=bC x.vars;obtain⟨bg,OJ⟩:=bC x.bg;rw[<-hvars]at hlv HCV HAV HT2 ⊢;rw[<-OJ]at hlf RJ QZ I8 HT3 wH Y7 ⊢;obtain⟨nv,D6⟩:=bC vars.length;obtain⟨nf,hnf⟩:=bC bg.length;obtain⟨U1,wB⟩:=bU D6 hnf;rw[<-D6]at hlv HAV ⊢;rw[<-hnf]at hlf QZ Y7 ⊢;generalize x.imports.length=ni at *;generalize x.name=xn at *;obtain⟨HB0,dQ⟩:=rZ w (aW #[A xn,Y ai ni ci,Y av nv cv,Y af nf cf] 58);obtain⟨q1,q2,q3⟩:=l9 (DN w (A xn) (Y ai ni ci) (Y av nv cv) (Y af nf cf) 58) (DR w (A xn) (Y ai ni ci) (Y av nv cv) (Y af nf cf) 58) (DK w (A xn) (Y ai ni ci) (Y av nv cv) (Y af nf cf) 58);clear hcv hav hcf UJ hlen hR hvars OJ D6 hnf h hc hT1 hT2 hT3;go_enter func101,ntmps101;go_wp2_with fail;generalize (w.alloc (aW #[A xn,Y ai ni ci,Y av nv cv,Y af nf cf] 58))=W1 at *;go_loopw[3,15] (λv i wr=>∃j:Nat,j<=nv/\i=O j/\Own wr W1.heap.size v ((vars.take j).map (·.name))/\bG W1 wr) (λ_ i _=>nv - (intOf i).toNat);case atStart=>exact⟨0,bL _,rfl,kg _ _ _ _,bP _ _⟩
 case round=>
  obtain⟨j,hj,rfl,hown,hnx⟩:=hrel;obtain⟨HOW,fO⟩:=bU hown hnx;by_cases hjl:j<nv
  ·obtain⟨y,hy⟩:∃y,vars[j]?=some y:=⟨_,bD (by rw[<-U1];exact hjl)⟩;obtain⟨-,-,g0,g1⟩:=HCV j y hy;obtain rfl:=HAV aX;replace g0:=aD g0 (up HB0 hnx);replace g1:=aD g1 (up HB0 hnx);obtain⟨HST,d9⟩:=bU (Gm (f:=λv:Va=>v.name) hy) (aH wr (aW #[A y.name,A y.level] 93));obtain⟨c0,hml⟩:=eY ((aj (aZ wr (aW #[A y.name,A y.level] 93)) 0).trans (rfl:_=some (A y.name))) (O4 vars (·.name) j);rw[<-U1]at hml;obtain⟨a3,c3,rfl⟩:=hown.form;obtain⟨ln,hln⟩:=bC (((vars.take j).map (·.name)).length);have U7:=I hln;rw[<-hln]at HOW hml ⊢;clear hy hown hnx hln
   go_wp2_with (first
    | (at_builtin;refine j4 rfl _ _ rfl W1.heap.size _ _ rfl (eZ HOW (up d9 (aH _ _))) _ y.name rfl (box1_2 _ _ _ _) (by have:=U7.out;omega) (bF fO.out.size (up d9 (aH _ _)).size) ?_;intro v6 w6 hown6 dZ;have nJ:=I hown6;have sj:=I (jI (up fO (up d9 (aH _ _))) dZ (λj hj=>(Cy HOW j hj).1));clear hown6 dZ)
    | fail)
   go_roundw;case rel=>exact⟨j+1,by omega,by go_num,by rw[HST];exact nJ,sj⟩
   case measure=>simp[intOf];omega
  ·have vH:(vars.take j)=vars:=fU (by have:=U1.out;omega);rw[vH]at HOW hown;obtain⟨a3,c3,rfl⟩:=hown.form;obtain⟨ln,hln⟩:=bC ((vars.map (·.name)).length);rw[<-hln]at HOW ⊢;replace q1:=aD q1 hnx;replace q3:=aD q3 hnx;have HQ:=I (And.intro q1 q3);clear vH hown hnx hln q2;obtain⟨wo,rfl⟩:=bC wr;go_wp2_with fail;go_loopw[4,28] (λv i wx=>∃t:Nat,t<=nf/\i=O t/\Own wx wo.heap.size v ((bg.take t).map (·.name))/\bG wo wx) (λ_ i _=>nf - (intOf i).toNat);case atStart=>exact⟨0,bL _,rfl,kg _ _ _ _,bP _ _⟩
   case round=>
    obtain⟨t,ht,rfl,hown,hnx⟩:=hrel;obtain⟨Y8,HX4⟩:=bU hown hnx;by_cases htl:t<nf
    ·obtain⟨y,hy⟩:∃y,bg[t]?=some y:=⟨_,bD (by rw[<-wB];exact htl)⟩;obtain⟨-,vp,vb,e0,e1,e2,e3,g0,g1,g2,g3,g4,g5,g6,hp,hb,hx⟩:=RJ t y hy;obtain rfl:=QZ aX;have hbb:=up (up HB0 fO) hnx;replace g0:=aD g0 hbb;replace g1:=aD g1 hbb;replace g2:=aD g2 hbb;replace g3:=aD g3 hbb;replace g4:=aD g4 hbb;replace g5:=aD g5 hbb;replace g6:=aD g6 hbb;obtain⟨ap,bp,op,cp,rfl,-⟩:=hp;obtain⟨sb,cb',rfl⟩:=hb.rT;obtain⟨xa,xc,rfl,rfl,rfl,rfl⟩:=hx.shape;generalize y.params.length=np at *;generalize y.body.length=nb at *;generalize y.result.args.length=ne at *;obtain⟨HST,d9⟩:=bU (Gm (f:=λv:Fu=>v.name) hy) (aH wr (aW #[A y.name,Y ap np cp,Y sb nb cb',O y.result.kind,O y.result.n,A y.result.name,Y xa ne xc] 109));obtain⟨c0,hml⟩:=eY ((aj (aZ wr (aW #[A y.name,Y ap np cp,Y sb nb cb',O y.result.kind,O y.result.n,A y.result.name,Y xa ne xc] 109)) 0).trans (rfl:_=some (A y.name))) (O4 bg (·.name) t);rw[<-wB]at hml;obtain⟨a4,c4,rfl⟩:=hown.form;obtain⟨l4,hl4⟩:=bC (((bg.take t).map (·.name)).length);have yO:=I hl4;rw[<-hl4]at Y8 hml ⊢;clear hy hown hnx hl4 hb hx hbb q1 q3
     go_wp2_with (first
      | (at_builtin;refine j4 rfl _ _ rfl wo.heap.size _ _ rfl (eZ Y8 (up d9 (aH _ _))) _ y.name rfl (box1_2 _ _ _ _) (by have:=yO.out;omega) (bF HX4.out.size (up d9 (aH _ _)).size) ?_;intro v6 w6 hown6 dZ;have nJ:=I hown6;have sj:=I (jI (up HX4 (up d9 (aH _ _))) dZ (λj hj=>(Cy Y8 j hj).1));clear hown6 dZ)
      | fail)
     go_roundw;case rel=>exact⟨t+1,by omega,by go_num,by rw[HST];exact nJ,sj⟩
     case measure=>simp[intOf];omega
    ·have vH:(bg.take t)=bg:=fU (by have:=wB.out;omega);rw[vH]at Y8 hown;have HS3:Hid (vW wr (Y a3 ln c3) (vars.map (·.name))):=I (Own.Us (eZ HOW HX4) (λs hs=>by obtain⟨y,hy,rfl⟩:=jP.1 hs;obtain⟨i,hi,rfl⟩:=gZ.1 hy;exact(HCV i _ (bD hi)).1) (by rw[dO,<-U1];omega));obtain⟨a4,c4,rfl⟩:=hown.form;obtain⟨l4,hl4⟩:=bC ((bg.map (·.name)).length);rw[<-hl4]at Y8 ⊢;have HS4:Hid (vW wr (Y a4 l4 c4) (bg.map (·.name))):=I (Own.Us Y8 (λs hs=>by obtain⟨y,hy,rfl⟩:=jP.1 hs;obtain⟨i,hi,rfl⟩:=gZ.1 hy;exact(RJ i _ (bD hi)).1) (by rw[dO,<-wB];omega));have iA:=I (up (up HB0 fO) hnx);replace q1:=aD q1 hnx;have HQ3:=I (aD HQ.2 hnx);clear vH hown hnx hl4 q3;go_wp2_with fail;refine(mM wr _ x.imports ⟨#[]⟩ (HIC.below iA) (by rw[<-HT1];have:=wH.out;omega)).mono ?_;rintro e w5 ⟨u5,rfl,hu5,hb5⟩;rw[<-HT1]at hu5;obtain⟨HU5,d9⟩:=bU hu5 hb5;obtain⟨a5,c5,rfl⟩:=hu5.form;clear hu5 hb5 q1;generalize hz5:T1.length=t1 at *;go_wp2_with fail;refine(mM w5 _ (vars.map (·.name)) ⟨#[]⟩ (HS3.below d9) (by rw[<-HT2];have:=wH.out;omega)).mono ?_;rintro e w6 ⟨u6,rfl,hu6,hb6⟩;rw[<-HT2]at hu6;obtain⟨HU6,dX⟩:=bU hu6 hb6;obtain⟨a6,c6,rfl⟩:=hu6.form;clear hu6 hb6;generalize yj:T2.length=t2 at *;go_wp2_with fail;refine(mM w6 _ (bg.map (·.name)) ⟨#[]⟩ ((HS4.below d9).below dX) (by rw[<-HT3];have:=wH.out;omega)).mono ?_;rintro e w7 ⟨u7,rfl,hu7,sW⟩;rw[<-HT3]at hu7;obtain⟨HU7,jG⟩:=bU hu7 sW;obtain⟨a7,c7,rfl⟩:=hu7.form;clear hu7 sW;generalize RY:T3.length=t3 at *
     have HDS:Hid (OM (w7.alloc (aW #[Y a5 t1 c5,Y a6 t2 c6,Y a7 t3 c7] 59)) wr.heap.size (Y (some (X w7.heap.size 0)) 3 3) [T1,T2,T3]):=
      I (Kn w7 wr.heap.size 59 [Y a5 t1 c5,Y a6 t2 c6,Y a7 t3 c7] [T1,T2,T3] rfl dx (λi v l hv hl=>by
       match i,hv,hl with
       | 0,hv,hl=>simp at hv hl;subst hv hl;exact(HU5.below dX).below jG
       | 1,hv,hl=>simp at hv hl;subst hv hl;exact(HU6.below jG).old d9.size
       | 2,hv,hl=>simp at hv hl;subst hv hl;exact HU7.old (bF d9.out.size dX.size)
       | i+3,hv,hl=>simp at hv))
     have HC3:Hid (([T1,T2,T3]:List (List Dg)).flatten.length<=16777216):=I (by have:=wH.out;simp only[uY,GL,gB,aT];omega);have vJ:=I (up (up (up iA d9) dX) (up jG (aH w7 (aW #[Y a5 t1 c5,Y a6 t2 c6,Y a7 t3 c7] 59))));have hq3:=aD (aD (aD (aD HQ3 d9) dX) jG) (aH w7 (aW #[Y a5 t1 c5,Y a6 t2 c6,Y a7 t3 c7] 59));have HQ8:=I hq3;clear hq3;go_wp2_with fail;refine(D7 _ _ _ _ HDS HC3).mono ?_;rintro e w9 ⟨u9,rfl,RZ,uh⟩;obtain⟨HU9,xX⟩:=bU (RZ.old vJ.size) (up vJ uh);have q9:=aD HQ8 uh;obtain⟨F,hF⟩:∃F,F=([T1,T2,T3]:List (List Dg)).flatten:=⟨_,rfl⟩;have HF:=I hF;rw[<-hF]at HU9 RZ;obtain⟨a9,c9,rfl⟩:=RZ.form;generalize hz9:F.length=t9 at *;have Cc:Hid (F.length+(bg.flatMap λf=>D8 f.name f.params).length<=16777216):=I (by have:=wH.out;rw[HF];simp only[uY,GL,gB,aT];omega);rw[<-HF]at I8;clear RZ uh hF;go_wp2_with fail;go_loopw[9,50] (λv i wx=>∃t:Nat,t<=nf/\i=O t/\eF oW wx w.heap.size 80 3 v (F++(bg.take t).flatMap λf=>D8 f.name f.params)/\bG w wx) (λ_ i _=>nf - (intOf i).toNat);case atStart=>exact⟨0,bL _,rfl,by simpa using HU9.out,xX.out⟩
     case round=>
      obtain⟨s,hs,rfl,hown,hnx⟩:=hrel;obtain⟨Y8,HX4⟩:=bU hown hnx;by_cases hsl:s<nf
      ·obtain⟨y,hy⟩:∃y,bg[s]?=some y:=⟨_,bD (by rw[<-wB];exact hsl)⟩;obtain⟨-,vp,vb,e0,e1,e2,e3,g0,g1,g2,g3,g4,g5,g6,hp,hb,hx⟩:=RJ s y hy;obtain rfl:=QZ aX;have vI:Hid (vW w vp y.params):=by refine I ⟨hp,?_⟩;obtain⟨vp',k1,k2⟩:=Y7.par bf of nf cf rfl s hsl;rw[g1]at k1;cases k1;obtain⟨a,b,off,c,rfl,_⟩:=hp;exact⟨a,c,rfl,k2 _ _ _ rfl⟩
       have HST:=I (jy (f:=λf:Fu=>D8 f.name f.params) hy);have fH:Hid ((F++(bg.take s).flatMap λf=>D8 f.name f.params).length+(D8 y.name y.params).length<=16777216):=I (by have h1:=uD (f:=λf:Fu=>D8 f.name f.params) (l:=bg) (s+1);rw[HST,aT]at h1;have h2:=Cc.out;rw[aT];omega);replace g0:=aD g0 hnx;replace g1:=aD g1 hnx;replace g2:=aD g2 hnx;replace g3:=aD g3 hnx;replace g4:=aD g4 hnx;replace g5:=aD g5 hnx;replace g6:=aD g6 hnx;obtain⟨ap,bp,op,cp,rfl,-⟩:=hp;obtain⟨sb,cb',rfl⟩:=hb.rT;obtain⟨xa,xc,rfl,rfl,rfl,rfl⟩:=hx.shape;generalize y.params.length=np at *;generalize y.body.length=nb at *;generalize y.result.args.length=ne at *;have d9:=I (aH wr (aW #[A y.name,Y ap np cp,Y sb nb cb',O y.result.kind,O y.result.n,A y.result.name,Y xa ne xc] 109));have hbn:=aZ wr (aW #[A y.name,Y ap np cp,Y sb nb cb',O y.result.kind,O y.result.n,A y.result.name,Y xa ne xc] 109);obtain⟨c0,c1⟩:=eY ((aj hbn 0).trans (rfl:_=some (A y.name))) ((aj hbn 1).trans (rfl:_=some (Y ap np cp)));obtain⟨a4,c4,rfl⟩:=hown.form;obtain⟨l4,hl4⟩:=bC ((F++(bg.take s).flatMap λf=>D8 f.name f.params).length);rw[<-hl4]at Y8 ⊢;clear hy hown hnx hl4 hb hx hbn;go_wp2_with fail;refine(mM _ _ y.params y.name (vI.below (up HX4 d9)) (by have:=fH.out;omega)).mono ?_;rintro e w5 ⟨u5,rfl,hu5,hb5⟩;obtain⟨HU5,dX⟩:=bU hu5 (up d9 hb5);clear hu5 hb5
       go_wp2_with (first
        | (at_builtin;refine fZ (At:=oW) rfl _ _ 59 80 3 40 _ rfl underlying59 oZ bO bO bO w.heap.size _ _ rfl (Y8.below dX) _ _ _ rfl HU5 fH (up HX4 dX).size ?_;intro v6 w6 hown6 dZ;have nJ:=I hown6;have sj:=I (jI (up HX4 dX) dZ (λj hj=>(Y8.lt j hj).1));clear hown6 dZ)
        | fail)
       go_roundw;case rel=>exact⟨s+1,by omega,by go_num,by rw[HST,<-iy];exact nJ,sj⟩
       case measure=>simp[intOf];omega
      ·have vH:(bg.take s)=bg:=fU (by have:=wB.out;omega);rw[vH,<-I8]at Y8 hown;obtain⟨a4,c4,rfl⟩:=hown.form;generalize R.length=nr at *;clear hown hnx vH;go_wp2_with fail;go_ret;exact⟨_,rfl,Y8,HX4⟩
end Go.Proofs.YtbgkpehhdibaoaaGreatDoor
