import Derived.Test.YtageneidjnbedaaGreatDoorTZAN
set_option maxHeartbeats 0
set_option maxRecDepth 99999
namespace Go.Proofs.YtageneidjnbedaaGreatDoor
open bO
open Go.Proofs.Tryz
open Go.RowKit Go.Shelf
namespace Rn
theorem dM{a b:aS}:cB a b=true↔a=b:=by
 unfold cB;rw[beq_iff_eq];constructor;·intro h;rw[A8,A8]at h;cases a;cases b;simp only[ByteArray.mk.injEq];exact Array.toList_inj.1 h
 ·intro h;rw[h]
def BS(acc:List aS)(x:aS):List aS:=match acc.getLast? with
 | some y=>if cB x y then acc else acc++[x]
 | none=>acc++[x]
def gP(l:List aS):List aS:=l.foldl BS []
theorem aaC(acc:aJ)(x:aS):(BS acc x).getLast?=some x:=by
 unfold BS;split
 ·rename_i y h;split;·rename_i a;rw[dM]at a;subst a;exact h
  ·simp
 ·simp
theorem aaD(l:aJ)(x:aS):gP (l++[x])=BS (gP l) x:=by unfold gP;simp
theorem zZ{l:aJ}{j:Nat}{x:aS}(h:l[j]?=some x):gP (l.take<|j+1)=BS (gP<|l.take j) x:=by rw[gy,h];exact aaD _ _
theorem aaE{l:aJ}{j:Nat}{x:aS}(h:l[j]?=some x):(gP<|l.take<|j+1).getLast?=some x:=by rw[zZ h];exact aaC _ _
theorem vS{l:aJ}{j:Nat}{x y:aS}(h:l[j]?=some y)(a:l[j+1]?=some x):gP (l.take<|j+1+1)=if cB x y then gP (l.take<|j+1)else gP (l.take<|j+1)++[x]:=by rw[zZ a];have:=aaE h;unfold BS;rw[this]
theorem adR(acc:aJ)(x a:aS):a∈BS acc x↔a∈acc\/a=x:=by
 unfold BS;split
 ·rename_i y h;split;·rename_i b;rw[dM]at b;subst b;have e:x∈acc:=SC h;exact⟨aO,λf=>f.elim id (λd=>d ▸ e)⟩
  ·simp
 ·simp
theorem yY(l:aJ)(a:aS):a∈gP l↔a∈l:=by
 have h:∀(l acc:aJ),a∈l.foldl BS acc↔a∈acc\/a∈l:=by
  intro l;induction l with
  | nil=>intro acc;simp
  | cons x r b =>intro acc;rw[pz,b,adR,fV,or_assoc]
 simpa[gP]using h l []
theorem Aa{l:aJ}(h:∀(j:Nat) x y,l[j]?=some y->l[j+1]?=some x->cB x y=false):∀j,j<=l.length->gP (l.take j)=l.take j:=by
 intro j;induction j with
 | zero=>intro _;rfl
 | succ j d=>
  intro e;cases j with
  | zero =>have a:l[0]?=some l[0]:=aZ bC;rw[zZ a];simp[gP,BS,gy,a]
  | succ j =>have b:l[j]?=some l[j]:=aZ bC;have a:l[j+1]?=some l[j+1]:=aZ bC;rw[vS b a,h j _ _ b a,d bC];rw[gy (i:=j+1),a];simp
def jZ(l:List aS):List aS:=((l.map (·.data.toList)).mergeSort λx y=>decide (x<=y)).map λb=>⟨b.toArray⟩
theorem vT(l:aJ)(d:aS):d∈jZ l↔d∈l:=by
 unfold jZ;rw[iZ];constructor
 ·rintro⟨b,e,rfl⟩;rw[List.mem_mergeSort,iZ]at e;obtain⟨a,f,rfl⟩:=e;have:(⟨a.data.toList.toArray⟩:aS)=a:=by cases a;simp
  rw[this];exact f
 ·intro h;refine⟨d.data.toList,by rw[List.mem_mergeSort,iZ];exact⟨d,h,rfl⟩,?_⟩;cases d;simp
theorem J2(l:aJ):(jZ l).length=l.length:=by unfold jZ;rw[dV,SE,dV]
end Rn
theorem But.row{g:Nat}{w w1:bI}{cs:Array aC}(h:But g w w1):But g w (w1.setRow g cs):=
 ⟨h.os,h.tape,h.output,by rw[setRow_size];exact h.size,λk b a=>by rw[setRow_other _ _ _ _ a];exact h.block k b a⟩
def ji(w:bI)(g:Nat)(l:List aS):Prop:=
 ∃a,w.heap[g]?=some (.cells a 9 (0,0))/\l.length<=a.size/\∀(i:Nat) d,l[i]?=some d->a[i]?=some (.string d)
theorem ji.cell{w:bI}{g:Nat}{l:aJ}(h:ji w g l){i:Nat}{d:aS}(b:l[i]?=some d):bJ w g i=some (A d):=by obtain⟨f,a,_,e⟩:=h;exact(aj a _).trans (e i d b)
theorem ji.below{w w':bI}{g:Nat}{l:aJ}(h:ji w g l)(f:bK w w'):ji w' g l:=by obtain⟨b,a,d,e⟩:=h;exact⟨b,by rw[f.block g (aR a)];exact a,d,e⟩
theorem ji.drew{w:bI}{g n:Nat}{l:aJ}(h:ji w g l):ji (w.drewN n) g l:=h
theorem ji.set{w:bI}{g k:Nat}{l:aJ}(h:ji w g l)(m:k<l.length)(d:aS):ji (w.setCell (aN g k)<|A d) g (l.set k d):=by
 obtain⟨p,f,n,j⟩:=h;have e:=aP f k<|A d;refine⟨_,e,by simpa using n,λi x a=>?_⟩;rw[List.getElem?_set]at a;by_cases b:k=i;·subst b;simp[m]at a;subst a;simp[RG];omega
 ·rw[aI b]at a;rw[Ij bC];exact j i x a
theorem apG{w:bI}{g k n c:Nat}{b:Array aC}(h:dR w g (.cells b 9 (0,0)))(p:0<n)(q:k+n<=b.size)(j:TypeId):(Builtin.clear_ #[22] j #[X (some<|aN g k) n c]).run prog w=.ok (.tuple #[]) (w.setRow g (b.toList.take k++(Builtin.zeroCells (A ⟨#[]⟩).cells n).toList++b.toList.drop (k+(Builtin.zeroCells (A ⟨#[]⟩).cells n).toList.length)).toArray):=by
 have i:(Builtin.zeroCells (A ⟨#[]⟩).cells n).toList.length=n:=by simp[Builtin.zeroCells,Value.cells]
 have f:∀v∈(Builtin.zeroCells (A ⟨#[]⟩).cells n).toList,v.oneCell'=true:=by intro v e;simp[Builtin.zeroCells,Value.cells]at e;obtain⟨a,l,rfl⟩:=e;rw[Nat.mod_one];rfl
 have d:=run_storeCells_at prog g k 9 (Builtin.zeroCells (A ⟨#[]⟩).cells n).toList 0 b w h (by rw[i];omega) f;obtain⟨m,rfl⟩:∃m,n=m+1:=⟨n - 1,by omega⟩;simp only[sN]at d;simp[Builtin.clear_,run_underlying underlying22,d]
theorem ji.clear{w:bI}{g k:Nat}{l:aJ}{zs:List aC}{a:Array aC}(h:ji w g l)(f:dR w g (.cells a 9 (0,0)))(s:k<=l.length)(m:Nat):ji (w.setRow g (a.toList.take k++zs++a.toList.drop m).toArray) g (l.take k):=by
 obtain⟨r,b,t,p⟩:=h;rw[f]at b;simp at b;subst b;have q:(l.take k).length=k:=by rw[iA];omega
 refine⟨_,setRow_heap w g a _ 9 (0,0) f,?_,λi d e=>?_⟩;·rw[q];simp;omega
 ·have j:i<k:=by have:=(cO.1 e).1;omega
  rw[nM j]at e;have n:=p i d e;rw[yK,iK,jX (by simp;omega),nM j];simpa using n
theorem Ab{l:aJ}{c K:Nat}{C:aJ}(b:c=C.length)(a:c<=K):(C++l.drop c)[K]?=l[K]?:=by subst b;rw[kL a,Rt];congr 1;omega
theorem SF{l:aJ}{c:Nat}{C:aJ}(a:c=C.length)(b:c<l.length)(x:aS):(C++l.drop c).set c x=(C++[x])++l.drop (c+1):=by subst a;rw[List.set_append_right _ _ (bG _),mW,Nw b,dY];simp
namespace Rn
def DR(a b:Int):Bool:=a==b
theorem FL{a b:Int}:DR a b=true↔a=b:=by unfold DR;rw[beq_iff_eq]
def Ay(acc:List Int)(x:Int):List Int:=match acc.getLast? with
 | some y=>if DR x y then acc else acc++[x]
 | none=>acc++[x]
def kQ(l:List Int):List Int:=l.foldl Ay []
theorem aaG(acc:List Int)(x:Int):(Ay acc x).getLast?=some x:=by
 unfold Ay;split
 ·rename_i y h;split;·rename_i a;rw[FL]at a;subst a;exact h
  ·simp
 ·simp
theorem aaH(l:List Int)(x:Int):kQ (l++[x])=Ay (kQ l) x:=by unfold kQ;simp
theorem FM{l:List Int}{j:Nat}{x:Int}(h:l[j]?=some x):kQ (l.take<|j+1)=Ay (kQ<|l.take j) x:=by rw[gy,h];exact aaH _ _
theorem aaI{l:List Int}{j:Nat}{x:Int}(h:l[j]?=some x):(kQ<|l.take<|j+1).getLast?=some x:=by rw[FM h];exact aaG _ _
theorem FN{l:List Int}{j:Nat}{x y:Int}(h:l[j]?=some y)(a:l[j+1]?=some x):kQ (l.take<|j+1+1)=if DR x y then kQ (l.take<|j+1)else kQ (l.take<|j+1)++[x]:=by rw[FM a];have:=aaI h;unfold Ay;rw[this]
theorem adT(l:List Int):(kQ l).length<=l.length:=by
 have h:∀(l acc:List Int),(l.foldl Ay acc).length<=acc.length+l.length:=by
  intro l;induction l with
  | nil=>intro acc;simp
  | cons x r a=>
   intro acc;have b:=a<|Ay acc x;have d:(Ay acc x).length<=acc.length+1:=by
    unfold Ay;split;·split<;>simp
    ·simp
   simp only[pz,vN];omega
 simpa[kQ]using h l []
theorem SG(acc:List Int)(x a:Int):a∈Ay acc x↔a∈acc\/a=x:=by
 unfold Ay;split
 ·rename_i y h;split;·rename_i b;rw[FL]at b;subst b;have e:x∈acc:=SC h;exact⟨aO,λf=>f.elim id (λd=>d ▸ e)⟩
  ·simp
 ·simp
theorem adU(l:List Int)(a:Int):a∈kQ l↔a∈l:=by
 have h:∀(l acc:List Int),a∈l.foldl Ay acc↔a∈acc\/a∈l:=by
  intro l;induction l with
  | nil=>intro acc;simp
  | cons x r b =>intro acc;rw[pz,b,SG,fV,or_assoc]
 simpa[kQ]using h l []
theorem Ny{l:List Int}(h:∀(j:Nat) x y,l[j]?=some y->l[j+1]?=some x->DR x y=false):∀j,j<=l.length->kQ (l.take j)=l.take j:=by
 intro j;induction j with
 | zero=>intro _;rfl
 | succ j d=>
  intro e;cases j with
  | zero =>have a:l[0]?=some l[0]:=aZ bC;rw[FM a];simp[kQ,Ay,gy,a]
  | succ j =>have b:l[j]?=some l[j]:=aZ bC;have a:l[j+1]?=some l[j+1]:=aZ bC;rw[FN b a,h j _ _ b a,d bC];rw[gy (i:=j+1),a];simp
def vU(l:List Int):List Int:=l.mergeSort λx y=>decide (x<=y)
theorem adV(l:List Int)(z:Int):z∈vU l↔z∈l:=by unfold vU;rw[List.mem_mergeSort]
theorem SH(l:List Int):(vU l).length=l.length:=by unfold vU;rw[SE]
theorem SI(l:List Int):(vU l).Pairwise (·<=·):=by have:=List.pairwise_mergeSort (le:=λx y:Int=>decide (x<=y)) (λa b c h k=>by simp at *;omega) (λa b=>by simp;omega) l;unfold vU;exact this.imp λh=>by simpa using h
def MB(l:List Int):Prop:=l.Pairwise (·<·)
theorem adW{l:List Int}(u:l.Pairwise (·<=·)):MB (kQ l):=by
 have h:∀(l acc:List Int),MB acc->l.Pairwise (·<=·)->(∀a∈acc,∀y∈l,a<=y)->MB (l.foldl Ay acc):=by
  intro l;induction l with
  | nil=>intro acc h _ _;exact h
  | cons x r v=>
   intro acc d m k;rw[pz];rw[uT]at m;refine v _ ?_ m.2 (λa e y g=>?_)
   ·unfold Ay;split
    ·rename_i y g;split;·exact d
     ·rename_i s;refine FP.2 ⟨d,List.pairwise_singleton _ _,λa e b n=>?_⟩;rw[dh]at n;subst n;have f:=k a e b cK;have w:a≠b:=by
       intro p;subst p;obtain⟨i,rfl⟩:∃t,acc=t++[y]:=List.getLast?_eq_some_iff.1 g;have z:=k y cK a cK;have B:a<=y:=by
        rcases bX.1 e with j|j;·have:=(FP.1 d).2.2 a j y cK;omega
        ·rw[dh]at j;omega
       exact s<|FL.2 bC
      omega
    ·rename_i q;have:acc=[]:=List.getLast?_eq_none_iff.1 q;subst this;simp[MB]
   ·rw[SG]at e;rcases e with f|f;·exact k a f y (by simp[g])
    ·subst f;exact m.1 y g
 exact h l [] List.Pairwise.nil u (λa d=>aM d cK)
theorem YO:∀{a b:List Int},MB a->MB b->(∀x,x∈a↔x∈b)->a=b:=by
 intro a;induction a with
 | nil=>
  intro b _ _ h;cases b with
  | nil=>rfl
  | cons y r=>exact aM ((h y).2 cK) cK
 | cons x r p=>
  intro b e f h;cases b with
  | nil=>exact aM ((h x).1 cK) cK
  | cons y s=>
   unfold MB at e f;rw[uT]at e f;have n:x=y:=by
    obtain⟨l,m⟩:=eY ((h x).1 cK)<|(h y).2 cK;rcases fV.1 l with d|d;·exact d
    ·rcases fV.1 m with i|i;·exact i.symm
     ·have:=f.1 x d;have:=e.1 y i;omega
   subst n;congr 1;refine p e.2 f.2 λk=>?_;have j:=h k;rw[fV,fV]at j;constructor
   ·intro g;rcases j.1 (aQ g)with d|d;·subst d;exact aM (e.1 k g) bC
    ·exact d
   ·intro g;rcases j.2 (aQ g)with d|d;·subst d;exact aM (f.1 k g) bC
    ·exact d
theorem adX(l:List Int):MB (kQ<|vU l)/\∀x,x∈kQ (vU l)↔x∈l:=⟨adW<|SI l,λx=>by rw[adU,adV]⟩
end Rn
def kH(w:bI)(g:Nat)(l:List Int):Prop:=
 ∃a,w.heap[g]?=some (.cells a 3 (0,0))/\l.length<=a.size/\∀(i:Nat) d,l[i]?=some d->a[i]?=some (.int .i64 d)
theorem kH.cell{w:bI}{g:Nat}{l:List Int}(h:kH w g l){i:Nat}{d:Int}(b:l[i]?=some d):bJ w g i=some (O d):=by obtain⟨f,a,_,e⟩:=h;exact(aj a _).trans (e i d b)
theorem kH.below{w w':bI}{g:Nat}{l:List Int}(h:kH w g l)(f:bK w w'):kH w' g l:=by obtain⟨b,a,d,e⟩:=h;exact⟨b,by rw[f.block g (aR a)];exact a,d,e⟩
theorem kH.drew{w:bI}{g n:Nat}{l:List Int}(h:kH w g l):kH (w.drewN n) g l:=h
theorem kH.set{w:bI}{g k:Nat}{l:List Int}(h:kH w g l)(m:k<l.length)(d:Int):kH (w.setCell (aN g k)<|O d) g (l.set k d):=by
 obtain⟨p,f,n,j⟩:=h;have e:=aP f k<|O d;refine⟨_,e,by simpa using n,λi x a=>?_⟩;rw[List.getElem?_set]at a;by_cases b:k=i;·subst b;simp[m]at a;subst a;simp[RG];omega
 ·rw[aI b]at a;rw[Ij bC];exact j i x a
theorem ajP{w:bI}{g k n c:Nat}{b:Array aC}(h:dR w g (.cells b 3 (0,0)))(p:0<n)(q:k+n<=b.size)(j:TypeId):(Builtin.clear_ #[32] j #[X (some<|aN g k) n c]).run prog w=.ok (.tuple #[]) (w.setRow g (b.toList.take k++(Builtin.zeroCells (O 0).cells n).toList++b.toList.drop (k+(Builtin.zeroCells (O 0).cells n).toList.length)).toArray):=by
 have i:(Builtin.zeroCells (O 0).cells n).toList.length=n:=by simp[Builtin.zeroCells,Value.cells]
 have f:∀v∈(Builtin.zeroCells (O 0).cells n).toList,v.oneCell'=true:=by intro v e;simp[Builtin.zeroCells,Value.cells]at e;obtain⟨a,l,rfl⟩:=e;rw[Nat.mod_one];rfl
 have d:=run_storeCells_at prog g k 3 (Builtin.zeroCells (O 0).cells n).toList 0 b w h (by rw[i];omega) f;obtain⟨m,rfl⟩:∃m,n=m+1:=⟨n - 1,by omega⟩;simp only[sN]at d;simp[Builtin.clear_,run_underlying underlying32,d]
theorem kH.clear{w:bI}{g k:Nat}{l:List Int}{zs:List aC}{a:Array aC}(h:kH w g l)(f:dR w g (.cells a 3 (0,0)))(s:k<=l.length)(m:Nat):kH (w.setRow g (a.toList.take k++zs++a.toList.drop m).toArray) g (l.take k):=by
 obtain⟨r,b,t,p⟩:=h;rw[f]at b;simp at b;subst b;have q:(l.take k).length=k:=by rw[iA];omega
 refine⟨_,setRow_heap w g a _ 3 (0,0) f,?_,λi d e=>?_⟩;·rw[q];simp;omega
 ·have j:i<k:=by have:=(cO.1 e).1;omega
  rw[nM j]at e;have n:=p i d e;rw[yK,iK,jX (by simp;omega),nM j];simpa using n
theorem Pm{l:List Int}{c K:Nat}{C:List Int}(b:c=C.length)(a:c<=K):(C++l.drop c)[K]?=l[K]?:=by subst b;rw[kL a,Rt];congr 1;omega
theorem adY{l:List Int}{c:Nat}{C:List Int}(a:c=C.length)(b:c<l.length)(x:Int):(C++l.drop c).set c x=(C++[x])++l.drop (c+1):=by subst a;rw[List.set_append_right _ _ (bG _),mW,Nw b,dY];simp
theorem Own.form{w:bI}{B:Nat}{v:aC}{l:aJ}(h:Own w B v l):∃a c,v=X a l.length c:=by
 rcases h.shape with⟨rfl,rfl⟩|⟨g,cap,rfl,_⟩;·exact⟨_,_,rfl⟩
 ·exact⟨_,_,rfl⟩
theorem TA(w:bI)(o:Obj)(c:aC)(t:TypeId):((w.alloc o).alloc (.cells #[c] t)).cell? (aN (w.heap.size+1) 0)=some c:=(aj (al2 w o<|.cells #[c] t).2.1 0).trans rfl
theorem Nz(w:bI)(n:Nat)(t:TypeId)(a:List aC)(ls:List (List Dg))(f:a.length=ls.length)(e:ls.length<=16)(h:∀(i:Nat) v l,a[i]?=some v->ls[i]?=some l->dA qU w n 52 3 v l):Sd (w.alloc<|.cells a.toArray t) n (Tc w.heap.size ls.length ls.length) ls:=by
 refine⟨w.heap.size,0,ls.length,rfl,e,λi l d=>?_⟩;have b:i<a.length:=by rw[f];exact(cO.1 d).1
 refine⟨a[i],?_,(h i _ l (aZ b) d).below (aH _ _)⟩;rw[d9,aj (bF w<|.cells a.toArray t) i];simp[b]
theorem SL{α:Type}(l:List α)(f:α->aS)(j:Nat):((l.take j).map f).length<=l.length:=by rw[dV,iA];omega
theorem J4(m:Nat)(w:bI)(vi vv vf:aC)(x:Mo)(h:jl w m (.agg #[A x.name,vi,vv,vf]) x)(hc:Bg w vi vf)(hlv:x.vars.length<=1048576)(hlf:x.bq.length<=1048576)(hlen:(twD x).length<=16777216):aD 103 #[.agg #[A x.name,vi,vv,vf]] w λe w'=>∃u,e=dz u/\dA qU w' w.heap.size 52 3 u (twD x)/\bK w w':=by
 obtain⟨hI,hV,hF⟩:=h.split;have HIC:J (yD w vi x.imports):=by refine Y ⟨hI,?_⟩;obtain⟨a,b,off,c,rfl,_⟩:=hI;exact⟨a,c,rfl,hc.imp _ _ _ rfl⟩
 obtain⟨ai,bi,oi,ci,rfl,-⟩:=hI;obtain⟨av,bv,ov,cv,rfl,hav,-,hcv⟩:=hV;obtain⟨af,bf,of,cf,rfl,RD,-,hcf⟩:=hF;obtain⟨HCV,HAV⟩:=bV hcv hav;have VR:J (H9 w m bf of x.bq):=hcf;obtain⟨QY,HMC⟩:=bV RD hc;have LZ:J (twD x=[GX ⟨#[]⟩ x.imports,GX ⟨#[]⟩ (x.vars.map (·.name)),GX ⟨#[]⟩ (x.bq.map (·.name))].flatten++x.bq.flatMap λf=>GX f.name f.params):=rfl;have jP:=Y hlen;rw[LZ]at jP;obtain⟨R,hR⟩:=aV (twD x);rw[<-hR]at LZ ⊢;obtain⟨T1,hT1⟩:=aV (GX ⟨#[]⟩ x.imports);obtain⟨T2,Q0⟩:=aV (GX ⟨#[]⟩ (x.vars.map (·.name)));obtain⟨T3,hT3⟩:=aV (GX ⟨#[]⟩ (x.bq.map (·.name)));obtain⟨HT1,HT2,HT3⟩:=fE hT1 Q0 hT3;rw[<-hT1,<-Q0,<-hT3]at LZ jP;have yR:J (T1.length+T2.length+T3.length+(x.bq.flatMap λf=>GX f.name f.params).length<=16777216):=Y (by have:=jP.out;simp only[uE,DT,gL,bg]at this;omega);obtain⟨vars,hvars⟩:=aV x.vars;obtain⟨bq,R7⟩:=aV x.bq;rw[<-hvars]at hlv HCV HAV HT2 ⊢;rw[<-R7]at hlf VR QY LZ HT3 yR HMC ⊢;obtain⟨nv,CU⟩:=aV vars.length;obtain⟨nf,hnf⟩:=aV bq.length;obtain⟨R8,yM⟩:=bV CU hnf;rw[<-CU]at hlv HAV ⊢;rw[<-hnf]at hlf QY HMC ⊢;generalize x.imports.length=ni at *;generalize x.name=xn at *;obtain⟨HB0,eT⟩:=sO w (aY #[A xn,X ai ni ci,X av nv cv,X af nf cf] 47);obtain⟨q1,q2,q3⟩:=lS (GH w (A xn) (X ai ni ci) (X av nv cv) (X af nf cf) 47) (GI w (A xn) (X ai ni ci) (X av nv cv) (X af nf cf) 47) (Gz w (A xn) (X ai ni ci) (X av nv cv) (X af nf cf) 47);clear hcv hav hcf RD hlen hR hvars R7 CU hnf h hc hT1 Q0 hT3;go_enter func103,ntmps103;go_wp2_with fail;generalize (w.alloc (aY #[A xn,X ai ni ci,X av nv cv,X af nf cf] 47))=W1 at *;go_loopw[3,15] (λv i wr=>∃j:Nat,j<=nv/\i=O j/\Own wr W1.heap.size v ((vars.take j).map (·.name))/\bK W1 wr) (λ_ i _=>nv - (intOf i).toNat);exact⟨0,bN _,rfl,lJ _ _ _ _,bQ _ _⟩
 obtain⟨j,hj,rfl,hown,hnx⟩:=hrel;obtain⟨HOW,fT⟩:=bV hown hnx;by_cases hjl:j<nv
 ·obtain⟨y,hy⟩:∃y,vars[j]?=some y:=⟨_,aZ (by rw[<-R8];exact hjl)⟩;obtain⟨-,-,g0,g1⟩:=HCV j y hy;obtain rfl:=HAV bC;replace g0:=aG g0 (up HB0 hnx);replace g1:=aG g1 (up HB0 hnx);obtain⟨HST,eD⟩:=bV (JF (f:=λv:Va=>v.name) hy) (aH wr (aY #[A y.name,A y.level] 75));obtain⟨c0,hml⟩:=eY ((aj (bF wr (aY #[A y.name,A y.level] 75)) 0).trans (rfl:_=some (A y.name))) (SL vars (·.name) j);rw[<-R8]at hml;obtain⟨a3,c3,rfl⟩:=hown.form;obtain⟨ln,hln⟩:=aV (((vars.take j).map (·.name)).length);have Md:=Y hln;rw[<-hln]at HOW hml ⊢;clear hy hown hnx hln
  go_wp2_with (first
   | (at_builtin;refine lg rfl _ _ rfl W1.heap.size _ _ rfl (fM HOW (up eD (aH _ _))) _ y.name rfl (TA _ _ _ _) (by have:=Md.out;omega) (bE fT.out.size (up eD (aH _ _)).size) ?_;intro v6 w6 hown6 dX;have pQ:=Y hown6;have uX:=Y (kg (up fT (up eD (aH _ _))) dX (λj hj=>(Fp HOW j hj).1));clear hown6 dX)
   | fail)
  go_roundw;exact⟨j+1,by omega,by go_num,by rw[HST];exact pQ,uX⟩;exact gV
 ·have wU:(vars.take j)=vars:=fQ (by have:=R8.out;omega);rw[wU]at HOW hown;obtain⟨a3,c3,rfl⟩:=hown.form;obtain⟨ln,hln⟩:=aV ((vars.map (·.name)).length);rw[<-hln]at HOW ⊢;replace q1:=aG q1 hnx;replace q3:=aG q3 hnx;have HQ:=Y (And.intro q1 q3);clear wU hown hnx hln q2;obtain⟨wo,rfl⟩:=aV wr;go_wp2_with fail;go_loopw[4,28] (λv i wx=>∃t:Nat,t<=nf/\i=O t/\Own wx wo.heap.size v ((bq.take t).map (·.name))/\bK wo wx) (λ_ i _=>nf - (intOf i).toNat);exact⟨0,bN _,rfl,lJ _ _ _ _,bQ _ _⟩
  obtain⟨t,ht,rfl,hown,hnx⟩:=hrel;obtain⟨HO4,HX4⟩:=bV hown hnx;by_cases htl:t<nf
  ·obtain⟨y,hy⟩:∃y,bq[t]?=some y:=⟨_,aZ (by rw[<-yM];exact htl)⟩;obtain⟨-,vp,vb,e0,e1,e2,e3,g0,g1,g2,g3,g4,g5,g6,hp,hb,hx⟩:=VR t y hy;obtain rfl:=QY bC;have hbb:=up (up HB0 fT) hnx;replace g0:=aG g0 hbb;replace g1:=aG g1 hbb;replace g2:=aG g2 hbb;replace g3:=aG g3 hbb;replace g4:=aG g4 hbb;replace g5:=aG g5 hbb;replace g6:=aG g6 hbb;obtain⟨ap,bp,op,cp,rfl,-⟩:=hp;obtain⟨sb,cb',rfl⟩:=hb.kC;obtain⟨xa,xc,rfl,rfl,rfl,rfl⟩:=hx.shape;generalize y.params.length=np at *;generalize y.body.length=nb at *;generalize y.result.args.length=ne at *;obtain⟨HST,eD⟩:=bV (JF (f:=λv:Fu=>v.name) hy) (aH wr (aY #[A y.name,X ap np cp,X sb nb cb',O y.result.kind,O y.result.n,A y.result.name,X xa ne xc] 82));obtain⟨c0,hml⟩:=eY ((aj (bF wr (aY #[A y.name,X ap np cp,X sb nb cb',O y.result.kind,O y.result.n,A y.result.name,X xa ne xc] 82)) 0).trans (rfl:_=some (A y.name))) (SL bq (·.name) t);rw[<-yM]at hml;obtain⟨a4,c4,rfl⟩:=hown.form;obtain⟨l4,hl4⟩:=aV (((bq.take t).map (·.name)).length);have Bc:=Y hl4;rw[<-hl4]at HO4 hml ⊢;clear hy hown hnx hl4 hb hx hbb q1 q3
   go_wp2_with (first
    | (at_builtin;refine lg rfl _ _ rfl wo.heap.size _ _ rfl (fM HO4 (up eD (aH _ _))) _ y.name rfl (TA _ _ _ _) (by have:=Bc.out;omega) (bE HX4.out.size (up eD (aH _ _)).size) ?_;intro v6 w6 hown6 dX;have pQ:=Y hown6;have uX:=Y (kg (up HX4 (up eD (aH _ _))) dX (λj hj=>(Fp HO4 j hj).1));clear hown6 dX)
    | fail)
   go_roundw;exact⟨t+1,by omega,by go_num,by rw[HST];exact pQ,uX⟩;exact gV
  ·have wU:(bq.take t)=bq:=fQ (by have:=yM.out;omega);rw[wU]at HO4 hown;have HS3:J (yD wr (X a3 ln c3) (vars.map (·.name))):=Y (Own.Yj (fM HOW HX4) (λs hs=>by obtain⟨y,hy,rfl⟩:=iZ.1 hs;obtain⟨i,hi,rfl⟩:=gU.1 hy;exact(HCV i _ (aZ hi)).1) (by rw[dV,<-R8];omega));obtain⟨a4,c4,rfl⟩:=hown.form;obtain⟨l4,hl4⟩:=aV ((bq.map (·.name)).length);rw[<-hl4]at HO4 ⊢;have HS4:J (yD wr (X a4 l4 c4) (bq.map (·.name))):=Y (Own.Yj HO4 (λs hs=>by obtain⟨y,hy,rfl⟩:=iZ.1 hs;obtain⟨i,hi,rfl⟩:=gU.1 hy;exact(VR i _ (aZ hi)).1) (by rw[dV,<-yM];omega));have iO:=Y (up (up HB0 fT) hnx);replace q1:=aG q1 hnx;have HQ3:=Y (aG HQ.2 hnx);clear wU hown hnx hl4 q3;go_wp2_with fail;refine(oq wr _ x.imports ⟨#[]⟩ (HIC.below iO) (by rw[<-HT1];have:=yR.out;omega)).mono ?_;rintro e w5 ⟨u5,rfl,hu5,hb5⟩;rw[<-HT1]at hu5;obtain⟨HU5,eD⟩:=bV hu5 hb5;obtain⟨a5,c5,rfl⟩:=hu5.form;clear hu5 hb5 q1;generalize hz5:T1.length=t1 at *;go_wp2_with fail;refine(oq w5 _ (vars.map (·.name)) ⟨#[]⟩ (HS3.below eD) (by rw[<-HT2];have:=yR.out;omega)).mono ?_;rintro e w6 ⟨u6,rfl,hu6,hb6⟩;rw[<-HT2]at hu6;obtain⟨HU6,fD⟩:=bV hu6 hb6;obtain⟨a6,c6,rfl⟩:=hu6.form;clear hu6 hb6;generalize Ao:T2.length=t2 at *;go_wp2_with fail;refine(oq w6 _ (bq.map (·.name)) ⟨#[]⟩ ((HS4.below eD).below fD) (by rw[<-HT3];have:=yR.out;omega)).mono ?_;rintro e w7 ⟨u7,rfl,hu7,ug⟩;rw[<-HT3]at hu7;obtain⟨HU7,kG⟩:=bV hu7 ug;obtain⟨a7,c7,rfl⟩:=hu7.form;clear hu7 ug;generalize V7:T3.length=t3 at *
   have HDS:J (Sd (w7.alloc (aY #[X a5 t1 c5,X a6 t2 c6,X a7 t3 c7] 38)) wr.heap.size (Tc w7.heap.size 3 3) [T1,T2,T3]):=
    Y (Nz w7 wr.heap.size 38 [X a5 t1 c5,X a6 t2 c6,X a7 t3 c7] [T1,T2,T3] rfl cK (λi v l hv hl=>by
     match i,hv,hl with
     | 0,hv,hl=>simp at hv hl;subst hv hl;exact(HU5.below fD).below kG
     | 1,hv,hl=>simp at hv hl;subst hv hl;exact(HU6.below kG).old eD.size
     | 2,hv,hl=>simp at hv hl;subst hv hl;exact HU7.old (bE eD.out.size fD.size)
     | i+3,hv,hl=>simp at hv))
   have HC3:J (([T1,T2,T3]:List (List Dg)).flatten.length<=16777216):=Y (by have:=yR.out;simp only[uE,DT,gL,bg];omega);have xW:=Y (up (up (up iO eD) fD) (up kG (aH w7 (aY #[X a5 t1 c5,X a6 t2 c6,X a7 t3 c7] 38))));have hq3:=aG (aG (aG (aG HQ3 eD) fD) kG) (aH w7 (aY #[X a5 t1 c5,X a6 t2 c6,X a7 t3 c7] 38));have HQ8:=Y hq3;clear hq3;go_wp2_with fail;refine(GV _ _ _ _ HDS HC3).mono ?_;rintro e w9 ⟨u9,rfl,V8,vV⟩;obtain⟨HU9,Ac⟩:=bV (V8.old xW.size) (up xW vV);have q9:=aG HQ8 vV;obtain⟨F,hF⟩:∃F,F=([T1,T2,T3]:List (List Dg)).flatten:=⟨_,rfl⟩;have HF:=Y hF;rw[<-hF]at HU9 V8;obtain⟨a9,c9,rfl⟩:=V8.form;generalize hz9:F.length=t9 at *;have CV:J (F.length+(bq.flatMap λf=>GX f.name f.params).length<=16777216):=Y (by have:=yR.out;rw[HF];simp only[uE,DT,gL,bg];omega);rw[<-HF]at LZ;clear V8 vV hF;go_wp2_with fail;go_loopw[9,50] (λv i wx=>∃t:Nat,t<=nf/\i=O t/\dA qU wx w.heap.size 52 3 v (F++(bq.take t).flatMap λf=>GX f.name f.params)/\bK w wx) (λ_ i _=>nf - (intOf i).toNat);exact⟨0,bN _,rfl,by simpa using HU9.out,Ac.out⟩
   obtain⟨s,hs,rfl,hown,hnx⟩:=hrel;obtain⟨HO4,HX4⟩:=bV hown hnx;by_cases hsl:s<nf
   ·obtain⟨y,hy⟩:∃y,bq[s]?=some y:=⟨_,aZ (by rw[<-yM];exact hsl)⟩;obtain⟨-,vp,vb,e0,e1,e2,e3,g0,g1,g2,g3,g4,g5,g6,hp,hb,hx⟩:=VR s y hy;obtain rfl:=QY bC;have xV:J (yD w vp y.params):=by refine Y ⟨hp,?_⟩;obtain⟨vp',k1,k2⟩:=HMC.par bf of nf cf rfl s hsl;rw[g1]at k1;cases k1;obtain⟨a,b,off,c,rfl,_⟩:=hp;exact⟨a,c,rfl,k2 _ _ _ rfl⟩
    have HST:=Y (jY (f:=λf:Fu=>GX f.name f.params) hy);have gI:J ((F++(bq.take s).flatMap λf=>GX f.name f.params).length+(GX y.name y.params).length<=16777216):=Y (by have h1:=wO (f:=λf:Fu=>GX f.name f.params) (l:=bq) (s+1);rw[HST,bg]at h1;have h2:=CV.out;rw[bg];omega);replace g0:=aG g0 hnx;replace g1:=aG g1 hnx;replace g2:=aG g2 hnx;replace g3:=aG g3 hnx;replace g4:=aG g4 hnx;replace g5:=aG g5 hnx;replace g6:=aG g6 hnx;obtain⟨ap,bp,op,cp,rfl,-⟩:=hp;obtain⟨sb,cb',rfl⟩:=hb.kC;obtain⟨xa,xc,rfl,rfl,rfl,rfl⟩:=hx.shape;generalize y.params.length=np at *;generalize y.body.length=nb at *;generalize y.result.args.length=ne at *;have eD:=Y (aH wr (aY #[A y.name,X ap np cp,X sb nb cb',O y.result.kind,O y.result.n,A y.result.name,X xa ne xc] 82));have hbn:=bF wr (aY #[A y.name,X ap np cp,X sb nb cb',O y.result.kind,O y.result.n,A y.result.name,X xa ne xc] 82);obtain⟨c0,c1⟩:=eY ((aj hbn 0).trans (rfl:_=some (A y.name))) ((aj hbn 1).trans (rfl:_=some (X ap np cp)));obtain⟨a4,c4,rfl⟩:=hown.form;obtain⟨l4,hl4⟩:=aV ((F++(bq.take s).flatMap λf=>GX f.name f.params).length);rw[<-hl4]at HO4 ⊢;clear hy hown hnx hl4 hb hx hbn;go_wp2_with fail;refine(oq _ _ y.params y.name (xV.below (up HX4 eD)) (by have:=gI.out;omega)).mono ?_;rintro e w5 ⟨u5,rfl,hu5,hb5⟩;obtain⟨HU5,fD⟩:=bV hu5 (up eD hb5);clear hu5 hb5
    go_wp2_with (first
     | (at_builtin;refine fG (At:=qU) rfl _ _ 38 52 3 40 _ rfl underlying38 qV bM bM bM w.heap.size _ _ rfl (HO4.below fD) _ _ _ rfl HU5 gI (up HX4 fD).size ?_;intro v6 w6 hown6 dX;have pQ:=Y hown6;have uX:=Y (kg (up HX4 fD) dX (λj hj=>(HO4.lt j hj).1));clear hown6 dX)
     | fail)
    go_roundw;exact⟨s+1,by omega,by go_num,by rw[HST,<-iK];exact pQ,uX⟩;exact gV
   ·have wU:(bq.take s)=bq:=fQ (by have:=yM.out;omega);rw[wU,<-LZ]at HO4 hown;obtain⟨a4,c4,rfl⟩:=hown.form;generalize R.length=nr at *;clear hown hnx wU;go_wp2;go_ret;exact⟨_,rfl,HO4,HX4⟩
