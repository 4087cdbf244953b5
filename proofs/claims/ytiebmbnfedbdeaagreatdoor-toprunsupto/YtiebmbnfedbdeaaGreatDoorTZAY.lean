import Derived.Test.YtiebmbnfedbdeaaGreatDoorTZAW
import Derived.Test.YtiebmbnfedbdeaaGreatDoorTZAR
set_option maxHeartbeats 0
set_option maxRecDepth 99999
namespace Go.Proofs.YtiebmbnfedbdeaaGreatDoor
open bS
open Go.Proofs.Tryz
open Go.RowKit
namespace bO
end bO
namespace bS
def moX(m:Nat)(x:Mo):ByteArray:=brk [[⟨#[109,111,100,117,108,101]⟩,x.name],x.imports.map FY,x.vars.map vaX,x.bq.map (fuX m)].flatten
end bS
theorem Y6{α:Type}{f:aS->α->aS}{g:α->aS}:∀(l:List α) (acc:aS),(∀y∈l,∀acc,(f acc y).data.toList=acc.data.toList++32::(g y).data.toList)->
 (l.foldl f acc).data.toList=acc.data.toList++Lib.joinTail [32] ((l.map g).map (·.data.toList))
 | [],acc,_=>by simp[Lib.joinTail]
 | y::l,acc,a=>by rw[pz,Y6 l _ (λc b=>a c<|by simp[b]),a y cK,fZ,fZ,tail_cons];simp
theorem ahT(acc s:aS):(Ru acc s).data.toList=acc.data.toList++32::(FY s).data.toList:=by unfold Ru FY;rw[jk];simp[Lib.join_cons,Lib.joinTail]
theorem akG(acc:aS)(v:Va):(vaT acc v).data.toList=acc.data.toList++32::(vaX v).data.toList:=by unfold vaT vaX;rw[jk];simp[Lib.join_cons,Lib.joinTail]
theorem akH{m:Nat}{x:Mo}(b:x.bq≠[]->m≠0):moX m x=moT m x:=by
 apply iQ;unfold moX moT moF moV moI moH;have a:[[(⟨#[109,111,100,117,108,101]⟩:aS),x.name],x.imports.map FY,x.vars.map vaX,x.bq.map<|fuX m].flatten=⟨#[109,111,100,117,108,101]⟩::x.name::(x.imports.map FY++(x.vars.map vaX++x.bq.map (fuX m))):=by simp
 rw[a,jk,iN,Y6 (g:=fuX m) x.bq _ (λy c acc=>akD (b<|List.ne_nil_of_mem c) acc y),Y6 (g:=vaX) x.vars _ (λy _ acc=>akG acc y),Y6 (g:=FY) x.imports _ (λy _ acc=>ahT acc y),fZ,Lib.join_cons,fZ,tail_cons,gX,rQ,gX,rQ,iN];simp
theorem akI:(prog.info? 33).map (λi=>(i.zero,i.size,i.bytes))=some (some<|.agg #[O 0,O 0],2,16):=by kernel_rfl
theorem ahU:(prog.info? 271).map (λi=>(i.zero,i.size,i.bytes))=some (some<|.int .u64 0,1,8):=by kernel_rfl
theorem aeu(n:Nat)(g:n<=40)(w:bI):(Instr.makeSlice 109 (O (n:Int))<|O (n:Int)).run prog w=.ok (Tc w.heap.size n n) (w.alloc<|.cells (madeCells #[O 0,O 0] (n*2)) 33):=by obtain⟨i,d,b⟩:=yF.1 akI;simp only[pO]at b;obtain⟨f,e,c⟩:=b;have a:=run_make (P:=prog) w 109 33 i _ underlying109 d f .i64 .i64 n n bC (Int.le_refl _) (by rw[c];omega) bC;rw[e,show(Value.agg #[O 0,O 0]).cells=#[O 0,O 0]from rfl]at a;simpa using a
theorem Pd(a z1:aC)(n i:Nat)(f:i<n):(madeCells #[a,z1] (n*2))[i*2]?=some a/\(madeCells #[a,z1] (n*2))[i*2+1]?=some z1:=by
 have d:i*2<n*2:=by omega
 have e:i*2+1<n*2:=by omega
 have b:i*2 % 2=0:=by omega
 have c:(i*2+1) % 2=1:=by omega
 constructor;·simp[madeCells,d,b]
 ·simp[madeCells,e,c]
theorem VP(z:aC)(n i:Nat)(a:i<n):(madeCells #[z] n)[i]?=some z:=by simp[madeCells,a,Nat.mod_one]
theorem aaZ(w:bI)(b a:aC)(n:Nat):jq w ((((w.alloc<|aY #[b,a] 25).alloc (.cells (madeCells #[O 0,O 0] (n*2)) 33)).alloc (.cells (madeCells #[.int .u64 0] n) 271)).alloc (aY #[b,a,Tc (w.heap.size+1) n n,Tc (w.heap.size+1+1) n n] 242)) ⟨w.heap.size+1+1+1,w.heap.size+1,w.heap.size+1+1,n,b,a⟩ (λ_=>(0,0)) (λ_=>0):=by
 have g:(w.alloc<|aY #[b,a] 25).heap.size=w.heap.size+1:=by simp
 obtain⟨d,e,f⟩:=lS (bF (w.alloc<|aY #[b,a] 25)<|.cells (madeCells #[O 0,O 0] (n*2)) 33) (bF ((w.alloc<|aY #[b,a] 25).alloc (.cells (madeCells #[O 0,O 0] (n*2)) 33))<|.cells (madeCells #[.int .u64 0] n) 271)<|bF (((w.alloc<|aY #[b,a] 25).alloc (.cells (madeCells #[O 0,O 0] (n*2)) 33)).alloc (.cells (madeCells #[.int .u64 0] n) 271))<|aY #[b,a,Tc (w.heap.size+1) n n,Tc (w.heap.size+1+1) n n] 242;rw[g]at d;rw[show((w.alloc<|aY #[b,a] 25).alloc (.cells (madeCells #[O 0,O 0] (n*2)) 33)).heap.size=w.heap.size+1+1 by simp]at e;rw[show(((w.alloc<|aY #[b,a] 25).alloc (.cells (madeCells #[O 0,O 0] (n*2)) 33)).alloc (.cells (madeCells #[.int .u64 0] n) 271)).heap.size=w.heap.size+1+1+1 by simp]at f;refine⟨((((bQ _ _).alloc (bG _) _).alloc cK _).alloc (by simp;omega) _).alloc (by simp;omega) _,by show w.heap.size<=w.heap.size+1+1+1;omega,by show w.heap.size<=w.heap.size+1;omega,by show w.heap.size<=w.heap.size+1+1;omega,f,⟨_,bT (bT d _) _,λi c=>Pd _ _ n i c⟩,⟨_,bT e _,λi c=>VP _ n i c⟩⟩
theorem aa0(w:bI)(b a:aC)(n:Nat):jq w ((((w.alloc<|aY #[b,a] 25).alloc (.cells (madeCells #[.int .u64 0] n) 271)).alloc (.cells (madeCells #[O 0,O 0] (n*2)) 33)).alloc (aY #[b,a,Tc (w.heap.size+1+1) n n,Tc (w.heap.size+1) n n] 242)) ⟨w.heap.size+1+1+1,w.heap.size+1+1,w.heap.size+1,n,b,a⟩ (λ_=>(0,0)) (λ_=>0):=by
 have g:(w.alloc<|aY #[b,a] 25).heap.size=w.heap.size+1:=by simp
 obtain⟨d,e,f⟩:=lS (bF (w.alloc<|aY #[b,a] 25)<|.cells (madeCells #[.int .u64 0] n) 271) (bF ((w.alloc<|aY #[b,a] 25).alloc (.cells (madeCells #[.int .u64 0] n) 271))<|.cells (madeCells #[O 0,O 0] (n*2)) 33)<|bF (((w.alloc<|aY #[b,a] 25).alloc (.cells (madeCells #[.int .u64 0] n) 271)).alloc (.cells (madeCells #[O 0,O 0] (n*2)) 33))<|aY #[b,a,Tc (w.heap.size+1+1) n n,Tc (w.heap.size+1) n n] 242;rw[g]at d;rw[show((w.alloc<|aY #[b,a] 25).alloc (.cells (madeCells #[.int .u64 0] n) 271)).heap.size=w.heap.size+1+1 by simp]at e;rw[show(((w.alloc<|aY #[b,a] 25).alloc (.cells (madeCells #[.int .u64 0] n) 271)).alloc (.cells (madeCells #[O 0,O 0] (n*2)) 33)).heap.size=w.heap.size+1+1+1 by simp]at f;refine⟨((((bQ _ _).alloc (bG _) _).alloc cK _).alloc (by simp;omega) _).alloc (by simp;omega) _,by show w.heap.size<=w.heap.size+1+1+1;omega,by show w.heap.size<=w.heap.size+1+1;omega,by show w.heap.size<=w.heap.size+1;omega,f,⟨_,bT e _,λi c=>Pd _ _ n i c⟩,⟨_,bT (bT d _) _,λi c=>VP _ n i c⟩⟩
theorem jq.congr{w0 w:bI}{c:Cf}{V a:Nat->Nat × Nat}{S:Nat->Nat}(b:jq w0 w c V S)(d:V=a):jq w0 w c a S:=by rw[<-d];exact b
theorem apB(w:bI)(f e:aC)(n low:Nat)(C:n<=40):aD 136 #[.agg #[f,e],O n,O low] w λg w'=>∃p c d,g=dz (gK p)/\jq w w' ⟨p,c,d,n,f,e⟩ (λ_=>(0,low)) (λ_=>0):=by
 obtain⟨r,s⟩:=eY (aeu n C)<|run_make_row' (P:=prog) 240 271 (.int .u64 0) 8 underlying240 ahU rfl .i64 .i64 n bC bC;go_enter func136,ntmps136;go_wp2_with fail;go_region_law (fail);all_goals clear r s
 all_goals
  go_wp2_with fail;go_loopw[21] (λi wx=>∃k:Nat,k<=n/\i=O k/\∃c d,jq w wx ⟨w.heap.size+1+1+1,c,d,n,f,e⟩ (λv=>if v<k then (0,low)else (0,0)) (λ_=>0)) (λi _=>n - (intOf i).toNat);exact⟨0,bN _,rfl,_,_,by first|exact((aaZ w f e n).below (bQ _ _).drew).congr (by funext v;simp)|exact((aa0 w f e n).below (bQ _ _).drew).congr (by funext v;simp)⟩
  obtain⟨k,F,rfl,c,d,b⟩:=hrel;have h:=Y b;by_cases m:k<n
  ·obtain⟨t,u,x,y⟩:=b.cell;obtain⟨o,q,D,E⟩:=b.mJ (i:=k) m;simp only at t u x y o q D E;rw[aI bC]at o q;clear b;go_wp2;go_roundw;case rel=>
    refine⟨k+1,by omega,by go_num,c,d,(h.ad1 m low).congr ?_⟩;funext v;simp only[Sv.put];by_cases g:v=k;·subst g;simp
    ·rw[aI g];by_cases j:v<k;·rw[aK j,aK bC]
     ·rw[aI j,aI bC]
   case measure=>exact gV
  ·clear b;go_wp2;go_ret;exact⟨_,_,_,rfl,by
    obtain rfl:k=n:=by omega
    have a:=h.out;exact⟨a.since,a.pn,a.ln,a.sn,a.blk,by obtain⟨cs,z,B⟩:=a.lab;exact⟨cs,z,λi l=>by have:=B i l;rw[aK l]at this;exact this⟩,a.src⟩⟩
