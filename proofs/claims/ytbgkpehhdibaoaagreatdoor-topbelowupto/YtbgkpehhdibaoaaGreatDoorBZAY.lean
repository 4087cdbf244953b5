/- part -/
import Derived.Test.YtbgkpehhdibaoaaGreatDoorBZAW
import Derived.Test.YtbgkpehhdibaoaaGreatDoorBZAR
set_option maxHeartbeats 0
set_option maxRecDepth 99999
namespace Go.Proofs.YtbgkpehhdibaoaaGreatDoor
open bN
open Go.Proofs.Tryz
open Go.RowKit
namespace bJ
end bJ
namespace bN
def moX(m:Nat)(x:Mo):ByteArray:=brk [[⟨#[109,111,100,117,108,101]⟩,x.name],x.imports.map Dc,x.vars.map XO,x.bg.map (XP m)].flatten
end bN
theorem Vo{α:Type}{f:aY->α->aY}{g:α->aY}:∀(l:List α) (acc:aY),(∀y∈l,∀acc,(f acc y).data.toList=acc.data.toList++32::(g y).data.toList)->
 (l.foldl f acc).data.toList=acc.data.toList++Lib.joinTail [32] ((l.map g).map (·.data.toList))
 | [],acc,_=>by simp[Lib.joinTail]
 | y::l,acc,h=>by rw[rF,Vo l _ (λz hz=>h z (by simp[hz])),h y dx,fG,fG,tail_cons];simp
theorem impT_eq(acc s:aY):(impT acc s).data.toList=acc.data.toList++32::(Dc s).data.toList:=by unfold impT Dc;rw[iH];simp[Lib.join_cons,Lib.joinTail]
theorem vaT_eq(acc:aY)(v:Va):(vaT acc v).data.toList=acc.data.toList++32::(XO v).data.toList:=by unfold vaT XO;rw[iH];simp[Lib.join_cons,Lib.joinTail]
theorem moX_eq{m:Nat}{x:Mo}(hm:x.bg≠[]->m≠0):moX m x=moT m x:=by
 apply gW;unfold moX moT moF moV moI moH;have hfl:[[(⟨#[109,111,100,117,108,101]⟩:aY),x.name],x.imports.map Dc,x.vars.map XO,x.bg.map (XP m)].flatten=⟨#[109,111,100,117,108,101]⟩::x.name::(x.imports.map Dc++(x.vars.map XO++x.bg.map (XP m))):=by simp
 rw[hfl,iH,gU,Vo (g:=XP m) x.bg _ (λy hy acc=>fuT_eq (hm (List.ne_nil_of_mem hy)) acc y),Vo (g:=XO) x.vars _ (λy _ acc=>vaT_eq acc y),Vo (g:=Dc) x.imports _ (λy _ acc=>impT_eq acc y),fG,Lib.join_cons,fG,tail_cons,fQ,qh,fQ,qh,gU];simp
theorem infoLb:(prog.info? 33).map (λi=>(i.zero,i.size,i.bytes))=some (some (.agg #[O 0,O 0]),2,16):=by kernel_rfl
theorem infoU64:(prog.info? 241).map (λi=>(i.zero,i.size,i.bytes))=some (some (.int .u64 0),1,8):=by kernel_rfl
theorem make_lbs(n:Nat)(hn:n<=40)(w:World):(Instr.makeSlice 131 (O (n:Int)) (O (n:Int))).run prog w=.ok (Y (some (X w.heap.size 0)) n n) (w.alloc (.cells (madeCells #[O 0,O 0] (n*2)) 33)):=by obtain⟨i,hi,hzz⟩:=vX.1 infoLb;simp only[pq]at hzz;obtain⟨hz,hs,hb⟩:=hzz;have hr:=run_make (P:=prog) w 131 33 i _ underlying131 hi hz .i64 .i64 n n aX (Int.le_refl _) (by rw[hb];omega) aX;rw[hs,show(Value.agg #[O 0,O 0]).cells=#[O 0,O 0]from rfl]at hr;simpa using hr
theorem made2(z0 z1:Value)(n i:Nat)(hi:i<n):(madeCells #[z0,z1] (n*2))[i*2]?=some z0/\(madeCells #[z0,z1] (n*2))[i*2+1]?=some z1:=by
 have h1:i*2<n*2:=by omega
 have h2:i*2+1<n*2:=by omega
 have e1:i*2 % 2=0:=by omega
 have e2:(i*2+1) % 2=1:=by omega
 constructor;·simp[madeCells,h1,e1]
 ·simp[madeCells,h2,e2]
theorem made1(z:Value)(n i:Nat)(hi:i<n):(madeCells #[z] n)[i]?=some z:=by simp[madeCells,hi,Nat.mod_one]
theorem XV(w:World)(vn vl:Value)(n:Nat):iK w ((((w.alloc (aW #[vn,vl] 25)).alloc (.cells (madeCells #[O 0,O 0] (n*2)) 33)).alloc (.cells (madeCells #[.int .u64 0] n) 241)).alloc (aW #[vn,vl,Y (some (X (w.heap.size+1) 0)) n n,Y (some (X (w.heap.size+1+1) 0)) n n] 274)) ⟨w.heap.size+1+1+1,w.heap.size+1,w.heap.size+1+1,n,vn,vl⟩ (λ_=>(0,0)) (λ_=>0):=by
 have hs:(w.alloc (aW #[vn,vl] 25)).heap.size=w.heap.size+1:=by simp
 obtain⟨h1,h2,h3⟩:=l9 (aZ (w.alloc (aW #[vn,vl] 25)) (.cells (madeCells #[O 0,O 0] (n*2)) 33)) (aZ ((w.alloc (aW #[vn,vl] 25)).alloc (.cells (madeCells #[O 0,O 0] (n*2)) 33)) (.cells (madeCells #[.int .u64 0] n) 241)) (aZ (((w.alloc (aW #[vn,vl] 25)).alloc (.cells (madeCells #[O 0,O 0] (n*2)) 33)).alloc (.cells (madeCells #[.int .u64 0] n) 241)) (aW #[vn,vl,Y (some (X (w.heap.size+1) 0)) n n,Y (some (X (w.heap.size+1+1) 0)) n n] 274));rw[hs]at h1;rw[show((w.alloc (aW #[vn,vl] 25)).alloc (.cells (madeCells #[O 0,O 0] (n*2)) 33)).heap.size=w.heap.size+1+1 by simp]at h2;rw[show(((w.alloc (aW #[vn,vl] 25)).alloc (.cells (madeCells #[O 0,O 0] (n*2)) 33)).alloc (.cells (madeCells #[.int .u64 0] n) 241)).heap.size=w.heap.size+1+1+1 by simp]at h3;refine⟨((((bP _ _).alloc (bE _) _).alloc dx _).alloc (by simp;omega) _).alloc (by simp;omega) _,by show w.heap.size<=w.heap.size+1+1+1;omega,by show w.heap.size<=w.heap.size+1;omega,by show w.heap.size<=w.heap.size+1+1;omega,h3,⟨_,dw (dw h1 _) _,λi hi=>made2 _ _ n i hi⟩,⟨_,dw h2 _,λi hi=>made1 _ n i hi⟩⟩
theorem XW(w:World)(vn vl:Value)(n:Nat):iK w ((((w.alloc (aW #[vn,vl] 25)).alloc (.cells (madeCells #[.int .u64 0] n) 241)).alloc (.cells (madeCells #[O 0,O 0] (n*2)) 33)).alloc (aW #[vn,vl,Y (some (X (w.heap.size+1+1) 0)) n n,Y (some (X (w.heap.size+1) 0)) n n] 274)) ⟨w.heap.size+1+1+1,w.heap.size+1+1,w.heap.size+1,n,vn,vl⟩ (λ_=>(0,0)) (λ_=>0):=by
 have hs:(w.alloc (aW #[vn,vl] 25)).heap.size=w.heap.size+1:=by simp
 obtain⟨h1,h2,h3⟩:=l9 (aZ (w.alloc (aW #[vn,vl] 25)) (.cells (madeCells #[.int .u64 0] n) 241)) (aZ ((w.alloc (aW #[vn,vl] 25)).alloc (.cells (madeCells #[.int .u64 0] n) 241)) (.cells (madeCells #[O 0,O 0] (n*2)) 33)) (aZ (((w.alloc (aW #[vn,vl] 25)).alloc (.cells (madeCells #[.int .u64 0] n) 241)).alloc (.cells (madeCells #[O 0,O 0] (n*2)) 33)) (aW #[vn,vl,Y (some (X (w.heap.size+1+1) 0)) n n,Y (some (X (w.heap.size+1) 0)) n n] 274));rw[hs]at h1;rw[show((w.alloc (aW #[vn,vl] 25)).alloc (.cells (madeCells #[.int .u64 0] n) 241)).heap.size=w.heap.size+1+1 by simp]at h2;rw[show(((w.alloc (aW #[vn,vl] 25)).alloc (.cells (madeCells #[.int .u64 0] n) 241)).alloc (.cells (madeCells #[O 0,O 0] (n*2)) 33)).heap.size=w.heap.size+1+1+1 by simp]at h3;refine⟨((((bP _ _).alloc (bE _) _).alloc dx _).alloc (by simp;omega) _).alloc (by simp;omega) _,by show w.heap.size<=w.heap.size+1+1+1;omega,by show w.heap.size<=w.heap.size+1+1;omega,by show w.heap.size<=w.heap.size+1;omega,h3,⟨_,dw h2 _,λi hi=>made2 _ _ n i hi⟩,⟨_,dw (dw h1 _) _,λi hi=>made1 _ n i hi⟩⟩
theorem iK.congr{w0 w:World}{c:Cf}{V V':Nat->Nat × Nat}{S:Nat->Nat}(h:iK w0 w c V S)(he:V=V'):iK w0 w c V' S:=by rw[<-he];exact h
theorem JB(w:World)(vn vl:Value)(n low:Nat)(hn:n<=40):Calls prog 172 #[.agg #[vn,vl],O n,O low] w λe w'=>∃p lb sb,e=dz (iO p)/\iK w w' ⟨p,lb,sb,n,vn,vl⟩ (λ_=>(0,low)) (λ_=>0):=by
 obtain⟨hmk1,hmk2⟩:=eY (make_lbs n hn) (run_make_row' (P:=prog) 272 241 (.int .u64 0) 8 underlying272 infoU64 rfl .i64 .i64 n aX aX);go_enter func172,ntmps172;go_wp2_with fail;go_region_law (fail);all_goals clear hmk1 hmk2
 all_goals
  go_wp2_with fail;go_loopw[21] (λi wx=>∃k:Nat,k<=n/\i=O k/\∃lb sb,iK w wx ⟨w.heap.size+1+1+1,lb,sb,n,vn,vl⟩ (λv=>if v<k then (0,low)else (0,0)) (λ_=>0)) (λi _=>n - (intOf i).toNat);case atStart=>exact⟨0,bL _,rfl,_,_,by first|exact((XV w vn vl n).below (bP _ _).drew).congr (by funext v;simp)|exact((XW w vn vl n).below (bP _ _).drew).congr (by funext v;simp)⟩
  case round=>
   obtain⟨k,hk,rfl,lb,sb,hsy⟩:=hrel;have HS:=I hsy;by_cases hlt:k<n
   ·obtain⟨c0,c1,c2,c3⟩:=hsy.cell;obtain⟨l0,l1,z0,z1⟩:=hsy.Xq (i:=k) hlt;simp only at c0 c1 c2 c3 l0 l1 z0 z1;rw[aJ aX]at l0 l1;clear hsy;go_wp2_with fail;go_roundw;case rel=>
     refine⟨k+1,by omega,by go_num,lb,sb,(HS.putLevel hlt low).congr ?_⟩;funext v;simp only[Sv.put];by_cases e:v=k;·subst e;simp
     ·rw[aJ e];by_cases h':v<k;·rw[aL h',aL aX]
      ·rw[aJ h',aJ aX]
    case measure=>simp[intOf];omega
   ·clear hsy;go_wp2_with fail;go_ret;exact⟨_,_,_,rfl,by
     obtain rfl:k=n:=by omega
     have h:=HS.out;exact⟨h.since,h.pn,h.ln,h.sn,h.blk,by obtain⟨cs,h1,h2⟩:=h.lab;exact⟨cs,h1,λi hi=>by have:=h2 i hi;rw[aL hi]at this;exact this⟩,h.src⟩⟩
end Go.Proofs.YtbgkpehhdibaoaaGreatDoor
