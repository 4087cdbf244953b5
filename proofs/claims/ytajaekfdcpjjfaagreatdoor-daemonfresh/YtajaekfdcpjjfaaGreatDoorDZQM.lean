import Derived.Test.YtajaekfdcpjjfaaGreatDoorDZQI
import Derived.Test.YtajaekfdcpjjfaaGreatDoorDIC
set_option maxHeartbeats 0
set_option maxRecDepth 99999
namespace Go.Proofs.YtajaekfdcpjjfaaGreatDoor
open Go.Proofs.Tryz
open Go.ChangeShapes Go.WideShapes Go.ChangeAt Go.RowKit Go.Deep Go.Joins
open Go.ChangeMaps (open_string shut_string)
variable{W:bI}
theorem as8:ownKnob prog.godebug=none:=by kernel_rfl
theorem EN:laidOutB prog=true:=by kernel_rfl
noncomputable def XH:Nat:=(prog.globalNamed "internal/strconv.uint64pow10").getD 0
noncomputable def g32:Nat:=(prog.globalNamed "math/bits.deBruijn32tab").getD 0
noncomputable def g64:Nat:=(prog.globalNamed "math/bits.deBruijn64tab").getD 0
theorem as9:prog.globalNamed "internal/strconv.uint64pow10" = some XH:=by kernel_rfl
theorem agY:(prog.globals[XH]?).map (·.type)=some 418:=by kernel_rfl
theorem table(a:laidMetH prog Rows.daemonFreshRow.laid W):Tab W:=by have b:laidMet prog Rows.daemonFreshRow.laid W:=a;have c:laidMet prog [("internal/strconv.uint64pow10",Lib.tabData .u64 Lib.pow10Tab),("strconv.ErrRange",Rows.laid_strconv_ErrRange),("strconv.ErrSyntax",Rows.laid_strconv_ErrSyntax)] W:=b.tail.tail;exact Lib.tabIs_of_head as9 agY underlying418 underlying323 dw dw c
noncomputable def ata:Nat:=(prog.globalNamed "strconv.ErrRange").getD 0
noncomputable def MR:Nat:=(prog.globalNamed "strconv.ErrSyntax").getD 0
theorem XF:prog.globalNamed "strconv.ErrSyntax" = some MR:=by kernel_rfl
theorem ag1:(prog.globals[MR]?).map (·.type)=some 381:=by kernel_rfl
theorem ajm:prog.cellsOf 412=1:=by kernel_rfl
theorem cellsS:prog.cellsOf 9=1:=by kernel_rfl
theorem Wo : "*" ++ "errors.errorString" = "*errors.errorString" := by decide
theorem apE(u:TypeId)(h:prog.typeName? 3 u=some "*errors.errorString"):u=410:=
 typeName_ptr_named (nm := "errors.errorString") (by rw[Wo];kernel_rfl) dw bM u (by rw[Wo];exact h)
theorem atb(e:laidMetH prog Rows.daemonFreshRow.laid W):Qo W:=by
 have f:laidMet prog Rows.daemonFreshRow.laid W:=e;have g:laidMet prog (("strconv.ErrSyntax",Rows.laid_strconv_ErrSyntax)::_) W:=f.tail.tail.tail.tail;obtain⟨a,s,b,_⟩:=laid_sentinel g XF ag1 underlying381 apE underlying410 underlying412 rfl rfl underlying9 ajm cellsS;unfold World.var? at b;rw[XF]at b;simp only[Option.bind_some]at b;cases c:W.heap[MR]? with
 | none=>rw[c]at b;cases b
 | some h=>
  rw[c]at b;cases h with
  | cells cs t d =>simp only[Option.some.injEq]at b;subst b;exact⟨MR,_,_,t,d,XF,c⟩
  | _=>cases b
theorem at6(e:Type)(enc:TypeId × aC->e)(W:bI)(z:Nat)(args:Array aC)(f C:List (DataW e))(B:List MemPlace)(a:∀(j:Nat) t v,Tryz.f5.params[j]?=some t->args[j]?=some v->Value.okWide prog W .any z t v)(o:DataW.Whole enc prog Tryz.f5.params.toList Rows.daemonFreshSpec.vars false W args.toList f C B)(n:laidMetH prog Rows.daemonFreshRow.laid W):aD 5 args W λg W'=>∃v,g=dz v/\Rows.daemonFreshSpec.post enc prog Tryz.f5 false true false false W args v W':=by
 have M:=o;obtain⟨p,q,l,K,rfl,_,_⟩:=o;have k:DataW.TrodAll enc prog W 0 (λ_=>true) true Tryz.f5.params.toList args.toList f p:=l;rw[Tryz.params5]at k a;obtain⟨u,ae,d0,aa,R,q0,ad,rfl,rfl,h,U⟩:=trodAll_cons k;obtain⟨c,af,d1,ab,S,q1,rfl,rfl,rfl,i,V⟩:=trodAll_cons U;obtain⟨w,ag,d2,ac,p2,q2,rfl,rfl,rfl,E,r2⟩:=trodAll_cons V;obtain⟨rfl,rfl,rfl⟩:=trodAll_nil r2;obtain rfl:args=#[u,c,w]:=by cases args;simp_all
 obtain⟨rfl,rfl⟩:=trodVars_none K;obtain⟨r,s⟩:=eY h i;have P:∀x∈R,x.block<W.heap.size:=by obtain⟨m,b⟩:=r;exact DataW.trod_lt m _ _ _ b
 have Q:∀x∈S,x.block<W.heap.size:=by obtain⟨m,b⟩:=s;exact DataW.trod_lt m _ _ _ b
 obtain⟨vn,vl,ss,G,L,Z,rfl,I,H⟩:=QV (a 0 25 u rfl rfl) h;obtain⟨cs,F⟩:=auF (a 1 55 c rfl rfl) i;obtain⟨s2,rfl,rfl,rfl,y⟩:=open_string underlying9 (a 2 9 w rfl rfl) E;clear l;refine(zB W vn vl c ss G L Z cs s2 I H F (table n) (atb n) y).mono λg W' ⟨N,d⟩=>?_;subst N;exact⟨_,rfl,_,_,_,[],_,[],M,trodAll_mk1<|shut_bool underlying4 _,trodAll_cons_mk (Below.trod EN dw (iP dw) r d P)<|trodAll_cons_mk (Below.trod EN dw (iP dw) s d Q)<|trodAll_cons_mk (shut_string underlying9 y) trodAll_mk0,rfl,d.frame _,λD=>by cases D⟩
def Yf:DataW Unit->Array Value
 | .agg l=>(l.filterMap λd=>match d with|.lit (.int k z)=>some (Value.int k z)|_=>none).toArray
 | _=>#[]
def holds(a:Array Value):Obj->Obj
 | .cells _ t b=>.cells a t b
 | c=>c
noncomputable def low:Nat:=(World.holding prog default ⟨#[],#[],[]⟩).heap.size
def Pw:ByteArray:=⟨#[118,97,108,117,101,32,111,117,116,32,111,102,32,114,97,110,103,101]⟩
def J3:ByteArray:=⟨#[105,110,118,97,108,105,100,32,115,121,110,116,97,120]⟩
noncomputable def Gu(os:Os):World:=
 { World.holding prog os ⟨#[.cells #[.string Pw] 412,.cells #[.string J3] 412],#[],[]⟩with heap:=(((((World.holding prog os ⟨#[.cells #[.string Pw] 412,.cells #[.string J3] 412],#[],[]⟩).heap.modify XH (holds (Yf Rows.laid_internal_strconv_uint64pow10))).modify g32 (holds (Yf Rows.laid_math_bits_deBruijn32tab))).modify g64 (holds (Yf Rows.laid_math_bits_deBruijn64tab))).modify ata (holds #[.iface 410 (.pointer (some ⟨low,0,none⟩))])).modify MR (holds #[.iface 410 (.pointer (some ⟨low+1,0,none⟩))]) }
def ws:Array Value:=#[.agg #[.slice none 0 0,.slice none 0 0],.slice none 0 0,.string ⟨#[]⟩]
theorem ag3(os:Os):laidMet prog Rows.daemonFreshRow.laid ((Gu os).forCall (λ_ _=>0) ⟨#[],ws,[]⟩).memory:=
 laidMet_of_run' 8 dw dw
theorem reads(b:Os){a:Type}(enc:TypeId × aC->a):∃x,DataW.whole enc prog ((Gu b).forCall (λ_ _=>0) ⟨#[],ws,[]⟩).memory Tryz.f5.params.toList Rows.daemonFreshSpec.vars false ws.toList 8=some ([.agg [.nil,.nil],.nil,.lit<|.string []],[],x):=
 ⟨[],by kernel_rfl⟩
theorem auv(os:Os)(started:os.Started)(H:Type)(enc:TypeId × aC->H)(F:Stop.Interp):ReturnsInHanded {} Tryz.checked os 5 .any ((OpenSpec.ofChange Rows.daemonFreshSpec).preRow enc prog Tryz.f5 Rows.daemonFreshRow.domain false Rows.daemonFreshRow.laid) (((OpenSpec.ofChange Rows.daemonFreshSpec).at F).post enc prog Tryz.f5 false true false false):=by obtain⟨places,hx⟩:=reads os enc;refine returnsInHanded_of_row (C:=Tryz.checked) (s:=OpenSpec.ofChange Rows.daemonFreshSpec) as8 started dw func5 (witness_row_at (enc:=enc) (C:=Tryz.checked) false (Gu os) ws rfl dw dw dw (OpenSpec.preRow_of_cond 8 hx dw (λk hk=>by cases hk) dw (ag3 os))) ?_;intro W base args ds gs before hval hW _ hcond _ hL _ _;exact at6 H enc W base args ds gs before hval hW hL
theorem auV:Rows.DaemonFreshSaid:=
 OpenClaim.holds_of_cond 5 Tryz.f5 rfl rfl rfl rfl rfl rfl rfl ⟨rfl,rfl,rfl,rfl,rfl⟩ rfl rfl rfl rfl rfl avw func5 auu auT auU
  (λb c a enc _ F=>by rw[OpenClaim.pre_eq_preRow];exact auv b c a enc F)
