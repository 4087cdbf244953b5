import Derived.Test.YtageneidjnbedaaGreatDoorTZQI
import Derived.Test.YtageneidjnbedaaGreatDoorTZTJ
set_option maxHeartbeats 0
set_option maxRecDepth 99999
namespace Go.Proofs.YtageneidjnbedaaGreatDoor
open Go.Proofs.Tryz
open Go.ChangeShapes Go.WideShapes Go.ChangeAt Go.RowKit Go.Deep Go.Joins
open Go.ChangeMaps (open_string shut_string)
variable{W:bI}
theorem as8:ownKnob prog.godebug=none:=by kernel_rfl
theorem EN:laidOutB prog=true:=by kernel_rfl
noncomputable def XH:Nat:=(prog.globalNamed "internal/strconv.uint64pow10").getD 0
noncomputable def g32:Nat:=(prog.globalNamed "math/bits.deBruijn32tab").getD 0
noncomputable def g64:Nat:=(prog.globalNamed "math/bits.deBruijn64tab").getD 0
theorem as9:prog.globalNamed "internal/strconv.uint64pow10" = some XH:=by kernel_rfl
theorem agY:(prog.globals[XH]?).map (·.type)=some 337:=by kernel_rfl
theorem table(h:laidMetH prog Rows.topHigherUptoRow.laid W):Tab W:=by have a:laidMet prog Rows.topHigherUptoRow.laid W:=h;have b:laidMet prog [("internal/strconv.uint64pow10",Lib.tabData .u64 Lib.pow10Tab),("strconv.ErrRange",Rows.laid_strconv_ErrRange),("strconv.ErrSyntax",Rows.laid_strconv_ErrSyntax)] W:=a.tail.tail;exact Lib.tabIs_of_head as9 agY underlying337 underlying220 dw dw b
noncomputable def ata:Nat:=(prog.globalNamed "strconv.ErrRange").getD 0
noncomputable def MR:Nat:=(prog.globalNamed "strconv.ErrSyntax").getD 0
theorem XF:prog.globalNamed "strconv.ErrSyntax" = some MR:=by kernel_rfl
theorem ag1:(prog.globals[MR]?).map (·.type)=some 201:=by kernel_rfl
theorem ajm:prog.cellsOf 348=1:=by kernel_rfl
theorem cellsS:prog.cellsOf 9=1:=by kernel_rfl
theorem Wo : "*" ++ "errors.errorString" = "*errors.errorString" := by decide
theorem apE(u:TypeId)(h:prog.typeName? 3 u=some "*errors.errorString"):u=346:=
 typeName_ptr_named (nm := "errors.errorString") (by rw[Wo];kernel_rfl) dw bM u (by rw[Wo];exact h)
theorem atb(h:laidMetH prog Rows.topHigherUptoRow.laid W):Qo W:=by
 have f:laidMet prog Rows.topHigherUptoRow.laid W:=h;have g:laidMet prog (("strconv.ErrSyntax",Rows.laid_strconv_ErrSyntax)::_) W:=f.tail.tail.tail.tail;obtain⟨a,s,b,_⟩:=laid_sentinel g XF ag1 underlying201 apE underlying346 underlying348 rfl rfl underlying9 ajm cellsS;unfold World.var? at b;rw[XF]at b;simp only[Option.bind_some]at b;cases d:W.heap[MR]? with
 | none=>rw[d]at b;cases b
 | some o=>
  rw[d]at b;cases o with
  | cells cs t e =>simp only[Kj]at b;subst b;exact⟨MR,_,_,t,e,XF,d⟩
  | _=>cases b
theorem ax4(b:Type)(enc:TypeId × aC->b)(W:bI)(H:Nat)(args:Array aC)(d k:List (DataW b))(I:List MemPlace)(a:∀(j:Nat) t v,Tryz.f3.params[j]?=some t->args[j]?=some v->Value.okWide prog W .any H t v)(z:DataW.Whole enc prog Tryz.f3.params.toList Rows.topHigherSpec.vars false W args.toList d k I)(hk:Rows.uptoSmall b (d++k)=true)(w:laidMetH prog Rows.topHigherUptoRow.laid W):aD 3 args W λi W'=>∃v,i=dz v/\Rows.topHigherSpec.post enc prog Tryz.f3 false true false false W args v W':=by
 have V:=z;obtain⟨p,q,u,U,rfl,_,_⟩:=z;have s:DataW.TrodAll enc prog W 0 (λ_=>true) true Tryz.f3.params.toList args.toList d p:=u;rw[Tryz.params3]at s a;obtain⟨D,ah,K,ad,p0,q0,ag,rfl,rfl,n,r0⟩:=trodAll_cons s;obtain⟨f,ai,M,ae,p1,q1,rfl,rfl,rfl,r,r1⟩:=trodAll_cons r0;obtain⟨E,ak,N,af,p2,q2,rfl,rfl,rfl,P,r2⟩:=trodAll_cons r1;obtain⟨rfl,rfl,rfl⟩:=trodAll_nil r2;obtain rfl:args=#[D,f,E]:=by cases args;simp_all
 obtain⟨rfl,rfl⟩:=trodVars_none U;have hb:Rows.uptoBulkAll ([K,M,N]++[])<=1048576:=iP hk;simp only[gL,Rows.uptoBulkAll]at hb;obtain⟨B,C⟩:=eY n r;have ab:∀x∈p0,x.block<W.heap.size:=by obtain⟨m,e⟩:=B;exact DataW.trod_lt m _ _ _ e
 have ac:∀x∈p1,x.block<W.heap.size:=by obtain⟨m,e⟩:=C;exact DataW.trod_lt m _ _ _ e
 obtain⟨vn,vl,ss,G,L,Z,rfl,S,R⟩:=QV (a 0 25 D rfl rfl) n;obtain⟨m1,l,Q,aa⟩:=agz (a 1 26 f rfl rfl) r;obtain⟨s2,rfl,rfl,rfl,F⟩:=open_string underlying9 (a 2 9 E rfl rfl) P;clear u;refine(axe m1 W vn vl f ss G L Z l s2 S R Q (λy hy=>by have:=aa y hy;omega) (table w) (atb w) F).mono λi W' ⟨he,g⟩=>?_;subst he;exact⟨_,rfl,_,_,_,[],_,[],V,trodAll_mk1<|shut_bool underlying4 _,trodAll_cons_mk (Below.trod EN dw (iP dw) B g ab)<|trodAll_cons_mk (Below.trod EN dw (iP dw) C g ac)<|trodAll_cons_mk (shut_string underlying9 F) trodAll_mk0,rfl,g.frame _,λh=>by cases h⟩
def Yf:DataW Unit->Array Value
 | .agg l=>(l.filterMap λd=>match d with|.lit (.int k z)=>some (Value.int k z)|_=>none).toArray
 | _=>#[]
def holds(a:Array Value):Obj->Obj
 | .cells _ t b=>.cells a t b
 | o=>o
noncomputable def low:Nat:=(World.holding prog default ⟨#[],#[],[]⟩).heap.size
def Pw:ByteArray:=⟨#[118,97,108,117,101,32,111,117,116,32,111,102,32,114,97,110,103,101]⟩
def J3:ByteArray:=⟨#[105,110,118,97,108,105,100,32,115,121,110,116,97,120]⟩
noncomputable def Gu(os:Os):World:=
 { World.holding prog os ⟨#[.cells #[.string Pw] 348,.cells #[.string J3] 348],#[],[]⟩with heap:=(((((World.holding prog os ⟨#[.cells #[.string Pw] 348,.cells #[.string J3] 348],#[],[]⟩).heap.modify XH (holds (Yf Rows.laid_internal_strconv_uint64pow10))).modify g32 (holds (Yf Rows.laid_math_bits_deBruijn32tab))).modify g64 (holds (Yf Rows.laid_math_bits_deBruijn64tab))).modify ata (holds #[.iface 346 (.pointer (some ⟨low,0,none⟩))])).modify MR (holds #[.iface 346 (.pointer (some ⟨low+1,0,none⟩))]) }
def ws:Array Value:=#[.agg #[.slice none 0 0,.slice none 0 0],.slice none 0 0,.string ⟨#[]⟩]
theorem ag3(os:Os):laidMet prog Rows.topHigherUptoRow.laid ((Gu os).forCall (λ_ _=>0) ⟨#[],ws,[]⟩).memory:=
 laidMet_of_run' 8 dw dw
theorem reads(b:Os){a:Type}(enc:TypeId × aC->a):∃x,DataW.whole enc prog ((Gu b).forCall (λ_ _=>0) ⟨#[],ws,[]⟩).memory Tryz.f3.params.toList Rows.topHigherSpec.vars false ws.toList 8=some ([.agg [.nil,.nil],.nil,.lit<|.string []],[],x):=
 ⟨[],by kernel_rfl⟩
theorem ayP(a:Os)(p:a.Started)(b:Type)(enc:TypeId × aC->b)(F:Stop.Interp):ReturnsInHanded {} Tryz.checked a 3 .any ((Rows.OpenSpec.upto Rows.topHigherSpec).preRow enc prog Tryz.f3 Rows.topHigherUptoRow.domain false Rows.topHigherUptoRow.laid) (((Rows.OpenSpec.upto Rows.topHigherSpec).at F).post enc prog Tryz.f3 false true false false):=by obtain⟨q,n⟩:=reads a enc;refine returnsInHanded_of_row (C:=Tryz.checked) (s:=Rows.OpenSpec.upto Rows.topHigherSpec) as8 p dw func3 (witness_row_at (enc:=enc) (C:=Tryz.checked) false (Gu a) ws rfl dw dw dw (OpenSpec.preRow_of_cond 8 n dw (λk l=>by cases l;kernel_rfl) dw (ag3 a))) ?_;intro W d args f g e m i _ j _ h _ _;exact ax4 b enc W d args f g e m i (j _ rfl) h
theorem azV:Rows.TopHigherUptoSaid:=
 OpenClaim.holds_of_cond 3 Tryz.f3 rfl rfl rfl rfl rfl rfl rfl ⟨rfl,rfl,rfl,rfl,rfl⟩ rfl rfl rfl rfl rfl aAz func3 ayI azD azE
  (λb d a enc _ F=>by rw[OpenClaim.pre_eq_preRow];exact ayP b d a enc F)
theorem aAU:false=Rows.topHigherUptoRow.goesBy Tryz.pinned.checked.prog:=by kernel_rfl
