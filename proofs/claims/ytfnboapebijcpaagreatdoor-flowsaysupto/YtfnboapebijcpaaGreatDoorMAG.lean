/- FlowSays, where what is handed in is of bulk at -/
import Derived.Test.YtfnboapebijcpaaGreatDoorMAF
import Derived.Test.YtfnboapebijcpaaGreatDoorMAD
set_option maxHeartbeats 16000000
set_option maxRecDepth 100000
namespace Go.Proofs.YtfnboapebijcpaaGreatDoor
open Go.Proofs.Tryz
open Go.ChangeShapes Go.WideShapes Go.ChangeAt Go.RowKit Go.Deep Go.Joins
open Go.ChangeMaps (open_string shut_string)
noncomputable def gPow:Nat:=(prog.globalNamed "internal/strconv.uint64pow10").getD 0
noncomputable def g32:Nat:=(prog.globalNamed "math/bits.deBruijn32tab").getD 0
noncomputable def g64:Nat:=(prog.globalNamed "math/bits.deBruijn64tab").getD 0
theorem gTab:prog.globalNamed "internal/strconv.uint64pow10" = some gPow:=by kernel_rfl
theorem gTabType:(prog.globals[gPow]?).map (·.type)=some 464:=by kernel_rfl
theorem table{W:World}(h:laidMetH prog Rows.flowSaysUptoRow.laid W):Tab W:=by have h1:laidMet prog Rows.flowSaysUptoRow.laid W:=h;have h2:laidMet prog [("internal/strconv.uint64pow10",Lib.tabData .u64 Lib.pow10Tab)] W:=h1.tail.tail;exact Lib.tabIs_of_head gTab gTabType underlying464 underlying347 (by kernel_rfl) (by kernel_rfl) h2
theorem Jb(H:Type)(enc:TypeId × Value->H)(W:World)(base:Nat)(args:Array Value)(ds gs:List (DataW H))(before:List MemPlace)(hval:∀(j:Nat) t v,Tryz.f6.params[j]?=some t->args[j]?=some v->Value.okWide prog W .any base t v)(hW:DataW.Whole enc prog Tryz.f6.params.toList Rows.flowSaysSpec.vars false W args.toList ds gs before)(hk:Rows.uptoSmall H (ds++gs)=true)(hL:laidMetH prog Rows.flowSaysUptoRow.laid W):Calls prog 6 args W λe W'=>∃v,e=.returned v/\Rows.flowSaysSpec.post enc prog Tryz.f6 false true false false W args v W':=by
 have hW':=hW;obtain⟨p,q,hA0,hV,rfl,_,_⟩:=hW;have hA:DataW.TrodAll enc prog W 0 (λ_=>true) true Tryz.f6.params.toList args.toList ds p:=hA0;rw[Tryz.params6]at hA hval;obtain⟨v0,vs0,d0,ds0,p0,q0,hargs,rfl,rfl,h0,r0⟩:=trodAll_cons hA;obtain⟨v1,vs1,d1,ds1,p1,q1,rfl,rfl,rfl,h1,r1⟩:=trodAll_cons r0;obtain⟨v2,vs2,d2,ds2,p2,q2,rfl,rfl,rfl,h2,r2⟩:=trodAll_cons r1;obtain⟨v3,vs3,d3,ds3,p3,q3,rfl,rfl,rfl,h3,r3⟩:=trodAll_cons r2;obtain⟨v4,vs4,d4,ds4,p4,q4,rfl,rfl,rfl,h4,r4⟩:=trodAll_cons r3;obtain⟨v5,vs5,d5,ds5,p5,q5,rfl,rfl,rfl,h5,r5⟩:=trodAll_cons r4;obtain⟨rfl,rfl,rfl⟩:=trodAll_nil r5;obtain rfl:args=#[v0,v1,v2,v3,v4,v5]:=by cases args;simp_all
 obtain⟨rfl,rfl⟩:=trodVars_none hV;have hb:Rows.uptoBulkAll ([d0,d1,d2,d3,d4,d5]++[])<=1048576:=of_decide_eq_true hk;simp only[bX,Rows.uptoBulkAll]at hb;have k0:=h0;have k1:=h1;have k3:=h3;have k4:=h4;have k5:=h5;have lt0:∀x∈p0,x.block<W.heap.size:=by obtain⟨m,hm⟩:=k0;exact DataW.trod_lt m _ _ _ hm
 have lt1:∀x∈p1,x.block<W.heap.size:=by obtain⟨m,hm⟩:=k1;exact DataW.trod_lt m _ _ _ hm
 have lt3:∀x∈p3,x.block<W.heap.size:=by obtain⟨m,hm⟩:=k3;exact DataW.trod_lt m _ _ _ hm
 have lt4:∀x∈p4,x.block<W.heap.size:=by obtain⟨m,hm⟩:=k4;exact DataW.trod_lt m _ _ _ hm
 have lt5:∀x∈p5,x.block<W.heap.size:=by obtain⟨m,hm⟩:=k5;exact DataW.trod_lt m _ _ _ hm
 obtain⟨vn,vl,ss,G,L,Z,rfl,hS,hR⟩:=K6 (hval 0 34 v0 rfl rfl) h0;obtain⟨m1,x,vi,vv,vf,rfl,hM,hmw,hC⟩:=RA (hval 1 26 v1 rfl rfl) h1;obtain⟨a2,rfl,rfl,rfl,w2⟩:=open_int underlying3 (hval 2 3 v2 rfl rfl) h2;obtain⟨m2,known,hKn,hkw⟩:=XD (hval 3 35 v3 rfl rfl) h3;obtain⟨aW,hSc,hsw⟩:=RX (hval 4 65 v4 rfl rfl) h4;obtain⟨own',hOw,how⟩:=VX (hval 5 66 v5 rfl rfl) h5;have hM':=hM.DK (Nat.le_max_left m1 m2);have hK':=hKn.DK (Nat.le_max_right m1 m2);have e1:=BZ hM (Nat.le_max_left m1 m2);have e2:=QE hKn (Nat.le_max_right m1 m2);clear hA0;refine(Wu (max m1 m2) W vn vl vi vv vf v3 v4 v5 ss G L Z x known aW own' a2 ⟨hS,hR,hM',hC,hK',hSc,hOw,by omega,λy hy=>by have:=hkw y hy;have:=e2 y hy;omega,table hL,λl hl y hy=>by have a1:=Pe hy;have a2':=VW hl;omega,λy hy=>by have a1:=Pe hy;omega⟩).mono λe W' ⟨he,bel⟩=>?_;subst he;exact⟨_,rfl,_,_,_,[],_,[],hW',trodAll_mk1 (shut_bool underlying4 _),trodAll_cons_mk (Below.trod laidOut (by kernel_rfl) (of_decide_eq_true (by kernel_rfl)) k0 bel lt0) (trodAll_cons_mk (Below.trod laidOut (by kernel_rfl) (of_decide_eq_true (by kernel_rfl)) k1 bel lt1) (trodAll_cons_mk (shut_int underlying3 w2) (trodAll_cons_mk (Below.trod laidOut (by kernel_rfl) (of_decide_eq_true (by kernel_rfl)) k3 bel lt3) (trodAll_cons_mk (Below.trod laidOut (by kernel_rfl) (of_decide_eq_true (by kernel_rfl)) k4 bel lt4) (trodAll_cons_mk (Below.trod laidOut (by kernel_rfl) (of_decide_eq_true (by kernel_rfl)) k5 bel lt5) (trodAll_mk0)))))),rfl,bel.frame _,λh=>by cases h⟩
def Tj:DataW Unit->Array Value
 | .agg l=>(l.filterMap λd=>match d with|.lit (.int k z)=>some (Value.int k z)|_=>none).toArray
 | _=>#[]
def holds(a:Array Value):Obj->Obj
 | .cells _ t frozen=>.cells a t frozen
 | o=>o
def ws:Array Value:=#[.agg #[.slice none 0 0,.slice none 0 0],.agg #[.string ⟨#[]⟩,.slice none 0 0,.slice none 0 0,.slice none 0 0],.int .i64 0,.slice none 0 0,.slice none 0 0,.slice none 0 0]
noncomputable def Du(os:Os):World:=
 { World.holding prog os ⟨#[],#[],[]⟩with heap:=(((World.holding prog os ⟨#[],#[],[]⟩).heap.modify gPow (holds (Tj Rows.laid_internal_strconv_uint64pow10))).modify g32 (holds (Tj Rows.laid_math_bits_deBruijn32tab))).modify g64 (holds (Tj Rows.laid_math_bits_deBruijn64tab)) }
theorem laid_met(os:Os):laidMet prog Rows.flowSaysUptoRow.laid ((Du os).forCall (λ_ _=>0) ⟨#[],ws,[]⟩).memory:=
 laidMet_of_run' 8 (by kernel_rfl) (by kernel_rfl)
theorem reads(os:Os){H:Type}(enc:TypeId × Value->H):∃x,DataW.whole enc prog ((Du os).forCall (λ_ _=>0) ⟨#[],ws,[]⟩).memory Tryz.f6.params.toList Rows.flowSaysSpec.vars false ws.toList 8=some ([.agg [.nil,.nil],.agg [.lit (.string []),.nil,.nil,.nil],.lit (.int .i64 0),.nil,.nil,.nil],[],x):=
 ⟨[],by kernel_rfl⟩
theorem Qa(os:Os)(started:os.Started)(H:Type)(enc:TypeId × Value->H)(F:Stop.Interp):ReturnsInHanded {} Tryz.checked os 6 .any ((Rows.OpenSpec.upto Rows.flowSaysSpec).preRow enc prog Tryz.f6 Rows.flowSaysUptoRow.domain false Rows.flowSaysUptoRow.laid) (((Rows.OpenSpec.upto Rows.flowSaysSpec).at F).post enc prog Tryz.f6 false true false false):=by obtain⟨places,hx⟩:=reads os enc;refine returnsInHanded_of_row (C:=Tryz.checked) (s:=Rows.OpenSpec.upto Rows.flowSaysSpec) own started (by kernel_rfl) func6 (witness_row_at (enc:=enc) (C:=Tryz.checked) false (Du os) ws rfl (by kernel_rfl) (by kernel_rfl) (by kernel_rfl) (OpenSpec.preRow_of_cond 8 hx (by kernel_rfl) (λk hk=>by cases hk;kernel_rfl) (by kernel_rfl) (laid_met os))) ?_;intro W base args ds gs before hval hW _ hcond _ hL _ _;exact Jb H enc W base args ds gs before hval hW (hcond _ rfl) hL
theorem Ww:Rows.FlowSaysUptoSaid:=
 OpenClaim.holds_of_cond 6 Tryz.f6 rfl rfl rfl rfl rfl rfl rfl ⟨rfl,rfl,rfl,rfl,rfl⟩ rfl rfl rfl rfl rfl flow_fn func6 Nj UQ UR
  (λos started H enc _ F=>by rw[OpenClaim.pre_eq_preRow];exact Qa os started H enc F)
end Go.Proofs.YtfnboapebijcpaaGreatDoor
