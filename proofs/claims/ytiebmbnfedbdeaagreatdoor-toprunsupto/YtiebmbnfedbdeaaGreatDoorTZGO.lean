/- TopRuns: whatever is handed in, as long as it is no larger than the bound, an accepted function doesn't go wrong: it comes to its end, or has not fuel enough; it does what its scheme tells, at its PC or above. -/
import Derived.Test.YtiebmbnfedbdeaaGreatDoorTZGI
import Derived.Test.YtiebmbnfedbdeaaGreatDoorTZGZ
import Derived.Test.YtiebmbnfedbdeaaGreatDoorTZRC
import Derived.Test.YtiebmbnfedbdeaaGreatDoorTie
set_option maxHeartbeats 0
set_option maxRecDepth 99999
namespace Go.Proofs.YtiebmbnfedbdeaaGreatDoor
open Go.Proofs.Tryz
open Go.ChangeShapes Go.WideShapes Go.ChangeAt Go.RowKit Go.Deep Go.Joins
open Go.ChangeMaps (open_string shut_string)
variable{W:bI}
theorem as8:ownKnob prog.godebug=none:=by kernel_rfl
theorem EN:laidOutB prog=true:=by kernel_rfl
noncomputable def XH:Nat:=(prog.globalNamed "internal/strconv.uint64pow10").getD 0
noncomputable def g32:Nat:=(prog.globalNamed "math/bits.deBruijn32tab").getD 0
noncomputable def g64:Nat:=(prog.globalNamed "math/bits.deBruijn64tab").getD 0
theorem as9:prog.globalNamed "internal/strconv.uint64pow10" = some XH:=by kernel_rfl
theorem agY:(prog.globals[XH]?).map (·.type)=some 372:=by kernel_rfl
theorem table(a:laidMetH prog Rows.topRunsUptoRow.laid W):Tab W:=by have b:laidMet prog Rows.topRunsUptoRow.laid W:=a;have c:laidMet prog [("internal/strconv.uint64pow10",Lib.tabData .u64 Lib.pow10Tab),("strconv.ErrRange",Rows.laid_strconv_ErrRange),("strconv.ErrSyntax",Rows.laid_strconv_ErrSyntax)] W:=b.tail.tail;exact Lib.tabIs_of_head as9 agY underlying372 underlying271 dw dw c
noncomputable def ata:Nat:=(prog.globalNamed "strconv.ErrRange").getD 0
noncomputable def MR:Nat:=(prog.globalNamed "strconv.ErrSyntax").getD 0
theorem XF:prog.globalNamed "strconv.ErrSyntax" = some MR:=by kernel_rfl
theorem ag1:(prog.globals[MR]?).map (·.type)=some 335:=by kernel_rfl
theorem ajm:prog.cellsOf 366=1:=by kernel_rfl
theorem cellsS:prog.cellsOf 9=1:=by kernel_rfl
theorem Wo : "*" ++ "errors.errorString" = "*errors.errorString" := by decide
theorem apE(u:TypeId)(h:prog.typeName? 3 u=some "*errors.errorString"):u=364:=
 typeName_ptr_named (nm := "errors.errorString") (by rw[Wo];kernel_rfl) dw bM u (by rw[Wo];exact h)
theorem atb(e:laidMetH prog Rows.topRunsUptoRow.laid W):Qo W:=by
 have f:laidMet prog Rows.topRunsUptoRow.laid W:=e;have g:laidMet prog (("strconv.ErrSyntax",Rows.laid_strconv_ErrSyntax)::_) W:=f.tail.tail.tail.tail;obtain⟨a,s,b,_⟩:=laid_sentinel g XF ag1 underlying335 apE underlying364 underlying366 rfl rfl underlying9 ajm cellsS;unfold World.var? at b;rw[XF]at b;simp only[Option.bind_some]at b;cases c:W.heap[MR]? with
 | none=>rw[c]at b;cases b
 | some o=>
  rw[c]at b;cases o with
  | cells cs t d =>simp only[Kj]at b;subst b;exact⟨MR,_,_,t,d,XF,c⟩
  | _=>cases b
theorem at1(c:Type)(enc:TypeId × aC->c)(W:bI)(Q:Nat)(args:Array aC)(d i:List (DataW c))(R:List MemPlace)(b:∀(j:Nat) t v,Tryz.f4.params[j]?=some t->args[j]?=some v->Value.okWide prog W .any Q t v)(z:DataW.Whole enc prog Tryz.f4.params.toList Rows.topRunsSpec.vars false W args.toList d i R)(hk:Rows.uptoSmall c (d++i)=true)(w:laidMetH prog Rows.topRunsUptoRow.laid W):aD 4 args W λe W'=>∃v,e=dz v/\Rows.topRunsSpec.post enc prog Tryz.f4 false true false false W args v W':=by
 have ab:=z;obtain⟨p,q,s,hV,rfl,_,_⟩:=z;have r:DataW.TrodAll enc prog W 0 (λ_=>true) true Tryz.f4.params.toList args.toList d p:=s;rw[Tryz.params4]at r b;obtain⟨F,av,S,ai,p0,q0,au,rfl,rfl,k,r0⟩:=trodAll_cons r;obtain⟨f,aw,U,ak,p1,q1,rfl,rfl,rfl,n,r1⟩:=trodAll_cons r0;obtain⟨H,ax,V,al,p2,q2,rfl,rfl,rfl,h2,r2⟩:=trodAll_cons r1;obtain⟨v3,ay,d3,am,p3,q3,rfl,rfl,rfl,h3,r3⟩:=trodAll_cons r2;obtain⟨v4,az,d4,ao,p4,q4,rfl,rfl,rfl,h4,r4⟩:=trodAll_cons r3;obtain⟨g,aA,d5,aq,p5,q5,rfl,rfl,rfl,o,r5⟩:=trodAll_cons r4;obtain⟨rfl,rfl,rfl⟩:=trodAll_nil r5;obtain rfl:args=#[F,f,H,v3,v4,g]:=by cases args;simp_all
 obtain⟨rfl,rfl⟩:=trodVars_none hV;have hb:Rows.uptoBulkAll ([S,U,V,d3,d4,d5]++[])<=1048576:=iP hk;simp only[gL,Rows.uptoBulkAll]at hb;obtain⟨B,C,D,E⟩:=rY k n h4 o;have ae:∀x∈p0,x.block<W.heap.size:=by obtain⟨m,a⟩:=B;exact DataW.trod_lt m _ _ _ a
 have af:∀x∈p1,x.block<W.heap.size:=by obtain⟨m,a⟩:=C;exact DataW.trod_lt m _ _ _ a
 have ag:∀x∈p4,x.block<W.heap.size:=by obtain⟨m,a⟩:=D;exact DataW.trod_lt m _ _ _ a
 have ah:∀x∈p5,x.block<W.heap.size:=by obtain⟨m,a⟩:=E;exact DataW.trod_lt m _ _ _ a
 obtain⟨vn,vl,ss,G,L,Z,rfl,hS,hR⟩:=QV (b 0 25 F rfl rfl) k;obtain⟨m1,l,hM,ad⟩:=agz (b 1 26 f rfl rfl) n;obtain⟨s2,rfl,rfl,rfl,I⟩:=open_string underlying9 (b 2 9 H rfl rfl) h2;obtain⟨K,rfl,rfl,rfl,w3⟩:=open_int underlying3 (b 3 3 v3 rfl rfl) h3;obtain⟨N,u,P⟩:=ab9 (b 4 27 v4 rfl rfl) h4;obtain⟨st,aa⟩:=agI (b 5 28 g rfl rfl) o;have ac:uL v4:=acd underlying27 h4 (by obtain⟨_,_,_,_,rfl,_⟩:=u;rfl);clear s;refine(atX m1 W vn vl f v4 g ss G L Z l s2 K N st hS hR hM (λy hy=>by have:=ad y hy;omega) u P ac aa (table w) (atb w) I).mono λe W' ⟨he,wB⟩=>?_;subst he;exact⟨_,rfl,_,_,_,[],_,[],ab,trodAll_mk1<|shut_bool underlying4 _,trodAll_cons_mk (Below.trod EN dw (iP dw) B wB ae)<|trodAll_cons_mk (Below.trod EN dw (iP dw) C wB af)<|trodAll_cons_mk (shut_string underlying9 I)<|trodAll_cons_mk (shut_int underlying3 w3)<|trodAll_cons_mk (Below.trod EN dw (iP dw) D wB ag)<|trodAll_cons_mk (Below.trod EN dw (iP dw) E wB ah) trodAll_mk0,rfl,wB.frame _,λh=>by cases h⟩
def Yf:DataW Unit->Array Value
 | .agg l=>(l.filterMap λd=>match d with|.lit (.int k z)=>some (Value.int k z)|_=>none).toArray
 | _=>#[]
def holds(a:Array Value):Obj->Obj
 | .cells _ t b=>.cells a t b
 | o=>o
noncomputable def low:Nat:=(World.holding prog default ⟨#[],#[],[]⟩).heap.size
def Pw:ByteArray:=⟨#[118,97,108,117,101,32,111,117,116,32,111,102,32,114,97,110,103,101]⟩
def J3:ByteArray:=⟨#[105,110,118,97,108,105,100,32,115,121,110,116,97,120]⟩
noncomputable def Gu(os:Os):bI:=
 { World.holding prog os ⟨#[.cells #[.string Pw] 366,.cells #[.string J3] 366],#[],[]⟩with heap:=(((((World.holding prog os ⟨#[.cells #[.string Pw] 366,.cells #[.string J3] 366],#[],[]⟩).heap.modify XH (holds (Yf Rows.laid_internal_strconv_uint64pow10))).modify g32 (holds (Yf Rows.laid_math_bits_deBruijn32tab))).modify g64 (holds (Yf Rows.laid_math_bits_deBruijn64tab))).modify ata (holds #[.iface 364 (.pointer (some ⟨low,0,none⟩))])).modify MR (holds #[.iface 364 (.pointer (some ⟨low+1,0,none⟩))]) }
def ws:Array Value:=#[.agg #[.slice none 0 0,.slice none 0 0],.slice none 0 0,.string ⟨#[]⟩,.int .i64 0,.slice none 0 0,.slice none 0 0]
theorem ag3(os:Os):laidMet prog Rows.topRunsUptoRow.laid ((Gu os).forCall (λ_ _=>0) ⟨#[],ws,[]⟩).memory:=
 laidMet_of_run' 8 dw dw
theorem reads(b:Os){a:Type}(enc:TypeId × aC->a):∃x,DataW.whole enc prog ((Gu b).forCall (λ_ _=>0) ⟨#[],ws,[]⟩).memory Tryz.f4.params.toList Rows.topRunsSpec.vars false ws.toList 8=some ([.agg [.nil,.nil],.nil,.lit<|.string [],.lit<|.int .i64 0,.nil,.nil],[],x):=
 ⟨[],by kernel_rfl⟩
theorem auc(os:Os)(started:os.Started)(H:Type)(enc:TypeId × aC->H)(F:Stop.Interp):ReturnsInHanded {} Tryz.checked os 4 .any ((Rows.OpenSpec.upto Rows.topRunsSpec).preRow enc prog Tryz.f4 Rows.topRunsUptoRow.domain false Rows.topRunsUptoRow.laid) (((Rows.OpenSpec.upto Rows.topRunsSpec).at F).post enc prog Tryz.f4 false true false false):=by obtain⟨places,hx⟩:=reads os enc;refine returnsInHanded_of_row (C:=Tryz.checked) (s:=Rows.OpenSpec.upto Rows.topRunsSpec) as8 started dw func4 (witness_row_at (enc:=enc) (C:=Tryz.checked) false (Gu os) ws rfl dw dw dw (OpenSpec.preRow_of_cond 8 hx dw (λk hk=>by cases hk;kernel_rfl) dw (ag3 os))) ?_;intro W base args ds gs before hval hW _ hcond _ hL _ _;exact at1 H enc W base args ds gs before hval hW (hcond _ rfl) hL
theorem aum:Rows.TopRunsUptoSaid:=
 OpenClaim.holds_of_cond 4 Tryz.f4 rfl rfl rfl rfl rfl rfl rfl ⟨rfl,rfl,rfl,rfl,rfl⟩ rfl rfl rfl rfl rfl auB func4 at7 aui auj
  (λb c a enc _ F=>by rw[OpenClaim.pre_eq_preRow];exact auc b c a enc F)
theorem tr_card:Rows.TopRunsUptoCardSaid:=
 Claim7.holds_tied_plain_at .later [] _ _ _ _ aum (λ_ h=>by cases h) auC (λ_ h=>by cases h) topRunsUpto_row_tie rfl ⟨rfl,rfl⟩ auD rfl aud auE
#print axioms tr_card
