/- part -/
import Derived.Test.YtbgkpehhdibaoaaGreatDoorBBE
import Derived.Test.YtbgkpehhdibaoaaGreatDoorBZQI
set_option maxHeartbeats 0
set_option maxRecDepth 99999
namespace Go.Proofs.YtbgkpehhdibaoaaGreatDoor
open Ck bN
open Go.Proofs.Tryz
open Go.RowKit Go.Maps Go.WideMaps
variable{W:World}
theorem JN(m:Nat)(w:World)(vn vl vk:Value)(ss:List aY)(G:Nat)(L:Nat->Nat)(Z:Nat->Nat->Bool)(l:List Mo)(name:aY)(hS:Strs w vn ss)(hR:Fg w vl G L Z)(hK:vD w m vk l)(hsm:∀x∈l,vF m x<=1048576)(ht:Tab w)(he:M9 w)(hn:name.size<=maxLen):Calls prog 7 #[.agg #[vn,vl],vk,A name] w λe w'=>e=dz (.bool true)/\bG w w':=by
 obtain⟨c,hc⟩:∃c,c=(⟨m,ss,G,L,Z,l⟩:Cx):=⟨_,rfl⟩;have hcl:c.l=l:=by rw[hc]
 have HSAID:=I (λwx (hb:bG w wx)=>said_any wx (ht.below hb) (he.below hb));have HACC:Hid (∀wx,bG w wx->Calls prog 24 #[.agg #[vn,vl],vk,A name,O 0] wx λe w'=>QW wx w' (Ck.an c name) e):=I (λwx hb=>by rw[hc];exact tacc_any m wx vn vl vk ss G L Z l name 0 (hS.below hb) (hR.below hb) (hK.below hb) hsm (ht.below hb) hn);have HRCH:Hid ((Ck.an c name).2.2=0->∀wx,bG w wx->Calls prog 20 #[vk,A name] wx λe w'=>∃u,e=dz u/\Hid (∃R,RcOk l name R/\Strs w' u R/\bG wx w')):=I (λh0 wx hb=>by have hok:=an_ok (c:=c) (name:=name) h0;rw[hc]at hok;exact KX m wx vk l name (hK.mos.below hb) (bF (oh hok.1).2.1 bO) hn hsm);have Ht:Hid ((Ck.an c name).2.2=0->(Ck.an c name).2.1=[]->¬Ck.sH l name name/\∀s,Ck.sH l name s->(Ck.an c s).2.2=0/\(Ck.an c s).2.1=[]):=I (λh0 h1=>by rw[<-hcl];exact an_below h0 h1);have HANS:Hid (∀s:aY,s.size<=maxLen->(Ck.an c s).2.2=0->(Ck.an c s).2.1=[]->∀wx,bG w wx->Calls prog 18 #[.agg #[vn,vl],vk,A s] wx λe w'=>∃sa sn sc da dc,e=dz (.tuple #[.agg #[Y sa sn sc,Y da 0 dc],O 0])/\bG wx w'):=I (λs hs h0 h1 wx hb=>by have h:=Aj m wx vn vl vk ss G L Z l s (Ck.uni ss l) (hS.below hb) (hR.below hb) (hK.below hb) hsm (ht.below hb) hs NK;rw[<-hc,h0,h1]at h;refine h.mono ?_;rintro e w' ⟨vs,vd,rfl,hh⟩;obtain⟨h1,h2,h3⟩:=hh.out;obtain⟨sa,sc,rfl⟩:=h1.form;obtain⟨da,db,do',dc,rfl,-⟩:=h2;exact⟨sa,_,sc,da,dc,rfl,h3⟩);obtain⟨a0,c0,e0⟩:=jF hS;obtain⟨a1,b1,o1,c1,lA,lRB,lRO,lC,e1,-⟩:=hR;obtain⟨a5,b5,f5,c5,e5,-⟩:=hK;generalize ss.length=n0 at e0;generalize l.length=n5 at e5;subst e0 e1 e5;clear hS hsm ht he hn hc hcl;obtain⟨iA,lF⟩:=Wm w (aW #[Y a0 n0 c0,Y a1 G c1] 25);obtain⟨LB,hLB⟩:=bC w.heap.size;go_enter func7,ntmps7;go_upto_region 1 with fail;rw[<-hLB]at lF ⊢;generalize w.alloc (aW #[Y a0 n0 c0,Y a1 G c1] 25)=W at *;clear hLB;go_wp2_with fail;refine(HSAID W iA).mono ?_;rintro e w1 ⟨rfl,hb1⟩;obtain⟨HB1,jh⟩:=bU (up iA hb1) (aU lF hb1);clear hb1;obtain⟨x0,x1⟩:=iV jh;go_wp2_with fail;refine(HACC w1 HB1).mono ?_;rintro e w2 ⟨fn,i1,i2,ba,bn,bc,i3,ea,en,ec,ok,rfl,hok,hb2⟩;obtain⟨IZ,HB2,Fa⟩:=fD hok (up HB1 hb2) (aU jh hb2);clear hok hb2 x0 x1;go_upto_region 4 with fail;obtain⟨dQ,-⟩:=Wm w2 (aW #[A fn,O i1,O i2,Y ba bn bc,O i3,Y ea en ec] 35);obtain⟨HB3,EI⟩:=bU (up HB2 dQ) (aU Fa dQ);generalize w2.alloc (aW #[A fn,O i1,O i2,Y ba bn bc,O i3,Y ea en ec] 35)=W3 at *;cases ok with
 | false =>go_wp2_with fail;go_ret;exact⟨rfl,HB3⟩
 | true=>
  obtain⟨h0,h1⟩:=IZ rfl;obtain⟨HRC0,HBE0⟩:=bU (HRCH h0) (Ht h0 h1);clear h0 h1;go_wp2_with fail;refine(HRC0 W3 HB3).mono ?_;rintro e w4 ⟨u,rfl,hh4⟩;obtain⟨R,hrc,hst,hb4⟩:=hh4.out;obtain⟨Xy,HST,DZ,HK4,HCON⟩:=rO hrc hst (up HB3 hb4) (aU EI hb4) (jV w4 u R name hst);have hin:name∉R:=λh=>HBE0.1 ((hrc.2 name).1 h);rw[show decide (0<=dR R name)=false from gG (λh=>hin (Fl.tN.1 h))]at HCON;obtain⟨ua,ub,uo,uc,rfl,hua,hu63,husz,hucell⟩:=hst;obtain⟨HUA,HUC,HUZ⟩:=fD hua hucell husz;have hu63':=hu63;obtain⟨nr,hnr⟩:=bC R.length;rw[<-hnr]at HUA hu63' HUC HCON ⊢;have HNR:=I hnr;clear hh4 hrc hb4 hin hua hu63 husz hucell hnr;go_wp2_with fail;refine HCON.mono ?_;rintro e wq ⟨rfl,hwq⟩;subst hwq;go_wp2_with fail;go_loopw[33] (λi wr=>∃j:Nat,j<=nr/\i=O j/\Hid (bG wq wr)) (λi _=>nr - (intOf i).toNat);case atStart=>exact⟨0,bL _,rfl,I (bP _ _)⟩
  case round=>
   obtain⟨j,hj,rfl,HR⟩:=hrel;obtain⟨AU,HKR⟩:=bU (up DZ HR) (aU HK4 HR);by_cases hjl:j<nr
   ·obtain⟨s,hs⟩:∃s,R[j]?=some s:=⟨_,bD (by rw[<-HNR];exact hjl)⟩;have hsr:=eT hs;obtain⟨g0,g1⟩:=HBE0.2 s ((Xy.2 s).1 hsr);have vC:=I (HANS s (HUZ s hsr) g0 g1);obtain rfl:=HUA aX;have hcj:=HUC j hjl;rw[show R.getD j ByteArray.empty=s by rw[List.getD,hs];rfl]at hcj;replace hcj:=aD hcj HR;obtain⟨x0,x1⟩:=iV HKR;clear hs hsr g0 g1;go_wp2_with fail;refine(vC wr AU).mono ?_;rintro e w5 ⟨sa,sn,sc,da,dc,rfl,hb5⟩;have sV:=I (up HR hb5);clear hb5 x0 x1 hcj;obtain⟨dQ,Aq⟩:=Wm w5 (aW #[Y sa sn sc,Y da 0 dc] 61);go_upto_region 13 with fail;have lg:=I (up sV dQ);generalize w5.alloc (aW #[Y sa sn sc,Y da 0 dc] 61)=W6 at *;obtain⟨-,z1⟩:=iV Aq;go_wp2_with fail;go_roundw;case rel=>exact⟨j+1,by omega,by go_num,lg⟩
    case measure=>simp[intOf];omega
   ·go_wp2_with fail;go_ret;exact⟨rfl,AU⟩
open Go.ChangeShapes Go.WideShapes Go.ChangeAt Go.Deep Go.Joins
open Go.ChangeMaps (open_string shut_string)
theorem ownK:ownKnob prog.godebug=none:=by kernel_rfl
theorem QX:laidOutB prog=true:=by kernel_rfl
noncomputable def gPow:Nat:=(prog.globalNamed "internal/strconv.uint64pow10").getD 0
noncomputable def g32:Nat:=(prog.globalNamed "math/bits.deBruijn32tab").getD 0
noncomputable def g64:Nat:=(prog.globalNamed "math/bits.deBruijn64tab").getD 0
theorem gTab:prog.globalNamed "internal/strconv.uint64pow10" = some gPow:=by kernel_rfl
theorem gTabType:(prog.globals[gPow]?).map (·.type)=some 362:=by kernel_rfl
theorem table(h:laidMetH prog Rows.topBelowUptoRow.laid W):Tab W:=by have h1:laidMet prog Rows.topBelowUptoRow.laid W:=h;have h2:laidMet prog [("internal/strconv.uint64pow10",Lib.tabData .u64 Lib.pow10Tab),("strconv.ErrRange",Rows.laid_strconv_ErrRange),("strconv.ErrSyntax",Rows.laid_strconv_ErrSyntax)] W:=h1.tail.tail;exact Lib.tabIs_of_head gTab gTabType underlying362 underlying241 bR bR h2
noncomputable def gRng:Nat:=(prog.globalNamed "strconv.ErrRange").getD 0
noncomputable def gSyn:Nat:=(prog.globalNamed "strconv.ErrSyntax").getD 0
theorem gSynK:prog.globalNamed "strconv.ErrSyntax" = some gSyn:=by kernel_rfl
theorem gSynType:(prog.globals[gSyn]?).map (·.type)=some 355:=by kernel_rfl
theorem cellsES:prog.cellsOf 390=1:=by kernel_rfl
theorem cellsS:prog.cellsOf 9=1:=by kernel_rfl
theorem starES : "*" ++ "errors.errorString" = "*errors.errorString" := by decide
theorem rowES(u:TypeId)(h:prog.typeName? 3 u=some "*errors.errorString"):u=388:=
 typeName_ptr_named (nm := "errors.errorString") (by rw[starES];kernel_rfl) bR bO u (by rw[starES];exact h)
theorem errv(h:laidMetH prog Rows.topBelowUptoRow.laid W):M9 W:=by
 have h0:laidMet prog Rows.topBelowUptoRow.laid W:=h;have h1:laidMet prog (("strconv.ErrSyntax",Rows.laid_strconv_ErrSyntax)::_) W:=h0.tail.tail.tail.tail;obtain⟨a,s,hv,_⟩:=laid_sentinel h1 gSynK gSynType underlying355 rowES underlying388 underlying390 rfl rfl underlying9 cellsES cellsS;unfold World.var? at hv;rw[gSynK]at hv;simp only[Option.bind_some]at hv;cases hh:W.heap[gSyn]? with
 | none=>rw[hh]at hv;cases hv
 | some o=>
  rw[hh]at hv;cases o with
  | cells cs t fz =>simp only[Option.some.injEq]at hv;subst hv;exact⟨gSyn,_,_,t,fz,gSynK,hh⟩
  | _=>cases hv
theorem QY(H:Type)(enc:TypeId × Value->H)(W:World)(base:Nat)(args:Array Value)(ds gs:List (DataW H))(before:List MemPlace)(hval:∀(j:Nat) t v,Tryz.f7.params[j]?=some t->args[j]?=some v->Value.okWide prog W .any base t v)(hW:DataW.Whole enc prog Tryz.f7.params.toList Rows.topBelowSpec.vars false W args.toList ds gs before)(hk:Rows.uptoSmall H (ds++gs)=true)(hL:laidMetH prog Rows.topBelowUptoRow.laid W):Calls prog 7 args W λe W'=>∃v,e=dz v/\Rows.topBelowSpec.post enc prog Tryz.f7 false true false false W args v W':=by
 have hW':=hW;obtain⟨p,q,hA0,hV,rfl,_,_⟩:=hW;have hA:DataW.TrodAll enc prog W 0 (λ_=>true) true Tryz.f7.params.toList args.toList ds p:=hA0;rw[Tryz.params7]at hA hval;obtain⟨v0,vs0,d0,ds0,p0,q0,hargs,rfl,rfl,h0,r0⟩:=trodAll_cons hA;obtain⟨v1,vs1,d1,ds1,p1,q1,rfl,rfl,rfl,h1,r1⟩:=trodAll_cons r0;obtain⟨v2,vs2,d2,ds2,p2,q2,rfl,rfl,rfl,h2,r2⟩:=trodAll_cons r1;obtain⟨rfl,rfl,rfl⟩:=trodAll_nil r2;obtain rfl:args=#[v0,v1,v2]:=by cases args;simp_all
 obtain⟨rfl,rfl⟩:=trodVars_none hV;have hb:Rows.uptoBulkAll ([d0,d1,d2]++[])<=1048576:=jw hk;simp only[gB,Rows.uptoBulkAll]at hb;obtain⟨k0,k1⟩:=eY h0 h1;have lt0:∀x∈p0,x.block<W.heap.size:=by obtain⟨m,hm⟩:=k0;exact DataW.trod_lt m _ _ _ hm
 have lt1:∀x∈p1,x.block<W.heap.size:=by obtain⟨m,hm⟩:=k1;exact DataW.trod_lt m _ _ _ hm
 obtain⟨vn,vl,ss,G,L,Z,rfl,hS,hR⟩:=NP (hval 0 25 v0 rfl rfl) h0;obtain⟨m1,l,hM,hmw⟩:=open_mks (hval 1 26 v1 rfl rfl) h1;obtain⟨s2,rfl,rfl,rfl,w2⟩:=open_string underlying9 (hval 2 9 v2 rfl rfl) h2;clear hA0;refine(JN m1 W vn vl v1 ss G L Z l s2 hS hR hM (λy hy=>by have:=hmw y hy;omega) (table hL) (errv hL) w2).mono λe W' ⟨he,YF⟩=>?_;subst he;exact⟨_,rfl,_,_,_,[],_,[],hW',trodAll_mk1 (shut_bool underlying4 _),trodAll_cons_mk (Below.trod QX bR (jw bR) k0 YF lt0) (trodAll_cons_mk (Below.trod QX bR (jw bR) k1 YF lt1) (trodAll_cons_mk (shut_string underlying9 w2) trodAll_mk0)),rfl,YF.frame _,λh=>by cases h⟩
def Un:DataW Unit->Array Value
 | .agg l=>(l.filterMap λd=>match d with|.lit (.int k z)=>some (Value.int k z)|_=>none).toArray
 | _=>#[]
def holds(a:Array Value):Obj->Obj
 | .cells _ t frozen=>.cells a t frozen
 | o=>o
noncomputable def low:Nat:=(World.holding prog default ⟨#[],#[],[]⟩).heap.size
def rngS:ByteArray:=⟨#[118,97,108,117,101,32,111,117,116,32,111,102,32,114,97,110,103,101]⟩
def synS:ByteArray:=⟨#[105,110,118,97,108,105,100,32,115,121,110,116,97,120]⟩
noncomputable def DC(os:Os):World:=
 { World.holding prog os ⟨#[.cells #[.string rngS] 390,.cells #[.string synS] 390],#[],[]⟩with heap:=(((((World.holding prog os ⟨#[.cells #[.string rngS] 390,.cells #[.string synS] 390],#[],[]⟩).heap.modify gPow (holds (Un Rows.laid_internal_strconv_uint64pow10))).modify g32 (holds (Un Rows.laid_math_bits_deBruijn32tab))).modify g64 (holds (Un Rows.laid_math_bits_deBruijn64tab))).modify gRng (holds #[.iface 388 (.pointer (some ⟨low,0,none⟩))])).modify gSyn (holds #[.iface 388 (.pointer (some ⟨low+1,0,none⟩))]) }
def ws:Array Value:=#[.agg #[.slice none 0 0,.slice none 0 0],.slice none 0 0,.string ⟨#[]⟩]
theorem laid_met(os:Os):laidMet prog Rows.topBelowUptoRow.laid ((DC os).forCall (λ_ _=>0) ⟨#[],ws,[]⟩).memory:=
 laidMet_of_run' 8 bR bR
theorem reads(os:Os){H:Type}(enc:TypeId × Value->H):∃x,DataW.whole enc prog ((DC os).forCall (λ_ _=>0) ⟨#[],ws,[]⟩).memory Tryz.f7.params.toList Rows.topBelowSpec.vars false ws.toList 8=some ([.agg [.nil,.nil],.nil,.lit (.string [])],[],x):=
 ⟨[],by kernel_rfl⟩
theorem Y1(os:Os)(started:os.Started)(H:Type)(enc:TypeId × Value->H)(F:Stop.Interp):ReturnsInHanded {} Tryz.checked os 7 .any ((Rows.OpenSpec.upto Rows.topBelowSpec).preRow enc prog Tryz.f7 Rows.topBelowUptoRow.domain false Rows.topBelowUptoRow.laid) (((Rows.OpenSpec.upto Rows.topBelowSpec).at F).post enc prog Tryz.f7 false true false false):=by obtain⟨places,hx⟩:=reads os enc;refine returnsInHanded_of_row (C:=Tryz.checked) (s:=Rows.OpenSpec.upto Rows.topBelowSpec) ownK started bR func7 (witness_row_at (enc:=enc) (C:=Tryz.checked) false (DC os) ws rfl bR bR bR (OpenSpec.preRow_of_cond 8 hx bR (λk hk=>by cases hk;kernel_rfl) bR (laid_met os))) ?_;intro W base args ds gs before hval hW _ hcond _ hL _ _;exact QY H enc W base args ds gs before hval hW (hcond _ rfl) hL
theorem tb_upto:Rows.TopBelowUptoSaid:=
 OpenClaim.holds_of_cond 7 Tryz.f7 rfl rfl rfl rfl rfl rfl rfl ⟨rfl,rfl,rfl,rfl,rfl⟩ rfl rfl rfl rfl rfl tb_fn func7 YU tb_inst tb_wrap
  (λos started H enc _ F=>by rw[OpenClaim.pre_eq_preRow];exact Y1 os started H enc F)
end Go.Proofs.YtbgkpehhdibaoaaGreatDoor
