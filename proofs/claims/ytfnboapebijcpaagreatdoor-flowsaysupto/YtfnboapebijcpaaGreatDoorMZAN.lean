/- How a lattice that came in is opened: its names -/
import Derived.ShutString
import Derived.ChangeOld
import Derived.Deep.Grids
import Derived.Test.YtfnboapebijcpaaGreatDoorMZAK
import Derived.DeepKeys4
import Derived.Maps.Own
import Derived.Maps.OwnOps
import Derived.Maps.Views
import Derived.Deep.RegionHeld
import Derived.OrdersHeld
set_option maxHeartbeats 16000000
set_option maxRecDepth 100000
namespace Go.Proofs.YtfnboapebijcpaaGreatDoor
open bC
open Go.Proofs.Tryz
open Go.ChangeShapes Go.WideShapes Go.ChangeAt Go.RowKit Go.Deep Go.Joins
theorem Ox:prog.cellsOf 9=1:=by kernel_rfl
theorem Yv:prog.cellsOf 200=1:=by kernel_rfl
theorem Vi:prog.cellsOf 4=1:=by kernel_rfl
theorem K5:prog.cellsOf 34=2:=by kernel_rfl
theorem open_strs{H:Type}{enc:TypeId × Value->H}{W:World}{m:Nat}{v:Value}{y:DataW H × List MemPlace}(h:DataW.trod enc prog W 0 (λ_=>true) true m 22 [v]=some y):∃ss,Strs W v ss:=by
 rcases open_strings underlying22 underlying9 Ox h with⟨hcs,_⟩|⟨a,len,cap,ss,hcs,_,hl,hm,hz,_,hcell,hws⟩;·simp at hcs;subst hcs;exact⟨[],none,0,0,0,rfl,λh=>absurd h (Nat.lt_irrefl _),by decide,λs hs=>by simp at hs,λj hj=>absurd hj (dY _)⟩
 ·simp at hcs;subst hcs;simp only[if_true]at hz;unfold maxLen at hm;have hlen:(ss.take len).length=len:=by rw[d9];omega
  obtain⟨b,off,spot⟩:=a;refine⟨ss.take len,some ⟨b,off,spot⟩,b,off,cap,by rw[hlen],λh0=>?_,by rw[hlen];omega,λs hs=>hws s (nS hs),λj hj=>?_⟩;·rw[hlen]at h0;have:=Gx (hcell 0 (by omega));simp[Addr.add]at this;rw[this]
  ·rw[hlen]at hj;have h1:=hcell j (by omega);have:=Gx (hcell 0 (by omega));simp[Addr.add]at this;subst this;rw[add_plain]at h1;have e:(ss.take len).getD j ByteArray.empty=ss.getD j ByteArray.empty:=by rw[List.getD,List.getD,qD hj]
   rw[e];exact h1
theorem Yw{H:Type}{enc:TypeId × Value->H}{W:World}{m:Nat}{v:Value}{y:DataW H × List MemPlace}(h:DataW.trod enc prog W 0 (λ_=>true) true m 32 [v]=some y):∃G L Z,Qb W v G L Z:=by
 rcases open_bool_rows underlying32 underlying200 underlying4 Yv Vi h with⟨hcs,_⟩|⟨a,len,cap,A,L,C,B,hcs,_,hl,hm,_,hrows⟩;·simp at hcs;subst hcs;exact⟨0,λ_=>0,λ_ _=>false,none,0,0,0,λ_=>none,λ_=>0,λ_=>0,λ_=>0,rfl,λh=>absurd h (Nat.lt_irrefl _),by decide,λr hr=>absurd hr (dY _),λr hr=>absurd hr (dY _),λr c hr=>absurd hr (dY _)⟩
 ·simp at hcs;subst hcs;unfold maxLen at hm;obtain⟨gb,go,gs⟩:=a;refine⟨len,L,B,some ⟨gb,go,gs⟩,gb,go,cap,A,λr=>((A r).getD default).block,λr=>((A r).getD default).off,C,rfl,λh0=>?_,by omega,λr hr=>?_,λr hr=>?_,λr c hr hc=>?_⟩;·have:=Gx (hrows 0 (by omega)).1;simp[Addr.add]at this;rw[this]
  ·obtain⟨_,h1,h2,_⟩:=hrows r (by omega);unfold maxLen at h2;omega
  ·have h1:=(hrows r (by omega)).1;have:=Gx (hrows 0 (by omega)).1;simp[Addr.add]at this;subst this;rwa[add_plain]at h1
  ·obtain⟨_,h1,_,h3,h4⟩:=hrows r (by omega);cases hA:A r with
   | none=>have:=h3 hA;omega
   | some a' =>obtain⟨ab,ao,asp⟩:=a';obtain⟨_,hcell⟩:=h4 _ hA;have h5:=hcell c (by omega);have has:=Gx (hcell 0 (by omega));simp[Addr.add]at has;subst has;rw[add_plain]at h5;refine⟨by simp[hA],?_⟩;simpa[hA]using h5
theorem K6{H:Type}{enc:TypeId × Value->H}{W:World}{b0:Nat}{v:Value}{d:DataW H}{p:List MemPlace}(hv:Value.okWide prog W .any b0 34 v)(h:DataW.Trod enc prog W 0 (λ_=>true) true 34 v d p):∃vn vl ss G L Z,v=.agg #[vn,vl]/\Strs W vn ss/\Qb W vl G L Z:=by obtain⟨c0,c1,y0,y1,m,rfl,_,_,hy0,hy1⟩:=open_agg2 underlying34 (by kernel_rfl) K5 hv h;obtain⟨ss,hS⟩:=open_strs hy0;obtain⟨G,L,Z,hR⟩:=Yw hy1;exact⟨c0,c1,ss,G,L,Z,rfl,hS,hR⟩
theorem own:ownKnob prog.godebug=none:=by kernel_rfl
theorem laidOut:laidOutB prog=true:=by kernel_rfl
open Go.Maps Go.WideMaps
theorem Cz:Keyed prog 9:=string_keyed underlying9
theorem Oy(w:World):(zeroValue 3).run prog w=.ok (.int .i64 0) w:=by kernel_rfl
def oG(w:World)(b n:Nat)(o:Rn.Own):Prop:=
 ∃D:DataW Unit,w.ownsMap prog 9 (plainElem prog 3) b n D/\∀s:ByteArray,s.size<=maxLen->
  (Maps.has D (.string s.data.toList)=(o s).isSome/\D.atKey (.string s.data.toList) (.lit (.int .i64 0))=.lit (.int .i64 ((o s).getD 0)))
theorem oG.kept{w w':World}{b n:Nat}{o:Rn.Own}{row:Option Nat}(h:oG w b n o)(hg:w.grownBy w' row)(hne:some b≠row):oG w' b n o:=by obtain⟨D,h1,h2⟩:=h;exact⟨D,h1.kept hg hne,h2⟩
theorem oG.same{w w':World}{b n:Nat}{o:Rn.Own}(h:oG w b n o)(hb:w'.heap[b]?=w.heap[b]?):oG w' b n o:=by obtain⟨D,⟨es,cl,h0,h1⟩,h2⟩:=h;exact⟨D,⟨es,cl,by rw[hb];exact h0,h1⟩,h2⟩
theorem oG.mono{w:World}{b n n':Nat}{o:Rn.Own}(h:oG w b n o)(hn:n<=n'):oG w b n' o:=by obtain⟨D,h1,h2⟩:=h;exact⟨D,h1.mono hn,h2⟩
theorem oG.lt{w:World}{b n:Nat}{o:Rn.Own}(h:oG w b n o):b<w.heap.size:=by obtain⟨D,h1,_⟩:=h;exact h1.lt
theorem oG.isMap{w:World}{b n:Nat}{o:Rn.Own}(h:oG w b n o):∃es cl,w.heap[b]?=some (.map es cl):=by obtain⟨D,⟨es,cl,h0,_⟩,_⟩:=h;exact⟨es,cl,h0⟩
theorem oG.new(w:World):oG (w.alloc (.map #[] 0)) w.heap.size 0 (λ_=>none):=
 ⟨.map [],World.ownsMap_made _ _ _ _,λ_ _=>⟨rfl,rfl⟩⟩
theorem K7{s t:ByteArray}(h:aI.aZ s t=false):(Lit.string s.data.toList)≠(Lit.string t.data.toList):=λe=>by injection e with e;rw[aI.aZ,Lib.toList_data,Lib.toList_data,e]at h;simp at h
theorem key_eq{s t:ByteArray}(h:aI.aZ s t=true):s=t:=toList_inj (by rw[aI.aZ,beq_iff_eq]at h;exact h)
theorem oG.put{w:World}{b n:Nat}{o:Rn.Own}(h:oG w b n o)(hn:n<maxLen){s:ByteArray}(hs:s.size<=maxLen){v:Int}(hv:Qr v):∃w',(Instr.mapUpdate 209 (.map (some b)) (.string s) (.int .i64 v)).run prog w=.ok () w'/\oG w' b (n+1) (Rn.put o s v)/\w.grownBy w' (some b):=by
 obtain⟨D,h1,h2⟩:=h;have hwf:(Lit.int .i64 v).wf=true:=by simpa[Qr,Lit.wf,IntKind.min,IntKind.max,IntKind.signed,IntKind.bits]using hv
 obtain⟨w',e,h3,h4⟩:=h1.update Cz underlying209 hn (keyOf_string_mk underlying9 hs) (plainElem_int underlying3 hwf);refine⟨w',e,⟨_,h3,λt ht=>?_⟩,h4⟩;cases hst:aI.aZ t s with
 | true =>have:=key_eq hst;subst this;rw[has_put_same h1.isMap (show WideAt.IsKeyLit (.string t.data.toList)from trivial),atKey_put_same h1.isMap (show WideAt.IsKeyLit (.string t.data.toList)from trivial)];simp[Rn.put,hst]
 | false =>rw[has_put_other (K7 hst),atKey_put_other (K7 hst)];simpa[Rn.put,hst]using h2 t ht
theorem oG.look{w:World}{b n:Nat}{o:Rn.Own}(h:oG w b n o){s:ByteArray}(hs:s.size<=maxLen):(Instr.lookup 209 (.map (some b)) (.string s) false).run prog w=.ok (.int .i64 ((o s).getD 0)) w:=by obtain⟨D,h1,h2⟩:=h;obtain⟨c,e,h3,_⟩:=h1.lookup_int Cz underlying209 underlying3 (Oy w) (keyOf_string_mk underlying9 hs);rw[(h2 s hs).2]at h3;simp only[DataW.lit.injEq,Lit.int.injEq,true_and]at h3;rw[e,h3]
theorem oG.K8{w:World}{b n:Nat}{o:Rn.Own}(h:oG w b n o){s:ByteArray}(hs:s.size<=maxLen):(Instr.lookup 209 (.map (some b)) (.string s) true).run prog w=.ok (.tuple #[.int .i64 ((o s).getD 0),.bool (o s).isSome]) w:=by obtain⟨D,h1,h2⟩:=h;obtain⟨v,ps,e,h3⟩:=h1.look_ok Cz underlying209 (Oy w) (zd:=.lit (.int .i64 0)) (zp:=[]) (plainElem_int underlying3 (by decide)) (keyOf_string_mk underlying9 hs);rw[(h2 s hs).2]at h3;obtain⟨c,rfl,h4,_⟩:=plainElem_int_inv underlying3 h3;simp only[qO,DataW.lit.injEq,Lit.int.injEq,true_and]at h4;rw[e,(h2 s hs).1,h4.1]
section
variable {P : Program} {ops : Array Oper} {Q : Exit → Act → World → Prop} {md : Region.Mode} {S : World → Prop} {st : Nat}
def kP(P:Program)(md:Region.Mode)(ops:Array Oper)(Q:Exit->Act->World->Prop)(S:World->Prop)(st:Nat):Nat->Array Bool->Act->World->Prop
 | 0,listed,a,w=>Region.ready md ops listed=[]/\Q .normal a w
 | fuel+1,listed,a,w=>
  (Region.ready md ops listed=[]->Q .normal a w)/\
  ∀i∈Region.ready md ops listed,wpOp P ops Q i (λa' w'=>((listed.setIfInBounds i true).getD st true=false->S w')/\kP P md ops Q S st fuel (listed.setIfInBounds i true) a' w') a w
theorem Gy:∀(fuel:Nat) (listed:Array Bool) (a:Act) (w:World),kP P md ops Q S st fuel listed a w->wpAny P md ops Q fuel listed a w
 | 0,_,_,_,h=>h
 | fuel+1,_,_,_,h=>⟨h.1,λi hi=>wpOp_mono (λa' w' h'=>Gy fuel _ a' w' h'.2) (h.2 i hi)⟩
def K9(md:Region.Mode)(ops:Array Oper)(st i:Nat):Bool:=match ops[st]? with
 | some o=>o.after.toList.any λe=>Region.binds md e&&e.on==i
 | none=>false
theorem JK{i:Nat}{listed:Array Bool}(hw:K9 md ops st i=true)(hi:listed.getD i true=false):st∉Region.ready md ops listed:=by intro hr;obtain⟨_,o,ho,hall⟩:=mem_ready.1 hr;unfold K9 at hw;rw[ho]at hw;obtain⟨e,he,hb⟩:=Cv.1 hw;simp only[eB,beq_iff_eq]at hb;have h1:=hall e (by simpa using he) hb.1;rw[hb.2,getD_both hi]at h1;cases h1
theorem La{i:Nat}{oi:Oper}{v:Value}(hi:ops[i]?=some oi)(hsel:∀(j:Nat) (o:Oper) cs b,ops[j]?=some o->o.op≠.select cs b)(hQ:∀c a w,Q (.panic c) (a.put oi.dst v) w->Q (.panic c) a w)(hwt:K9 md ops st i=true):∀(fuel:Nat) (listed:Array Bool) (a:Act) (w:World),(∀j oj,ops[j]?=some oj->j≠i->listed.getD j true=false->(∀e∈oj.after,Region.binds md e=true->e.on≠i)->oi.apart ops oj=true)->i∈Region.ready md ops listed->listed.getD st true=false->YieldsIf P ops S oi v a->S w->kP P md ops Q S st fuel (listed.setIfInBounds i true) (a.put oi.dst v) w->kP P md ops Q S st (fuel+1) listed a w:=by
 intro fuel;induction fuel with
 | zero=>
  intro listed a w _ hr _ hy hS H;refine⟨λh=>(by rw[h]at hr;cases hr),λj hj=>?_⟩;by_cases hji:j=i;·subst hji;exact hy.wpOp hi hS ⟨λ_=>hS,H⟩
  ·have:=ready_mono hj hji;rw[H.1]at this;cases this
 | succ fuel ih=>
  intro listed a w hfree hr hst hy hS H;refine⟨λh=>(by rw[h]at hr;cases hr),λj hj=>?_⟩;by_cases hji:j=i;·subst hji;exact hy.wpOp hi hS ⟨λ_=>hS,H⟩
  ·have h1:=H.2 j (ready_mono hj hji);obtain⟨hjun,oj,hoj,hall⟩:=mem_ready.1 hj;have h0:=(mem_ready.1 hr).1;have hnot:∀e∈oj.after,Region.binds md e=true->e.on≠i:=λe he hb heq=>by have h1:=hall e he hb;rw[heq,getD_both h0]at h1;cases h1
   have hjs:j≠st:=λe=>JK hwt h0 (by rw[<-e];exact hj);have his:i≠st:=λe=>JK hwt h0 (by rw[<-e];exact hr);have h2:=wpOp_putIf hoj (hfree j oj hoj hji hjun hnot) (λcs b=>hsel i oi cs b hi) (λcs b=>hsel j oj cs b hoj) hQ hy h1;have hfree':∀k ok,ops[k]?=some ok->k≠i->(listed.setIfInBounds j true).getD k true=false->(∀e∈ok.after,Region.binds md e=true->e.on≠i)->oi.apart ops ok=true:=λk ok hk hki hun hno=>by
    refine hfree k ok hk hki ?_ hno;by_cases hjk:j=k;·subst hjk;exact hjun
    ·rw[getD_set_ne true hjk]at hun;exact hun
   refine wpOp_mono (λa' w' h3=>?_) h2;have hS':S w':=h3.2.1 (by rw[getD_set_ne true hjs,getD_set_ne true his];exact hst);refine⟨λ_=>hS',ih (listed.setIfInBounds j true) a' w' hfree' (ready_mono hr (Ne.symm hji)) (by rw[getD_set_ne true hjs];exact hst) h3.1 hS' ?_⟩;rw[KP _ _ hji];exact h3.2.2
theorem IL{i:Nat}{oi:Oper}{v:Value}(hi:ops[i]?=some oi)(hsel:∀(j:Nat) (o:Oper) cs b,ops[j]?=some o->o.op≠.select cs b)(hQ:∀c a w,Q (.panic c) (a.put oi.dst v) w->Q (.panic c) a w)(his:i≠st):∀(fuel:Nat) (listed:Array Bool) (a:Act) (w:World),(∀j oj,ops[j]?=some oj->j≠i->listed.getD j true=false->(∀e∈oj.after,Region.binds md e=true->e.on≠i)->oi.apart ops oj=true)->i∈Region.ready md ops listed->YieldsIf P ops (λ_=>True) oi v a->(listed.getD st true=false->S w)->kP P md ops Q S st fuel (listed.setIfInBounds i true) (a.put oi.dst v) w->kP P md ops Q S st (fuel+1) listed a w:=by
 intro fuel;induction fuel with
 | zero=>
  intro listed a w _ hr hy hS H;refine⟨λh=>(by rw[h]at hr;cases hr),λj hj=>?_⟩;by_cases hji:j=i;·subst hji;exact hy.wpOp hi trivial ⟨λh=>hS (by rw[getD_set_ne true his]at h;exact h),H⟩
  ·have:=ready_mono hj hji;rw[H.1]at this;cases this
 | succ fuel ih=>
  intro listed a w hfree hr hy hS H;refine⟨λh=>(by rw[h]at hr;cases hr),λj hj=>?_⟩;by_cases hji:j=i;·subst hji;exact hy.wpOp hi trivial ⟨λh=>hS (by rw[getD_set_ne true his]at h;exact h),H⟩
  ·have h1:=H.2 j (ready_mono hj hji);obtain⟨hjun,oj,hoj,hall⟩:=mem_ready.1 hj;have h0:=(mem_ready.1 hr).1;have hnot:∀e∈oj.after,Region.binds md e=true->e.on≠i:=λe he hb heq=>by have h1:=hall e he hb;rw[heq,getD_both h0]at h1;cases h1
   have h2:=wpOp_putIf hoj (hfree j oj hoj hji hjun hnot) (λcs b=>hsel i oi cs b hi) (λcs b=>hsel j oj cs b hoj) hQ hy h1;have hfree':∀k ok,ops[k]?=some ok->k≠i->(listed.setIfInBounds j true).getD k true=false->(∀e∈ok.after,Region.binds md e=true->e.on≠i)->oi.apart ops ok=true:=λk ok hk hki hun hno=>by
    refine hfree k ok hk hki ?_ hno;by_cases hjk:j=k;·subst hjk;exact hjun
    ·rw[getD_set_ne true hjk]at hun;exact hun
   refine wpOp_mono (λa' w' h3=>?_) h2;have hS':(listed.setIfInBounds j true).getD st true=false->S w':=λh=>h3.2.1 (by rw[KP _ _ (Ne.symm hji),getD_set_ne true his];exact h);refine⟨hS',ih (listed.setIfInBounds j true) a' w' hfree' (ready_mono hr (Ne.symm hji)) h3.1 hS' ?_⟩;rw[KP _ _ hji];exact h3.2.2
theorem bB{listed:Array Bool}{a:Act}{w:World}(hr:Region.ready md ops listed=[])(h:Q .normal a w):∀fuel,kP P md ops Q S st fuel listed a w
 | 0=>⟨hr,h⟩
 | _+1=>⟨λ_=>h,by rw[hr];simp⟩
theorem aF{i fuel:Nat}{listed:Array Bool}{a:Act}{w:World}{o:Oper}(hr:Region.ready md ops listed=[i])(ho:ops[i]?=some o)(h:∀K':Act->World->Prop,Hid (∀a w,((listed.setIfInBounds i true).getD st true=false->S w)->kP P md ops Q S st fuel (listed.setIfInBounds i true) a w->K' a w)->if Region.wanted o (yielded ops a.tmps)=true then Oper.wp P o a w K' Q else K' (a.put o.dst undef) w):kP P md ops Q S st (fuel+1) listed a w:=by refine⟨λh0=>(by rw[hr]at h0;cases h0),λj hj=>?_⟩;rw[hr,iy]at hj;subst hj;exact wpOp_step ho (λK' hK=>h K' (hide (λa w h1 h2=>hK a w ⟨h1,h2⟩)))
theorem kQ{i k fuel:Nat}{listed:Array Bool}{a:Act}{w:World}{o o2:Oper}(hr:Region.ready md ops listed=[i,k])(ho:ops[i]?=some o)(ho2:ops[k]?=some o2)(h:∀K':Act->World->Prop,Hid (∀a w,((listed.setIfInBounds i true).getD st true=false->S w)->kP P md ops Q S st fuel (listed.setIfInBounds i true) a w->K' a w)->if Region.wanted o (yielded ops a.tmps)=true then Oper.wp P o a w K' Q else K' (a.put o.dst undef) w)(h2:∀K':Act->World->Prop,Hid (∀a w,((listed.setIfInBounds k true).getD st true=false->S w)->kP P md ops Q S st fuel (listed.setIfInBounds k true) a w->K' a w)->if Region.wanted o2 (yielded ops a.tmps)=true then Oper.wp P o2 a w K' Q else K' (a.put o2.dst undef) w):kP P md ops Q S st (fuel+1) listed a w:=by
 refine⟨λh0=>(by rw[hr]at h0;cases h0),λj hj=>?_⟩;rw[hr]at hj;rcases eY.1 hj with rfl|hj;·exact wpOp_step ho (λK' hK=>h K' (hide (λa w h1 h2=>hK a w ⟨h1,h2⟩)))
 ·rw[iy]at hj;subst hj;exact wpOp_step ho2 (λK' hK=>h2 K' (hide (λa w h1 h2=>hK a w ⟨h1,h2⟩)))
def oH(P:Program)(ops:Array Oper)(S:World->Prop)(L:Act->Prop):List (Bool × Oper)->Act->Prop
 | [],a=>L a
 | (true,o)::rest,a=>∃v,YieldsIf P ops S o v a/\oH P ops S L rest (a.put o.dst v)
 | (false,o)::rest,a=>∃v,YieldsIf P ops (λ_=>True) o v a/\oH P ops S L rest (a.put o.dst v)
theorem bQ{L:Act->Prop}{a:Act}(h:L a):oH P ops S L [] a:=h
theorem dx{L:Act->Prop}{a:Act}{o:Oper}{rest:List (Bool × Oper)}{v:Value}(hw:Region.wanted o (yielded ops a.tmps)=true)(hy:∀w,(execOp a.eval o).run P w=.ok (.value v) w)(h:oH P ops S L rest (a.put o.dst v)):oH P ops S L ((false,o)::rest) a:=⟨v,Or.inl ⟨hw,λw _=>hy w⟩,h⟩
theorem dz{L:Act->Prop}{a:Act}{o:Oper}{rest:List (Bool × Oper)}{v:Value}(hw:Region.wanted o (yielded ops a.tmps)=true)(hy:∀w,S w->(execOp a.eval o).run P w=.ok (.value v) w)(h:oH P ops S L rest (a.put o.dst v)):oH P ops S L ((true,o)::rest) a:=⟨v,Or.inl ⟨hw,hy⟩,h⟩
def dO:List (Option Bool)->List Oper->List (Bool × Oper)
 | some b::bs,o::l=>(b,o)::dO bs l
 | none::bs,_::l=>dO bs l
 | _,_=>[]
def wN:List (Option Bool)->Nat
 | []=>0
 | some _::bs=>wN bs+1
 | none::bs=>wN bs
def Aj:List (Option Bool)->Nat->Array Bool->Array Bool
 | [],_,s=>s
 | some _::bs,k,s=>Aj bs (k+1) (s.setIfInBounds k true)
 | none::bs,k,s=>Aj bs (k+1) s
def Oz(md:Region.Mode)(ops:Array Oper)(st:Nat):List (Option Bool)->Nat->Array Bool->Bool
 | [],_,_=>true
 | some b::bs,k,s=>Region.free md ops s k&&(Region.ready md ops s).contains k&&(!b||K9 md ops st k)&&(!(k==st))&&(!(s.getD st true))&&Oz md ops st bs (k+1) (s.setIfInBounds k true)
 | none::bs,k,s=>Oz md ops st bs (k+1) s
theorem Ak{f:Nat}{w:World}(hs:Region.noSelect ops=true)(hQ:∀c a d v w,Q (.panic c) (Act.put a d v) w->Q (.panic c) a w)(hS:S w):∀(bs:List (Option Bool)) (l:List Oper) (k:Nat) (s:Array Bool) (a:Act),bs.length<=l.length->(∀j,l[j]?=ops[k+j]?)->Oz md ops st bs k s=true->
 oH P ops S (λa'=>kP P md ops Q S st f (Aj bs k s) a' w) (dO bs l) a->kP P md ops Q S st (f+wN bs) s a w
 | [],l,k,s,a,_,_,_,h=>by
  have e:dO [] l=[]:=by unfold dO;rfl
  rw[e]at h;exact h
 | b::bs,[],k,s,a,hl,_,_,_=>by simp at hl
 | none::bs,o::l,k,s,a,hl,hk,hB,h=>by refine Ak hs hQ hS bs l (k+1) s a (by simpa using hl) (λj=>?_) hB h;have:=hk (j+1);rw[List.getElem?_cons_succ]at this;rw[this];congr 1;omega
 | some b::bs,o::l,k,s,a,hl,hk,hB,h=>by
  have h0:ops[k]?=some o:=by simpa using(hk 0).symm
  simp only[Oz,eB,Bool.not_eq_true',beq_eq_false_iff_ne]at hB;obtain⟨⟨⟨⟨⟨h1,h2⟩,h3⟩,h6⟩,h4⟩,h5⟩:=hB;have hk':∀j,l[j]?=ops[k+1+j]?:=λj=>by have:=hk (j+1);rw[List.getElem?_cons_succ]at this;rw[this];congr 1;omega
  cases b with
  | true =>obtain⟨v,hy,hr⟩:=h;exact La (v:=v) h0 (Region.noSelect_spec hs) (λc a w h=>hQ c a _ _ w h) (by simpa using h3) (f+wN bs) s a w (Region.free_spec h0 h1) (by simpa using h2) h4 hy hS (Ak hs hQ hS bs l (k+1) _ _ (by simpa using hl) hk' h5 hr)
  | false =>obtain⟨v,hy,hr⟩:=h;exact IL (v:=v) h0 (Region.noSelect_spec hs) (λc a w h=>hQ c a _ _ w h) h6 (f+wN bs) s a w (Region.free_spec h0 h1) (by simpa using h2) hy (λ_=>hS) (Ak hs hQ hS bs l (k+1) _ _ (by simpa using hl) hk' h5 hr)
theorem bg{id:Nat}{a:Act}{w:World}{l:List Oper}(bs:List (Option Bool))(st:Nat)(S:World->Prop)(f:Nat)(hm:P.follows .mixedOrders=true)(hB:(Region.noSelect l.toArray&&Oz .any l.toArray st bs 0 (Array.replicate l.toArray.size false)&&decide (bs.length=l.length)&&decide (f+wN bs=l.length))=true)(hQ:∀c a d v w,Q (.panic c) (Act.put a d v) w->Q (.panic c) a w)(hS:S w.drew)(h:oH P l.toArray S (λa'=>kP P .any l.toArray Q S st f (Aj bs 0 (Array.replicate l.toArray.size false)) a' w.drew) (dO bs l) a):(Code.region id l.toArray true).wp P Q a w:=by simp only[eB,decide_eq_true_eq]at hB;obtain⟨⟨⟨h1,h2⟩,h3⟩,h4⟩:=hB;have K:=Ak (f:=f) (w:=w.drew) h1 hQ hS bs l 0 _ a (by omega) (λj=>by rw[fT];simp) h2 h;rw[h4]at K;exact wp_region_any hm (Gy _ _ _ _ (by simpa using K))
end
namespace bC
def Vj(m:Nat)(s:St):ByteArray:=El (jI m) (uh m) s ⟨#[]⟩
def Iu:Nat->List St->List ByteArray
 | 0,_=>[]
 | m+1,l=>l.map (Vj m)
end bC
theorem stT_acc(et:Ex->ByteArray)(bt:List St->ByteArray)(s:St)(acc:ByteArray):El et bt s acc=acc++El et bt s ⟨#[]⟩:=by
 have e:∀x:ByteArray,(⟨#[]⟩:ByteArray)++x=x:=λx=>by apply fP;rw[fK];rfl
 have e2:∀x:ByteArray,x++(⟨#[]⟩:ByteArray)=x:=λx=>by apply fP;rw[fK];simp
 unfold El;simp only[e];split;·rfl
 ·split;·rfl
  ·split;·rfl
   ·split;·rfl
    ·rw[e2]
theorem oJ(sep:List UInt8)(a b:List (List UInt8)):Lib.joinTail sep (a++b)=Lib.joinTail sep a++Lib.joinTail sep b:=by simp[Lib.joinTail]
theorem jX(l:List ByteArray):(bC.jn l).data.toList=Lib.join (l.map (·.data.toList)) [32]:=by unfold bC.jn;rfl
theorem TW(l:List ByteArray)(x:ByteArray):bC.jn (l++[x])=(if 0<l.length then bC.jn l++(⟨#[32]⟩:ByteArray)else bC.jn l)++x:=by
 cases l with
 | nil =>apply fP;rw[if_neg (by simp),fK,jX,jX];simp[Lib.join_one,Lib.join_nil]
 | cons y l =>apply fP;rw[if_pos (by simp),fK,fK,jX,jX,List.cons_append,dN,dN,Lib.join_cons,Lib.join_cons,cZ,oJ];simp[Lib.joinTail]
theorem TY(m:Nat)(l:List St):∀j,j<=l.length->rM (jI m) (uh m) l j=bC.jn ((l.take j).map (Vj m))
 | 0,_=>by apply fP;rw[jX];simp[rM,Lib.join_nil]
 | j+1,hj=>by
  obtain⟨s,hs⟩:∃s,l[j]?=some s:=⟨_,aU (by omega)⟩;rw[Cc hs,stT_acc,map_take hs,TW,TY m l j (by omega)];have e:((l.take j).map (Vj m)).length=j:=by rw[cB,d9];omega
  rw[e];rfl
theorem Lb(m:Nat)(l:List St):uh m l=bC.jn (Iu m l):=by
 cases m with
 | zero=>apply fP;rw[jX];simp[uh,Iu,Lib.join_nil]
 | succ m =>simp only[uh,Iu];rw[TY m l l.length (bM _),gG]
section
variable (m : Nat) (s : St)
theorem Yx(h:s.kind=1):bC.brk [⟨#[115,101,116]⟩,s.name,jI m s.e]=Vj m s:=by apply fP;rw[gJ];unfold Vj El;rw[if_pos h];simp[Lib.join_cons,Lib.joinTail]
theorem Q5(h:s.kind=4):bC.brk [⟨#[112,114,105,110,116]⟩,s.name,jI m s.e]=Vj m s:=by apply fP;rw[gJ];unfold Vj El;rw[if_neg (by omega),if_pos h];simp[Lib.join_cons,Lib.joinTail]
theorem Q6(h:s.kind=3):bC.brk [⟨#[119,104,105,108,101]⟩,jI m s.e,bC.brk (Iu m s.a)]=Vj m s:=by apply fP;rw[gJ];unfold Vj El;rw[if_neg (by omega),if_neg (by omega),if_pos h,Lb];simp[Lib.join_cons,Lib.joinTail,gJ,jX]
theorem if_text(h:s.kind=2):bC.brk [⟨#[105,102]⟩,jI m s.e,bC.brk (Iu m s.a),bC.brk (Iu m s.b)]=Vj m s:=by apply fP;rw[gJ];unfold Vj El;rw[if_neg (by omega),if_neg (by omega),if_neg (by omega),if_pos h,Lb,Lb];simp[Lib.join_cons,Lib.joinTail,gJ,jX]
end
section
variable {H : Type} {enc : TypeId × Value → H} {W : World}
theorem cellsLb:prog.cellsOf 72=2:=by kernel_rfl
theorem cellsIs:prog.cellsOf 47=1:=by kernel_rfl
theorem list2o{α:Type}{l:List α}(h:l.length=2):∃a b,l=[a,b]:=by
 match l,h with
 | [a,b],_=>exact⟨a,b,rfl⟩
theorem Yy{m:Nat}{c0 c1:Value}{y:DataW H × List MemPlace}(h:DataW.trod enc prog W 0 (λ_=>true) true m 72 [c0,c1]=some y):∃a b:Int,c0=.int .i64 a/\c1=.int .i64 b:=by obtain⟨d,p⟩:=y;obtain⟨xs,n,hfn,hx,hlen,hxs,hf⟩:=vI underlying72 h;obtain⟨y0,y1,rfl⟩:=list2o (by simpa using hxs);have f0:DataW.trod enc prog W 0 (λ_=>true) true n 3 (([c0,c1].drop 0).take (prog.cellsOf 3))=some y0:=hf 0 _ rfl;rw[pJ]at f0;simp only[List.drop,List.take]at f0;have f1:DataW.trod enc prog W 0 (λ_=>true) true n 3 (([c0,c1].drop 1).take (prog.cellsOf 3))=some y1:=hf 1 _ rfl;rw[pJ]at f1;simp only[List.drop,List.take]at f1;obtain⟨k0,e0,-,-⟩:=yt underlying3 f0;obtain⟨k1,e1,-,-⟩:=yt underlying3 f1;simp at e0 e1;exact⟨k0,k1,e0,e1⟩
theorem open_ints{m:Nat}{v:Value}{y:DataW H × List MemPlace}(h:DataW.trod enc prog W 0 (λ_=>true) true m 47 [v]=some y):∃l,Ints W v l:=by
 obtain⟨a,b,off,len,cap,D,hv',ha,hl,hD,xM,hel⟩:=iH underlying47 pJ (by decide) h;have each:∀i,i<len->∃s:Int,W.cell? ⟨b,off+i,none⟩=some (.int .i64 s):=by
  intro i hi;obtain⟨n0,cs,d',pl',hn',hlen',hcell,lJ,NK⟩:=hel i hi;obtain⟨c0,rfl⟩:∃c0,cs=[c0]:=by
   match cs,hlen' with
   | [c0],_=>exact⟨c0,rfl⟩
  obtain⟨k2,e2,_,_⟩:=yt underlying3 lJ;simp at e2;subst e2;have:=hcell 0 (by decide);rw[Nat.mul_one,tN]at this;exact⟨k2,this⟩
 obtain⟨l,hll,hp⟩:=gW len each;exact⟨l,a,b,off,cap,by rw[hv',<-hll],by rw[hll];exact ha,by rw[hll];exact hl,λi s hs=>hp i s hs⟩
end
end Go.Proofs.YtfnboapebijcpaaGreatDoor
