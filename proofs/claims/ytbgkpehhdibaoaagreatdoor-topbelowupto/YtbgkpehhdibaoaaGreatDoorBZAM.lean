/- part -/
import Derived.Test.YtbgkpehhdibaoaaGreatDoorBZAJ
set_option maxHeartbeats 0
set_option maxRecDepth 99999
namespace Go.Proofs.YtbgkpehhdibaoaaGreatDoor
open bJ
open Go.Proofs.Tryz
open Go.RowKit
namespace Rn
structure Vr where
 val:Int
 rd:Bool
 st:Bool
structure Y5 where
 fuel:Nat
 vs:List Vr
 pr:List (ByteArray × Int)
abbrev Own:=ByteArray->Option Int
def put(o:Own)(n:aY)(v:Int):Own:=λs=>if dA s n=true then some v else o s
def pos(nm:List (aY × aY))(mod name:aY):Option Nat:=(List.range nm.length).find? λi=>match nm[i]? with|some v=>dA v.1 mod&&dA v.2 name|none=>false
def sh(nm:List (aY × aY))(mn:aY)(o:Own)(n:aY):Option Nat:=if (o n).isSome=true then none else pos nm mn n
def gt(nm:List (aY × aY))(mn:aY)(o:Own)(n:aY)(s:Y5):Int × Y5:=
 match sh nm mn o n with
 | none=>((o n).getD 0,s)
 | some i=>((s.vs[i]?.map (·.val)).getD 0,{ s with vs:=s.vs.modify i λv=>{ v with rd:=true } })
def pt(nm:List (aY × aY))(mn:aY)(o:Own)(n:aY)(x:Int)(s:Y5):Own × Y5:=
 match sh nm mn o n with
 | none=>(put o n x,s)
 | some i=>(o,{ s with vs:=s.vs.modify i λv=>{ v with val:=x,st:=true } })
def burn(s:Y5):Option Y5:=if s.fuel=0 then none else some { s with fuel:=s.fuel - 1 }
def mn(l:List Mo)(at':Nat):aY:=(l[at']?.map (·.name)).getD ⟨#[]⟩
structure Mea(μ:Y5->Nat):Prop where
 vs:∀s v,μ { s with vs:=v }=μ s
 burn:∀s s1,burn s=some s1->μ s1+1<=μ s
 pr:∀s d,μ { s with pr:=s.pr++[d] }<=μ s+1
section
variable {μ : Y5 → Nat} (U : Mea μ)
include U
end
end Rn
open Rn
open Go.Maps Go.WideMaps
variable{w w':World}{b n n':Nat}{s t:aY}
theorem pJ:Keyed prog 9:=string_keyed underlying9
theorem OU(w:World):(zeroValue 3).run prog w=.ok (O 0) w:=by kernel_rfl
def qd(w:World)(b n:Nat)(o:Rn.Own):Prop:=
 ∃D:DataW Unit,w.ownsMap prog 9 (plainElem prog 3) b n D/\∀s:aY,s.size<=maxLen->
  (Maps.has D (.string s.data.toList)=(o s).isSome/\D.atKey (.string s.data.toList) (.lit (.int .i64 0))=.lit (.int .i64 ((o s).getD 0)))
theorem qd.kept{o:Rn.Own}{row:Option Nat}(h:qd w b n o)(hg:w.grownBy w' row)(hne:some b≠row):qd w' b n o:=by obtain⟨D,h1,h2⟩:=h;exact⟨D,h1.kept hg hne,h2⟩
theorem qd.same{o:Rn.Own}(h:qd w b n o)(hb:w'.heap[b]?=w.heap[b]?):qd w' b n o:=by obtain⟨D,⟨es,cl,h0,h1⟩,h2⟩:=h;exact⟨D,⟨es,cl,by rw[hb];exact h0,h1⟩,h2⟩
theorem qd.mono{o:Rn.Own}(h:qd w b n o)(hn:n<=n'):qd w b n' o:=by obtain⟨D,h1,h2⟩:=h;exact⟨D,h1.mono hn,h2⟩
theorem qd.lt{o:Rn.Own}(h:qd w b n o):b<w.heap.size:=by obtain⟨D,h1,_⟩:=h;exact h1.lt
theorem qd.isMap{o:Rn.Own}(h:qd w b n o):∃es cl,w.heap[b]?=some (.map es cl):=by obtain⟨D,⟨es,cl,h0,_⟩,_⟩:=h;exact⟨es,cl,h0⟩
theorem qd.new(w:World):qd (w.alloc (.map #[] 0)) w.heap.size 0 (λ_=>none):=
 ⟨.map [],World.ownsMap_made _ _ _ _,λ_ _=>⟨rfl,rfl⟩⟩
theorem wL(h:dA s t=false):(Lit.string s.data.toList)≠(Lit.string t.data.toList):=λe=>by injection e with e;rw[dA,Lib.toList_data,Lib.toList_data,e]at h;simp at h
theorem key_eq(h:dA s t=true):s=t:=toList_inj (by rw[dA,beq_iff_eq]at h;exact h)
theorem qd.put{w:World}{b n:Nat}{o:Rn.Own}(h:qd w b n o)(hn:n<maxLen){s:ByteArray}(hs:s.size<=maxLen){v:Int}(hv:K5 v):∃w',(Instr.mapUpdate 95 (.map (some b)) (.string s) (.int .i64 v)).run prog w=.ok () w'/\qd w' b (n+1) (Rn.put o s v)/\w.grownBy w' (some b):=by
 obtain⟨D,h1,h2⟩:=h;have hwf:(Lit.int .i64 v).wf=true:=by simpa[K5,Lit.wf,IntKind.min,IntKind.max,IntKind.signed,IntKind.bits]using hv
 obtain⟨w',e,h3,h4⟩:=h1.update pJ underlying95 hn (keyOf_string_mk underlying9 hs) (plainElem_int underlying3 hwf);refine⟨w',e,⟨_,h3,λt ht=>?_⟩,h4⟩;cases hst:dA t s with
 | true =>have:=key_eq hst;subst this;rw[has_put_same h1.isMap (show WideAt.IsKeyLit (.string t.data.toList)from trivial),atKey_put_same h1.isMap (show WideAt.IsKeyLit (.string t.data.toList)from trivial)];simp[Rn.put,hst]
 | false =>rw[has_put_other (wL hst),atKey_put_other (wL hst)];simpa[Rn.put,hst]using h2 t ht
theorem qd.look{o:Rn.Own}(h:qd w b n o)(hs:s.size<=maxLen):(Instr.lookup 95 (.map (some b)) (A s) false).run prog w=.ok (O ((o s).getD 0)) w:=by obtain⟨D,h1,h2⟩:=h;obtain⟨c,e,h3,_⟩:=h1.lookup_int pJ underlying95 underlying3 (OU w) (keyOf_string_mk underlying9 hs);rw[(h2 s hs).2]at h3;simp only[DataW.lit.injEq,Lit.int.injEq,true_and]at h3;rw[e,h3]
theorem qd.sw{o:Rn.Own}(h:qd w b n o)(hs:s.size<=maxLen):(Instr.lookup 95 (.map (some b)) (A s) true).run prog w=.ok (.tuple #[O ((o s).getD 0),.bool (o s).isSome]) w:=by obtain⟨D,h1,h2⟩:=h;obtain⟨v,ps,e,h3⟩:=h1.look_ok pJ underlying95 (OU w) (zd:=.lit (.int .i64 0)) (zp:=[]) (plainElem_int underlying3 bO) (keyOf_string_mk underlying9 hs);rw[(h2 s hs).2]at h3;obtain⟨c,rfl,h4,_⟩:=plainElem_int_inv underlying3 h3;simp only[pq,DataW.lit.injEq,Lit.int.injEq,true_and]at h4;rw[e,(h2 s hs).1,h4.1]
end Go.Proofs.YtbgkpehhdibaoaaGreatDoor
