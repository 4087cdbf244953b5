import Derived.Test.YtageneidjnbedaaGreatDoorTZAJ
set_option maxHeartbeats 0
set_option maxRecDepth 99999
namespace Go.Proofs.YtageneidjnbedaaGreatDoor
open bO
open Go.Proofs.Tryz
open Go.RowKit
namespace Rn
structure Vr where
 val:Int
 rd:Bool
 st:Bool
structure gM where
 fuel:Nat
 vs:List Vr
 pr:List (ByteArray × Int)
abbrev Own:=ByteArray->Option Int
def put(o:Own)(n:aS)(v:Int):Own:=λs=>if cB s n=true then some v else o s
def pos(nm:List (aS × aS))(a name:aS):Option Nat:=(List.range nm.length).find? λi=>match nm[i]? with|some v=>cB v.1 a&&cB v.2 name|none=>false
def sh(nm:List (aS × aS))(mn:aS)(o:Own)(n:aS):Option Nat:=if (o n).isSome=true then none else pos nm mn n
def gt(nm:List (aS × aS))(mn:aS)(o:Own)(n:aS)(s:gM):Int × gM:=
 match sh nm mn o n with
 | none=>((o n).getD 0,s)
 | some i=>((s.vs[i]?.map (·.val)).getD 0,{ s with vs:=s.vs.modify i λv=>{ v with rd:=true } })
def pt(nm:List (aS × aS))(mn:aS)(o:Own)(n:aS)(x:Int)(s:gM):Own × gM:=
 match sh nm mn o n with
 | none=>(put o n x,s)
 | some i=>(o,{ s with vs:=s.vs.modify i λv=>{ v with val:=x,st:=true } })
def qX(s:gM):Option gM:=if s.fuel=0 then none else some { s with fuel:=s.fuel - 1 }
def mn(l:List Mo)(a:Nat):aS:=(l[a]?.map (·.name)).getD ⟨#[]⟩
structure Mea(μ:gM->Nat):Prop where
 vs:∀s v,μ { s with vs:=v }=μ s
 qX:∀s s1,qX s=some s1->μ s1+1<=μ s
 pr:∀s d,μ { s with pr:=s.pr++[d] }<=μ s+1
section
variable {μ : gM → Nat} (U : Mea μ)
include U
end
end Rn
open Rn
open Go.Maps Go.WideMaps
variable{w w':bI}{b n n':Nat}{s t:aS}
theorem uY:Keyed prog 9:=string_keyed underlying9
theorem Sq(w:bI):(zeroValue 3).run prog w=.ok (O 0) w:=by kernel_rfl
def nS(w:bI)(b n:Nat)(o:Rn.Own):Prop:=
 ∃D:DataW Unit,w.ownsMap prog 9 (plainElem prog 3) b n D/\∀s:aS,s.size<=maxLen->
  (Maps.has D (.string s.data.toList)=(o s).isSome/\D.atKey (.string s.data.toList) (.lit (.int .i64 0))=.lit (.int .i64 ((o s).getD 0)))
theorem nS.kept{o:Rn.Own}{row:Option Nat}(h:nS w b n o)(hg:w.grownBy w' row)(e:some b≠row):nS w' b n o:=by obtain⟨D,a,d⟩:=h;exact⟨D,a.kept hg e,d⟩
theorem nS.same{o:Rn.Own}(h:nS w b n o)(i:w'.heap[b]?=w.heap[b]?):nS w' b n o:=by obtain⟨D,⟨d,a,e,f⟩,g⟩:=h;exact⟨D,⟨d,a,by rw[i];exact e,f⟩,g⟩
theorem nS.mono{o:Rn.Own}(h:nS w b n o)(e:n<=n'):nS w b n' o:=by obtain⟨D,a,d⟩:=h;exact⟨D,a.mono e,d⟩
theorem nS.lt{o:Rn.Own}(h:nS w b n o):b<w.heap.size:=by obtain⟨D,a,_⟩:=h;exact a.lt
theorem nS.isMap{o:Rn.Own}(h:nS w b n o):∃d a,w.heap[b]?=some (.map d a):=by obtain⟨D,⟨d,a,e,_⟩,_⟩:=h;exact⟨d,a,e⟩
theorem nS.new(w:bI):nS (w.alloc<|.map #[] 0) w.heap.size 0 (λ_=>none):=
 ⟨.map [],World.ownsMap_made _ _ _ _,λ_ _=>⟨rfl,rfl⟩⟩
theorem yV(h:cB s t=false):(Lit.string s.data.toList)≠(Lit.string t.data.toList):=λe=>by injection e with e;rw[cB,Lib.toList_data,Lib.toList_data,e]at h;simp at h
theorem key_eq(h:cB s t=true):s=t:=toList_inj (by rw[cB,beq_iff_eq]at h;exact h)
theorem nS.put{w:World}{b n:Nat}{o:Rn.Own}(h:nS w b n o)(j:n<maxLen){s:ByteArray}(k:s.size<=maxLen){v:Int}(m:mq v):∃w',(Instr.mapUpdate 58 (.map<|some b) (.string s)<|.int .i64 v).run prog w=.ok () w'/\nS w' b (n+1) (Rn.put o s v)/\w.grownBy w' (some b):=by
 obtain⟨D,d,f⟩:=h;have p:(Lit.int .i64 v).wf=true:=by simpa[mq,Lit.wf,IntKind.min,IntKind.max,IntKind.signed,IntKind.bits]using m
 obtain⟨w',e,g,i⟩:=d.update uY underlying58 j (keyOf_string_mk underlying9 k)<|plainElem_int underlying3 p;refine⟨w',e,⟨_,g,λt l=>?_⟩,i⟩;cases a:cB t s with
 | true =>have:=key_eq a;subst this;rw[has_put_same d.isMap (show WideAt.IsKeyLit (.string t.data.toList)from trivial),atKey_put_same d.isMap<|show WideAt.IsKeyLit (.string t.data.toList)from trivial];simp[Rn.put,a]
 | false =>rw[has_put_other (yV a),atKey_put_other<|yV a];simpa[Rn.put,a]using f t l
theorem nS.look{o:Rn.Own}(h:nS w b n o)(d:s.size<=maxLen):(Instr.lookup 58 (.map<|some b) (A s) false).run prog w=.ok (O<|(o s).getD 0) w:=by obtain⟨D,f,g⟩:=h;obtain⟨c,e,a,_⟩:=f.lookup_int uY underlying58 underlying3 (Sq w)<|keyOf_string_mk underlying9 d;rw[(g s d).2]at a;simp only[DataW.lit.injEq,Lit.int.injEq,true_and]at a;rw[e,a]
theorem nS.sS{o:Rn.Own}(h:nS w b n o)(a:s.size<=maxLen):(Instr.lookup 58 (.map<|some b) (A s) true).run prog w=.ok (.tuple #[O ((o s).getD 0),.bool (o s).isSome]) w:=by obtain⟨D,i,d⟩:=h;obtain⟨v,ps,g,e⟩:=i.look_ok uY underlying58 (Sq w) (zd:=.lit<|.int .i64 0) (zp:=[]) (plainElem_int underlying3 bM)<|keyOf_string_mk underlying9 a;rw[(d s a).2]at e;obtain⟨c,rfl,f,_⟩:=plainElem_int_inv underlying3 e;simp only[pO,DataW.lit.injEq,Lit.int.injEq,true_and]at f;rw[g,(d s a).1,f.1]
