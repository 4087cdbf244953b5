/- part -/
import Derived.Test.YtbgkpehhdibaoaaGreatDoorBZAK
set_option maxHeartbeats 0
set_option maxRecDepth 99999
namespace Go.Proofs.YtbgkpehhdibaoaaGreatDoor
open bN
open Go.Proofs.Tryz
open Go.RowKit
namespace bN
def impT(acc s:ByteArray):ByteArray:=acc++((⟨#[32,40,105,109,112,111,114,116,32]⟩:ByteArray)++s++(⟨#[41]⟩:ByteArray))
def vaT(acc:ByteArray)(v:Va):ByteArray:=acc++((⟨#[32,40,118,97,114,32]⟩:ByteArray)++v.name++(⟨#[32]⟩:ByteArray)++v.level++(⟨#[41]⟩:ByteArray))
def Ea(l:List ByteArray)(acc:ByteArray):Nat->ByteArray
 | 0=>acc
 | j+1=>(if 0<j then Ea l acc j++(⟨#[32]⟩:ByteArray)else Ea l acc j)++l.getD j ByteArray.empty
def fuH(acc:ByteArray)(f:Fu):ByteArray:=acc++((⟨#[32,40,102,117,110,32]⟩:ByteArray)++f.name++(⟨#[32,40]⟩:ByteArray))
def fuP(acc:ByteArray)(f:Fu):ByteArray:=Ea f.params (fuH acc f) f.params.length++(⟨#[41]⟩:ByteArray)
def fuB(m:Nat)(acc:ByteArray)(f:Fu):ByteArray:=if 0<f.body.length then fuP acc f++((⟨#[32]⟩:ByteArray)++bdT m f.body)else fuP acc f
def fuT(m:Nat)(acc:ByteArray)(f:Fu):ByteArray:=fuB m acc f++((⟨#[32]⟩:ByteArray)++xQ m f.result++(⟨#[41]⟩:ByteArray))
def moH(x:Mo):ByteArray:=(⟨#[40,109,111,100,117,108,101,32]⟩:ByteArray)++x.name
def moI(x:Mo):ByteArray:=x.imports.foldl impT (moH x)
def moV(x:Mo):ByteArray:=x.vars.foldl vaT (moI x)
def moF(m:Nat)(x:Mo):ByteArray:=x.bg.foldl (fuT m) (moV x)
def moT(m:Nat)(x:Mo):ByteArray:=moF m x++(⟨#[41]⟩:ByteArray)
end bN
section
variable {α : Type} {f : ByteArray → α → ByteArray} {wt : α → Nat}
end
def fuW(m:Nat)(s:Fu):Nat:=s.name.size+2+lV s.params+dY m s.body+iX m s.result
theorem fusW_eq(m:Nat)(l:List Fu):zG m l=(l.map (fuW m)).sum+1:=rfl
theorem boxM0(w:World)(c0 c1 c2 c3:Value)(t:TypeId):(w.alloc (.cells #[c0,c1,c2,c3] t)).cell? (X w.heap.size 0)=some c0:=by simp[go_sem]
theorem boxM1(w:World)(c0 c1 c2 c3:Value)(t:TypeId):(w.alloc (.cells #[c0,c1,c2,c3] t)).cell? (X w.heap.size 1)=some c1:=by simp[go_sem]
theorem boxM2(w:World)(c0 c1 c2 c3:Value)(t:TypeId):(w.alloc (.cells #[c0,c1,c2,c3] t)).cell? (X w.heap.size 2)=some c2:=by simp[go_sem]
theorem boxM3(w:World)(c0 c1 c2 c3:Value)(t:TypeId):(w.alloc (.cells #[c0,c1,c2,c3] t)).cell? (X w.heap.size 3)=some c3:=by simp[go_sem]
theorem R4(l:List ByteArray)(acc:ByteArray)(j:Nat):Ea l acc (j+1)=(if 0<j then Ea l acc j++(⟨#[32]⟩:ByteArray)else Ea l acc j)++l.getD j ByteArray.empty:=rfl
end Go.Proofs.YtbgkpehhdibaoaaGreatDoor
