import Derived.Test.YtiebmbnfedbdeaaGreatDoorTZI2
import Derived.Deep.RegionHeld3
set_option maxHeartbeats 0
set_option maxRecDepth 99999
namespace Go.Proofs.YtiebmbnfedbdeaaGreatDoor
open bS
open Go.Proofs.Tryz
open Go.RowKit
namespace bS
def stT(a:Ex->aS)(bt:List St->aS)(s:St)(acc:aS):aS:=
 if s.kind=1 then acc++((⟨#[40,115,101,116,32]⟩:aS)++s.name++(⟨#[32]⟩:aS)++a s.e++(⟨#[41]⟩:aS))
 else if s.kind=4 then acc++((⟨#[40,112,114,105,110,116,32]⟩:aS)++s.name++(⟨#[32]⟩:aS)++a s.e++(⟨#[41]⟩:aS))
 else if s.kind=3 then acc++((⟨#[40,119,104,105,108,101,32]⟩:aS)++a s.e++(⟨#[32,40]⟩:aS)++bt s.a++(⟨#[41,41]⟩:aS))
 else if s.kind=2 then acc++((⟨#[40,105,102,32]⟩:aS)++a s.e++(⟨#[32,40]⟩:aS)++bt s.a++(⟨#[41,32,40]⟩:aS)++bt s.b++(⟨#[41,41]⟩:aS))
 else acc
def mK(a:Ex->aS)(bt:List St->aS)(l:List St):Nat->aS
 | 0=>⟨#[]⟩
 | j+1=>match l[j]? with
  | some s=>stT a bt s (if 0<j then mK a bt l j++(⟨#[32]⟩:aS)else mK a bt l j)
  | none=>mK a bt l j
def bdT:Nat->List St->aS
 | 0,_=>⟨#[]⟩
 | m+1,l=>mK (zT m) (bdT m) l l.length
end bS
theorem Fz{a:Ex->aS}{bt:List St->aS}{l:List St}{j:Nat}{s:St}(b:l[j]?=some s):bS.mK a bt l (j+1)=stT a bt s (if 0<j then bS.mK a bt l j++(⟨#[32]⟩:aS)else bS.mK a bt l j):=by simp only[bS.mK,b]
def stW(m:Nat)(s:St):Nat:=s.name.size+3+jF m s.e+fA m s.a+fA m s.b
theorem Nk(m:Nat)(l:List St):fA (m+1) l=(l.map<|stW m).sum+1:=rfl
namespace bS
def Ru(acc s:ByteArray):ByteArray:=acc++((⟨#[32,40,105,109,112,111,114,116,32]⟩:ByteArray)++s++(⟨#[41]⟩:ByteArray))
def vaT(acc:ByteArray)(v:Va):ByteArray:=acc++((⟨#[32,40,118,97,114,32]⟩:ByteArray)++v.name++(⟨#[32]⟩:ByteArray)++v.level++(⟨#[41]⟩:ByteArray))
def GZ(l:List ByteArray)(acc:ByteArray):Nat->ByteArray
 | 0=>acc
 | j+1=>(if 0<j then GZ l acc j++(⟨#[32]⟩:ByteArray)else GZ l acc j)++l.getD j ByteArray.empty
def fuH(acc:ByteArray)(f:Fu):ByteArray:=acc++((⟨#[32,40,102,117,110,32]⟩:ByteArray)++f.name++(⟨#[32,40]⟩:ByteArray))
def fuP(acc:ByteArray)(f:Fu):ByteArray:=GZ f.params (fuH acc f) f.params.length++(⟨#[41]⟩:ByteArray)
def fuB(m:Nat)(acc:ByteArray)(f:Fu):ByteArray:=if 0<f.body.length then fuP acc f++((⟨#[32]⟩:ByteArray)++bdT m f.body)else fuP acc f
def fuT(m:Nat)(acc:ByteArray)(f:Fu):ByteArray:=fuB m acc f++((⟨#[32]⟩:ByteArray)++zT m f.result++(⟨#[41]⟩:ByteArray))
def moH(x:Mo):ByteArray:=(⟨#[40,109,111,100,117,108,101,32]⟩:ByteArray)++x.name
def moI(x:Mo):ByteArray:=x.imports.foldl Ru (moH x)
def moV(x:Mo):ByteArray:=x.vars.foldl vaT (moI x)
def moF(m:Nat)(x:Mo):ByteArray:=x.bq.foldl (fuT m) (moV x)
def moT(m:Nat)(x:Mo):ByteArray:=moF m x++(⟨#[41]⟩:ByteArray)
end bS
section
variable {α : Type} {f : ByteArray → α → ByteArray} {wt : α → Nat}
end
def fuW(m:Nat)(s:Fu):Nat:=s.name.size+2+nJ s.params+fA m s.body+jF m s.result
theorem ahv(m:Nat)(l:List Fu):BK m l=(l.map<|fuW m).sum+1:=rfl
theorem am6(w:bI)(c0 a b c:aC)(t:TypeId):(w.alloc<|.cells #[c0,a,b,c] t).cell? (aN w.heap.size 0)=some c0:=by simp[go_sem]
theorem am7(w:bI)(a c1 b c:aC)(t:TypeId):(w.alloc<|.cells #[a,c1,b,c] t).cell? (aN w.heap.size 1)=some c1:=by simp[go_sem]
theorem am8(w:bI)(a b c2 c:aC)(t:TypeId):(w.alloc<|.cells #[a,b,c2,c] t).cell? (aN w.heap.size 2)=some c2:=by simp[go_sem]
theorem am9(w:bI)(a b c c3:aC)(t:TypeId):(w.alloc<|.cells #[a,b,c,c3] t).cell? (aN w.heap.size 3)=some c3:=by simp[go_sem]
theorem V9(l:aJ)(acc:ByteArray)(j:Nat):GZ l acc (j+1)=(if 0<j then GZ l acc j++(⟨#[32]⟩:ByteArray)else GZ l acc j)++l.getD j ByteArray.empty:=rfl
