/- part -/
import Derived.Test.YtbgkpehhdibaoaaGreatDoorBZI2
import Derived.Deep.RegionHeld3
set_option maxHeartbeats 0
set_option maxRecDepth 99999
namespace Go.Proofs.YtbgkpehhdibaoaaGreatDoor
open bN
open Go.Proofs.Tryz
open Go.RowKit
namespace bN
def stT(et:Ex->aY)(bt:List St->aY)(s:St)(acc:aY):aY:=
 if s.kind=1 then acc++((⟨#[40,115,101,116,32]⟩:aY)++s.name++(⟨#[32]⟩:aY)++et s.e++(⟨#[41]⟩:aY))
 else if s.kind=4 then acc++((⟨#[40,112,114,105,110,116,32]⟩:aY)++s.name++(⟨#[32]⟩:aY)++et s.e++(⟨#[41]⟩:aY))
 else if s.kind=3 then acc++((⟨#[40,119,104,105,108,101,32]⟩:aY)++et s.e++(⟨#[32,40]⟩:aY)++bt s.a++(⟨#[41,41]⟩:aY))
 else if s.kind=2 then acc++((⟨#[40,105,102,32]⟩:aY)++et s.e++(⟨#[32,40]⟩:aY)++bt s.a++(⟨#[41,32,40]⟩:aY)++bt s.b++(⟨#[41,41]⟩:aY))
 else acc
def lu(et:Ex->aY)(bt:List St->aY)(l:List St):Nat->aY
 | 0=>⟨#[]⟩
 | j+1=>match l[j]? with
  | some s=>stT et bt s (if 0<j then lu et bt l j++(⟨#[32]⟩:aY)else lu et bt l j)
  | none=>lu et bt l j
def bdT:Nat->List St->aY
 | 0,_=>⟨#[]⟩
 | m+1,l=>lu (xQ m) (bdT m) l l.length
end bN
theorem CG{et:Ex->aY}{bt:List St->aY}{l:List St}{j:Nat}{s:St}(h:l[j]?=some s):bN.lu et bt l (j+1)=stT et bt s (if 0<j then bN.lu et bt l j++(⟨#[32]⟩:aY)else bN.lu et bt l j):=by simp only[bN.lu,h]
def stW(m:Nat)(s:St):Nat:=s.name.size+3+iX m s.e+dY m s.a+dY m s.b
theorem J8(m:Nat)(l:List St):dY (m+1) l=(l.map (stW m)).sum+1:=rfl
end Go.Proofs.YtbgkpehhdibaoaaGreatDoor
