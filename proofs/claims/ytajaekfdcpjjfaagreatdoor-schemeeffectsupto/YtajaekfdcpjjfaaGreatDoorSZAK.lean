import Derived.Test.YtajaekfdcpjjfaaGreatDoorSZI2
import Derived.Deep.RegionHeld3
set_option maxHeartbeats 0
set_option maxRecDepth 99999
namespace Go.Proofs.YtajaekfdcpjjfaaGreatDoor
open bS
open Go.Proofs.Tryz
open Go.RowKit
namespace bS
def stT(a:Ex->aS)(bt:List St->aS)(s:St)(acc:aS):aS:=
 if s.kind=1 then acc++((⟨#[40,115,101,116,32]⟩:aS)++s.name++(⟨#[32]⟩:aS)++a s.e++(⟨#[41]⟩:aS))
 else if s.kind=4 then acc++((⟨#[40,112,114,105,110,116,32]⟩:aS)++s.name++(⟨#[32]⟩:aS)++a s.e++(⟨#[41]⟩:aS))
 else if s.kind=3 then acc++((⟨#[40,119,104,105,108,101,32]⟩:aS)++a s.e++(⟨#[32,40]⟩:aS)++bt s.a++(⟨#[41,41]⟩:aS))
 else if s.kind=2 then acc++((⟨#[40,105,102,32]⟩:aS)++a s.e++(⟨#[32,40]⟩:aS)++bt s.a++(⟨#[41,32,40]⟩:aS)++bt s.b++(⟨#[41,41]⟩:aS))
 else acc
def mK(a:Ex->aS)(bt:List St->aS)(l:List St):Nat->aS
 | 0=>⟨#[]⟩
 | j+1=>match l[j]? with
  | some s=>stT a bt s (if 0<j then mK a bt l j++(⟨#[32]⟩:aS)else mK a bt l j)
  | none=>mK a bt l j
def bdT:Nat->List St->aS
 | 0,_=>⟨#[]⟩
 | m+1,l=>mK (zT m) (bdT m) l l.length
end bS
theorem Fz{a:Ex->aS}{bt:List St->aS}{l:List St}{j:Nat}{s:St}(b:l[j]?=some s):bS.mK a bt l (j+1)=stT a bt s (if 0<j then bS.mK a bt l j++(⟨#[32]⟩:aS)else bS.mK a bt l j):=by simp only[bS.mK,b]
def stW(m:Nat)(s:St):Nat:=s.name.size+3+jF m s.e+fA m s.a+fA m s.b
theorem Nk(m:Nat)(l:List St):fA (m+1) l=(l.map<|stW m).sum+1:=rfl
