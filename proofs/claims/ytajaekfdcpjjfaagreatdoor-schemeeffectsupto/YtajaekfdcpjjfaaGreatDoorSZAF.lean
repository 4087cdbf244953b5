import Derived.Test.YtajaekfdcpjjfaaGreatDoorSZAE
set_option maxHeartbeats 0
set_option maxRecDepth 99999
namespace Go.Proofs.YtajaekfdcpjjfaaGreatDoor
open Go.Proofs.Tryz
open Go.RowKit
namespace bS
def stH(s:St):Bool:=
 if s.kind=1\/s.kind=4 then dZ s.name.data.toList&&(s.b.length==0)&&(s.a.length==0)
 else if s.kind=2 then s.name.toList.isEmpty
 else if s.kind=3 then s.name.toList.isEmpty&&(s.b.length==0)
 else false
def j6:Nat->List St->Bool
 | 0,_=>false
 | m+1,l=>l.all λs=>stH s&&jo m s.e&&j6 m s.a&&j6 m s.b
def Vz(m:Nat)(s:St):Bool:=stH s&&jo m s.e&&j6 m s.a&&j6 m s.b
theorem wL(m:Nat)(l:List St):j6 (m+1) l=l.all (Vz m):=rfl
end bS
variable{p:St->Bool}{l:List St}{i m:Nat}{w:bI}{c0 c1 c2 c3 v:aC}
theorem acF(a:∀(i:Nat) (x:St),l[i]?=some x->p x=true):l.all p=true:=by rw[iB];intro x c;obtain⟨i,b,rfl⟩:=gU.1 c;exact a i _<|aZ b
theorem acG{x:St}(b:l[i]?=some x)(a:p x=false):l.all p=false:=by rw[CY];exact⟨x,dG b,by simp[a]⟩
theorem iH.shape{x:Ex}(c:iH w m c0 c1 c2 c3 x):∃a cap,c0=O x.kind/\c1=O x.n/\c2=A x.name/\c3=X a x.args.length cap:=by
 cases m with
 | zero=>exact iU c
 | succ m =>obtain⟨d,e,f,_,_,_,a,b,off,cap,g,_⟩:=c;exact⟨a,cap,d,e,f,g⟩
theorem fH.shape(c:fH w m v l):∃a cap,v=X a l.length cap/\l.length<=9223372036854775807:=by
 cases m with
 | zero=>exact iU c
 | succ m =>obtain⟨a,b,off,cap,d,_,e,_⟩:=c;exact⟨a,cap,d,e⟩
theorem Jm(w:bI)(c0 c1 c2 c3 a b c6 c:aC)(t:TypeId):(w.alloc<|.cells #[c0,c1,c2,c3,a,b,c6,c] t).cell? (aN w.heap.size 6)=some c6:=by simp[go_sem]
theorem Jo(w:bI)(c0 c1 c2 c3 a b c c7:aC)(t:TypeId):(w.alloc<|.cells #[c0,c1,c2,c3,a,b,c,c7] t).cell? (aN w.heap.size 7)=some c7:=by simp[go_sem]
