/- part -/
import Derived.Test.YtbgkpehhdibaoaaGreatDoorBZAD
set_option maxHeartbeats 0
set_option maxRecDepth 99999
namespace Go.Proofs.YtbgkpehhdibaoaaGreatDoor
open Go.Proofs.Tryz
open Go.RowKit
namespace bN
def stH(s:St):Bool:=
 if s.kind=1\/s.kind=4 then dP s.name.data.toList&&(s.b.length==0)&&(s.a.length==0)
 else if s.kind=2 then s.name.toList.isEmpty
 else if s.kind=3 then s.name.toList.isEmpty&&(s.b.length==0)
 else false
def mG:Nat->List St->Bool
 | 0,_=>false
 | m+1,l=>l.all λs=>stH s&&kN m s.e&&mG m s.a&&mG m s.b
def stB(m:Nat)(s:St):Bool:=stH s&&kN m s.e&&mG m s.a&&mG m s.b
theorem zB(m:Nat)(l:List St):mG (m+1) l=l.all (stB m):=rfl
end bN
variable{p:St->Bool}{l:List St}{i m:Nat}{w:World}{c0 c1 c2 c3 v:Value}
theorem Zv(h:∀(i:Nat) (x:St),l[i]?=some x->p x=true):l.all p=true:=by rw[iB];intro x hx;obtain⟨i,hi,rfl⟩:=gZ.1 hx;exact h i _ (bD hi)
theorem Zw{x:St}(hx:l[i]?=some x)(h:p x=false):l.all p=false:=by rw[Ar];exact⟨x,eT hx,by simp[h]⟩
theorem gT.shape{x:Ex}(h:gT w m c0 c1 c2 c3 x):∃a cap,c0=O x.kind/\c1=O x.n/\c2=A x.name/\c3=Y a x.args.length cap:=by
 cases m with
 | zero=>exact iW h
 | succ m =>obtain⟨h0,h1,h2,_,_,_,a,b,off,cap,h3,_⟩:=h;exact⟨a,cap,h0,h1,h2,h3⟩
theorem fB.shape(h:fB w m v l):∃a cap,v=Y a l.length cap/\l.length<=9223372036854775807:=by
 cases m with
 | zero=>exact iW h
 | succ m =>obtain⟨a,b,off,cap,h3,_,h4,_⟩:=h;exact⟨a,cap,h3,h4⟩
theorem FX(w:World)(c0 c1 c2 c3 c4 c5 c6 c7:Value)(t:TypeId):(w.alloc (.cells #[c0,c1,c2,c3,c4,c5,c6,c7] t)).cell? (X w.heap.size 6)=some c6:=by simp[go_sem]
theorem FY(w:World)(c0 c1 c2 c3 c4 c5 c6 c7:Value)(t:TypeId):(w.alloc (.cells #[c0,c1,c2,c3,c4,c5,c6,c7] t)).cell? (X w.heap.size 7)=some c7:=by simp[go_sem]
end Go.Proofs.YtbgkpehhdibaoaaGreatDoor
