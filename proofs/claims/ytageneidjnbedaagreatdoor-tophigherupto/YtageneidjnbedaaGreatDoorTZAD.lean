import Derived.Test.YtageneidjnbedaaGreatDoorTZAA
import Derived.BigQuiet
set_option maxHeartbeats 0
set_option maxRecDepth 99999
namespace Go.Proofs.YtageneidjnbedaaGreatDoor
open bS
open Go.Proofs.Tryz
open Go.RowKit
namespace bS
def lI(s:aS):Option Nat:=(List.range s.size).find? λi=>s.data.toList.getD i 0==46
def preS(s:aS):aS:=match lI s with|some i=>s.extract 0 i|none=>s
def uR(s:aS):aS:=match lI s with|some i=>s.extract (i+1) s.size|none=>⟨#[]⟩
end bS
variable{p:Ex->Bool}{l:List Ex}
theorem byte_at(s:aS)(k:Nat)(a:k<s.size):s.data.toList.getD k 0=s[k]:=by
 have h:k<s.data.toList.length:=by simpa using a
 rw[List.getD,aZ h];rfl
theorem extract_size(s:aS)(a b:Nat):(s.extract a b).size<=s.size:=by rw[Rk];omega
theorem ag4(s:aS):(bS.preS s).size<=s.size:=by
 unfold bS.preS;split;·exact extract_size _ _ _
 ·exact bG _
theorem ag5(s:aS):(uR s).size<=s.size:=by
 unfold uR;split;·exact extract_size _ _ _
 ·exact bN _
namespace bS
def opS:List aS:=[⟨#[43]⟩,⟨#[45]⟩,⟨#[42]⟩,⟨#[60]⟩,⟨#[61]⟩]
def opB(s:aS):Bool:=decide (0<=dU opS s)
def yB(s:aS):Bool:=dZ (preS s).data.toList&&(!(lI s).isSome||dZ (uR s).data.toList)
def jo:Nat->Ex->Bool
 | 0,_=>false
 | m+1,x=>
  if x.kind=1 then decide (0<=x.n)&&decide (x.n<=999999)&&x.name.toList.isEmpty&&(x.args.length==0)
  else if x.kind=2 then (x.n==0)&&dZ x.name.data.toList&&(x.args.length==0)
  else if x.kind=3 then (x.n==0)&&opB x.name&&(x.args.length==2)&&x.args.all (jo m)
  else if x.kind=4 then (x.n==0)&&yB x.name&&decide (x.args.length<=4)&&x.args.all (jo m)
  else false
end bS
theorem kS(w:bI)(v:aC)(ss:aJ)(t:aS)(f:Strs w v ss):
  aD 20 #[v,A t] w λe w'=>e=dz (.bool<|decide (0<=dU ss t))/\w'=w:=by
 have h:=Y f
 obtain⟨a,b,off,cap,rfl,_⟩:=f
 go_enter func20,ntmps20
 go_wp2_with fail
 refine(BF w _ ss t h.out).mono ?_
 rintro e w' ⟨rfl,j⟩
 subst j
 obtain⟨i,d⟩:∃i,i=dU ss t:=⟨_,rfl⟩
 have g:=Y d
 rw[<-d]
 clear d
 go_wp2
 go_ret
 exact⟨aW (by rw[g.out]),rfl⟩
theorem zS(w:bI)(a b d c3:aC)(t:TypeId):(w.alloc<|.cells #[a,b,d,c3] t).cell? (aN w.heap.size 3)=some c3:=by simp[go_sem]
theorem acD(h:∀(i:Nat) (x:Ex),l[i]?=some x->p x=true):l.all p=true:=by rw[iB];intro x b;obtain⟨i,a,rfl⟩:=gU.1 b;exact h i _<|aZ a
theorem acE{i:Nat}{x:Ex}(a:l[i]?=some x)(h:p x=false):l.all p=false:=by rw[CY];exact⟨x,dG a,by simp[h]⟩
