/- part -/
import Derived.Test.YtbgkpehhdibaoaaGreatDoorBZAA
import Derived.BigQuiet
set_option maxHeartbeats 0
set_option maxRecDepth 99999
namespace Go.Proofs.YtbgkpehhdibaoaaGreatDoor
open bN
open Go.Proofs.Tryz
open Go.RowKit
namespace bN
def kM(s:aY):Option Nat:=(List.range s.size).find? λi=>s.data.toList.getD i 0==46
def preS(s:aY):aY:=match kM s with|some i=>s.extract 0 i|none=>s
def sP(s:aY):aY:=match kM s with|some i=>s.extract (i+1) s.size|none=>⟨#[]⟩
end bN
variable{p:Ex->Bool}{l:List Ex}
theorem byte_at(s:aY)(k:Nat)(hk:k<s.size):s.data.toList.getD k 0=s[k]:=by
 have h:k<s.data.toList.length:=by simpa using hk
 rw[List.getD,bD h];rfl
theorem extract_size(s:aY)(a b:Nat):(s.extract a b).size<=s.size:=by rw[Ob];omega
theorem preS_le(s:aY):(bN.preS s).size<=s.size:=by
 unfold bN.preS;split;·exact extract_size _ _ _
 ·exact bE _
theorem sufS_le(s:aY):(sP s).size<=s.size:=by
 unfold sP;split;·exact extract_size _ _ _
 ·exact bL _
namespace bN
def opS:List aY:=[⟨#[43]⟩,⟨#[45]⟩,⟨#[42]⟩,⟨#[60]⟩,⟨#[61]⟩]
def Ws(s:aY):Bool:=decide (0<=dR opS s)
def vU(s:aY):Bool:=dP (preS s).data.toList&&(!(kM s).isSome||dP (sP s).data.toList)
def kN:Nat->Ex->Bool
 | 0,_=>false
 | m+1,x=>
  if x.kind=1 then decide (0<=x.n)&&decide (x.n<=999999)&&x.name.toList.isEmpty&&(x.args.length==0)
  else if x.kind=2 then (x.n==0)&&dP x.name.data.toList&&(x.args.length==0)
  else if x.kind=3 then (x.n==0)&&Ws x.name&&(x.args.length==2)&&x.args.all (kN m)
  else if x.kind=4 then (x.n==0)&&vU x.name&&decide (x.args.length<=4)&&x.args.all (kN m)
  else false
end bN
theorem jV(w:World)(v:Value)(ss:List aY)(t:aY)(hS:Strs w v ss):
  Calls prog 14 #[v,A t] w λe w'=>e=dz (.bool (decide (0<=dR ss t)))/\w'=w:=by
 have HS:=I hS
 obtain⟨a,b,off,cap,rfl,_⟩:=hS
 go_enter func14,ntmps14
 go_wp2_with fail
 refine(zm w _ ss t HS.out).mono ?_
 rintro e w' ⟨rfl,hw⟩
 subst hw
 obtain⟨i,hi⟩:∃i,i=dR ss t:=⟨_,rfl⟩
 have HI:=I hi
 rw[<-hi]
 clear hi
 go_wp2
 go_ret
 exact⟨aP (by rw[HI.out]),rfl⟩
theorem xL(w:World)(c0 c1 c2 c3:Value)(t:TypeId):(w.alloc (.cells #[c0,c1,c2,c3] t)).cell? (X w.heap.size 3)=some c3:=by simp[go_sem]
theorem Zr(h:∀(i:Nat) (x:Ex),l[i]?=some x->p x=true):l.all p=true:=by rw[iB];intro x hx;obtain⟨i,hi,rfl⟩:=gZ.1 hx;exact h i _ (bD hi)
theorem Zt{i:Nat}{x:Ex}(hx:l[i]?=some x)(h:p x=false):l.all p=false:=by rw[Ar];exact⟨x,eT hx,by simp[h]⟩
end Go.Proofs.YtbgkpehhdibaoaaGreatDoor
