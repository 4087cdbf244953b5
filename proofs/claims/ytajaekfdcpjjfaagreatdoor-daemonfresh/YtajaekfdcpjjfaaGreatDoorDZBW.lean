import Derived.Test.YtajaekfdcpjjfaaGreatDoorDZBX
import Derived.Test.YtajaekfdcpjjfaaGreatDoorDZBS
set_option maxHeartbeats 0
set_option maxRecDepth 99999
namespace Go.Proofs.YtajaekfdcpjjfaaGreatDoor
open Ck bS bO Sm
open Go.Proofs.Tryz
open Go.RowKit Go.Maps Go.WideMaps
namespace Sm
open Fl
end Sm
namespace Ck
section
variable {R : List ByteArray} {name : ByteArray} {o : Mo} {l : List Mo} {j : Nat} {x : Mo}
end
theorem Ii{b:aJ}{c:Cx}{name:aS}(d:Uk b c.ss c.l):∀y∈(an c name).1,XI b y:=by
 intro y a;unfold an at a;split at a;·cases a
 ·split at a;·cases a
  ·exact XY d _ name y a
end Ck
theorem Ck.amA{c:Cx}{name:aS}:(Ck.an c name).1.length<=8:=by
 unfold Ck.an;split;·simp
 ·rename_i h;split;·simp
  ·exact FU (kK<|by simpa using h).2.2.1 _ _
theorem amB{c:Cx}{name:aS}{w:bI}{v:aC}(d:eZ Ht w 0 35 6 v (Ck.an c name).1):xO w v (Ck.an c name).1:=by
 by_cases e:nN (dD c.ss c.G c.L c.Z) c.m c.l=0;·have b:=Ik e;exact Li d (bE amA bM) (λy a f h=>b.size f<|(Ii b y a).1 f h) (λy a=>bE (Ii b y a).2 b.len)
 ·have g:(Ck.an c name).1=[]:=by unfold Ck.an;rw[aK e]
  rw[g]at d ⊢;exact Li d cK (λy a=>by cases a) (λy a=>by cases a)
namespace Sm
open Fl
end Sm
namespace Ck
def Jd(x:Mo):Cx:=⟨8196,nH,2,λ_=>2,qg,[x]⟩
theorem au0{x:Mo}(f:x.imports=[]){a b:aS}:¬yu [x] a b:=by
 have e:∀a b,¬imp [x] a b:=λa b c=>by
  obtain⟨i,y,_,g,d,_⟩:=c;have:y=x:=by simpa using dG g
  rw[this,f]at d;cases d
 intro c;cases c with
 | one c=>exact e _ _ c
 | more _ c=>exact e _ _ c
theorem au1{x:Mo}(b:x.imports=[])(f:nN (dD nH 2 (λ_=>2) qg) 8196 [x]=0):an (Jd x) x.name=Sm.ans nH 2 (λ_=>2) qg 8196 x [] []:=by
 have d:dQ [x] x.name=some 0:=by simp[dQ,cB]
 unfold an;rw[aI (by show ¬nN (dD nH 2 (λ_=>2) qg) 8196 [x]≠0;rw[f];simp),aI (by show ¬(dQ [x] x.name).isSome=false;rw[d];simp)];rw[QU (c:=Jd x) d rfl];unfold Oj;rw[aI (show ¬yu (Jd x).l x.name x.name from au0 b),b];rw[aI (show ¬(bl (Jd x).l (FD<|Jd x) [] []).2≠0 from λa=>a rfl),aI<|show ¬bO.once (bl (Jd x).l (FD<|Jd x) [] []).1≠[]from λa=>a rfl];have e:tN (Jd x).l x=[]:=by simp[tN,Jd,cB]
 have g:vE (Jd x).l (FD<|Jd x) x=[]:=by unfold vE;rw[e];rfl
 rw[e,g];rfl
def acc(a:Fi):Bool:=decide (a.2.1.length=0)&&decide (0<a.1.length)
end Ck
namespace Rd
end Rd
