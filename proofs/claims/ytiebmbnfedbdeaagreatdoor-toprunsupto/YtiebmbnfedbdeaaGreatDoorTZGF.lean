import Derived.Test.YtiebmbnfedbdeaaGreatDoorTZBW
import Derived.Test.YtiebmbnfedbdeaaGreatDoorTZRB
set_option maxHeartbeats 0
set_option maxRecDepth 99999
namespace Go.Proofs.YtiebmbnfedbdeaaGreatDoor
open Ck bS Sm
open Go.Proofs.Tryz
open Go.RowKit Go.Maps Go.WideMaps
variable{s name:aS}{w W x:bI}{n cap k m B i G:Nat}{v v1 v2 v3:aC}
theorem agW{E:aJ}(h:s∈E):decide (0<=dU E s)=true:=gW<|Fl.wD.2 h
theorem Ints.apD{a:Option Addr}{l:List Int}(c:Ints w (X a n cap) l)(q:k<=l.length):Ints w (X a k cap) (l.take k):=by
 obtain⟨u,b,off,y,e,h,C,o⟩:=c;injection e with f z g;subst f g;refine⟨a,b,off,cap,by rw[iA,Nat.min_eq_left q],λc=>h ?_,by rw[iA];omega,λj r d=>?_⟩;·rw[iA]at c;omega
 ·have p:j<k:=by have:=(cO.1 d).1;rw[iA]at this;omega
  rw[nM p]at d;exact o j r d
theorem xQ.caps{l:List Mo}(o:xQ w m v l):∀(b off cap:Nat),v=X (some<|aN b off) l.length cap->∀(i:Nat) (y:Mo) (vf:aC),l[i]?=some y->bJ w b (off+i*4+3)=some vf->uL vf:=λb off cap f i y vf e k3=>by
 obtain⟨z,C,N,D,g,p,_,r⟩:=o;have d:=f;rw[g]at d;injection d with c E F;have u:0<l.length:=by have:=(cO.1 e).1;omega
 rw[p u]at c;injection c with c;injection c with h j;subst h j;obtain⟨Q,R,P,H,I,K,a,L,q⟩:=r i y e;replace a:=k3.symm.trans a;injection a with a;subst a;exact q.fus
theorem qN.amC{r:Rn.Fx}(f:qN w r v1 v2 v3):∃a1 a a2 b a3 c3,v1=X a1 r.TB.length a/\v2=X a2 r.pr.length b/\v3=X a3 r.did.length c3:=by obtain⟨⟨a1,_,_,a,c,_⟩,⟨a2,_,_,b,d,_⟩,⟨a3,_,_,c3,e,_⟩⟩:=f;exact⟨a1,a,a2,b,a3,c3,c,d,e⟩
section
variable {W : World} {B : Nat} {t : TypeId} {n : Int} {a1 a2 a3 : Option Addr} {n1 n2 n3 k1 k2 k3 : Nat}
theorem Gt{b q:Nat}{s:aS}(d:dR W B (.cells #[O n,X a1 n1 k1,X a2 n2 k2,X a3 n3 k3] t (0,0)))(a:W.cell? (aN b q)=some (A s)):b≠B:=λc=>by
 subst c;rw[aj d]at a;match q,a with
 | 0,a=>simp at a
 | 1,a=>simp at a
 | 2,a=>simp at a
 | 3,a=>simp at a
 | q+4,a=>simp at a
theorem Al{b q i:Nat}{v:aC}(e:b≠B)(a:bJ W b q=some v)(c:aC):(W.setCell (aN B i) c).cell? (aN b q)=some v:=by obtain⟨o,d⟩:∃o,W.heap[b]?=some o:=⟨_,Array.getElem?_eq_getElem<|eH _ _ a⟩;exact(jH<|(aX d e c).trans d.symm).trans a
theorem qh{b q:Nat}{v:aC}(a:b≠B)(g:bJ W b q=some v)(c d e f:aC):((((W.setCell (aN B 0) c).setCell (aN B 1) d).setCell (aN B 2) e).setCell (aN B 3) f).cell? (aN b q)=some v:=Al a (Al a (Al a (Al a g c) d) e) f
theorem acy{r:Rn.Fx}{v1 v2 v3:aC}(E:qN W r v1 v2 v3)(d:dR W B (.cells #[O n,X a1 n1 k1,X a2 n2 k2,X a3 n3 k3] t (0,0)))(l o p q:aC):qN ((((W.setCell (aN B 0) l).setCell (aN B 1) o).setCell (aN B 2) p).setCell (aN B 3) q) r v1 v2 v3:=by
 obtain⟨⟨Q,U,z1,w1,u,I,q1,F⟩,⟨R,V,z2,N,z,K,q2,H⟩,⟨S,Z,z3,P,C,L,q3,s3,f⟩⟩:=E;refine⟨⟨Q,U,z1,w1,u,I,q1,λi y e=>?_⟩,⟨R,V,z2,N,z,K,q2,λi y e=>?_⟩,⟨S,Z,z3,P,C,L,q3,s3,λj h=>?_⟩⟩;·obtain⟨g,b,c,D⟩:=F i y e;have a:=Gt d b;exact⟨g,qh a b _ _ _ _,qh a c _ _ _ _,qh a D _ _ _ _⟩
 ·obtain⟨b,c⟩:=H i y e;have a:=Gt d b;exact⟨qh a b _ _ _ _,qh a c _ _ _ _⟩
 ·exact qh (Gt d<|f j h) (f j h) _ _ _ _
end
theorem Vb(b:J (W.heap.size<=B))(a:J (bK W x)):J (bK W<|x.setCell (aN B i) v):=Y<|a.setCell (p:=(aN B i)) b v
theorem Ck.auL{c:Cx}(e:(Ck.an c name).2.2=0)(h:(Ck.an c name).2.1=[]){y:Sc}(g:(Ck.an c name).1[k]?=some y):dD c.ss c.G c.L c.Z=0/\0<=y.pc/\y.pc<c.ss.length:=by
 obtain⟨r,E,p⟩:=agL e;rw[p]at e h g;obtain⟨i,u⟩:=sF.1 E;obtain⟨x,H,rfl⟩:=iT u;have j:Ck.Acc c i x:=⟨H,r,e,h⟩;have a:=j.facts;have z:(FD c x.name).1.length=x.bq.length:=by rw[a.eF];exact xB<|bG _
 have o:k<x.bq.length:=by rw[<-z];exact(cO.1 g).1
 obtain⟨f,l⟩:∃f,x.bq[k]?=some f:=⟨_,aZ o⟩;obtain⟨s1,s2⟩:=j.xD l;rw[g]at s2;injection s2 with s2;obtain⟨q,b⟩:=eY (EH l<|U3 a.inf k o)<|qF a.chk;have d:=Jq b.order;have F:Sm.top c.Z c.ss.length<c.ss.length:=(Db (Z:=bS.tr c.Z) (sD d b.joins) b.pos).1;have C:=(pcf d (sD d.turn b.meets) _ (Sm.top c.Z c.ss.length) F q.pb.sinks).1;refine⟨a.chk,?_⟩;rw[s2,s1];show(0:Int)<=(Sm.pc _ _ _:Nat)/\((Sm.pc _ _ _:Nat):Int)<_;refine⟨Int.natCast_nonneg _,?_⟩;have D:=Int.ofNat_lt.2 C;exact D
theorem aub{L:Nat->Nat}(a:mR G L n=true):G=n/\∀r,r<n->L r=n:=by unfold mR at a;simp only[dK,iB,jE,beq_iff_eq]at a;refine⟨a.1,λr c=>?_⟩;have b:=a.2 r (by rw[a.1];exact c);unfold wM at b;simpa using b
