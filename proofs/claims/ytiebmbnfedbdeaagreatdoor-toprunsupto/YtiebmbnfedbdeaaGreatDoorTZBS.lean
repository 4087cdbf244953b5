import Derived.Test.YtiebmbnfedbdeaaGreatDoorTZBR
set_option maxHeartbeats 0
set_option maxRecDepth 99999
namespace Go.Proofs.YtiebmbnfedbdeaaGreatDoor
open bS
open Go.Proofs.Tryz
open Go.RowKit Go.Maps Go.WideMaps
namespace Ck
section
variable {x : Mo} {known known' : List Mo} {bL atg : List (List Sc)}
end
end Ck
namespace Ck
section
variable {l l' : List Mo} {nm : ByteArray}
end
end Ck
namespace Ck
def uni(ss:List ByteArray)(l:List Mo):List ByteArray:=(l.flatMap λx=>x.vars.flatMap λv=>[Fl.deed ⟨#[114,58]⟩ x.name v.name,Fl.deed ⟨#[119,58]⟩ x.name v.name])++ss.map λs=>(⟨#[112,58]⟩++s:ByteArray)
theorem wO{α β:Type}{f:α->List β}{k:Nat}:∀{l:List α},(∀x∈l,(f x).length<=k)->(l.flatMap f).length<=l.length*k
 | [],_=>by simp
 | x::l,a=>by have c:=wO (l:=l) λy b=>a y<|l8 _ b;have d:=a x List.mem_cons_self;rw[JO,bg,vN,rZ];omega
theorem QT{s:aS}(h:dZ s.data.toList=true):s.size<=8:=by unfold dZ at h;simp only[dK,iy]at h;exact h.1.2
theorem agO{m:Nat}{x:Mo}(a:oO m x=0):x.vars.length<=8/\x.name.size<=8/\∀v∈x.vars,v.name.size<=8:=by
 unfold oO at a;split at a;·cases a
 ·rename_i d;split at a;·cases a
  ·rename_i b;simp only[Bool.not_eq_false,dK,iB]at b;refine⟨by omega,QT b.1.1,λv c=>?_⟩;have:=b.2 v c;unfold Q6 at this;rw[dK]at this;exact QT this.1
theorem Ik{ss:aJ}{G:Nat}{L:Nat->Nat}{Z:aL}{m:Nat}{l:List Mo}(p:nN (dD ss G L Z) m l=0):Uk (uni ss l) ss l:=by
 obtain⟨q,B,g,_⟩:=kK p;have n:=qF q;have c:∀s∈ss,s.size<=8:=λs c=>by have e:=n.names;unfold mY at e;rw[dK,iB]at e;obtain⟨i,j,rfl⟩:=gU.1 c;have:=e.1 i<|jE.2 j;unfold yN at this;rw[dK]at this;have h:=this.2;rw[xK,aZ j]at h;exact QT h
 refine⟨λx b v d=>⟨?_,?_⟩,λs c=>bX.2<|aQ<|iZ.2 ⟨s,c,rfl⟩,?_,λt a=>?_⟩;·exact bX.2 (aO<|gZ.2 ⟨x,b,gZ.2 ⟨v,d,by simp⟩⟩)
 ·exact bX.2 (aO<|gZ.2 ⟨x,b,gZ.2 ⟨v,d,by simp⟩⟩)
 ·unfold uni;rw[bg,dV];obtain⟨C,F⟩:=eY (wO (l:=l) (f:=λx=>x.vars.flatMap λv=>[Fl.deed ⟨#[114,58]⟩ x.name v.name,Fl.deed ⟨#[119,58]⟩ x.name v.name]) (k:=16) (λx b=>by have D:=wO (l:=x.vars) (f:=λv:Va=>[Fl.deed ⟨#[114,58]⟩ x.name v.name,Fl.deed ⟨#[119,58]⟩ x.name v.name]) (k:=2) (λv _=>by simp);have E:=(agO<|g x b).1;omega)) n.six;omega
 ·have H:(100:Nat)<=maxLen:=by decide
  rcases bX.1 a with a|a;·obtain⟨x,b,a⟩:=gZ.1 a;obtain⟨v,d,a⟩:=gZ.1 a;obtain⟨_,u,w⟩:=agO<|g x b;have I:=w v d;simp only[fV,qZ,or_false]at a;rcases a with rfl|rfl<;>(unfold Fl.deed;simp only[ZP];have y:ByteArray.size ⟨#[46]⟩=1:=rfl;have o:ByteArray.size ⟨#[114,58]⟩=2:=rfl;have z:ByteArray.size ⟨#[119,58]⟩=2:=rfl;omega)
  ·obtain⟨s,r,rfl⟩:=iZ.1 a;have u:=c s r;rw[ZP];have o:ByteArray.size ⟨#[112,58]⟩=2:=rfl;omega
end Ck
