/- part -/
import Derived.Test.YtbgkpehhdibaoaaGreatDoorBZBR
set_option maxHeartbeats 0
set_option maxRecDepth 99999
namespace Go.Proofs.YtbgkpehhdibaoaaGreatDoor
open Ck bN bJ
open Go.Proofs.Tryz
open Go.RowKit Go.Maps Go.WideMaps
namespace Ck
section
variable {x : Mo} {known known' : List Mo} {bK schs' : List (List Sc)}
end
end Ck
namespace Ck
section
variable {l l' : List Mo} {nm : ByteArray}
end
end Ck
namespace Ck
def uni(ss:List ByteArray)(l:List Mo):List ByteArray:=(l.flatMap λx=>x.vars.flatMap λv=>[Fl.deed ⟨#[114,58]⟩ x.name v.name,Fl.deed ⟨#[119,58]⟩ x.name v.name])++ss.map λs=>(⟨#[112,58]⟩++s:ByteArray)
theorem uD{α β:Type}{f:α->List β}{k:Nat}:∀{l:List α},(∀x∈l,(f x).length<=k)->(l.flatMap f).length<=l.length*k
 | [],_=>by simp
 | x::l,h=>by have h1:=uD (l:=l) λy hy=>h y (pR _ hy);have h2:=h x List.mem_cons_self;rw[Gv,aT,yI,zw];omega
theorem NJ{s:aY}(h:dP s.data.toList=true):s.size<=8:=by unfold dP at h;simp only[dJ,gP]at h;exact h.1.2
theorem QS{m:Nat}{x:Mo}(h:sI m x=0):x.vars.length<=8/\x.name.size<=8/\∀v∈x.vars,v.name.size<=8:=by
 unfold sI at h;split at h;·cases h
 ·rename_i h1;split at h;·cases h
  ·rename_i h2;simp only[Bool.not_eq_false,dJ,iB]at h2;refine⟨by omega,NJ h2.1.1,λv hv=>?_⟩;have:=h2.2 v hv;unfold XB at this;rw[dJ]at this;exact NJ this.1
theorem NK{ss:List aY}{G:Nat}{L:Nat->Nat}{Z:Nat->Nat->Bool}{m:Nat}{l:List Mo}(h:jU (bX ss G L Z) m l=0):YM (uni ss l) ss l:=by
 obtain⟨h1,h2,h3,_⟩:=oh h;have ho:=pU h1;have hs:∀s∈ss,s.size<=8:=λs hs=>by have hn:=ho.names;unfold lN at hn;rw[dJ,iB]at hn;obtain⟨i,hi,rfl⟩:=gZ.1 hs;have:=hn.1 i (jr.2 hi);unfold wC at this;rw[dJ]at this;have h4:=this.2;rw[DV,bD hi]at h4;exact NJ h4
 refine⟨λx hx v hv=>⟨?_,?_⟩,λs hs=>bZ.2 (aV (jP.2 ⟨s,hs,rfl⟩)),?_,λt ht=>?_⟩;·exact bZ.2 (aR (iC.2 ⟨x,hx,iC.2 ⟨v,hv,by simp⟩⟩))
 ·exact bZ.2 (aR (iC.2 ⟨x,hx,iC.2 ⟨v,hv,by simp⟩⟩))
 ·unfold uni;rw[aT,dO];obtain⟨h5,h8⟩:=eY (uD (l:=l) (f:=λx=>x.vars.flatMap λv=>[Fl.deed ⟨#[114,58]⟩ x.name v.name,Fl.deed ⟨#[119,58]⟩ x.name v.name]) (k:=16) (λx hx=>by have h6:=uD (l:=x.vars) (f:=λv:Va=>[Fl.deed ⟨#[114,58]⟩ x.name v.name,Fl.deed ⟨#[119,58]⟩ x.name v.name]) (k:=2) (λv _=>by simp);have h7:=(QS (h3 x hx)).1;omega)) ho.six;omega
 ·have hm:(100:Nat)<=maxLen:=by decide
  rcases bZ.1 ht with ht|ht;·obtain⟨x,hx,ht⟩:=iC.1 ht;obtain⟨v,hv,ht⟩:=iC.1 ht;obtain⟨_,k1,k2⟩:=QS (h3 x hx);have k3:=k2 v hv;simp only[fK,uT,or_false]at ht;rcases ht with rfl|rfl<;>(unfold Fl.deed;simp only[ByteArray.size_append];have a1:ByteArray.size ⟨#[46]⟩=1:=rfl;have a2:ByteArray.size ⟨#[114,58]⟩=2:=rfl;have a3:ByteArray.size ⟨#[119,58]⟩=2:=rfl;omega)
  ·obtain⟨s,hs',rfl⟩:=jP.1 ht;have k1:=hs s hs';rw[ByteArray.size_append];have a2:ByteArray.size ⟨#[112,58]⟩=2:=rfl;omega
end Ck
namespace Ck
theorem IV{l:List Mo}{F:aY->Fi}:∀{r:List aY} {acc:List Dg},(bl l F r acc).2=0->(bl l F r acc).1=[]->acc=[]/\∀b∈r,(dI l b).isSome=true->(F b).2.2=0/\(F b).2.1=[]
 | [],acc,_,h1=>⟨h1,λb hb=>by cases hb⟩
 | s::r,acc,h0,h1=>by
  unfold bl at h0 h1;by_cases hs:(dI l s).isSome=false
  ·rw[aL hs]at h0 h1;obtain⟨e,h⟩:=IV h0 h1;refine⟨e,λb hb hm=>?_⟩;rcases fK.1 hb with rfl|hb;·rw[hs]at hm;cases hm
   ·exact h b hb hm
  ·rw[aJ hs]at h0 h1;by_cases he:(F s).2.2≠0;·rw[aL he]at h0;exact aM h0 he
   ·rw[aJ he]at h0 h1;obtain⟨e,h⟩:=IV h0 h1;by_cases hd:(F s).2.1≠[];·rw[aL hd]at e;simp at e
    ·rw[aJ hd]at e;refine⟨e,λb hb hm=>?_⟩;rcases fK.1 hb with rfl|hb;·exact⟨Decidable.of_not_not he,Classical.not_not.1 hd⟩
     ·exact h b hb hm
theorem YV{l:List Dg}(h:bJ.once l=[]):l=[]:=by
 cases l with
 | nil=>rfl
 | cons d l =>have:=(Az (d::l) d).2 List.mem_cons_self;rw[h]at this;cases this
theorem K4{c:Cx}{F:aY->Fi}{x:Mo}(h0:(QC c F x).2.2=0)(h1:(QC c F x).2.1=[]):¬sH c.l x.name x.name/\∀b∈x.imports,(dI c.l b).isSome=true->(F b).2.2=0/\(F b).2.1=[]:=by
 unfold QC at h0 h1;by_cases hr:sH c.l x.name x.name;·rw[aL hr]at h1;cases h1
 ·rw[aJ hr]at h0 h1;by_cases he:(bl c.l F x.imports []).2≠0;·rw[aL he]at h0;exact aM h0 he
  ·rw[aJ he]at h0 h1;by_cases ho:bJ.once (bl c.l F x.imports []).1≠[];·rw[aL ho]at h1;exact aM h1 ho
   ·exact⟨hr,(IV (Decidable.of_not_not he) (YV (Classical.not_not.1 ho))).2⟩
theorem FD_imp{c:Cx}{s b:aY}(h0:(FD c s).2.2=0)(h1:(FD c s).2.1=[])(hi:imp c.l s b):(FD c b).2.2=0/\(FD c b).2.1=[]:=by obtain⟨i,x,hm,hx,hb,hbs⟩:=hi;rw[V7 hm hx]at h0 h1;exact(K4 h0 h1).2 b hb hbs
theorem FD_rch{c:Cx}{s b:aY}(h0:(FD c s).2.2=0)(h1:(FD c s).2.1=[])(hr:sH c.l s b):(FD c b).2.2=0/\(FD c b).2.1=[]:=by
 induction hr with
 | one h=>exact FD_imp h0 h1 h
 | more _ k ih=>exact FD_imp ih.1 ih.2 k
theorem an_clean{c:Cx}{name:aY}(h0:(an c name).2.2=0):jU (bX c.ss c.G c.L c.Z) c.m c.l=0/\(dI c.l name).isSome=true/\an c name=FD c name:=by
 unfold an at h0 ⊢;by_cases hf:jU (bX c.ss c.G c.L c.Z) c.m c.l≠0;·rw[aL hf]at h0;exact aM h0 hf
 ·rw[aJ hf]at h0 ⊢;by_cases hn:(dI c.l name).isSome=false;·rw[aL hn]at h0;cases h0
  ·rw[aJ hn];refine⟨Decidable.of_not_not hf,?_,rfl⟩;cases hq:(dI c.l name).isSome with
   | true=>rfl
   | false=>exact aM hq hn
theorem an_below{c:Cx}{name:aY}(h0:(an c name).2.2=0)(h1:(an c name).2.1=[]):¬sH c.l name name/\∀s,sH c.l name s->(an c s).2.2=0/\(an c s).2.1=[]:=by
 obtain⟨hf,hn,e⟩:=an_clean h0;rw[e]at h0 h1;obtain⟨i,hi⟩:=rR.1 hn;obtain⟨x,hx,rfl⟩:=iM hi;refine⟨?_,λs hs=>?_⟩;·rw[V7 hi hx]at h0 h1;exact(K4 h0 h1).1
 ·have e2:an c s=FD c s:=by unfold an;rw[aJ (by rw[hf];simp),aJ (by rw[ND hs];simp)]
  rw[e2];exact FD_rch h0 h1 hs
end Ck
end Go.Proofs.YtbgkpehhdibaoaaGreatDoor
