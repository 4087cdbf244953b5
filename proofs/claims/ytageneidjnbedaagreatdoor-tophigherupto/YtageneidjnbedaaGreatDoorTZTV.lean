import Derived.Test.YtageneidjnbedaaGreatDoorTZBS
import Derived.Test.YtageneidjnbedaaGreatDoorTZTQ
set_option maxHeartbeats 0
set_option maxRecDepth 99999
namespace Go.Proofs.YtageneidjnbedaaGreatDoor
open Ck bS bO Rd Sm
open Go.Proofs.Tryz
open Go.RowKit
namespace Rn
structure May where
 rd:ByteArray × ByteArray->Prop
 st:ByteArray × ByteArray->Prop
 pr:ByteArray->Prop
section
variable {nm : List (ByteArray × ByteArray)} {p q : May} {s t u : gM}
end
section
variable (nm : List (ByteArray × ByteArray)) (l : List Mo) (T : Nat → Nat → May) (Ok : Nat → Nat → Prop)
end
section
variable {nm : List (ByteArray × ByteArray)} {l : List Mo} {T : Nat → Nat → May} {Ok : Nat → Nat → Prop}
end
end Rn
open Go.Maps Go.WideMaps
namespace Sm
open Fl
section
variable {ss : List ByteArray} {G : Nat} {L : Nat → Nat} {Z : Nat → Nat → Bool} {m : Nat} {x : Mo} {known : List Mo} {bL : List (List Sc)}
theorem acn(e:(ans ss G L Z m x known bL).2.2=0)(f:(ans ss G L Z m x known bL).2.1=[]):bO.once (D9 ss x known m)=[]/\qI ss G L Z m x known bL x.bq.length=0/\(inf ss Z m x known bL x.bq.length).2=[]/\(ans ss G L Z m x known bL).1=(inf ss Z m x known bL x.bq.length).1:=by
 unfold ans at e f ⊢;by_cases a:AO (dD ss G L Z) m x known=0
 ·rw[aI (by simp[a])]at e f ⊢;by_cases b:bO.once (D9 ss x known m)=[]
  ·rw[aI (by simp[b])]at e f ⊢;by_cases d:qI ss G L Z m x known bL x.bq.length=0
   ·rw[aI (by simp[d])]at e f ⊢;by_cases g:(inf ss Z m x known bL x.bq.length).2=[];·rw[aI (by simp[g])];exact⟨b,d,g,rfl⟩
    ·rw[aK g]at f;exact aM (Gs f) g
   ·rw[aK d]at e;exact aM e d
  ·rw[aK b]at f;exact aM f b
 ·rw[aK a]at e;exact aM e a
end
end Sm
namespace Ck
theorem aje{c:Cx}{F:aS->Fi}{x:Mo}(b:(Oj c F x).2.2=0)(a:(Oj c F x).2.1=[]):Oj c F x=Sm.ans c.ss c.G c.L c.Z c.m x (tN c.l x) (vE c.l F x):=by
 unfold Oj at b a ⊢;by_cases f:yu c.l x.name x.name;·rw[aK f]at a;cases a
 ·rw[aI f]at b a ⊢;by_cases d:(bl c.l F x.imports []).2≠0;·rw[aK d]at b;exact aM b d
  ·rw[aI d]at b a ⊢;by_cases e:bO.once (bl c.l F x.imports []).1≠[];·rw[aK e]at a;exact aM a e
   ·rw[aI e]
section
variable {c : Cx} {i : Nat} {x : Mo}
end
end Ck
namespace Ck
def awz:Nat->Nat->Bool:=λ_ _=>true
def Cx.flat(c:Cx):Cx:=⟨c.m,[awc],1,λ_=>1,awz,c.l.map (flM c.ss c.m)⟩
theorem azN(N:Nat)(V:Nat->Nat × Nat)(P:Pb)(a:ByteArray):Sm.GJ awz N V P a=[]:=by unfold Sm.GJ;rw[List.filter_eq_nil_iff.2 λs _=>by simp[Sm.bad,awz]];rfl
theorem axb{ss:aJ}{m:Nat}{x:Mo}{known:List Mo}{bL:List (List Sc)}:∀k,(Sm.inf ss awz m x known bL k).2=[]
 | 0=>rfl
 | k+1=>by
  rw[Sm.inf];split;·exact axb k
  ·simp only[axb k,azN,gL]
theorem ax1{l:List Dg}(h:no6 l):no6 (bO.once l):=λd a=>h d<|(Dh l d).1 a
section
variable {l : List Mo} {ss : List ByteArray} {m : Nat}
theorem axG{a b:ByteArray}:imp (l.map<|flM ss m) a b↔imp l a b:=by
 unfold imp;simp only[awi,pq];constructor;·rintro⟨i,y,d,e,f,g⟩;obtain⟨x,h,rfl⟩:=yF.1 e;exact⟨i,x,d,h,f,g⟩
 ·rintro⟨i,x,d,e,f,g⟩;exact⟨i,flM ss m x,d,by rw[e];rfl,f,g⟩
theorem azk{a b:ByteArray}:yu (l.map<|flM ss m) a b↔yu l a b:=by
 constructor
 ·intro h;induction h with
  | one h=>exact yu.one<|axG.1 h
  | more _ k d=>exact yu.more d<|axG.1 k
 ·intro h;induction h with
  | one h=>exact yu.one<|axG.2 h
  | more _ k d=>exact yu.more d<|axG.2 k
theorem aAj(x:Mo):tN (l.map<|flM ss m) (flM ss m x)=(tN l x).map (flM ss m):=by unfold tN;rw[List.filter_map];rfl
end
theorem ayi{l:List Mo}{F:ByteArray->Fi}:∀{r:aJ} {acc:List Dg},(∀b∈r,(dQ l b).isSome=true->(F b).2.2=0\/(F b).2.2=2)->no6 acc->((bl l F r acc).2=0\/(bl l F r acc).2=2)/\no6 (bl l F r acc).1
 | [],acc,_,a=>⟨aO rfl,a⟩
 | s::r,acc,h,a=>by
  have j:∀b∈r,(dQ l b).isSome=true->(F b).2.2=0\/(F b).2.2=2:=λb k=>h b<|l8 _ k;unfold bl;by_cases f:(dQ l s).isSome=false;·rw[aK f];exact ayi j a
  ·rw[aI f];by_cases g:(F s).2.2≠0
   ·rw[aK g];refine⟨h s List.mem_cons_self ?_,awe⟩;cases n:(dQ l s).isSome with
    | true=>rfl
    | false=>exact aM n f
   ·rw[aI g];refine ayi j ?_;split
    ·intro d e;rcases bX.1 e with e|e;·exact a d e
     ·exact awu bM d e
    ·exact a
theorem axH{l:List Mo}{F:ByteArray->Fi}:∀{r:aJ} {acc:List Dg},(bl l F r acc).2=0->(∀b∈r,(dQ l b).isSome=true->(F b).2.2=0->(F b).2.1=[])->(bl l F r acc).1=acc
 | [],acc,_,_=>rfl
 | s::r,acc,a,h=>by
  have f:∀b∈r,(dQ l b).isSome=true->(F b).2.2=0->(F b).2.1=[]:=λb g=>h b<|l8 _ g;unfold bl at a ⊢;by_cases e:(dQ l s).isSome=false;·rw[aK e]at a ⊢;exact axH a f
  ·rw[aI e]at a ⊢;by_cases d:(F s).2.2≠0;·rw[aK d]at a;exact aM a d
   ·rw[aI d]at a ⊢;have n:(dQ l s).isSome=true:=by
     cases k:(dQ l s).isSome with
     | true=>rfl
     | false=>exact aM k e
    have j:=h s List.mem_cons_self n<|Decidable.of_not_not d;rw[aI (by rw[j];simp)]at a ⊢;exact axH a f
structure azX(c:Cx)(s:ByteArray):Prop where
 err:(FD c.flat s).2.2=0\/(FD c.flat s).2.2=2
 six:no6 (FD c.flat s).2.1
 fit:(FD c.flat s).2.2=0->(FD c.flat s).2.1=[]->∀(i:Nat) y,dQ c.flat.l s=some i->c.flat.l[i]?=some y->Fl.vg 1 y.bq (FD c.flat s).1=true
 acc:(FD c s).2.2=0->(FD c s).2.1=[]->(FD c.flat s).2.2=0->(FD c.flat s).2.1=[]
open Classical in
theorem aAk{c:Cx}(ah:nN (dD c.flat.ss c.flat.G c.flat.L c.flat.Z) c.flat.m c.flat.l=0):∀(g:Nat) (s:ByteArray),rk c.l s<g->(dQ c.l s).isSome=true->azX c s:=by
 intro g;induction g with
 | zero=>intro s h;omega
 | succ g ih=>
  intro s hg hs;obtain⟨i,K⟩:=sF.1 hs;obtain⟨x,Q,e0⟩:=iT K;subst e0;have ab:dQ c.flat.l x.name=some i:=(awi c.l x.name).trans K;have R:c.flat.l[i]?=some (flM c.ss c.m x):=by show(c.l.map<|flM c.ss c.m)[i]?=_;rw[pq,Q];rfl
  obtain⟨I,P⟩:=eY (QU ab R)<|QU K Q;by_cases M:yu c.l x.name x.name
  ·have E:yu c.flat.l (flM c.ss c.m x).name (flM c.ss c.m x).name:=azk.2 M;have a:FD c.flat x.name=([],[⟨8,⟨#[]⟩,x.name⟩],0):=by rw[I];unfold Oj;rw[aK E];rfl
   have d:FD c x.name=([],[⟨8,⟨#[]⟩,x.name⟩],0):=by rw[P];unfold Oj;rw[aK M]
   refine⟨aO (by rw[a]),by rw[a];exact awu bM,λ_ h=>?_,λ_ h=>?_⟩;·rw[a]at h;cases h
   ·rw[d]at h;cases h
  ·have E:¬yu c.flat.l (flM c.ss c.m x).name (flM c.ss c.m x).name:=λh=>M<|azk.1 h;have S:∀b∈x.imports,(dQ c.flat.l b).isSome=true->azX c b:=λb v k=>by
    have H:(dQ c.l b).isSome=true:=by rw[<-awi (ss:=c.ss) (m:=c.m) c.l b];exact k
    have al:=QN M ⟨i,x,K,Q,v,H⟩;exact ih b bC H
   obtain⟨b1,b2⟩:=ayi (l:=c.flat.l) (F:=FD c.flat) (r:=x.imports) (acc:=[]) (λb v k=>(S b v k).err) awe;have ae:(FD c x.name).2.2=0->(FD c x.name).2.1=[]->∀b∈x.imports,(dQ c.flat.l b).isSome=true->(FD c.flat b).2.2=0->(FD c.flat b).2.1=[]:=λe f b v k=>by
    rw[P]at e f;have H:(dQ c.l b).isSome=true:=by rw[<-awi (ss:=c.ss) (m:=c.m) c.l b];exact k
    obtain⟨U,V⟩:=(acj e f).2 b v H;exact(S b v k).acc U V
   by_cases w:(bl c.flat.l (FD c.flat) x.imports []).2≠0
   ·have a:FD c.flat x.name=([],[],(bl c.flat.l (FD c.flat) x.imports []).2):=by rw[I];unfold Oj;rw[aI E];show(if (bl c.flat.l (FD c.flat) x.imports []).2≠0 then _ else _)=_;rw[aK w];rfl
    refine⟨by rw[a];exact b1,by rw[a];exact awe,λh=>?_,λ_ _ h=>?_⟩;·rw[a]at h;exact aM h w
    ·rw[a]at h;exact aM h w
   ·have W:=Decidable.of_not_not w;by_cases z:bO.once (bl c.flat.l (FD c.flat) x.imports []).1≠[]
    ·have a:FD c.flat x.name=([],bO.once (bl c.flat.l (FD c.flat) x.imports []).1,0):=by rw[I];unfold Oj;rw[aI E];show(if (bl c.flat.l (FD c.flat) x.imports []).2≠0 then _ else if bO.once (bl c.flat.l (FD c.flat) x.imports []).1≠[]then _ else _)=_;rw[aI w,aK z];rfl
     refine⟨aO (by rw[a]),by rw[a];exact ax1 b2,λ_ h=>?_,λe f _=>?_⟩;·rw[a]at h;exact aM h z
     ·exfalso;have:=axH W<|ae e f;rw[this]at z;exact z rfl
    ·have af:=Classical.not_not.1 z;have a:FD c.flat x.name=Sm.ans [awc] 1 (λ_=>1) awz c.m (flM c.ss c.m x) (tN c.flat.l<|flM c.ss c.m x) (vE c.flat.l (FD c.flat)<|flM c.ss c.m x):=by rw[I];unfold Oj;rw[aI E];show(if (bl c.flat.l (FD c.flat) x.imports []).2≠0 then _ else if bO.once (bl c.flat.l (FD c.flat) x.imports []).1≠[]then _ else _)=_;rw[aI w,aI z];rfl
     obtain⟨f1,_,f3,f4⟩:=kK ah;have N:AO (dD [awc] 1 (λ_=>1) awz) c.m (flM c.ss c.m x) (tN c.flat.l<|flM c.ss c.m x)=0:=by have q1:dD [awc] 1 (λ_=>1) awz=0:=f1;have q2:oO c.m (flM c.ss c.m x)=0:=f3 _<|dG R;unfold AO;rw[aK q1,aK q2];exact KM λy B=>f3 y (List.mem_filter.1 B).1
     have ag:=(LM W<|Gs af).2;have ai:Fl.jw 1 (tN c.flat.l<|flM c.ss c.m x) (vE c.flat.l (FD c.flat)<|flM c.ss c.m x)=true:=by
      unfold vE;rw[ayJ,iB];intro y B;have ad:=(List.mem_filter.1 B).1;unfold sc1;cases ak:bO.ER (flM c.ss c.m x).imports y.name with
      | false=>exact aAc bM _
      | true =>rw[aK rfl];have aa:y.name∈x.imports:=QM.1 ak;have k:=EI ad;obtain⟨U,V⟩:=ag y.name aa k;obtain⟨j,D⟩:=List.mem_iff_getElem?.1 ad;exact(S y.name aa k).fit U V j y (Ak f4 D) D
     have ac:(D9 [awc] (flM c.ss c.m x) (tN c.flat.l<|flM c.ss c.m x) c.m).map (·.code)=(D9 c.ss x (tN c.l x) c.m).map (·.code):=by have:tN c.flat.l (flM c.ss c.m x)=(tN c.l x).map (flM c.ss c.m):=aAj x;rw[this];exact aAi
     by_cases n:bO.once (D9 [awc] (flM c.ss c.m x) (tN c.flat.l<|flM c.ss c.m x) c.m)=[]
     ·obtain⟨w1,w2⟩:=ax0 (ss:=[awc]) N n ai (flM c.ss c.m x).bq.length<|bG _;by_cases C:qI [awc] 1 (λ_=>1) awz c.m (flM c.ss c.m x) (tN c.flat.l<|flM c.ss c.m x) (vE c.flat.l (FD c.flat)<|flM c.ss c.m x) (flM c.ss c.m x).bq.length=0
      ·have d:FD c.flat x.name=((Sm.inf [awc] awz c.m (flM c.ss c.m x) (tN c.flat.l<|flM c.ss c.m x) (vE c.flat.l (FD c.flat)<|flM c.ss c.m x) (flM c.ss c.m x).bq.length).1,[],0):=by rw[a];unfold Sm.ans;rw[aI (by rw[N];simp),aI (by rw[n];simp),aI (by rw[C];simp),aI (by rw[axb];simp)]
       refine⟨aO (by rw[d]),by rw[d];exact awe,λ_ _ j y D B=>?_,λ_ _ _=>by rw[d]⟩;rw[ab]at D;cases D;rw[R]at B;cases B;have:=w2 C;rw[jQ]at this;rw[d];exact this
      ·have d:FD c.flat x.name=([],[],qI [awc] 1 (λ_=>1) awz c.m (flM c.ss c.m x) (tN c.flat.l<|flM c.ss c.m x) (vE c.flat.l (FD c.flat)<|flM c.ss c.m x) (flM c.ss c.m x).bq.length):=by rw[a];unfold Sm.ans;rw[aI (by rw[N];simp),aI (by rw[n];simp),aK C]
       refine⟨by rw[d];exact w1,by rw[d];exact awe,λh=>?_,λ_ _ h=>?_⟩;·rw[d]at h;exact aM h C
       ·rw[d]at h;exact aM h C
     ·have d:FD c.flat x.name=([],bO.once<|D9 [awc] (flM c.ss c.m x) (tN c.flat.l<|flM c.ss c.m x) c.m,0):=by rw[a];unfold Sm.ans;rw[aI (by rw[N];simp),aK n]
      refine⟨aO (by rw[d]),by rw[d];exact ax1<|azJ _ _ _ _,λ_ h=>?_,λe f _=>?_⟩;·rw[d]at h;exact aM h n
      ·exfalso;rw[P]at e f;have e5:=aje e f;rw[e5]at e f;have hn:=Gs (acn e f).1;rw[hn,jV,List.map_eq_nil_iff]at ac;exact n (by rw[ac];rfl)
theorem azP{c:Cx}{name:ByteArray}(e:nN (dD c.flat.ss c.flat.G c.flat.L c.flat.Z) c.flat.m c.flat.l=0)(b:(an c name).2.2=0):((an c.flat name).2.2=0\/(an c.flat name).2.2=2)/\no6 (an c.flat name).2.1/\((an c name).2.1=[]->(an c.flat name).2.2=0->(an c.flat name).2.1=[]):=by
 obtain⟨_,f,d⟩:=agL b;have j:(dQ c.flat.l name).isSome=true:=by show(dQ (c.l.map<|flM c.ss c.m) name).isSome=true;rw[awi];exact f
 have g:an c.flat name=FD c.flat name:=by unfold an;rw[aI (by rw[e];simp),aI (by rw[j];simp)]
 have a:=aAk e (rk c.l name+1) name bC f;rw[d]at b;rw[g,d];exact⟨a.err,a.six,λh=>a.acc b h⟩
end Ck
theorem ayj{w:bI}:∀{m:Nat} {d e j n:aC} {x:Ex},iH w m d e j n x->∀k,m<=k->jF k x=jF m x
 | 0,_,_,_,_,_,h,_,_=>iU h
 | m+1,d,e,j,n,x,h,0,v=>by omega
 | m+1,d,e,j,n,x,h,k+1,v=>by obtain⟨_,_,_,_,_,_,a,b,off,cap,_,_,_,r⟩:=h;unfold jF;rw[uU (f:=jF k) (g:=jF m) λi y B=>by obtain⟨C,D,E,F,_,_,_,_,z⟩:=r i y B;exact ayj z k bC]
theorem axI{w:bI}:∀{m:Nat} {v:aC} {l:List St},fH w m v l->∀k,m<=k->fA k l=fA m l
 | 0,_,_,h,_,_=>iU h
 | m+1,v,l,h,0,n=>by omega
 | m+1,v,l,h,k+1,n=>by obtain⟨a,b,off,cap,_,_,_,d⟩:=h;rw[Nk,Nk,uU (f:=stW k) (g:=stW m) λi s r=>by obtain⟨_,_,z,B,C,D,va,E,_,_,_,_,_,_,_,_,y,e,j⟩:=d i s r;unfold stW;rw[ayj y k bC,axI e k bC,axI j k bC]]
theorem azl{w:bI}{m k:Nat}{v:aC}{x:Mo}(h:jl w m v x)(d:m<=k):xH k x=xH m x:=by obtain⟨F,I,E,_,_,_,_,a,b,off,cap,_,_,_,e⟩:=h;unfold xH;rw[ahv,ahv,uU (f:=fuW k) (g:=fuW m) λi s j=>by obtain⟨_,H,D,y,z,B,C,_,_,_,_,_,_,_,_,n,r⟩:=e i s j;unfold fuW;rw[ayj r k d,axI n k d]]
namespace Ck
theorem awG(ss:aJ)(s:ByteArray):(flN ss s).size<=4:=by unfold flN;split<;>decide
theorem azm{ss:aJ}{m:Nat}(l:List Mo):∀j,cnt (l.map<|flM ss m) j=cnt l j
 | 0=>rfl
 | j+1=>by
  unfold cnt;rw[azm l j,pq,<-List.map_take];cases l[j]? with
  | none=>rfl
  | some x =>show cnt l j+(if (dQ ((l.take j).map (flM ss m)) x.name).isSome then 0 else 1)=_;rw[awi]
theorem ayN:dD [awc] 1 (λ_=>1) awz=0:=by decide +kernel
theorem azQ{c:Cx}{d:Int}(h:nN d c.m c.l=0)(j:∀x∈c.l,oO c.m (flM c.ss c.m x)=0):nN (dD c.flat.ss c.flat.G c.flat.L c.flat.Z) c.flat.m c.flat.l=0:=by
 obtain⟨_,n,_,g⟩:=kK h;have e:dD c.flat.ss c.flat.G c.flat.L c.flat.Z=0:=ayN;have a:c.flat.l=c.l.map (flM c.ss c.m):=rfl;have f:um c.flat.m c.flat.l=0:=KM λy b=>by rw[a]at b;obtain⟨x,k,rfl⟩:=iZ.1 b;exact j x k
 unfold nN;rw[e,aI cK,f,aI (by rw[a,dV];omega),aI cK,a,azm,dV,g,aI bC]
end Ck
namespace Ck
theorem azR:∀{m:Nat} {x:Ex},bS.jo m x=true->4<=jF m x
 | 0,_,h=>by simp[bS.jo]at h
 | m+1,x,_=>by unfold jF;omega
theorem azn{ss:aJ}:∀{m:Nat} {l:List St},bS.j6 m l=true->fA m (flB ss m [])=1/\fA m []=1
 | 0,_,h=>by simp[bS.j6]at h
 | m+1,_,_=>⟨rfl,rfl⟩
theorem axc{α:Type}{f g:α->Nat}:∀{l:List α},(∀x∈l,10*f x<=13*g x)->10*(l.map f).sum<=13*(l.map g).sum
 | [],_=>by simp
 | x::l,h=>by have b:=h x List.mem_cons_self;have d:=axc (l:=l) λy a=>h y<|l8 _ a;simp only[fZ,jI];omega
theorem azo{s:ByteArray}(h:bS.kR s=true):1<=s.size:=by unfold bS.kR bS.dZ at h;simp only[dK,iy]at h;exact h.1.1
theorem awM(ss:aJ):∀(m:Nat) (l:List St),bS.j6 m l=true->10*fA m (flB ss m l)<=13*fA m l
 | 0,_,h=>by simp[bS.j6]at h
 | m+1,l,h=>by
  rw[wL,iB]at h;rw[Nk,Nk];unfold flB;rw[List.map_map];have:=axc (l:=l) (f:=stW m ∘ λs:St=>(⟨s.kind,if s.kind=4 then flN ss s.name else s.name,s.e,flB ss m s.a,flB ss m s.b⟩:St)) (g:=stW m) λs v=>by
   have b:=h s v;unfold bS.Vz at b;simp only[dK]at b;obtain⟨⟨⟨a,w⟩,k⟩,y⟩:=b;obtain⟨z,B,C⟩:=lS (awM ss m s.a k) (awM ss m s.b y)<|azR w;show 10*((if s.kind=4 then flN ss s.name else s.name).size+3+jF m s.e+fA m (flB ss m s.a)+fA m (flB ss m s.b))<=13*(s.name.size+3+jF m s.e+fA m s.a+fA m s.b);by_cases d:s.kind=4
   ·rw[aK d];have D:=awG ss s.name;have e:1<=s.name.size/\s.a=[]/\s.b=[]:=by unfold stH at a;rw[aK (aQ d)]at a;simp only[dK,beq_iff_eq]at a;exact⟨azo (s:=s.name) a.1.1,qp.1 a.2,qp.1 a.1.2⟩
    obtain⟨e,n,r⟩:=e;have j:=azn (ss:=ss) k;rw[n,r,j.1,j.2];omega
   ·rw[aI d];omega
  omega
theorem azp{ss:aJ}{m:Nat}{x:Mo}(h:oO m x=0)(e:xH m x<=1048576):xH m (flM ss m x)<=1365000:=by
 have r:x.vars.length<=8:=by
  unfold oO at h;by_cases a:8<x.imports.length\/8<x.vars.length\/8<x.bq.length;·rw[aK a]at h;cases h
  ·omega
 have d:=akT h;have k:VE (x.vars.map<|flV ss)<=VE x.vars+32:=by
  have:∀l:List Va,((l.map<|flV ss).map λs:Va=>s.name.size+s.level.size+3).sum<=(l.map λs:Va=>s.name.size+s.level.size+3).sum+4*l.length:=by
   intro l;induction l with
   | nil=>simp
   | cons v l y=>
    have:=awG ss v.level;have j:(flV ss v).name.size+(flV ss v).level.size+3<=v.name.size+v.level.size+3+4:=by show v.name.size+(flN ss v.level).size+3<=_;omega
    simp only[fZ,jI,vN];omega
  have n:=this x.vars;unfold VE;omega
 have a:10*BK m (x.bq.map<|flF ss m)<=13*BK m x.bq:=by
  rw[ahv,ahv,List.map_map];have:=axc (l:=x.bq) (f:=fuW m ∘ flF ss m) (g:=fuW m) λf b=>by have:=awM ss m f.body (d f b).1;show 10*(f.name.size+2+nJ f.params+fA m (flB ss m f.body)+jF m f.result)<=13*(f.name.size+2+nJ f.params+fA m f.body+jF m f.result);omega
  omega
 have w:x.name.size+2+nJ x.imports+VE x.vars+BK m x.bq<=1048576:=e;show x.name.size+2+nJ x.imports+VE (x.vars.map<|flV ss)+BK m (x.bq.map<|flF ss m)<=1365000;omega
end Ck
namespace Rd
theorem ayk:prE (⟨#[]⟩:ByteArray)≠0:=by decide +kernel
theorem ayl{m:Nat}{x:Mo}(d:x.bq≠[]->m≠0)(h:prE (prT m x)=0):oO m x=0/\prX (prT m x)=x:=by
 unfold prT at h ⊢;by_cases a:oO m x=0
 ·rw[aK a]at h ⊢;refine⟨a,?_⟩;by_cases b:4096<(moT m x).size;·rw[ayc b]at h;cases h
  ·exact(ayb d a b).2
 ·rw[aI a]at h;exact aM h ayk
end Rd
namespace Ck
def flT(c:Cx)(x:Mo):aS:=prT c.m (flM c.ss c.m x)
theorem azS{c:Cx}{name:ByteArray}{d:Int}(f:nN d c.m c.l=0)(g:c.m≠0)(j:∀x∈c.l,prE (flT c x)=0):c.l.map (λx=>prX<|flT c x)=c.flat.l/\nN (dD c.flat.ss c.flat.G c.flat.L c.flat.Z) c.flat.m c.flat.l=0/\((an c name).2.2=0->((an c.flat name).2.2=0\/(an c.flat name).2.2=2)/\no6 (an c.flat name).2.1/\((an c name).2.1=[]->(an c.flat name).2.2=0->(an c.flat name).2.1=[])):=by have a:∀x∈c.l,oO c.m (flM c.ss c.m x)=0/\prX (flT c x)=flM c.ss c.m x:=λx a=>ayl (λ_=>g)<|j x a;have b:=azQ f λx h=>(a x h).1;exact⟨Na λx h=>(a x h).2,b,λe=>azP b e⟩
end Ck
