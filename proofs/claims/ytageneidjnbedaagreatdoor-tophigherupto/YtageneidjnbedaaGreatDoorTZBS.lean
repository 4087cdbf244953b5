import Derived.Test.YtageneidjnbedaaGreatDoorTZBR
set_option maxHeartbeats 0
set_option maxRecDepth 99999
namespace Go.Proofs.YtageneidjnbedaaGreatDoor
open Ck bS bO Sv
open Go.Proofs.Tryz
open Go.RowKit Go.Maps Go.WideMaps
namespace Ck
theorem aye{l l':List Mo}(g:l'.length=l.length)(h:∀(i:Nat) y d,l[i]?=some y->l'[i]?=some d->d.name=y.name)(s:aS):dQ l' s=dQ l s:=by rw[Zl,Zl,g];refine find_congr λi e=>?_;have f:=jE.1 e;obtain⟨a,b⟩:=eY (aZ f) (aZ<|show i<l'.length by omega);unfold iw;rw[a,b];simp only;rw[h i _ _ a b]
section
variable {x : Mo} {known known' : List Mo} {bL atg : List (List Sc)}
end
end Ck
namespace Ck
theorem zip_map{α β:Type}(g:α->β):∀l:List α,List.zip l (l.map g)=l.map λy=>(y,g y)
 | []=>rfl
 | y::l=>by rw[fZ,List.zip_cons_cons,zip_map g l,fZ]
theorem ayJ(N:Nat)(g:Mo->List Sc)(k:List Mo):Fl.jw N k (k.map g)=k.all λy=>Fl.vg N y.bq (g y):=by unfold Fl.jw;rw[zip_map,List.all_map,dV,gW rfl,nX];rfl
theorem aAc{N:Nat}(a:0<N)(l:List Fu):Fl.vg N l (l.map un)=true:=by
 unfold Fl.vg;rw[zip_map,List.all_map,dV,gW rfl,nX,iB];intro f _;have b:Fl.Iu N 0=true:=by simp[Fl.Iu,a]
 have d:Au N 0 0=true:=by simp[Au,a]
 show Fl.F4 N (f,un f)=true;simp[Fl.F4,un,Fl.scB,bO.ER,dU,b,d]
section
variable {l l' : List Mo} {nm : ByteArray}
end
end Ck
namespace Ck
def uni(ss:List ByteArray)(l:List Mo):List ByteArray:=(l.flatMap λx=>x.vars.flatMap λv=>[Fl.deed ⟨#[114,58]⟩ x.name v.name,Fl.deed ⟨#[119,58]⟩ x.name v.name])++ss.map λs=>(⟨#[112,58]⟩++s:ByteArray)
theorem wO{α β:Type}{f:α->List β}{k:Nat}:∀{l:List α},(∀x∈l,(f x).length<=k)->(l.flatMap f).length<=l.length*k
 | [],_=>by simp
 | x::l,h=>by have b:=wO (l:=l) λy a=>h y<|l8 _ a;have d:=h x List.mem_cons_self;rw[JO,bg,vN,rZ];omega
theorem QT{s:aS}(h:bS.dZ s.data.toList=true):s.size<=8:=by unfold bS.dZ at h;simp only[dK,iy]at h;exact h.1.2
theorem agO{m:Nat}{x:Mo}(h:oO m x=0):x.vars.length<=8/\x.name.size<=8/\∀v∈x.vars,v.name.size<=8:=by
 unfold oO at h;split at h;·cases h
 ·rename_i d;split at h;·cases h
  ·rename_i a;simp only[Bool.not_eq_false,dK,iB]at a;refine⟨by omega,QT a.1.1,λv b=>?_⟩;have:=a.2 v b;unfold Q6 at this;rw[dK]at this;exact QT this.1
theorem Ik{ss:aJ}{G:Nat}{L:Nat->Nat}{Z:aL}{m:Nat}{l:List Mo}(h:nN (dD ss G L Z) m l=0):Uk (uni ss l) ss l:=by
 obtain⟨u,D,j,_⟩:=kK h;have q:=qF u;have d:∀s∈ss,s.size<=8:=λs d=>by have g:=q.names;unfold mY at g;rw[dK,iB]at g;obtain⟨i,p,rfl⟩:=gU.1 d;have:=g.1 i<|jE.2 p;unfold yN at this;rw[dK]at this;have n:=this.2;rw[xK,aZ p]at n;exact QT n
 refine⟨λx b v e=>⟨?_,?_⟩,λs d=>bX.2<|aQ<|iZ.2 ⟨s,d,rfl⟩,?_,λt a=>?_⟩;·exact bX.2 (aO<|gZ.2 ⟨x,b,gZ.2 ⟨v,e,by simp⟩⟩)
 ·exact bX.2 (aO<|gZ.2 ⟨x,b,gZ.2 ⟨v,e,by simp⟩⟩)
 ·unfold uni;rw[bg,dV];obtain⟨E,I⟩:=eY (wO (l:=l) (f:=λx=>x.vars.flatMap λv=>[Fl.deed ⟨#[114,58]⟩ x.name v.name,Fl.deed ⟨#[119,58]⟩ x.name v.name]) (k:=16) (λx b=>by have F:=wO (l:=x.vars) (f:=λv:Va=>[Fl.deed ⟨#[114,58]⟩ x.name v.name,Fl.deed ⟨#[119,58]⟩ x.name v.name]) (k:=2) (λv _=>by simp);have H:=(agO<|j x b).1;omega)) q.six;omega
 ·have K:(100:Nat)<=maxLen:=by decide
  rcases bX.1 a with a|a;·obtain⟨x,b,a⟩:=gZ.1 a;obtain⟨v,e,a⟩:=gZ.1 a;obtain⟨_,y,z⟩:=agO<|j x b;have M:=z v e;simp only[fV,qZ,or_false]at a;rcases a with rfl|rfl<;>(unfold Fl.deed;simp only[ZP];have B:ByteArray.size ⟨#[46]⟩=1:=rfl;have r:ByteArray.size ⟨#[114,58]⟩=2:=rfl;have C:ByteArray.size ⟨#[119,58]⟩=2:=rfl;omega)
  ·obtain⟨s,w,rfl⟩:=iZ.1 a;have y:=d s w;rw[ZP];have r:ByteArray.size ⟨#[112,58]⟩=2:=rfl;omega
end Ck
namespace Ck
theorem LM{l:List Mo}{F:aS->Fi}:∀{r:aJ} {acc:List Dg},(bl l F r acc).2=0->(bl l F r acc).1=[]->acc=[]/\∀b∈r,(dQ l b).isSome=true->(F b).2.2=0/\(F b).2.1=[]
 | [],acc,_,e=>⟨e,λb a=>by cases a⟩
 | s::r,acc,d,e=>by
  unfold bl at d e;by_cases k:(dQ l s).isSome=false
  ·rw[aK k]at d e;obtain⟨f,h⟩:=LM d e;refine⟨f,λb a g=>?_⟩;rcases fV.1 a with rfl|a;·rw[k]at g;cases g
   ·exact h b a g
  ·rw[aI k]at d e;by_cases i:(F s).2.2≠0;·rw[aK i]at d;exact aM d i
   ·rw[aI i]at d e;obtain⟨f,h⟩:=LM d e;by_cases j:(F s).2.1≠[];·rw[aK j]at f;simp at f
    ·rw[aI j]at f;refine⟨f,λb a g=>?_⟩;rcases fV.1 a with rfl|a;·exact⟨Decidable.of_not_not i,Classical.not_not.1 j⟩
     ·exact h b a g
theorem Gs{l:List Dg}(h:bO.once l=[]):l=[]:=by
 cases l with
 | nil=>rfl
 | cons d l =>have:=(Dh (d::l) d).2 List.mem_cons_self;rw[h]at this;cases this
theorem acj{c:Cx}{F:aS->Fi}{x:Mo}(d:(Oj c F x).2.2=0)(a:(Oj c F x).2.1=[]):¬yu c.l x.name x.name/\∀b∈x.imports,(dQ c.l b).isSome=true->(F b).2.2=0/\(F b).2.1=[]:=by
 unfold Oj at d a;by_cases g:yu c.l x.name x.name;·rw[aK g]at a;cases a
 ·rw[aI g]at d a;by_cases e:(bl c.l F x.imports []).2≠0;·rw[aK e]at d;exact aM d e
  ·rw[aI e]at d a;by_cases f:bO.once (bl c.l F x.imports []).1≠[];·rw[aK f]at a;exact aM a f
   ·exact⟨g,(LM (Decidable.of_not_not e)<|Gs<|Classical.not_not.1 f).2⟩
theorem agL{c:Cx}{name:aS}(a:(an c name).2.2=0):nN (dD c.ss c.G c.L c.Z) c.m c.l=0/\(dQ c.l name).isSome=true/\an c name=FD c name:=by
 unfold an at a ⊢;by_cases b:nN (dD c.ss c.G c.L c.Z) c.m c.l≠0;·rw[aK b]at a;exact aM a b
 ·rw[aI b]at a ⊢;by_cases d:(dQ c.l name).isSome=false;·rw[aK d]at a;cases a
  ·rw[aI d];refine⟨Decidable.of_not_not b,?_,rfl⟩;cases e:(dQ c.l name).isSome with
   | true=>rfl
   | false=>exact aM e d
end Ck
namespace Ck
def awc:aS:=⟨#[111,110,101]⟩
def aAC:aS:=⟨#[110,111,110,101]⟩
def flN(ss:List aS)(s:aS):aS:=if 0<=dU ss s then awc else aAC
def flB(ss:List aS):Nat->List St->List St
 | 0,_=>[]
 | m+1,l=>l.map λs=>⟨s.kind,if s.kind=4 then flN ss s.name else s.name,s.e,flB ss m s.a,flB ss m s.b⟩
def flF(ss:List aS)(m:Nat)(f:Fu):Fu:=⟨f.name,f.params,flB ss m f.body,f.result⟩
def flV(ss:List aS)(v:Va):Va:=⟨v.name,flN ss v.level⟩
def flM(ss:List aS)(m:Nat)(x:Mo):Mo:=⟨x.name,x.imports,x.vars.map (flV ss),x.bq.map (flF ss m)⟩
theorem ayf{β:Type}{ss:aJ}{h k:St->List β}(d:∀s a b,h ⟨s.kind,if s.kind=4 then flN ss s.name else s.name,s.e,a,b⟩=k s):∀(m:Nat) (l:List St),(bO.all m<|flB ss m l).flatMap h=(bO.all m l).flatMap k
 | 0,_=>rfl
 | m+1,l=>by simp only[bO.all,flB,List.flatMap_map,List.flatMap_assoc,bO.within,lZ,JO,axN,gL,d,ayf d m]
theorem aze(ss:aJ)(s:ByteArray):(0<=dU [awc] (flN ss s))↔0<=dU ss s:=by
 rw[Fl.wD,dh];unfold flN;by_cases h:0<=dU ss s;·rw[aK h];exact⟨λ_=>h,λ_=>rfl⟩
 ·rw[aI h];exact⟨λe=>aM e bM,λe=>aM e h⟩
theorem azf(ss:aJ)(a s:ByteArray):(bO.nQ [awc] a<|flN ss s).map (·.code)=(bO.nQ ss a s).map (·.code):=by
 unfold bO.nQ;by_cases h:0<=dU ss s;·rw[aK (by simpa using(aze ss s).2 h),aK (by simpa using h)]
 ·rw[aI (by simpa using λb=>h<|(aze ss s).1 b),aI (by simpa using h)];rfl
section
variable {ss : List ByteArray} {m : Nat} {x : Mo} {known : List Mo}
theorem awi(l:List Mo)(s:ByteArray):dQ (l.map<|flM ss m) s=dQ l s:=by refine aye cK (λi y b h a=>?_) s;rw[pq,h]at a;cases a;rfl
theorem azF(l:List Fu)(s:ByteArray)(n:Nat):vP (l.map<|flF ss m) s n=vP l s n:=by unfold vP;refine find_congr λi _=>?_;rw[pq];cases l[i]?<;>rfl
theorem aAd(a:Int)(l:List Fu)(s:ByteArray)(n:Nat):bO.tV a (l.map<|flF ss m) s n=bO.tV a l s n:=by unfold bO.tV;rw[azF]
theorem azG(k:Nat)(b:ByteArray):fF (flM ss m x) k b (known.map<|flM ss m)=fF x k b known:=by
 unfold fF;have d:(flM ss m x).imports=x.imports:=rfl;have e:(flM ss m x).bq=x.bq.map (flF ss m):=rfl;have f:∀a:Nat,(((known.map<|flM ss m)[a]?.map (·.bq)).getD [])=((known[a]?.map (·.bq)).getD []).map (flF ss m):=λa=>by rw[pq];cases known[a]?<;>rfl
 simp only[d,e,f,awi,aAd,dV]
theorem azH(t:Int × Int × Bool):VQ (flM ss m x) (known.map<|flM ss m) t=(VQ x known t).map (flF ss m):=by
 unfold VQ;split;·exact pq ..
 ·rw[pq];cases known[t.1.toNat]? with
  | none=>rfl
  | some y=>exact pq ..
theorem azI(k:Nat)(a:ByteArray)(n:Nat):bO.code (flM ss m x) (known.map<|flM ss m) k a n=bO.code x known k a n:=by unfold bO.code;rw[azG,azH];cases VQ x known (fF x k a known)<;>rfl
theorem ayK(f:Fu):mZ m (flF ss m f)=mZ m f:=by unfold mZ;have:=ayf (ss:=ss) (h:=λs=>fK m s.e) (k:=λs=>fK m s.e) (λ_ _ _=>rfl) m f.body;show(bO.all m<|flB ss m f.body).flatMap _++_=_;rw[this];rfl
theorem aAe:clD (flM ss m x) (known.map<|flM ss m) m=clD x known m:=by
 unfold clD;have a:(flM ss m x).bq=x.bq.map (flF ss m):=rfl;have b:clE (flM ss m x) (known.map<|flM ss m)=clE x known:=by funext k fn y;unfold clE;rw[azI]
 rw[a,b,dV];congr 1;funext i;unfold atD;rw[pq];cases x.bq[i]? with
 | none=>rfl
 | some f =>show(mZ m<|flF ss m f).flatMap _=_;rw[ayK];rfl
theorem aAf:imD (flM ss m x) (known.map<|flM ss m)=imD x known:=by unfold imD;simp only[awi];rfl
theorem aAg:twD (flM ss m x)=twD x:=by
 unfold twD;have a:(flM ss m x).bq=x.bq.map (flF ss m):=rfl;have b:(flM ss m x).vars.map (·.name)=x.vars.map (·.name):=by show(x.vars.map<|flV ss).map (·.name)=_;rw[List.map_map];rfl
 have d:(x.bq.map<|flF ss m).map (·.name)=x.bq.map (·.name):=by rw[List.map_map];rfl
 rw[a,b,d,List.flatMap_map];rfl
theorem aAh:(lvD [awc] (flM ss m x) m).map (·.code)=(lvD ss x m).map (·.code):=by
 unfold lvD;have d:(flM ss m x).bq=x.bq.map (flF ss m):=rfl;have e:(flM ss m x).vars=x.vars.map (flV ss):=rfl;rw[d,e,gX,gX,List.map_flatMap,List.map_flatMap,List.map_flatMap,List.map_flatMap,List.flatMap_map,List.flatMap_map];have g:(λv:Va=>(bO.nQ [awc] ⟨#[]⟩ (flV ss v).level).map (·.code))=λv:Va=>(bO.nQ ss ⟨#[]⟩ v.level).map (·.code):=by funext v;exact azf ss _ v.level
 have i:(λf:Fu=>((bO.all m (flF ss m f).body).flatMap (Av [awc] (flF ss m f).name)).map (·.code))=λf:Fu=>((bO.all m f.body).flatMap (Av ss f.name)).map (·.code):=by
  funext f;rw[List.map_flatMap,List.map_flatMap];refine ayf (λs a b=>?_) m f.body;unfold Av;show List.map _ (if s.kind=4 then bO.nQ [awc] f.name (if s.kind=4 then flN ss s.name else s.name)else [])=_;by_cases h:s.kind=4;·rw[aK h,aK h,aK h];exact azf ss _ _
  ·rw[aI h,aI h]
 rw[g,i]
theorem aAi:(D9 [awc] (flM ss m x) (known.map<|flM ss m) m).map (·.code)=(D9 ss x known m).map (·.code):=by unfold D9;simp only[uE,DT,gL,gX,aAe,aAf,aAg,aAh]
end
def no6(l:List Dg):Prop:=∀d∈l,d.code≠6
theorem awu{c:Int}{b s:ByteArray}(h:c≠6):no6 [⟨c,b,s⟩]:=λd a=>by rw[dh]at a;subst a;exact h
theorem awe:no6 []:=λd a=>by cases a
theorem aw9{α:Type}{l:List α}{f:Nat->α->List Dg}(n:Nat)(h:∀i a,no6<|f i a):no6 (bO.upto (atD l f) n):=λd e=>by
 obtain⟨i,_,b⟩:=adx.1 e;unfold atD at b;split at b;·exact h _ _ d b
 ·cases b
theorem axa{p:Prop}[Decidable p]{a b:List Dg}(d:no6 a)(e:no6 b):no6 (if p then a else b):=by
 split;·exact d
 ·exact e
theorem azJ(ss:aJ)(x:Mo)(known:List Mo)(m:Nat):no6 (D9 ss x known m):=by
 have e:∀b l,no6 (GX b l):=λb l=>aw9 _ λi s=>axa (awu bM) awe;have g:∀b s,no6 (bO.nQ ss b s):=λb s=>axa awe<|awu bM;intro d a;unfold D9 at a;simp only[uE,DT,gL,bX]at a;rcases a with a|a|a|a;·exact aw9 _ (λi s=>axa (awu bM) awe) d a
 ·unfold twD at a;simp only[uE,DT,gL,bX,gZ]at a;rcases a with(a|a|a)|⟨f,_,a⟩;·exact e _ _ d a
  ·exact e _ _ d a
  ·exact e _ _ d a
  ·exact e _ _ d a
 ·unfold lvD at a;simp only[bX,gZ]at a;rcases a with⟨v,_,a⟩|⟨f,_,s,_,a⟩;·exact g _ _ d a
  ·exact axa (g _ _) awe d a
 ·refine aw9 _ (λi f d a=>?_) d a;obtain⟨y,_,a⟩:=gZ.1 a;refine axa awe (awu ?_) d a;unfold bO.code;split;·decide
  ·split;·split<;>decide
   ·decide
end Ck
namespace Sm
open Fl
section
variable {Z : Nat → Nat → Bool} {N : Nat}
theorem azg(j:bS.Joins Z N)(E:bS.Joins (bS.tr Z) N)(F:0<N){n:Nat}{cs:List Co}(C:∀c∈cs,Ms N n c=true):∃V,Bf Z N n cs V:=by
 have S:∀k V,Sv.left Z N n V<=k->yS N n V->(∀b,yS N n b->Sol Z cs b->OY Z n V b)->∃V,Bf Z N n cs V:=by
  intro k;induction k with
  | zero=>
   intro V H e r;by_cases d:Sol Z cs V;·exact⟨V,e,d,r⟩
   ·exfalso;refine d λc q=>?_;obtain⟨u,w,y⟩:=Dt<|C c q;have p:=(lU w).2.1;refine⟨?_,λf s=>?_⟩
    ·cases h:Sv.le Z c.lab (V c.to.toNat)with
     | true=>rfl
     | false =>have:=ahm j e p (wX y).1 h;omega
    ·cases h:Sv.le Z (V f.toNat) (V c.to.toNat)with
     | true=>rfl
     | false =>have:=ahm j e p (e _ (lU<|u f s).2.1) h;omega
  | succ k P=>
   intro V H e r;by_cases d:Sol Z cs V;·exact⟨V,e,d,r⟩
   ·have step:∀(i:Nat) (a:Nat × Nat),i<n->Sv.Ok N a->Sv.le Z a (V i)=false->(∀b,yS N n b->Sol Z cs b->Sv.le Z a (b i)=true)->∃V,Bf Z N n cs V:=λi a B z K I=>by have U:=ahm j e B z K;exact P (Sv.up Z N V i a) bC (KU j e B z) λb g d=>F7 j e g B z (r b g d)<|I b g d
    apply Classical.byContradiction;intro D;refine d λc q=>?_;obtain⟨u,w,y⟩:=Dt<|C c q;have p:=(lU w).2.1;refine⟨?_,λf s=>?_⟩
    ·cases h:Sv.le Z c.lab (V c.to.toNat)with
     | true=>rfl
     | false=>exact aM (step _ _ p (wX y).1 h λb _ d=>(d c q).1) D
    ·cases h:Sv.le Z (V f.toNat) (V c.to.toNat)with
     | true=>rfl
     | false =>have t:=(lU<|u f s).2.1;exact aM (step _ _ p (e _ t) h λb g d=>Sv.le_trans j (e _ t) (g _ t) (g _ p) (r b g d _ t)<|(d c q).2 f s) D
 obtain⟨Q,R⟩:=Db (Z:=Z) E F;refine S _ (λ_=>(0,xR Z N)) (bG _) (λv _=>⟨show(0:Nat)<16 by decide,Q⟩) λb g _ v M=>?_;unfold Sv.le Sv.sub;rw[R _ (g v M).2];simp
theorem ayL(b:bS.Joins Z N)(a:bS.Joins (bS.tr Z) N)(d:0<N){P:Pb}(e:Xx N P):yS N P.names.length (least Z N P.names.length P.cons):=(ayd<|azg b a d e.cons).ok
theorem azK(h:bS.Joins Z N)(g:bS.Joins (bS.tr Z) N)(k:0<N){P:Pb}(d:Xx N P)(f:Fu)(r:(⟨#[]⟩:ByteArray)∉P.gY):F4 N (f,eF Z N (least Z N P.names.length P.cons) P f)=true:=by
 have q:=ayL h g k d;have p:top Z N<N:=(Db (Z:=bS.tr Z) h k).1;have n:Sv.Ok N (tell Z N (least Z N P.names.length P.cons) P.fr<|lab P.mask P.level):=QE h q d.fr (wX d.lab).1;have t:pc Z N P.sinks<N:=QF (λb s e j=>RL g e j) d.sinks p;have nQ:∀a:Nat,a<N->Iu N (a:Int)=true:=λa v=>by unfold Iu;simp only[dK,iy];omega
 unfold F4 scB;simp only[dK,iy,iB,Bool.not_eq_true'];refine⟨QG _ _,λb e=>?_,⟨EB (by have:=n.1;omega) n.2,nQ _ t⟩,?_⟩;·obtain⟨i,_,rfl⟩:=iZ.1 e;exact nQ _<|QF (λb s e j=>alv g e j) d.sinks p
 ·cases u:bO.ER (eF Z N (least Z N P.names.length P.cons) P f).gY ⟨#[]⟩with
  | false=>rfl
  | true=>exact aM (QM.1 u) r
end
section
variable {c : Env}
theorem azL(d:UInt8)(r:List UInt8)(md n:ByteArray):(⟨#[]⟩:ByteArray)≠deed ⟨(d::r).toArray⟩ md n:=λh=>by have a:=congrArg (λs:ByteArray=>s.data.toList) h;unfold deed at a;simp[ByteArray.data_append]at a
theorem azh{d:UInt8}{r:List UInt8}{s:ByteArray}:(⟨#[]⟩:ByteArray)∉c.Q8 ⟨(d::r).toArray⟩ s:=λh=>by
 unfold Env.Q8 at h;split at h;·rw[dh]at h;exact azL d r _ _ h
 ·cases h
theorem ayg(b:∀s,(⟨#[]⟩:ByteArray)∉(c.eF s).gY):∀(m:Nat) (x:Ex),(⟨#[]⟩:ByteArray)∉c.AA m x
 | 0,_,a=>by simp[Env.AA]at a
 | m+1,x,a=>by
  simp only[Env.AA,bX,gZ]at a;rcases a with a|⟨y,_,a⟩
  ·split at a;·exact azh (d:=114) (r:=[58]) a
   ·split at a;·exact b _ a
    ·cases a
  ·exact ayg b m y a
theorem ayh(b:∀s,(⟨#[]⟩:ByteArray)∉(c.eF s).gY):∀(m:Nat) (l:List St),(⟨#[]⟩:ByteArray)∉c.Pz m l
 | 0,_,a=>by simp[Env.Pz]at a
 | m+1,l,a=>by
  simp only[Env.Pz,bX,gZ]at a;obtain⟨s,_,a⟩:=a;rcases a with((a|a)|a)|a;·exact ayg b m s.e a
  ·unfold Env.Py at a;split at a;·exact azh (d:=119) (r:=[58]) a
   ·split at a;·rw[dh]at a;have e:=congrArg (λs:ByteArray=>s.data.toList) a;simp[ByteArray.data_append]at e
    ·cases a
  ·exact ayh b m s.a a
  ·exact ayh b m s.b a
theorem azi{N:Nat}{a:List Fu}{ys:List Sc}(h:vg N a ys=true):∀y∈ys,(⟨#[]⟩:ByteArray)∉y.gY:=λy g f=>by
 unfold vg at h;simp only[dK,iy]at h;obtain⟨j,i,d⟩:=gU.1 g;have e:(a[j]'bC,y)∈List.zip a ys:=by refine gU.2 ⟨j,by rw[He];omega,?_⟩;rw[List.getElem_zip,d]
 have:=iB.1 h.2 _ e;unfold F4 scB at this;simp only[dK,Bool.not_eq_true']at this;have b:=this.2.2.2;rw[QM.2 f]at b;cases b
end
section
variable {ss : List ByteArray} {G : Nat} {L : Nat → Nat} {Z : Nat → Nat → Bool} {m : Nat} {x : Mo} {known : List Mo} {bL : List (List Sc)} {own : List Sc}
theorem azj{k:Nat}(e:∀l∈bL,∀y∈l,(⟨#[]⟩:ByteArray)∉y.gY)(d:∀y∈own,(⟨#[]⟩:ByteArray)∉y.gY)(s:ByteArray):(⟨#[]⟩:ByteArray)∉(qH x k known bL own s).gY:=by
 intro a;unfold qH at a;split at a;·simp[Gf]at a
 split at a
 ·rw[xK]at a;cases h:own[(fF x k s known).2.1.toNat]? with
  | none=>rw[h]at a;simp[Gf]at a
  | some y=>rw[h]at a;exact d y (dG h) a
 ·rw[xK,xK]at a;cases h:bL[(fF x k s known).1.toNat]? with
  | none=>rw[h]at a;simp[Gf]at a
  | some l=>
   rw[h]at a;simp only[gD]at a;cases b:l[(fF x k s known).2.1.toNat]? with
   | none=>rw[b]at a;simp[Gf]at a
   | some y=>rw[b]at a;exact e l (dG h) y (dG b) a
theorem azM{N:Nat}(h:jw N known bL=true):∀l∈bL,∀y∈l,(⟨#[]⟩:ByteArray)∉y.gY:=λl f=>by obtain⟨j,e,b⟩:=gU.1 f;have g:=iP (mF.1<|show(_&&_)=true from h).1;obtain⟨l',a,d⟩:=afs h (aZ<|show j<known.length by omega);rw[aZ e,b]at a;cases a;exact azi d
theorem ayM{N:Nat}{a:List Fu}{b:List Sc}{f:Fu}{y:Sc}(h:vg N a b=true)(d:F4 N (f,y)=true):vg N (a++[f]) (b++[y])=true:=by unfold vg at h ⊢;simp only[dK,iy]at h ⊢;refine⟨by simp[h.1],?_⟩;rw[List.zip_append h.1.symm,List.all_append,h.2];simp[d]
theorem ax0(g:AO (dD ss G L Z) m x known=0)(p:bO.once (D9 ss x known m)=[])(i:jw ss.length known bL=true):
 ∀k,k<=x.bq.length->(qI ss G L Z m x known bL k=0\/qI ss G L Z m x known bL k=2)/\(qI ss G L Z m x known bL k=0->vg ss.length (x.bq.take k) (inf ss Z m x known bL k).1=true)
 | 0,_=>⟨aO rfl,λ_=>rfl⟩
 | k+1,y=>by
  obtain⟨a,s⟩:=ax0 g p i k bC;obtain⟨e,f⟩:=eY (aZ<|show k<x.bq.length by omega) (qF (XO g).1);have n:=Jq f.order;rcases a with a|a
  ·have j:=s a;have v:QA ss G L Z m x k known bL (inf ss Z m x known bL k).1=0:=by unfold QA;rw[aI (by rw[g];simp),aI (by rw[p];simp),aI];simp only[vQ,i,j,reduceCtorEq,or_false];omega
   rw[Oe a];constructor
   ·unfold Vq;rw[aI (by rw[v];simp)];simp only[vQ,e];split;·exact aQ rfl
    ·exact aO rfl
   ·intro w;have t:=EH e w;rw[tL e,gy,e];refine ayM j<|azK (sD n f.joins) (sD n.turn f.meets) f.pos t.pb _ λu=>?_;have b:=QK.1 u;have q:=azj (x:=x) (known:=known) (k:=k) (azM i)<|azi j;unfold Env.gY at b;rcases bX.1 b with b|b;·exact ayh q _ _ b
    ·exact ayg q _ _ b
  ·have r:=Od (d:=1) (ss:=ss) (G:=G) (L:=L) (Z:=Z) (m:=m) (x:=x) (known:=known) (bL:=bL) (k:=k) (by rw[a];decide);rw[r,a];exact⟨aQ rfl,λh=>by cases h⟩
end
end Sm
