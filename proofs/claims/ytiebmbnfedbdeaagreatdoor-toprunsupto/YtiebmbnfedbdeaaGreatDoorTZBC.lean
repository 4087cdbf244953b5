import Derived.Test.YtiebmbnfedbdeaaGreatDoorTZAY
import Derived.Test.YtiebmbnfedbdeaaGreatDoorTZAZ
set_option maxHeartbeats 0
set_option maxRecDepth 99999
namespace Go.Proofs.YtiebmbnfedbdeaaGreatDoor
open bS bO Rn
open Go.Proofs.Tryz
open Go.RowKit
namespace bS
def Iw:List UInt8->Int
 | []=>0
 | b::l=>step b+Iw l
def pk:List UInt8->Int
 | []=>0
 | b::l=>max 0 (step b+pk l)
def Cq(t:ByteArray):Nat:=(pk t.data.toList).toNat
def I6(t:ByteArray):Prop:=Iw t.data.toList=0
end bS
variable{l:List Mo}{s x y mod fn:aS}{m j i b Bv k fuel a:Nat}{f:Fu}{w w' w5 w7 wx wy:bI}{v v5 vl:aC}{nm:List (aS × aS)}{ob:Obj}{z:aS × aS}
theorem Ag:∀l,0<=bS.pk l
 | []=>Int.le_refl _
 | b::l=>by simp only[bS.pk];omega
theorem El:∀a b,Iw (a++b)=Iw a+Iw b
 | [],b=>by simp[Iw]
 | c::a,b=>by simp only[List.cons_append,Iw,El a b];omega
theorem P7:∀a b,bS.pk (a++b)=max (bS.pk a) (Iw a+bS.pk b)
 | [],b=>by have:=Ag b;simp only[sP,bS.pk,Iw];omega
 | c::a,b=>by simp only[List.cons_append,bS.pk,Iw,P7 a b];omega
theorem Zc:∀{l:List UInt8},(∀b∈l,bS.step b=0)->bS.pk l=0/\Iw l=0
 | [],_=>⟨rfl,rfl⟩
 | b::l,d=>by obtain⟨e,g⟩:=Zc (l:=l) (λc n=>d c<|by simp[n]);have h:=d b cK;simp only[bS.pk,Iw,e,g,h];exact⟨by omega,by omega⟩
theorem P8(t:aS):(Cq t:Int)=bS.pk t.data.toList:=by have:=Ag t.data.toList;unfold Cq;omega
theorem WQ:bS.step 32=0:=by decide
theorem Zd:∀{l:aJ},(∀t∈l,I6 t)->bS.pk (Lib.joinTail [32] (l.map (·.data.toList)))=(jh Cq l:Nat)/\Iw (Lib.joinTail [32] (l.map (·.data.toList)))=0
 | [],_=>⟨rfl,rfl⟩
 | t::l,h=>by obtain⟨h1,h2⟩:=Zd (l:=l) (λc hc=>h c (by simp[hc]));have h3:Iw t.data.toList=0:=h t cK;obtain⟨h4,h5⟩:=eY (P8 t) (Ag t.data.toList);rw[fZ,tail_cons,dF];simp only[bS.pk,Iw,P7,El,h1,h2,h3,WQ];exact⟨by omega,by omega⟩
theorem ah1{l:aJ}(h:∀t∈l,I6 t):bS.pk (Lib.join (l.map (·.data.toList)) [32])=(jh Cq l:Nat)/\Iw (Lib.join (l.map (·.data.toList)) [32])=0:=by
 cases l with
 | nil=>exact⟨rfl,rfl⟩
 | cons t l =>obtain⟨h1,h2⟩:=Zd (l:=l) (λc hc=>h c (by simp[hc]));have h3:Iw t.data.toList=0:=h t cK;have h4:=P8 t;rw[fZ,Lib.join_cons,P7,El,h1,h2,h3,dF];exact⟨by omega,by omega⟩
theorem NR:bS.step 40=1:=by decide
theorem step_shut:bS.step 41=-1:=by decide
theorem lX{l:aJ}(h:∀t∈l,I6 t):Cq (bS.brk l)=1+jh Cq l/\I6 (bS.brk l):=by obtain⟨h1,h2⟩:=ah1 h;have h3:=P8 (bS.brk l);rw[jk]at h3;simp only[bS.pk,P7,h1,h2,NR,step_shut]at h3;refine⟨by omega,?_⟩;unfold I6;rw[jk];simp only[Iw,El,h2,NR,step_shut];omega
theorem iq{t:aS}(c:∀b∈t.data.toList,bS.step b=0):Cq t=0/\I6 t:=by obtain⟨d,e⟩:=Zc c;exact⟨by unfold Cq;rw[d];rfl,e⟩
theorem P9:∀(l:List UInt8) (c:Int),0<=c->(c<bS.pk l↔∃j,j<l.length/\c<Iw (l.take<|j+1))
 | [],c,n=>⟨λg=>by simp only[bS.pk]at g;omega,λ⟨j,d,_⟩=>aM d<|fU _⟩
 | b::l,c,n=>by
  have o:=Ag l;constructor
  ·intro g;simp only[bS.pk]at g;by_cases h:0<=c - bS.step b;·obtain⟨j,d,e⟩:=(P9 l (c - bS.step b) h).1 bC;exact⟨j+1,by simpa using d,by rw[List.take_succ_cons];simp only[Iw];omega⟩
   ·exact⟨0,by simp,by simp only[List.take_succ_cons,JG,Iw];omega⟩
  ·rintro⟨j,d,e⟩;rw[List.take_succ_cons]at e;simp only[Iw]at e;simp only[bS.pk];cases j with
   | zero=>simp only[JG,Iw]at e;omega
   | succ j=>
    by_cases h:0<=c - bS.step b;·have:=(P9 l (c - bS.step b) h).2 ⟨j,by simpa using d,by omega⟩;omega
    ·omega
theorem Cr(t:aS):∀j,j<=t.size->y9 t j=Iw (t.data.toList.take j)
 | 0,_=>rfl
 | j+1,d=>by
  have c:j<t.data.toList.length:=by rw[iG];omega
  rw[ZSG t j bC,Cr t j bC,uW c,El];simp only[Iw];have:t[j]=t.data.toList[j]:=rfl;rw[this];omega
theorem aa6(t:aS):DX t=decide (20<Cq t):=by
 have g:=P8 t;by_cases d:20<Cq t;·rw[gW d];obtain⟨j,e,c⟩:=(P9 t.data.toList 20 bC).1 bC;rw[iG]at e;exact aed e (by rw[Cr t (j+1) bC];exact c)
 ·rw[iD d];refine aaR (λj e c=>d ?_);rw[Cr t (j+1) bC]at c;have:=(P9 t.data.toList 20 bC).2 ⟨j,by rw[iG];omega,c⟩;omega
theorem Tz{c:UInt8}(h:iY c=true):bS.step c=0:=by unfold iY at h;simp only[dK,iy]at h;unfold bS.step;rw[aI (by rintro rfl;exact aM h.1 bM),aI (by rintro rfl;exact aM h.1 bM)]
theorem j4{l:List UInt8}(c:dZ l=true):∀b∈l,bS.step b=0:=by unfold dZ at c;simp only[dK]at c;exact λb d=>Tz<|iB.1 c.2 b d
theorem ah2(d:opB s=true):∀b∈s.data.toList,bS.step b=0:=by
 by_cases e:s.size=1
 ·obtain⟨c,rfl⟩:=one_byte e;have:∀c:Fin 256,opB ⟨#[UInt8.ofFin c]⟩=true->bS.step (UInt8.ofFin c)=0:=by decide +kernel
  intro b g;simp at g;subst g;exact this b.toFin d
 ·rw[OC e]at d;cases d
theorem step_dot:bS.step 46=0:=by decide
theorem aa7(e:yB s=true):∀b∈s.data.toList,bS.step b=0:=by
 unfold yB at e;simp only[dK,GK,Bool.not_eq_true']at e;cases g:lI s with
 | none =>have d:=e.1;unfold bS.preS at d;rw[g]at d;exact j4 d
 | some i=>
  have d:=e.1;have c:dZ (uR s).data.toList=true:=by
   rcases e.2 with c|c;·rw[g]at c;cases c
   ·exact c
  unfold bS.preS at d;unfold uR at c;rw[g]at d c;obtain⟨t,n⟩:=bS.find_spec g;intro b q;obtain⟨k,h,rfl⟩:=gU.1 q;have u:k<s.size:=by rw[iG]at h;exact h
  have o:(s.extract 0 i).data.toList=s.data.toList.take i:=by simp[ByteArray.data_extract]
  have p:(s.extract (i+1) s.size).data.toList=s.data.toList.drop (i+1):=by simp[ByteArray.data_extract];exact fQ (by rw[Bo,iG];omega)
  simp only[o]at d;simp only[p]at c;rcases Nat.lt_trichotomy k i with B|rfl|r;·exact j4 d _<|gU.2 ⟨k,by rw[iA];omega,by rw[List.getElem_take]⟩
  ·have:s.data.toList[k]=46:=by have:=n;simp only[beq_iff_eq]at this;rw[List.getD,aZ h]at this;exact this
   rw[this];exact step_dot
  ·exact j4 c _<|gU.2 ⟨k - (i+1),by rw[Bo];omega,by rw[List.getElem_drop];congr 1;omega⟩
theorem KL:∀d:Fin 10,bS.step (UInt8.ofNat<|48+d.val)=0:=by decide
theorem aeF:∀(u:Nat),∀b∈Lib.decDigits u,bS.step b=0:=by
 intro u;induction u using Nat.strongRecOn with
 | ind u ih=>
  intro b hb;rw[Lib.decDigits]at hb;split at hb;·rename_i h;rw[dh]at hb;subst hb;exact KL ⟨u,h⟩
  ·rename_i h;rcases bX.1 hb with hb|hb;·exact ih (u / 10) bC b hb
   ·rw[dh]at hb;subst hb;exact KL ⟨u % 10,by omega⟩
theorem aeG{n:Int}(e:0<=n):∀b∈(⟨(Lib.itoa n).toArray⟩:aS).data.toList,bS.step b=0:=by
 intro b d;have c:b∈Lib.itoa n:=by simpa using d
 unfold Lib.itoa at c;rw[aI bC]at c;exact aeF _ b c
theorem zG{α β:Type}{f:β->Nat}{g:α->β}(l:List α):jh f (l.map g)=jh (λy=>f<|g y) l:=by
 induction l with
 | nil=>rfl
 | cons y l c=>rw[fZ,dF,dF,c]
theorem Ct{α:Type}{f g:α->Nat}{l:List α}(c:∀y∈l,f y=g y):jh f l=jh g l:=by
 induction l with
 | nil=>rfl
 | cons y l e=>rw[dF,dF,c y cK,e (λz d=>c z<|by simp[d])]
theorem aa8{α:Type}{f:α->Nat}{l:List α}(c:∀y∈l,f y=0):jh f l=0:=by have:=IY (f:=f) (B:=0) (l:=l) (λy d=>by rw[c y d];omega);omega
theorem tC{α:Type}{f:α->Nat}:jh f []=0:=rfl
theorem Qc:∀(m:Nat) (x:Ex),jo m x=true->Cq (zT m x)=yw m x/\I6 (zT m x)
 | 0,x,n=>by simp[jo]at n
 | m+1,x,n=>by
  rw[GY,dK]at n;obtain⟨c,G⟩:=n;have F:∀y∈x.args,Cq (zT m y)=yw m y/\I6 (zT m y):=λy h=>Qc m y<|iB.1 G y h;unfold BQ at c;by_cases e:x.kind=1;·rw[aK e]at c;simp only[dK,iy]at c;have:=iq<|aeG c.1.1.1;simp only[zT,yw];rw[aK e,aK<|aO e];exact this
  rw[aI e]at c;by_cases g:x.kind=2;·rw[aK g]at c;simp only[dK]at c;have:=iq<|j4 c.1.1;simp only[zT,yw];rw[aI e,aK g,aK<|aQ g];exact this
  rw[aI g]at c;have C:yw (m+1) x=1+jh (yw m) x.args:=by simp only[yw];rw[aI bC]
  have E:zT (m+1) x=x.args.foldl (Fq<|zT m) (Fv x)++(⟨#[41]⟩:aS):=by simp only[zT];rw[aI e,aI g]
  have D:jh Cq (x.args.map<|zT m)=jh (yw m) x.args:=by rw[zG];exact Ct (λy h=>(F y h).1)
  have B:∀t∈x.args.map (zT m),I6 t:=λt d=>by obtain⟨y,h,rfl⟩:=iZ.1 d;exact(F y h).2
  by_cases u:x.kind=3
  ·rw[aK u]at c;simp only[dK]at c;obtain⟨f1,o⟩:=iq<|ah2 c.1.1;rw[E,<-ahC x (zT m) bC,C];obtain⟨p,q⟩:=lX (l:=x.name::x.args.map (zT m)) (λt d=>by
    rcases fV.1 d with rfl|d;·exact o
    ·exact B t d)
   refine⟨?_,q⟩;rw[p,dF,f1,D];omega
  rw[aI u]at c;by_cases r:x.kind=4
  ·rw[aK r]at c;simp only[dK]at c;obtain⟨f1,o⟩:=iq<|aa7 c.1.1;obtain⟨H,I⟩:Cq ⟨#[99,97,108,108]⟩=0/\I6 ⟨#[99,97,108,108]⟩:=iq bM;rw[E,<-aaO x (zT m) r,C];obtain⟨p,q⟩:=lX (l:=⟨#[99,97,108,108]⟩::x.name::x.args.map (zT m)) (λt d=>by
    rcases fV.1 d with rfl|d;·exact I
    ·rcases fV.1 d with rfl|d;·exact o
     ·exact B t d)
   refine⟨?_,q⟩;rw[p,dF,dF,H,f1,D];omega
  rw[aI r]at c;cases c
theorem Qd:∀(m:Nat) (l:List St),j6 m l=true->jh Cq (Me m l)=L6 m l/\∀t∈Me m l,I6 t
 | 0,l,o=>by simp[j6]at o
 | m+1,l,o=>by
  rw[wL]at o;have G:∀s∈l,Cq (stX m s)=Sj m s/\I6 (stX m s):=λs n=>by
   have r:=iB.1 o s n;unfold Vz at r;simp only[dK]at r;obtain⟨⟨⟨d,U⟩,R⟩,S⟩:=r;obtain⟨q,x2⟩:=Qc m s.e U;obtain⟨E,I⟩:=Qd m s.a R;obtain⟨K,L⟩:=Qd m s.b S;obtain⟨F,V⟩:=lX I;obtain⟨N,W⟩:=lX L;unfold stH at d;by_cases B:s.kind=1\/s.kind=4
   ·rw[aK B]at d;simp only[dK]at d;obtain⟨H,Z⟩:=iq<|j4 d.1.1;have h:Sj m s=1+yw m s.e:=by unfold Sj;rw[aI bC]
    rw[h];rcases B with u|u;·rw[<-aee m s u];obtain⟨w1,D⟩:Cq ⟨#[115,101,116]⟩=0/\I6 ⟨#[115,101,116]⟩:=iq bM;obtain⟨e,g⟩:=lX (l:=[⟨#[115,101,116]⟩,s.name,zT m s.e]) (by intro t c;simp only[fV,qZ,or_false]at c;rcases c with rfl|rfl|rfl<;>assumption);refine⟨?_,g⟩;rw[e,dF,dF,dF,tC,w1,H,q];omega
    ·rw[<-Wq m s u];obtain⟨w1,D⟩:Cq ⟨#[112,114,105,110,116]⟩=0/\I6 ⟨#[112,114,105,110,116]⟩:=iq bM;obtain⟨e,g⟩:=lX (l:=[⟨#[112,114,105,110,116]⟩,s.name,zT m s.e]) (by intro t c;simp only[fV,qZ,or_false]at c;rcases c with rfl|rfl|rfl<;>assumption);refine⟨?_,g⟩;rw[e,dF,dF,dF,tC,w1,H,q];omega
   rw[aI B]at d;by_cases C:s.kind=2
   ·have h:Sj m s=1+max (max (yw m s.e)<|1+L6 m s.a) (1+L6 m s.b):=by unfold Sj;rw[aK (aO C)]
    rw[h,<-ahF m s C];obtain⟨w1,D⟩:Cq ⟨#[105,102]⟩=0/\I6 ⟨#[105,102]⟩:=iq bM;obtain⟨e,g⟩:=lX (l:=[⟨#[105,102]⟩,zT m s.e,bS.brk<|Me m s.a,bS.brk<|Me m s.b]) (by intro t c;simp only[fV,qZ,or_false]at c;rcases c with rfl|rfl|rfl|rfl<;>assumption);refine⟨?_,g⟩;rw[e,dF,dF,dF,dF,tC,w1,q,F,N,E,K];omega
   rw[aI C]at d;by_cases p:s.kind=3
   ·rw[aK p]at d;simp only[dK,beq_iff_eq]at d;have P:s.b=[]:=qp.1 d.2;have Q:L6 m s.b=0:=by rw[P];cases m<;>rfl
    have h:Sj m s=1+max (max (yw m s.e)<|1+L6 m s.a) (1+L6 m s.b):=by unfold Sj;rw[aK (aQ p)]
    rw[h,<-Ws m s p];obtain⟨w1,D⟩:Cq ⟨#[119,104,105,108,101]⟩=0/\I6 ⟨#[119,104,105,108,101]⟩:=iq bM;obtain⟨e,g⟩:=lX (l:=[⟨#[119,104,105,108,101]⟩,zT m s.e,bS.brk<|Me m s.a]) (by intro t c;simp only[fV,qZ,or_false]at c;rcases c with rfl|rfl|rfl<;>assumption);refine⟨?_,g⟩;rw[e,dF,dF,dF,tC,w1,q,F,E,Q];omega
   rw[aI p]at d;cases d
  simp only[Me];rw[JW,zG];refine⟨Ct (λs n=>(G s n).1),λt c=>?_⟩;obtain⟨s,n,rfl⟩:=iZ.1 c;exact(G s n).2
theorem Ze(e:Wp m f=true):Cq (fuX m f)=YK m f/\I6 (fuX m f):=by
 unfold Wp at e;simp only[dK]at e;obtain⟨⟨⟨C,u⟩,E⟩,D⟩:=e;obtain⟨F,G⟩:=iq<|j4 C;obtain⟨n,o⟩:=Qd m f.body u;obtain⟨K,L⟩:=Qc m f.result E;have g:∀p∈f.params,Cq p=0/\I6 p:=λp c=>iq<|j4<|iB.1 D p c;obtain⟨h,H⟩:=lX (l:=f.params) (λp c=>(g p c).2);rw[aa8 (λp c=>(g p c).1)]at h;obtain⟨w1,I⟩:Cq ⟨#[102,117,110]⟩=0/\I6 ⟨#[102,117,110]⟩:=iq bM;have B:[[(⟨#[102,117,110]⟩:aS),f.name,bS.brk f.params],Me m f.body,[zT m f.result]].flatten=⟨#[102,117,110]⟩::f.name::bS.brk f.params::(Me m f.body++[zT m f.result]):=by simp
 unfold fuX;rw[B];obtain⟨q,r⟩:=lX (l:=⟨#[102,117,110]⟩::f.name::bS.brk f.params::(Me m f.body++[zT m f.result])) (by
  intro t d;simp only[fV,bX,qZ,or_false]at d;rcases d with rfl|rfl|rfl|d|rfl;·exact I
  ·exact G
  ·exact H
  ·exact o t d
  ·exact L)
 refine⟨?_,r⟩;rw[q,dF,dF,dF,qC,dF,tC,w1,F,h,n,K];unfold YK;omega
theorem ah4{x:Mo}(D:x.bq≠[]->m≠0)(E:kR x.name=true)(C:x.imports.all kR=true)(F:x.vars.all Q6=true)(q:∀f∈x.bq,Wp m f=true):DX (moT m x)=decide (20<moD m x):=by
 rw[aa6,<-akH D];obtain⟨H,I⟩:=iq<|j4 E;have o:∀y∈x.imports,Cq (FY y)=1/\I6 (FY y):=λy c=>by obtain⟨f1,u⟩:=iq<|j4<|iB.1 C y c;obtain⟨w1,n⟩:Cq ⟨#[105,109,112,111,114,116]⟩=0/\I6 ⟨#[105,109,112,111,114,116]⟩:=iq bM;obtain⟨e,h⟩:=lX (l:=[⟨#[105,109,112,111,114,116]⟩,y]) (by intro t d;simp only[fV,qZ,or_false]at d;rcases d with rfl|rfl<;>assumption);refine⟨?_,h⟩;unfold FY;rw[e,dF,dF,tC,w1,f1];omega
 have p:∀y∈x.vars,Cq (vaX y)=1/\I6 (vaX y):=λy c=>by have g:=iB.1 F y c;unfold Q6 at g;simp only[dK]at g;obtain⟨f1,u⟩:=iq<|j4 g.1;obtain⟨r,K⟩:=iq<|j4 g.2;obtain⟨w1,n⟩:Cq ⟨#[118,97,114]⟩=0/\I6 ⟨#[118,97,114]⟩:=iq bM;obtain⟨e,h⟩:=lX (l:=[⟨#[118,97,114]⟩,y.name,y.level]) (by intro t d;simp only[fV,qZ,or_false]at d;rcases d with rfl|rfl|rfl<;>assumption);refine⟨?_,h⟩;unfold vaX;rw[e,dF,dF,dF,tC,w1,f1,r];omega
 obtain⟨w1,n⟩:Cq ⟨#[109,111,100,117,108,101]⟩=0/\I6 ⟨#[109,111,100,117,108,101]⟩:=iq bM;have B:[[(⟨#[109,111,100,117,108,101]⟩:aS),x.name],x.imports.map FY,x.vars.map vaX,x.bq.map<|fuX m].flatten=⟨#[109,111,100,117,108,101]⟩::x.name::(x.imports.map FY++(x.vars.map vaX++x.bq.map (fuX m))):=by simp
 unfold moX;rw[B];obtain⟨e,_⟩:=lX (l:=⟨#[109,111,100,117,108,101]⟩::x.name::(x.imports.map FY++(x.vars.map vaX++x.bq.map (fuX m)))) (by
  intro t d;simp only[fV,bX,iZ]at d;rcases d with rfl|rfl|⟨y,c,rfl⟩|⟨y,c,rfl⟩|⟨y,c,rfl⟩;·exact n
  ·exact I
  ·exact(o y c).2
  ·exact(p y c).2
  ·exact(Ze<|q y c).2)
 have m1:jh Cq (x.imports.map FY)<=1:=by rw[zG];exact IY (λy c=>by rw[(o y c).1];omega)
 have L:jh Cq (x.vars.map vaX)<=1:=by rw[zG];exact IY (λy c=>by rw[(p y c).1];omega)
 have G:jh Cq (x.bq.map<|fuX m)=jh (YK m) x.bq:=by rw[zG];exact Ct (λy c=>(Ze<|q y c).1)
 rw[e,dF,dF,qC,qC,w1,H,G];unfold moD;exact decide_eq_decide.2 bC
namespace bS
end bS
theorem aeE(m:Nat)(w:bI)(V U G H I K:aC)(f:Fu)(L:VZ w m V U G H I K f):aD 70 #[.agg #[A f.name,V,U,G,H,I,K]] w λu w'=>u=dz (O<|Q7 m f)/\bK w w':=by
 have D:=Y L;obtain⟨aa,Q,R,S⟩:=L;obtain⟨g,n,rfl,rfl,rfl,rfl⟩:=S.shape;obtain⟨d,o,rfl,ab⟩:=R.shape;obtain⟨e,h,rfl,ac⟩:=Q.shape;clear S R Q;have q:J (Q7 m f=if 4<f.params.length then 2 else if (dZ f.name.data.toList&&j6 m f.body&&jo m f.result&&f.params.all λs=>dZ s.data.toList)then 0 else 5):=rfl;generalize f.result.args.length=le at *;generalize f.body.length=p at *;generalize f.params.length=c at *;have r:=Y<|aH w<|aY #[A f.name,X e c h,X d p o,O f.result.kind,O f.result.n,A f.result.name,X g le n] 102;obtain⟨q0,q1,q2,q3,q4,q5,B⟩:=Ng (akn w (A f.name) (X e c h) (X d p o) (O f.result.kind) (O f.result.n) (A f.result.name) (X g le n) 102) (ako w (A f.name) (X e c h) (X d p o) (O f.result.kind) (O f.result.n) (A f.result.name) (X g le n) 102) (Qk w (A f.name) (X e c h) (X d p o) (O f.result.kind) (O f.result.n) (A f.result.name) (X g le n) 102) (JQ w (A f.name) (X e c h) (X d p o) (O f.result.kind) (O f.result.n) (A f.result.name) (X g le n) 102) (YJ w (A f.name) (X e c h) (X d p o) (O f.result.kind) (O f.result.n) (A f.result.name) (X g le n) 102) (Mj w (A f.name) (X e c h) (X d p o) (O f.result.kind) (O f.result.n) (A f.result.name) (X g le n) 102)<|UR w (A f.name) (X e c h) (X d p o) (O f.result.kind) (O f.result.n) (A f.result.name) (X g le n) 102;by_cases N:4<c;·rw[aK N]at q;clear q0 q1 q2 q3 q4 q5 B;go_enter func70,ntmps70;go_wp2;go_ret;exact⟨bZ q.symm,r⟩
 rw[aI N]at q;go_enter func70,ntmps70;go_wp2_with fail;refine(kE _ f.name aa).mono ?_;rintro u w1 ⟨rfl,E⟩;subst E;generalize (w.alloc<|aY #[A f.name,X e c h,X d p o,O f.result.kind,O f.result.n,A f.result.name,X g le n] 102)=W0 at *;generalize dZ f.name.data.toList=W at *;cases W;·go_wp2;go_ret;exact⟨bZ (by rw[q];rfl),r⟩
 go_wp2_with fail;refine(Dk _ _ f.params (D.below r).2.1).mono ?_;rintro u w1 ⟨rfl,E⟩;subst E;generalize (f.params.all λs=>dZ s.data.toList)=Z at *;cases Z;·go_wp2;go_ret;exact⟨bZ (by rw[q,Sg];rfl),r⟩
 go_wp2_with fail;refine(aln m _ _ f.body (D.below r).2.2.1).mono ?_;rintro u w1 ⟨rfl,t⟩;replace q3:=aG q3 t;replace q4:=aG q4 t;replace q5:=aG q5 t;replace B:=aG B t;have C:=Y<|up r t;clear t q0 q1 q2;generalize j6 m f.body=b3 at *;cases b3;·go_wp2;go_ret;exact⟨bZ (by rw[q];rfl),C⟩
 go_wp2_with fail;refine(JV m _ _ _ _ _ f.result (D.below C).2.2.2).mono ?_;rintro u w2 ⟨rfl,P⟩;have F:=Y<|up C P;clear P q3 q4 q5 B;generalize jo m f.result=b4 at *;cases b4;·go_wp2;go_ret;exact⟨bZ (by rw[q];rfl),F⟩
 ·go_wp2;go_ret;exact⟨bZ (by rw[q];rfl),F⟩
theorem WR(h:Q7 m f=0):Wp m f=true:=by
 unfold Q7 at h;split at h;·cases h
 ·split at h;·assumption
  ·cases h
theorem uP:∀{l:List Fu},uZ m l=0->∀f∈l,Q7 m f=0
 | [],_,f,d=>by cases d
 | g::l,c,f,d=>by
  simp only[uZ]at c;by_cases hg:Q7 m g=0
  ·rw[aK hg]at c;rcases fV.1 d with rfl|d;·exact hg
   ·exact uP c f d
  ·rw[aI hg]at c;exact aM c hg
theorem aa9{l:List Fu}(c:mE w m v l):l≠[]->m≠0:=by rintro g rfl;obtain⟨a,b,off,cap,_,_,_,d⟩:=c;obtain⟨f,e⟩:∃f,l[0]?=some f:=⟨_,aZ<|vO.2 g⟩;obtain⟨_,t,r,n,o,p,q,_,_,_,_,_,_,_,_,h,_⟩:=d 0 f e;exact h
theorem tF(m:Nat)(w:bI)(v:aC)(x:Mo)(V:jl w m v x)(hw:xH m x<=1048576)(_ht:Tab w):aD 33 #[v] w λh w'=>h=dz (O<|oO m x)/\bK w w':=by
 have Q:=Y (λW (F:J (bK w W))=>agT m W v x (V.below F) hw);obtain⟨vi,vv,vf,rfl,az,hI,hV,hF⟩:=V;have aq:=aa9 hF
 have ag:J (kR x.name=true->x.imports.all kR=true->x.vars.all Q6=true->uZ m x.bq=0->DX (moT m x)=decide (20<moD m x)):=
  λh1 h2 h3 h4=>ah4 aq h1 h2 h3 (λf hf=>WR<|uP h4 f hf)
 have e:J (oO m x=if 8<x.imports.length\/8<x.vars.length\/8<x.bq.length then 2 else if ((kR x.name&&x.imports.all kR)&&x.vars.all Q6)=false then 5
  else if uZ m x.bq≠0 then uZ m x.bq else if DX (moT m x)then 2 else 0):=rfl
 have au:=Y (λW (F:J (bK w W))=>Dk W vi x.imports<|hI.below F);have aw:=Y (λW (F:J (bK w W))=>akx W vv x.vars<|hV.below F);obtain⟨r,ci,rfl,a6⟩:=hI.shape;obtain⟨t,u,rfl,a7⟩:∃a c,vv=X a x.vars.length c/\x.vars.length<=9223372036854775807:=by obtain⟨a,_,_,c,h,_,S,_⟩:=hV;exact⟨a,c,h,S⟩
 obtain⟨a,b,off,cap,rfl,ha,hl,ao⟩:=hF;obtain⟨j5,P⟩:=bV ao ha;clear hI hV ao ha aq hw;obtain⟨l,ab⟩:=aV x.bq;rw[<-ab]at j5 P hl e ag Q ⊢;clear ab;obtain⟨len,ac⟩:=aV l.length;have HL:=Y ac;rw[<-ac]at hl P e Q ⊢;clear ac;generalize x.imports.length=li at *;generalize x.vars.length=lv at *;have o:=Y<|aH w<|aY #[A x.name,X r li ci,X t lv u,X a len cap] 59;obtain⟨q0,q1,q2,q3⟩:=rY (am6 w (A x.name) (X r li ci) (X t lv u) (X a len cap) 59) (am7 w (A x.name) (X r li ci) (X t lv u) (X a len cap) 59) (am8 w (A x.name) (X r li ci) (X t lv u) (X a len cap) 59)<|am9 w (A x.name) (X r li ci) (X t lv u) (X a len cap) 59;by_cases C:8<li\/8<lv\/8<len
 ·rw[aK C]at e;clear q0 q1 q2 q3;by_cases b1:8<li;·clear C;go_enter func33,ntmps33;go_wp2;go_ret;exact⟨bZ e.symm,o⟩
  ·by_cases b2:8<lv;·clear C;go_enter func33,ntmps33;go_wp2;go_ret;exact⟨bZ e.symm,o⟩
   ·have b3:8<len:=by omega
    clear C;go_enter func33,ntmps33;go_wp2;go_ret;exact⟨bZ e.symm,o⟩
 rw[aI C]at e;have b1:¬8<li:=by omega
 have b2:¬8<lv:=by omega
 have b3:¬8<len:=by omega
 clear C;go_enter func33,ntmps33;go_wp2_with fail;refine(kE _ x.name az).mono ?_;rintro h w1 ⟨rfl,af⟩;subst af;generalize (w.alloc<|aY #[A x.name,X r li ci,X t lv u,X a len cap] 59)=W0 at *;cases hn:dZ x.name.data.toList;·have q:J (kR x.name=false):=hn;go_wp2;go_ret;exact⟨bZ (by rw[e,q];rfl),o⟩
 have q:J (kR x.name=true):=hn;go_wp2_with fail;refine(au _ o).mono ?_;rintro h w1 ⟨rfl,af⟩;subst af;cases hi:(x.imports.all λs=>dZ s.data.toList);·have HI:J (x.imports.all kR=false):=hi;go_wp2;go_ret;exact⟨bZ (by rw[e,q,HI];rfl),o⟩
 have HI:J (x.imports.all kR=true):=hi;go_wp2_with fail;refine(aw _ o).mono ?_;rintro h W1 ⟨rfl,B⟩;replace q0:=aG q0 B;replace q1:=aG q1 B;replace q2:=aG q2 B;replace q3:=aG q3 B;have G:=Y<|up o B;clear B hn hi;cases hv:(x.vars.all λs=>dZ s.name.data.toList&&dZ s.level.data.toList);·have K:J (x.vars.all Q6=false):=hv;go_wp2;go_ret;exact⟨bZ (by rw[e,q,HI,K];rfl),G⟩
 have K:J (x.vars.all Q6=true):=hv;have ah:J (oO m x=if uZ m l≠0 then uZ m l else if DX (moT m x)then 2 else 0):=Y (by rw[e,q,HI,K];rfl);clear hv;go_wp2;go_loopw[41] (λi wr=>∃j:Nat,j<=len/\i=O j/\(∀d z,d<j->l[d]?=some z->Q7 m z=0)/\bK W1 wr) (λi _=>len - (intOf i).toNat);exact⟨0,bN _,rfl,λd z p=>aM p<|fU _,bQ _ _⟩
 obtain⟨j,hj,rfl,ak,n⟩:=hrel;have U:=Y ak;clear ak;by_cases ay:j<len
 ·obtain⟨y,hy⟩:∃y,l[j]?=some y:=⟨_,aZ (by rw[<-HL];exact ay)⟩;obtain⟨k1,vp,vb,e0,e1,S,e3,g0,g1,g2,g3,g4,g5,g6,hp,ad,hx⟩:=j5 j y hy;have HY:=Y hy;obtain rfl:=P bC;have g:=up G n;obtain⟨u0,u1⟩:=eY (aG g0 g)<|aG g1 g;have aA:=aG g2 g;have YH:=aG g3 g;obtain⟨u4,u5,u6⟩:=lS (aG g4 g) (aG g5 g)<|aG g6 g;have ar:J (VZ wr m vp vb e0 e1 S e3 y):=Y ⟨k1,hp.below g,ad.below g,hx.below g⟩;obtain⟨ae,ce,rfl,rfl,rfl,rfl⟩:=hx.shape;obtain⟨a1,kP,rfl,a4⟩:=ad.shape;obtain⟨a2,a0,rfl,a5⟩:=hp.shape;have L:=Y n;clear g0 g1 g2 g3 g4 g5 g6 hx ad hp hy n g q0 q1 q2 q3;go_wp2_with fail;refine(aeE m _ _ _ _ _ _ _ y<|ar.below<|aH _ _).mono ?_;rintro h w5 ⟨rfl,al⟩;have CW:=Y<|up L<|Z7 al;clear al;obtain⟨E,Z⟩:=aV<|Q7 m y;have I:=Y Z;rw[<-Z];clear Z;by_cases N:E=0
  ·subst N;go_wp2;go_roundw;exact⟨j+1,by omega,by go_num,λd z p D=>by
    by_cases h:d=j;·subst h;rw[HY]at D;cases D;exact I.symm
    ·exact U d z bC D,CW⟩
   exact gV
  ·have a3:=eO N;have H0:=Y N;clear N;go_wp2;go_ret;exact⟨bZ (by rw[ah,YV U HY (by rw[<-I];exact H0),aK (by rw[<-I];exact H0)];exact I),up G CW⟩
 ·have aa:uZ m l=0:=NG (λd z D=>U d z (by have:=(cO.1 D).1;have:=HL.out;omega) D);have HD:=Y<|ag q HI K aa;have H:J (oO m x=if 20<moD m x then 2 else 0):=Y (by rw[ah,aa,HD];simp);obtain⟨u0,u1⟩:=eY (aG q0 n)<|aG q1 n;have aA:=aG q2 n;have YH:=aG q3 n;have L:=Y<|up G n;clear n q0 q1 q2 q3 aa;go_wp2_with fail;refine(Q _ L).mono ?_;rintro h w6 ⟨rfl,am⟩;have fD:=Y<|up L am;clear am;generalize moD m x=R at *;by_cases p:20<R
  ·rw[aK p]at H;have ax:(R:Int) > 20:=by omega
   clear p;go_wp2;go_ret;exact⟨bZ H.symm,fD⟩
  ·rw[aI p]at H;have ax:¬((R:Int) > 20):=by omega
   clear p;go_wp2;go_ret;exact⟨bZ H.symm,fD⟩
theorem akT{x:Mo}(c:oO m x=0):∀f∈x.bq,j6 m f.body=true/\jo m f.result=true:=by
 have g:uZ m x.bq=0:=by
  unfold oO at c;split at c;·cases c
  ·split at c;·cases c
   ·split at c;·rename_i e;exact aM c e
    ·rename_i e;exact Classical.byContradiction e
 intro f h;have d:=WR<|uP g f h;unfold Wp at d;simp only[dK]at d;exact⟨d.1.1.2,d.1.2⟩
namespace bO
def um(m:Nat):List Mo->Int
 | []=>0
 | x::r=>if oO m x=0 then um m r else oO m x
def AO(c:Int)(m:Nat)(x:Mo)(known:List Mo):Int:=if c=0 then (if oO m x=0 then um m known else oO m x)else c
theorem KM(c:∀x∈l,oO m x=0):um m l=0:=by
 induction l with
 | nil=>rfl
 | cons x r e =>unfold um;rw[aK (c x cK),e (λy d=>c y<|by simp[d])]
theorem Cu{x:Mo}(c:l[j]?=some x)(d:∀(q:Nat) y,q<j->l[q]?=some y->oO m y=0)(e:oO m x≠0):um m l=oO m x:=by
 induction l generalizing j with
 | nil=>simp at c
 | cons y r h=>
  cases j with
  | zero=>simp at c;subst c;unfold um;rw[aI e]
  | succ j =>unfold um;rw[aK (d 0 y bC cK),h (j:=j) (by simpa using c) (λq z n g=>d (q+1) z bC<|by simpa using g)]
end bO
open Go.Maps
theorem abb(w:bI)(B:Nat)(s nm:aS)(c d e g h n:aC)(p:bJ w B 0=some (A s)):aD 45 #[.agg #[A nm,c,d,e,g,h,n],gK B] w λr w'=>r=dz (.bool<|cB nm s)/\bK w w':=by have q0:=Zv w (A nm) c d e g h n 102;have o:=Y<|aH w<|aY #[A nm,c,d,e,g,h,n] 102;have t:=aG p o;have q:J (cB nm s=(nm.toList==s.toList)):=rfl;clear p;go_enter func45,ntmps45;go_wp2;go_ret;exact⟨aW q.symm,o⟩
theorem abd(m:Nat)(w:bI)(a:Option Addr)(b off cap n:Nat)(l:List Fu)(s:aS)(B:Nat)(hn:n<=l.length)(ab:l.length<=9223372036854775807)(S:0<n->a=some (aN b off))(W:H9 w m b off l)(Q:bJ w B 0=some (A s)):aD 44 #[X a n cap,.func (.func 45) #[] #[gK B]] w λe w'=>e=dz (O<|oI<|vP l s n)/\bK w w':=by
 obtain⟨j5,HA,HB⟩:=fE W S Q;obtain⟨R,E⟩:=aV<|oI<|vP l s n;have L:=Y E;rw[<-E];clear W S Q E;go_enter func44,ntmps44;go_wp2_with fail;go_loopw[5,8] (λ_ i wr=>∃j:Nat,j<=n/\i=O j/\(∀d g,d<j->l[d]?=some g->cB g.name s=false)/\bK w wr) (λ_ i _=>n - (intOf i).toNat);exact⟨0,bN _,rfl,λd g F=>aM F<|fU _,bQ _ _⟩
 obtain⟨j,hj,rfl,U,c⟩:=hrel;obtain⟨h,P⟩:=bV U c;clear U;by_cases aa:j<n
 ·obtain⟨f,G⟩:∃f,l[j]?=some f:=⟨_,aZ bC⟩;obtain⟨-,vp,vb,e0,e1,e2,e3,o,p,r,t,u,C,D,-⟩:=j5 j f G;obtain rfl:=HA bC;have I:=Y G;replace o:=aG o c;replace p:=aG p c;replace r:=aG r c;replace t:=aG t c;replace u:=aG u c;replace C:=aG C c;replace D:=aG D c;have H:=Y<|abb wr B s f.name vp vb e0 e1 e2 e3<|aG HB c;clear G c;generalize Z:cB f.name s=q at H;have K:=Y Z;clear Z;go_wp2_with fail;refine H.mono ?_;rintro e w5 ⟨rfl,V⟩;have N:=Y<|up P V;clear V o p r t u C D;cases q
  ·go_wp2;go_roundw;exact⟨j+1,by omega,by go_num,λd g F hg=>by
    by_cases e:d=j;·subst e;rw[I]at hg;cases hg;exact K
    ·exact h d g bC hg,N⟩
   exact gV
  ·go_wp2;go_ret;exact⟨by rw[L,Jp aa I K h];rfl,N⟩
 ·go_wp2;go_ret;exact⟨by rw[L,M0 λd g F hg=>h d g bC hg];rfl,P⟩
theorem aeH(w:bI)(B:Nat)(s nm:aS)(c d e:aC)(h:bJ w B 0=some (A s)):aD 95 #[.agg #[A nm,c,d,e],gK B] w λo w'=>o=dz (.bool<|cB nm s)/\bK w w':=by have q0:=GD w (A nm) c d e 59;have g:=Y<|aH w<|aY #[A nm,c,d,e] 59;have p:=aG h g;have n:J (cB nm s=(nm.toList==s.toList)):=rfl;clear h;go_enter func95,ntmps95;go_wp2;go_ret;exact⟨aW n.symm,g⟩
theorem abe(m:Nat)(w:bI)(v:aC)(l:List Mo)(s:aS)(B:Nat)(h:jN w m v l)(P:bJ w B 0=some (A s)):aD 94 #[v,.func (.func 95) #[] #[gK B]] w λe w'=>e=dz (O<|oI<|dQ l s)/\bK w w':=by
 obtain⟨a,b,off,cap,rfl,C,aa,V⟩:=h;have j5:=Y V;obtain⟨n,E⟩:=aV l.length;have H:=Y E;rw[<-E]at C aa ⊢;obtain⟨Z,HB⟩:=bV C P;obtain⟨R,u⟩:=aV<|oI<|dQ l s;have K:=Y u;rw[<-u];clear V C P u E;go_enter func94,ntmps94;go_wp2_with fail;go_loopw[5,8] (λ_ i wr=>∃j:Nat,j<=n/\i=O j/\(∀d g,d<j->l[d]?=some g->cB g.name s=false)/\bK w wr) (λ_ i _=>n - (intOf i).toNat);exact⟨0,bN _,rfl,λd g U=>aM U<|fU _,bQ _ _⟩
 obtain⟨j,hj,rfl,Q,c⟩:=hrel;obtain⟨eP,N⟩:=bV Q c;clear Q;by_cases ab:j<n
 ·obtain⟨f,D⟩:∃f,l[j]?=some f:=⟨_,aZ (by have:=H.out;omega)⟩;obtain⟨vi,vv,vf,o,p,r,t,-⟩:=j5 j f D;obtain rfl:=Z bC;have G:=Y D;replace o:=aG o c;replace p:=aG p c;replace r:=aG r c;replace t:=aG t c;have F:=Y<|aeH wr B s f.name vi vv vf<|aG HB c;clear D c;generalize W:cB f.name s=q at F;have I:=Y W;clear W;go_wp2_with fail;refine F.mono ?_;rintro e w5 ⟨rfl,S⟩;have L:=Y<|up N S;clear S o p r t;cases q
  ·go_wp2;go_roundw;exact⟨j+1,by omega,by go_num,λd g U hg=>by
    by_cases e:d=j;·subst e;rw[G]at hg;cases hg;exact I
    ·exact eP d g bC hg,L⟩
   exact gV
  ·go_wp2;go_ret;exact⟨by rw[K,Rm G I eP];rfl,L⟩
 ·go_wp2;go_ret;exact⟨by rw[K,M4 λd g hg=>eP d g (by have:=(cO.1 hg).1;have:=H.out;omega) hg];rfl,N⟩
theorem Em(m:Nat)(w:bI)(v:aC)(l:List Mo)(s:aS)(e:jN w m v l):aD 43 #[v,A s] w λd w'=>d=dz (O<|oI<|dQ l s)/\bK w w':=by have c:=Y<|aH w<|aY #[A s] 9;have n:=Y<|abe m _ v l s w.heap.size (e.below c)<|Pj w (A s) 9;clear e;go_enter func43,ntmps43;go_wp2_with fail;refine n.mono ?_;rintro d w1 ⟨rfl,g⟩;have h:=Y<|up c g;clear g;go_wp2;go_ret;exact⟨rfl,h⟩
namespace Rn
def tV(l:List Mo)(mod fn:ByteArray):Option (Nat × Nat):=(dQ l mod).bind λa=>(vP ((l[a]?.map (·.bq)).getD []) fn ((l[a]?.map (·.bq)).getD []).length).map λk=>(a,k)
end Rn
def Rn.F6(m:Nat)(l:List Mo):Int:=if um m l=0 then (if 6<l.length then 2 else 0)else um m l
theorem ajz(m:Nat)(w:bI)(v:aC)(l:List Mo)(h:jN w m v l)(ad:∀y∈l,xH m y<=1048576)(ht:Tab w):aD 21 #[v] w λr w'=>r=dz (O<|F6 m l)/\bK w w':=by
 obtain⟨a,b,off,cap,rfl,L,ag,ac⟩:=h;have j5:=Y ac;obtain⟨n,N⟩:=aV l.length;have B:=Y N;rw[<-N]at L ag ⊢;obtain⟨HA,Zf,HT⟩:=fE L ad ht;obtain⟨R,K⟩:=aV<|F6 m l;have Q:=Y K;rw[<-K];clear ac L K N ad ht;go_enter func21,ntmps21;go_wp2_with fail;go_loopw[8] (λi wr=>∃j:Nat,j<=n/\i=O j/\(∀(d:Nat) (g:Mo),d<j->l[d]?=some g->oO m g=0)/\bK w wr) (λi _=>n - (intOf i).toNat);exact⟨0,bN _,rfl,λd g hd=>aM hd<|fU _,bQ _ _⟩
 obtain⟨j,hj,rfl,aa,c⟩:=hrel;obtain⟨C,fT⟩:=bV aa c;clear aa;by_cases ak:j<n
 ·obtain⟨y,hy⟩:∃f,l[j]?=some f:=⟨_,aZ (by have:=B.out;omega)⟩;obtain⟨vi,vv,vf,D,E,F,G,p⟩:=j5 j y hy;obtain rfl:=HA bC;obtain⟨S,ae⟩:=bV hy p;replace D:=aG D c;replace E:=aG E c;replace F:=aG F c;replace G:=aG G c;obtain⟨V,bi,oi,ci,rfl,-⟩:=p.split.1;obtain⟨W,bv,ov,cv,rfl,-⟩:=p.split.2.1;obtain⟨U,bf,of,Z,rfl,-⟩:=p.split.2.2;generalize y.imports.length=ni at *;generalize y.vars.length=nv at *;generalize y.bq.length=nf at *;have u:=Y<|up c<|aH wr<|aY #[A y.name,X V ni ci,X W nv cv,X U nf Z] 59;have P:=Y<|tF m (wr.alloc<|aY #[A y.name,X V ni ci,X W nv cv,X U nf Z] 59) _ y (ae.below u) (Zf y<|dG hy)<|HT.below u;obtain⟨t,I⟩:=aV<|oO m y;have q:=Y I;rw[<-I]at P;clear hy p c I;go_wp2_with fail;refine P.mono ?_;rintro r w5 ⟨rfl,ab⟩;have eD:=Y<|up u ab;clear ab D E F G;by_cases o:t=0
  ·subst o;go_wp2;go_roundw;exact⟨j+1,by omega,by go_num,λd g hd hg=>by
    by_cases r:d=j;·subst r;rw[S]at hg;cases hg;exact q.symm
    ·exact C d g bC hg,eD⟩
   exact gV
  ·have ah:(t==0)=false:=by simp[o]
   have e:J (R=t):=Y (by have H:=Cu S C (by rw[<-q];exact o);rw[Q,F6,H,aI (by rw[<-q];exact o),q]);clear o;go_wp2;go_ret;exact⟨by rw[e];rfl,eD⟩
 ·have e:J (R=if 6<n then 2 else 0):=Y (by
   have H:um m l=0:=KM λy hy=>by obtain⟨i,hi,rfl⟩:=gU.1 hy;exact C i _ (by rw[<-B]at hi;omega) (aZ hi)
   rw[Q,F6,H,aK rfl,B])
  by_cases h6:6<n;·rw[aK h6]at e;go_wp2;go_ret;exact⟨by rw[e];rfl,fT⟩
  ·rw[aI h6]at e;go_wp2;go_ret;exact⟨by rw[e];rfl,fT⟩
theorem aeI(m:Nat)(w:bI)(v:aC)(l:List Mo)(mod fn:aS)(d:jN w m v l):aD 22 #[v,A mod,A fn] w λc w'=>∃a k:Int,c=dz (.tuple #[O a,O k,.bool (Rn.tV l mod fn).isSome])/\J ((∀t C,Rn.tV l mod fn=some (t,C)->a=t/\k=C)/\bK w w'):=by
 have HM:=Y d;obtain⟨a,b,off,cap,rfl,W,ag,aa⟩:=d;obtain⟨j5,Q,F,eT⟩:=lD aa W (aH w<|aY #[A fn] 9)<|Pj w (A fn) 9;have r:=Y<|Em m _ _ l mod<|HM.below F;obtain⟨R,N⟩:=aV<|Rn.tV l mod fn;have S:=Y N;rw[<-N];obtain⟨n,P⟩:=aV l.length;have HN:=Y P;rw[<-P]at r Q ag ⊢;clear N aa W P;cases h:dQ l mod with
 | none =>have e:J (R=none):=Y (by rw[S,Rn.tV,h];rfl);rw[h]at r;have H:J (aD 43 #[X a n cap,A mod] (w.alloc<|aY #[A fn] 9) λc w'=>c=dz (O<|-1)/\Below (w.alloc<|aY #[A fn] 9).heap.size (w.alloc<|aY #[A fn] 9) w'):=r;clear h;go_enter func22,ntmps22;go_wp2_with fail;refine H.out.mono ?_;rintro c w1 ⟨rfl,q⟩;have o:=Y<|up F q;clear q;go_wp2;go_ret3;exact⟨0,0,by rw[e];rfl,Y ⟨(λt C d=>by rw[e]at d;cases d),o⟩⟩
 | some i=>
  obtain⟨y,E,-⟩:=bO.rJ h;have ah:i<n:=by rw[HN];exact(cO.1 E).1
  obtain rfl:=Q bC;obtain⟨vi,vv,vf,-,-,-,g,ac⟩:=j5 i y E;obtain⟨K,V,of,L,rfl,U,ab,Z⟩:=ac.split.2.2;have Az:J (H9 w m V of y.bq):=Z;have QY:=Y U;have e:J (R=(vP y.bq fn y.bq.length).map λk=>(i,k)):=Y (by rw[S,Rn.tV,h];simp[E]);rw[h]at r;have H:J (aD 43 #[X (some<|aN b off) n cap,A mod] (w.alloc<|aY #[A fn] 9) λc w'=>c=dz (O (i:Int))/\Below (w.alloc<|aY #[A fn] 9).heap.size (w.alloc<|aY #[A fn] 9) w'):=r;obtain⟨ae,ad⟩:=bV ab g;clear h ac Z U E ab g;go_enter func22,ntmps22;go_wp2_with fail;refine H.out.mono ?_;rintro c w1 ⟨rfl,q⟩;obtain⟨o,zH⟩:=bV (up F q)<|aG eT q;clear q;have p:=Y<|abd m w1 K V of L y.bq.length y.bq fn w.heap.size (bG _) ae QY (Az.below o) zH;have g:=aG ad o;cases D:vP y.bq fn y.bq.length with
  | none =>rw[D]at p e;obtain⟨nf,B⟩:=aV y.bq.length;rw[<-B]at p g;have I:J (aD 44 #[X K nf L,.func (.func 45) #[] #[gK w.heap.size]] w1 λc w'=>c=dz (O<|-1)/\bK w1 w'):=p;clear D B;go_wp2_with fail;refine I.mono ?_;rintro c w2 ⟨rfl,u⟩;have G:=Y<|up o u;clear u g;go_wp2;go_ret3;exact⟨(i:Int),-1,by rw[e];rfl,Y ⟨(λt C d=>by rw[e]at d;cases d),G⟩⟩
  | some k =>rw[D]at p e;obtain⟨nf,B⟩:=aV y.bq.length;rw[<-B]at p g;have I:J (aD 44 #[X K nf L,.func (.func 45) #[] #[gK w.heap.size]] w1 λc w'=>c=dz (O (k:Int))/\bK w1 w'):=p;clear D B;go_wp2_with fail;refine I.mono ?_;rintro c w2 ⟨rfl,u⟩;have G:=Y<|up o u;clear u g;go_wp2;go_ret3;exact⟨(i:Int),(k:Int),by rw[e];rfl,Y ⟨λt C d=>by rw[e]at d;simp at d;exact⟨by omega,by omega⟩,G⟩⟩
namespace Rn
def isC(x y:ByteArray)(c:Ce):Bool:=cB c.mod x&&cB c.name y
def rP(l:List Ce)(x y:ByteArray):Option Nat:=(List.range l.length).find? λi=>match l[i]? with|some c=>isC x y c|none=>false
theorem aeJ{l:List Ce}{c:Ce}(e:l[i]?=some c)(h:isC x y c=true)(n:∀d g,d<i->l[d]?=some g->isC x y g=false):rP l x y=some i:=by
 refine mD (cO.1 e).1 (λd o=>?_) (by simp only[e];exact h);cases hg:l[d]? with
 | none=>rfl
 | some g=>exact n d g o hg
theorem abg{l:List Ce}(c:∀(d:Nat) (g:Ce),l[d]?=some g->isC x y g=false):rP l x y=none:=by
 refine jW (λd e=>?_);cases hg:l[d]? with
 | none=>rfl
 | some g=>exact c d g hg
def X4(l:List Ce)(x y:ByteArray):Int:=((rP l x y).bind λi=>l[i]?.map (·.val)).getD 0
end Rn
theorem anu(w:bI)(c c1 d:aC)(t:TypeId):(w.alloc<|.cells #[c,c1,d] t).cell? (aN w.heap.size 0)=some c/\(w.alloc<|.cells #[c,c1,d] t).cell? (aN w.heap.size 1)=some c1:=by simp[go_sem]
theorem aeK(w:bI)(B:Nat)(x y:aS)(c:Ce)(h:bJ w B 0=some (A x))(n:bJ w B 1=some (A y)):aD 97 #[.agg #[A c.mod,A c.name,O c.val],gK B] w λo w'=>o=dz (.bool<|isC x y c)/\bK w w':=by
 obtain⟨q0,q1⟩:=anu w (A c.mod) (A c.name) (O c.val) 50;have d:=Y<|aH w<|aY #[A c.mod,A c.name,O c.val] 50;obtain⟨p,q⟩:=eY (aG h d)<|aG n d;have e:J (isC x y c=((c.mod.toList==x.toList)&&(c.name.toList==y.toList))):=rfl;clear h n;cases g:(c.mod.toList==x.toList);·rw[g]at e;go_enter func97,ntmps97;go_wp2;go_ret;exact⟨aW (by rw[e];rfl),d⟩
 ·rw[g]at e;go_enter func97,ntmps97;go_wp2;go_ret;exact⟨aW (by rw[e];simp),d⟩
theorem aeL(w:bI)(v:aC)(l:List Ce)(x y:aS)(B:Nat)(h:yI w v l)(N:bJ w B 0=some (A x))(P:bJ w B 1=some (A y)):aD 96 #[v,.func (.func 97) #[] #[gK B]] w λe w'=>e=dz (O<|oI<|rP l x y)/\bK w w':=by
 obtain⟨a,b,off,cap,rfl,u,ab,V⟩:=h;have j5:=Y V;obtain⟨n,D⟩:=aV l.length;have G:=Y D;rw[<-D]at u ab ⊢;obtain⟨Z,HB,aa⟩:=fE u N P;obtain⟨R,t⟩:=aV<|oI<|rP l x y;have I:=Y t;rw[<-t];clear V u N P t D;go_enter func96,ntmps96;go_wp2_with fail;go_loopw[5,8] (λ_ i wr=>∃j:Nat,j<=n/\i=O j/\(∀d g,d<j->l[d]?=some g->isC x y g=false)/\bK w wr) (λ_ i _=>n - (intOf i).toNat);exact⟨0,bN _,rfl,λd g U=>aM U<|fU _,bQ _ _⟩
 obtain⟨j,hj,rfl,Q,c⟩:=hrel;obtain⟨eP,L⟩:=bV Q c;clear Q;by_cases ac:j<n
 ·obtain⟨f,C⟩:∃f,l[j]?=some f:=⟨_,aZ (by have:=G.out;omega)⟩;obtain⟨-,o,p,r⟩:=j5 j f C;obtain rfl:=Z bC;have F:=Y C;replace o:=aG o c;replace p:=aG p c;replace r:=aG r c;have E:=Y<|aeK wr B x y f (aG HB c)<|aG aa c;clear C c;generalize W:isC x y f=q at E;have H:=Y W;clear W;go_wp2_with fail;refine E.mono ?_;rintro e w5 ⟨rfl,S⟩;have K:=Y<|up L S;clear S o p r;cases q
  ·go_wp2;go_roundw;exact⟨j+1,by omega,by go_num,λd g U hg=>by
    by_cases e:d=j;·subst e;rw[F]at hg;cases hg;exact H
    ·exact eP d g bC hg,K⟩
   exact gV
  ·go_wp2;go_ret;exact⟨by rw[I,aeJ F H eP];rfl,K⟩
 ·go_wp2;go_ret;exact⟨by rw[I,abg λd g hg=>eP d g (by have:=(cO.1 hg).1;have:=G.out;omega) hg];rfl,L⟩
theorem aeM(o:Rn.pos nm x y=none)(x' y':aS):Rn.pos (nm++[(x,y)]) x' y'=if (cB x x'&&cB y y')=true then some nm.length else Rn.pos nm x' y':=by
 by_cases c:(cB x x'&&cB y y')=true;·rw[aK c];have q:x=x':=key_eq (by simp only[dK]at c;exact c.1);have r:y=y':=key_eq (by simp only[dK]at c;exact c.2);subst q r;refine mD cK (λd g=>?_) (by simp[c]);rw[jX g];have e:=Gv.1 o d<|jE.2 g;simpa using e
 ·rw[aI c];cases h:Rn.pos nm x' y' with
  | none=>
   refine jW (λd g=>?_);rw[bg,iI]at g;by_cases n:d<nm.length;·rw[jX n];have e:=Gv.1 h d<|jE.2 n;simpa using e
   ·have:d=nm.length:=by omega
    subst this;rw[kL (bG _)];simpa using c
  | some i=>
   have p:=Wx h;refine mD (by rw[bg];omega) (λd g=>?_) ?_;·rw[jX bC];have e:=(List.find?_range_eq_some.1 h).2.2 d g;simpa using e
   ·rw[jX p];unfold Rn.pos at h;have e:=Jj h;exact e
theorem YM.put{n:Nat}{h:List Nat}(E:YM w b n nm h)(I:h.length=nm.length)(K:n<maxLen)(Q:x.size<=maxLen)(S:y.size<=maxLen)(N:Rn.pos nm x y=none)(B:Nat):∃w',(Instr.mapUpdate 128 (.map<|some b) (.agg #[A x,A y])<|gK B).run prog w=.ok () w'/\YM w' b (n+1) (nm++[(x,y)]) (h++[B])/\w.grownBy w' (some b):=by
 obtain⟨D,r,F⟩:=E;obtain⟨kl,g⟩:=Sw Q S;obtain⟨w',o,G,H⟩:=r.update DJ underlying128 K g (val:=gK B) (d:=.lit<|.int .i64 (B:Int)) (ps:=[]) rfl;refine⟨w',o,⟨_,G,λp q R U t c=>?_⟩,H⟩;rw[aeM N];cases e:(cB x p&&cB y q)with
 | true =>simp only[dK]at e;obtain⟨u,C⟩:=eY (key_eq e.1)<|key_eq e.2;subst u C;rw[g]at c;cases c;rw[atKey_put_same r.isMap (DJ.key g),aK rfl];simp[Wj,<-I]
 | false=>
  have L:t≠kl:=λo=>by rw[o]at c;have:=DJ.inj g c;simp at this;rw[this.1,this.2]at e;simp[cB]at e
  rw[atKey_put_other L,F p q R U t c,aI cK];cases P:Rn.pos nm p q with
  | none=>rfl
  | some i =>have V:=Wx P;simp only[Wj];rw[xK,xK,jX bC]
def WT(c:List Value)(b:Nat):Prop:=c=[.pointer (some ⟨b,0,none⟩)]
theorem WT.one{c:List aC}(d:WT c b):∀u∈c,u.oneCell'=true:=by unfold WT at d;subst d;intro u e;simp at e;subst e;rfl
theorem VN:(prog.info? 140).map (λi=>(i.zero,i.size,i.bytes))=some (some<|.pointer none,1,8):=by kernel_rfl
namespace Rn
def addN(nm:List (ByteArray × ByteArray))(x y:ByteArray):List (ByteArray × ByteArray):=if (pos nm x y).isSome=true then nm else nm++[(x,y)]
def En(store:List Ce)(nm:List (ByteArray × ByteArray))(c:List Vr)(x y:ByteArray):List Vr:=if (pos nm x y).isSome=true then c else c++[⟨X4 store x y,false,false⟩]
end Rn
structure Mk(w:World)(c:lu)(nm:List (ByteArray × ByteArray))(s:gM):Prop where
 ma:iL w c nm s
 vv:dA WT w c.n 140 1 c.vv c.bs
 pr:s.pr=[]
 e:c.e=nm.length
 small:nm.length<=1048576
theorem Mk.qY{c:lu}{s:gM}(d:Mk w c nm s):dR w c.p (aY #[c.vl,c.vv,.map<|some c.mp,O s.fuel,aU] 131):=by obtain⟨q,e,cs,h,n,o,p,g⟩:=d.ma.qY;rw[g d.pr]at e;exact e
theorem Mk.below{c:lu}{s:gM}(d:Mk w c nm s)(e:bK w w'):Mk w' c nm s:=⟨d.ma.below e,d.vv.below e,d.pr,d.e,d.small⟩
theorem Mk.more{c:lu}{s:gM}{v:Int}(d:Mk w c nm s)(hx:x.size<=maxLen)(hy:y.size<=maxLen)(hp:Rn.pos nm x y=none)(N:mq v)(Z:c.n<=w.heap.size)(hs:nm.length+1<=1048576)(hB:w.heap[Bv]?=some (aY #[A x,A y,O v,.bool false,.bool false] 142))(ag:c.n<=Bv)(af:Bv∉c.bs)(aa:dA WT w5 c.n 140 1 v5 (c.bs++[Bv]))(hg:(w.alloc ob).grownBy w5 c.vv.ownBlock)(am:(Instr.mapUpdate 128 (.map<|some c.mp) (.agg #[A x,A y])<|gK Bv).run prog (w5.setCell (aN c.p 1) v5).drew=.ok () w7):∃e',Mk w7 { c with vv:=v5,e:=e',bs:=c.bs++[Bv] } (nm++[(x,y)]) { s with vs:=s.vs++[⟨v,false,false⟩] }/\Below c.n w w7/\∀{k:Nat} {cs:Array aC} {t:TypeId} {n:Nat × Nat},w.heap[k]?=some (.cells cs t n)->t≠140->t≠131->w7.heap[k]?=some (.cells cs t n):=by
 have Eo:∀{k:Nat} {o:Obj},w.heap[k]?=some o->(∀cs n,o≠.cells cs 140 n)->w5.heap[k]?=some o:=λ{k o} h ht=>by rw[hg.block k (by have:=aR h;have:=(aH w ob).size;omega) (λe=>by obtain⟨ae,q⟩:=d.vv.typ e.symm;rw[h]at q;injection q with q;exact ht _ _ q)];exact bT h ob
 have V:=Eo d.qY (λ_ _ e=>by injection e with _ e;exact aM e bM);obtain⟨es,cl,C⟩:=d.ma.map.isMap;have W:c.mp≠c.p:=λe=>by rw[e,d.qY]at C;cases C
 have ah:=Eo C (λ_ _ e=>by cases e);have U:(w5.setCell (aN c.p 1) v5).drew.heap[c.mp]?=some (.map es cl):=aX ah W v5;have al:YM (w5.setCell (aN c.p 1) v5).drew c.mp c.e nm c.bs:=d.ma.map.same (by rw[U,C]);obtain⟨ao,I,h7,K⟩:=al.put d.ma.uj (by have:=d.e;have:=d.small;unfold maxLen;omega) hx hy hp Bv;rw[am]at I;injection I with _ I;subst I;have P:∀{k:Nat} {o:Obj},w5.heap[k]?=some o->k≠c.p->k≠c.mp->w7.heap[k]?=some o:=λ{k o} h H r=>by have R:(w5.setCell (aN c.p 1) v5).drew.heap[k]?=some o:=aX h H v5;rw[K.block k (aR R) (λe=>r<|by injection e)];exact R
 have ab:(w5.setCell (aN c.p 1) v5).drew.heap[c.p]?=some (aY #[c.vl,v5,.map<|some c.mp,O s.fuel,aU] 131):=(aP V 1 v5).trans rfl;have ak:w7.heap[c.p]?=some (aY #[c.vl,v5,.map<|some c.mp,O s.fuel,aU] 131):=by rw[K.block c.p (aR ab) (λe=>W (by injection e with e;exact e.symm))];exact ab
 have Q:∀{k:Nat} {cs:Array aC},w.heap[k]?=some (.cells cs 142 (0,0))->w7.heap[k]?=some (.cells cs 142 (0,0)):=λ{k cs} h=>by
  refine P (Eo h (λ_ _ e=>by injection e with _ e;exact aM e bM)) (λe=>?_) (λe=>?_);·rw[e,d.qY]at h;injection h with h;injection h with _ h;exact aM h bM
  ·rw[e,C]at h;cases h
 have ad:∀{k:Nat} {cs:Array aC} {t:TypeId} {n:Nat × Nat},w.heap[k]?=some (.cells cs t n)->t≠140->t≠131->w7.heap[k]?=some (.cells cs t n):=λ{k cs t n} h H r=>by
  refine P (Eo h (λ_ _ e=>by injection e with _ e;exact H e)) (λe=>?_) (λe=>?_);·rw[e,d.qY]at h;injection h with h;injection h with _ h;exact r h.symm
  ·rw[e,C]at h;cases h
 have S:Below c.n w w5:=((aH w ob).mono Z).grown hg (bE Z (aH w ob).size) (λk e=>(d.vv.lt k e).1);have ug:Below c.n w w7:=((S.setCell (p:=(aN c.p 1)) d.ma.base v5).drew).grown K (by have:=S.size;simp only[World.setCell,World.drew,Am];omega) (λk e=>by injection e with e;have:=d.ma.mpn;omega);have gF:dA WT w7 c.n 140 1 v5 (c.bs++[Bv]):=by have H:=aa.set (a:=(aN c.p 1)) (aa.apart V bM) v5;have r:dA WT (w5.setCell (aN c.p 1) v5).drew c.n 140 1 v5 (c.bs++[Bv]):=H.below (bQ _ _).drew;exact r.grown K (λg N e=>by injection e with e;obtain⟨ae,q⟩:=r.typ N;rw[<-e,U]at q;cases q)
 refine⟨c.e+1,⟨⟨d.ma.base,⟨_,ak,by show dA QX w7 c.n 48 2 (aU) s.pr;rw[d.pr];exact dA.nil _ _ _ _⟩,?_,?_,λi b' z u k1 F k3=>?_,λb' B=>?_,λu D=>?_,?_,h7,d.ma.mpn,d.ma.room,d.ma.OE⟩,gF,d.pr,?_,?_⟩,ug,ad⟩;·show(c.bs++[Bv]).length=(nm++[(x,y)]).length;rw[bg,bg,d.ma.uj];rfl
 ·show(s.vs++[(⟨v,false,false⟩:Vr)]).length=(nm++[(x,y)]).length;rw[bg,bg,d.ma.lens];rfl
 ·by_cases L:i<nm.length;·rw[jX L]at F;have E:(c.bs++[Bv])[i]?=some b':=k1;have G:(s.vs++[(⟨v,false,false⟩:Vr)])[i]?=some u:=k3;rw[jX (by rw[d.ma.uj];exact L)]at E;rw[jX (by rw[d.ma.lens];exact L)]at G;exact Q<|d.ma.var i b' z u E F G
  ·have ai:i=nm.length:=by have:=(cO.1 F).1;simp at this;omega
   subst ai;have E:(c.bs++[Bv])[nm.length]?=some b':=k1;have G:(s.vs++[(⟨v,false,false⟩:Vr)])[nm.length]?=some u:=k3;rw[<-d.ma.uj,kL<|bG _]at E;rw[<-d.ma.lens,kL<|bG _]at G;rw[kL (bG _)]at F;simp at E F G;subst E F G;exact Q hB
 ·rcases bX.1 B with B|B;·exact d.ma.bsn b' B
  ·simp at B;subst B;exact ag
 ·rcases bX.1 D with D|D;·exact d.ma.val u D
  ·simp at D;subst D;exact N
 ·refine PY.2 ⟨d.ma.nodup,by simp,λz hz z' ac e=>?_⟩;simp at ac;subst e ac;exact af hz
 ·show c.e+1=(nm++[(x,y)]).length;rw[bg,d.e];rfl
 ·rw[bg];exact hs
theorem Mk.Eo{c:lu}{s:gM}(n:Mk w c nm s)(hg:(w.alloc ob).grownBy w5 c.vv.ownBlock){cs:Array aC}{t:TypeId}{g:Nat × Nat}(e:w.heap[k]?=some (.cells cs t g))(o:t≠140):w5.heap[k]?=some (.cells cs t g):=by rw[hg.block k (by have:=aR e;have:=(aH w ob).size;omega) (λh=>by obtain⟨p,d⟩:=n.vv.typ h.symm;rw[e]at d;injection d with d;injection d with _ d;exact o d)];exact bT e ob
theorem Mk.up{c:lu}{s:gM}(d:Mk w c nm s)(hg:(w.alloc ob).grownBy w5 c.vv.ownBlock)(C:x.size<=maxLen)(D:y.size<=maxLen)(u:Rn.pos nm x y=none)(v5:aC)(Bv:Nat):∃w7,(Instr.mapUpdate 128 (.map<|some c.mp) (.agg #[A x,A y])<|gK Bv).run prog (w5.setCell (aN c.p 1) v5).drew=.ok () w7:=by
 obtain⟨n,h,e⟩:=d.ma.map.isMap;have t:c.mp≠c.p:=λg=>by rw[g,d.qY]at e;cases e
 have q:w5.heap[c.mp]?=some (.map n h):=by rw[hg.block c.mp (by have:=aR e;have:=(aH w ob).size;omega) (λg=>by obtain⟨E,o⟩:=d.vv.typ g.symm;rw[e]at o;cases o)];exact bT e ob
 have r:(w5.setCell (aN c.p 1) v5).drew.heap[c.mp]?=some (.map n h):=aX q t v5;have B:YM (w5.setCell (aN c.p 1) v5).drew c.mp c.e nm c.bs:=d.ma.map.same (by rw[r,e]);obtain⟨w7,p,_⟩:=B.put d.ma.uj (by have:=d.e;have:=d.small;unfold maxLen;omega) C D u Bv;exact⟨w7,p⟩
theorem ah5(w:bI)(c:lu)(nm:List (aS × aS))(s:gM)(h:Mk w c nm s)(vs:aC)(store:List Ce)(hS:yI w vs store)(x y:aS)(hx:x.size<=maxLen)(hy:y.size<=maxLen)(hs:nm.length+1<=1048576)(hn:c.n<=w.heap.size):aD 46 #[gK c.p,.agg #[A x,A y],vs] w λe w'=>e=dz (.tuple #[])/\J (∃H:lu,H.n=c.n/\H.p=c.p/\H.vl=c.vl/\H.mp=c.mp/\Mk w' H (Rn.addN nm x y) { s with vs:=En store nm s.vs x y }/\Below c.n w w'/\∀{k:Nat} {cs:Array aC} {t:TypeId} {fz:Nat × Nat},w.heap[k]?=some (.cells cs t fz)->t≠140->t≠131->w'.heap[k]?=some (.cells cs t fz)):=by
 obtain⟨ae,aq⟩:=sO w<|aY #[A x,A y] 134;obtain⟨U,wu,Ae,ar,HX,HY⟩:=vC (h.below ae) hn hs hS hx hy;have L2:∀k,(Instr.lookup 128 (.map<|some c.mp) (.agg #[A x,A y]) false).run prog ((w.alloc<|aY #[A x,A y] 134).drewN k)=.ok (yX c.bs<|Rn.pos nm x y) ((w.alloc<|aY #[A x,A y] 134).drewN k):=λk=>(U.ma.map.same (w':=(w.alloc<|aY #[A x,A y] 134).drewN k) rfl).look hx hy;have m2:=aj U.qY 2;obtain⟨K,L⟩:=jv aq;obtain⟨B,I⟩:=aV w.heap.size;clear h hS hx hy hs hn;cases n:Rn.pos nm x y with
 | some i=>
  have E:J (Rn.addN nm x y=nm/\En store nm s.vs x y=s.vs):=Y ⟨by simp[Rn.addN,n],by simp[En,n]⟩;simp only[n,yX]at L2;clear n I;go_enter func46,ntmps46;go_wp2_with fail;go_quiet (fail);go_wp2_with fail;refine cZ (Fj rfl _ _ _) rfl ?_;refine⟨rfl,Y ⟨c,rfl,rfl,rfl,rfl,?_,?_,λho _ _=>bT ho _⟩⟩;·rw[E.out.1,E.out.2];exact U.out.below<|wR<|bQ _ _
  ·exact jJ (ae.mono wu) _
 | none=>
  have zV:=Y n;have E:J (Rn.addN nm x y=nm++[(x,y)]/\En store nm s.vs x y=s.vs++[⟨X4 store x y,false,false⟩]):=Y ⟨by simp[Rn.addN,n],by simp[En,n]⟩;simp only[n,yX]at L2;clear n;go_enter func46,ntmps46;go_wp2_with fail;go_quiet (fail);have P:=Y<|U.out.below (w':=(w.alloc<|aY #[A x,A y] 134).drewN nq)<|wR<|bQ _ _;have r:J (bK w<|(w.alloc<|aY #[A x,A y] 134).drewN nq):=Y<|jJ ae.out _;have F:J (((w.alloc<|aY #[A x,A y] 134).drewN nq).heap[B]?=some (aY #[A x,A y] 134)):=Y (by rw[I];exact aq.out);rw[<-I];generalize (w.alloc<|aY #[A x,A y] 134).drewN nq=W1 at *;clear m2 K L L2 I;obtain⟨D,G⟩:=sO W1<|aY #[A x,A y,O 0,.bool false,.bool false] 142;obtain⟨K,L⟩:=jv F.out;have Q:=Y<|aeL _ vs store x y B (ar.out.below<|up r.out D.out) (aG K D.out)<|aG L D.out;go_wp2_with fail;obtain⟨Bv,ai⟩:=aV W1.heap.size;have af:=Y ai;rw[<-ai]at G ⊢;clear ai;cases q:rP store x y;case' none =>rw[q]at Q;have R:J (aD 96 #[vs,.func (.func 97) #[] #[gK B]] (W1.alloc<|aY #[A x,A y,O 0,.bool false,.bool false] 142) λe w'=>e=dz (O<|-1)/\Below (W1.alloc<|aY #[A x,A y,O 0,.bool false,.bool false] 142).heap.size (W1.alloc<|aY #[A x,A y,O 0,.bool false,.bool false] 142) w'):=Q;have av:J (X4 store x y=0):=Y (by simp[X4,q]);have au:J (mq 0):=Y (by unfold mq;omega);clear q;refine R.out.mono ?_;rintro e C ⟨rfl,al⟩;have o:=Y<|up D.out al;have g:=Y<|P.out.below o.out;have aw:J (C.heap[Bv]?=some (aY #[A x,A y,O 0,.bool false,.bool false] 142)):=Y (by rw[al.block Bv (aR G.out)];exact G.out);have ag:J (C.heap[B]?=some (aY #[A x,A y] 134)):=Y (by rw[o.out.block B (aR F.out)];exact F.out);clear al K L
  case' some i=>
   obtain⟨ce,aa⟩:∃ce,store[i]?=some ce:=⟨_,aZ<|jE.1<|Gw q⟩;rw[q]at Q;have R:J (aD 96 #[vs,.func (.func 97) #[] #[gK B]] (W1.alloc<|aY #[A x,A y,O 0,.bool false,.bool false] 142) λe w'=>e=dz (O (i:Int))/\Below (W1.alloc<|aY #[A x,A y,O 0,.bool false,.bool false] 142).heap.size (W1.alloc<|aY #[A x,A y,O 0,.bool false,.bool false] 142) w'):=Q;have av:J (X4 store x y=ce.val):=Y (by simp[X4,q,aa]);obtain⟨sa,sb,so,be,rfl,aE,bb,a0⟩:=ar.out;obtain⟨a1,-,-,Z⟩:=a0 i ce aa;have au:=Y a1;have a9:i<store.length:=(cO.1 aa).1;obtain rfl:=aE bC;obtain⟨ns,az⟩:=aV store.length;rw[<-az]at R a9 bb ⊢;have a2:=Y Z;clear q a0 aa a1 Z az aE;refine R.out.mono ?_;rintro e N ⟨rfl,ak⟩;have ao:=Y<|up D ak;have Z:=aG a2<|up r ao;have ac:N.heap[Bv]?=some (aY #[A x,A y,O 0,.bool false,.bool false] 142):=by rw[ak.block Bv (aR G)];exact G
   have v2:=aj ac 2;have z2:=aF ac 2;have o:J (bK W1<|N.setCell (aN Bv 2)<|O ce.val):=Y<|ao.setCell (p:=(aN Bv 2)) (by show W1.heap.size<=Bv;rw[af];exact bG _) _;have g:=Y<|P.below o;have aw:J ((N.setCell (aN Bv 2)<|O ce.val).heap[Bv]?=some (aY #[A x,A y,O ce.val,.bool false,.bool false] 142)):=Y<|(aP ac 2 _).trans rfl;have ag:J ((N.setCell (aN Bv 2)<|O ce.val).heap[B]?=some (aY #[A x,A y] 134)):=Y (by rw[o.block B (aR F)];exact F);clear ak K L ac;go_upto_region 6 with fail;generalize N.setCell (aN Bv 2) (O ce.val)=C at *;clear Z v2 z2
  all_goals(have QZ:J (Bv∉c.bs):=Y (λhb=>by obtain⟨i,hi,e⟩:=gU.1 hb;obtain⟨b',z,u,k1,k2,k3,_,k4,_⟩:=P.ma.at (i:=i) (by rw[<-P.ma.uj];exact hi);rw[aZ hi,e]at k1;cases k1;have:=aR k4;have:=af.out;omega);have a4:J (c.n<=Bv):=Y (by have d:=wu.out;have h2:=r.size;have h3:=af.out;omega);have vD:J (c.n<=C.heap.size):=Y<|bE wu.out (up r o).size;have m1:=(aj g.qY 1).trans rfl;obtain⟨va,vc,ad⟩:=g.vv.form;have a5:=Y ad;have a3:J (dA WT C c.n 140 1 (X va c.bs.length vc) c.bs):=Y (by have d:=g.vv;rw[ad]at d;exact d);rw[ad]at m1;have YN:J (c.bs.length<=1048576):=Y (by rw[g.ma.uj];exact g.small);have bf:=YN.out;clear ad;go_wp2_with (first|(at_builtin;refine fG (At:=WT) rfl _ _ 129 140 1 8 _ rfl underlying129 VN bM bM bM c.n _ _ rfl (a3.below<|aH _ _) _ _ [Bv] rfl (dA.one _ _ rfl (WT.one (b:=Bv) rfl) rfl) (by simp only[iI];omega) (bE vD.out (aH _ _).size) ?_;intro v6 w6 am dX;obtain⟨V,W,bc⟩:=am.form;subst bc;have xJ:=Y am;have S:J ((C.alloc<|aY #[gK Bv] 140).grownBy w6 c.vv.ownBlock):=Y (by rw[a5];exact dX);have ab:=g.Eo S g.qY bM;have uq:=Y ab;have u1:=(aj ab 1).trans rfl;have zf:=aF ab 1;clear am dX ab m1)|fail);rw[show(c.bs++[Bv]).length=c.bs.length+1 from by simp]at xJ;obtain⟨nb,ax⟩:=aV<|c.bs.length+1;rw[<-ax]at xJ ⊢;obtain⟨w7,L7⟩:=g.up S HX HY zV (X V nb W) Bv;have Dr:=Y L7;have aA:=aP uq 1<|X V nb W;have ay:B≠c.p:=λe=>(by have d:=ag.out;rw[e,g.qY]at d;injection d with d;injection d with _ d;exact aM d bM);have ah:=aX (a:=(aN c.p 1)) (g.Eo S ag bM) ay<|X V nb W;have s2:=(aj aA 2).trans rfl;have t0:=(aj ah 0).trans rfl;have t1:=(aj ah 1).trans rfl;clear aA ay ah u1 zf ax;go_region_law (fail);all_goals(go_wp2_with fail;go_end0;refine⟨rfl,Y ?_⟩;obtain⟨e',ba,a7,a8⟩:=g.more HX HY zV au vD Ae aw a4 QZ xJ S Dr;refine⟨{ c with vv:=X V nb W,e:=e',bs:=c.bs++[Bv] },rfl,rfl,rfl,rfl,?_,((up r o).mono wu).trans a7,λho d h2=>a8 (by rw[(up r o).block _ (aR ho)];exact ho) d h2⟩;rw[E.1,E.2,av];exact ba))
namespace Rn
def AP(store:List Ce)(mod:ByteArray)(st:List (ByteArray × ByteArray) × List Vr)(c:List Va):List (ByteArray × ByteArray) × List Vr:=c.foldl (λst v=>(addN st.1 mod v.name,En store st.1 st.2 mod v.name)) st
def mP(store:List Ce)(l:List Mo):Nat->List (ByteArray × ByteArray) × List Vr
 | 0=>([],[])
 | i+1=>match l[i]? with
  | some y=>if oI (dQ l y.name)<(i:Int)then mP store l i else AP store y.name (mP store l i) y.vars
  | none=>mP store l i
theorem aeT(nm:List (aS × aS))(x y:aS):(addN nm x y).length<=nm.length+1:=by
 unfold addN;split;·omega
 ·simp
theorem KN(store:List Ce)(mod:aS):∀(c:List Va) (st:List (aS × aS) × List Vr),(AP store mod st c).1.length<=st.1.length+c.length
 | [],st=>by simp[AP]
 | v::c,st=>by have d:=KN store mod c (addN st.1 mod v.name,En store st.1 st.2 mod v.name);have e:=aeT st.1 mod v.name;simp only[AP,pz,vN]at d ⊢;omega
theorem adZ{store:List Ce}(c:∀y∈l,y.vars.length<=8):∀i,(mP store l i).1.length<=8*i
 | 0=>by simp[mP]
 | i+1=>by
  have e:=adZ (store:=store) c i;unfold mP;cases d:l[i]? with
  | none=>simp only;omega
  | some y=>
   simp only;have g:=c y<|dG d;split;·omega
   ·have h:=KN store y.name y.vars<|mP store l i;omega
theorem abj{store:List Ce}{st:List (aS × aS) × List Vr}{c:List Va}{t:Nat}{v:Va}(d:c[t]?=some v):AP store mod st (c.take<|t+1)=(addN (AP store mod st<|c.take t).1 mod v.name,En store (AP store mod st<|c.take t).1 (AP store mod st<|c.take t).2 mod v.name):=by unfold AP;rw[gy,d,kI,JX];rfl
end Rn
def MkI(w wx:bI)(vl:Value)(fuel:Nat)(st:List (aS × aS) × List Vr):Prop:=∃c:lu,c.n=w.heap.size/\c.p=w.heap.size+1/\c.vl=vl/\c.mp=w.heap.size/\Mk wx c st.1 ⟨fuel,st.2,[]⟩/\bK w wx
theorem MkI.below{st:List (aS × aS) × List Vr}(e:MkI w wx vl fuel st)(d:bK wx wy):MkI w wy vl fuel st:=by obtain⟨c,g,h,n,o,p,q⟩:=e;exact⟨c,g,h,n,o,p.below d,up q d⟩
theorem MkI.wB{st:List (aS × aS) × List Vr}(d:MkI w wx vl fuel st):bK w wx:=by obtain⟨c,g,h,n,o,p,e⟩:=d;exact e
theorem MkI.new(w:bI)(vl:aC)(fuel:Nat)(o:fuel<=10000):MkI w ((w.alloc<|.map #[] 0).alloc (aY #[vl,aU,.map<|some w.heap.size,O fuel,aU] 131)) vl fuel ([],[]):=by have e:=bF w<|.map #[] 0;obtain⟨h,g⟩:=eY (bT e<|aY #[vl,aU,.map<|some w.heap.size,O fuel,aU] 131)<|bF (w.alloc<|.map #[] 0)<|aY #[vl,aU,.map<|some w.heap.size,O fuel,aU] 131;rw[oh]at g;have n:YM (w.alloc<|.map #[] 0) w.heap.size 0 [] []:=⟨.map [],World.ownsMap_made _ _ _ _,λx y _ _ p _=>rfl⟩;refine⟨⟨w.heap.size,w.heap.size+1,vl,aU,w.heap.size,0,[]⟩,rfl,rfl,rfl,rfl,⟨⟨dN _,⟨_,g,dA.nil _ _ _ _⟩,rfl,rfl,λi b x v c=>by simp at c,λb c=>by simp at c,λv c=>by simp at c,List.nodup_nil,n.same (by rw[h,e]),bG _,by show 0+fuel<=16777215;omega,λd c=>by simp at c⟩,dA.nil _ _ _ _,rfl,rfl,by simp⟩,up (aH _ _)<|aH _ _⟩
theorem agK(m:Nat)(w:bI)(vl vs:aC)(l:List Mo)(store:List Ce)(fuel:Nat)(h:jN w m vl l)(hS:yI w vs store)(hf:fuel<=10000)(a5:l.length<=6)(ad:∀y∈l,y.vars.length<=8):aD 23 #[vl,vs,O fuel] w λS w'=>S=dz (gK<|w.heap.size+1)/\J (MkI w w' vl fuel<|mP store l l.length):=by
 obtain⟨HM,HS,a2⟩:=fE h hS ad;have a1:=Y (λi=>adZ (store:=store) ad i);obtain⟨a,b,off,cap,rfl,ha,a4,au⟩:=h;have j5:=Y au;obtain⟨n,hn⟩:=aV l.length;have HN:=Y hn;rw[<-hn]at ha a4 a5 HM ⊢;obtain⟨HA,a0⟩:=bV ha<|MkI.new w (X a n cap) fuel hf;have a7:=@run_makeMap prog;clear au ha hn ad hS;go_enter func23,ntmps23;go_wp2_with fail;generalize ((w.alloc<|.map #[] 0).alloc (aY #[X a n cap,aU,.map<|some w.heap.size,O fuel,aU] 131))=W1 at *;clear a7;obtain⟨B,Z⟩:=aV<|w.heap.size+1;rw[<-Z];have Q:=Y Z;clear Z;go_loopw[19] (λi wx=>∃j:Nat,j<=n/\i=O j/\J (MkI w wx (X a n cap) fuel<|mP store l j)) (λi _=>n - (intOf i).toNat);exact⟨0,bN _,rfl,a0⟩
 obtain⟨j,hj,rfl,R⟩:=hrel;by_cases ba:j<n
 ·obtain⟨y,r⟩:∃f,l[j]?=some f:=⟨_,aZ (by have:=HN.out;omega)⟩;obtain⟨vi,vv,vf,U,V,I,W,hm⟩:=j5 j y r;obtain rfl:=HA bC;obtain⟨HY,H⟩:=bV r R.out.wB;replace U:=aG U H;replace V:=aG V H;replace I:=aG I H;replace W:=aG W H;have ax:y.name.size<=maxLen:=by obtain⟨_,_,_,_,q,_⟩:=hm;exact q
  have D8:=Y ax;obtain⟨D,bi,oi,ci,rfl,-⟩:=hm.split.1;obtain⟨av,bv,ov,G,rfl,am,a6,ar⟩:=hm.split.2.1;obtain⟨C,bf,of,F,rfl,-⟩:=hm.split.2.2;obtain⟨aE,ae,HV⟩:=fE ar am<|a2 y<|dG r;generalize y.imports.length=L at *;generalize y.bq.length=nf at *;obtain⟨e,P⟩:=aV y.vars.length;have R8:=Y P;rw[<-P]at I a6 ae HV;have p:J (mP store l (j+1)=if oI (dQ l y.name)<(j:Int)then mP store l j else AP store y.name (mP store l j) y.vars):=Y (by simp only[mP,r]);obtain⟨aA,zH⟩:=sO wr<|aY #[A y.name,X D L ci,X av e G,X C nf F] 59;have ag:=Y<|R.below aA;have o:=Y<|Em m _ _ l y.name<|HM.below ag.wB;obtain⟨wo,rfl⟩:=aV wr;clear r hm ax am ar P;obtain⟨E,g⟩:=aV<|oI<|dQ l y.name;rw[<-g]at o p;clear g;go_wp2_with fail;obtain⟨N,al⟩:=aV wo.heap.size;rw[<-al]at zH ⊢;generalize (wo.alloc<|aY #[A y.name,X D L ci,X av e G,X C nf F] 59)=W2 at *;clear al U V I W;refine o.mono ?_;rintro S w3 ⟨rfl,aa⟩;have ah:=Y<|ag.below aa;have ak:J (w3.heap[N]?=some (aY #[A y.name,X D L ci,X av e G,X C nf F] 59)):=Y (by rw[aa.block N (aR zH)];exact zH);clear aa;by_cases g:E<(j:Int)
  ·rw[aK g]at p;go_wp2;go_roundw;exact⟨j+1,by omega,by go_num,by rw[p];exact ah⟩;exact gV
  ·rw[aI g]at p;have b2:=aj ak 2;go_wp2_with fail;clear b2 g;go_loopw[33] (λi wx=>∃t:Nat,t<=e/\i=O t/\J (MkI w wx (X (some<|aN b off) n cap) fuel (AP store y.name (mP store l j)<|y.vars.take t)/\wx.heap[N]?=some (aY #[A y.name,X D L ci,X av e G,X C nf F] 59))) (λi _=>e - (intOf i).toNat);exact⟨0,bN _,rfl,Y ⟨by simpa[AP]using ah.out,ak.out⟩⟩
   obtain⟨t,ht,rfl,d⟩:=hrel;by_cases a8:t<e
   ·obtain⟨v,hv⟩:∃v,y.vars[t]?=some v:=⟨_,aZ (by rw[<-R8];exact a8)⟩;obtain⟨Vo,-,v0,v1⟩:=aE t v hv;obtain rfl:=ae bC;replace v0:=aG v0 d.1.wB;replace v1:=aG v1 d.1.wB;have b0:=aj d.2 0;obtain⟨vZ,eD,R6⟩:=fE (abj (store:=store) (mod:=y.name) (st:=mP store l j) hv) (aH wr<|aY #[A v.name,A v.level] 85)<|bT d.2<|aY #[A v.name,A v.level] 85;have a3:=aj R6 0;obtain⟨c,ab,ac,ao,aq,aw,K⟩:=d.1.below eD;have Md:J ((AP store y.name (mP store l j)<|y.vars.take t).1.length+1<=1048576):=Y (by have q:=KN store y.name (y.vars.take t)<|mP store l j;have h2:=a1 j;have h3:=HV.out;rw[iA]at q;omega);have o:=Y<|ah5 _ c _ _ aw vs store (HS.below K) y.name v.name D8 Vo Md (by rw[ab];exact K.size);rw[ac,<-Q]at o;have u:=Y<|show c.n=w.heap.size/\c.p=w.heap.size+1/\c.vl=X (some<|aN b off) n cap/\c.mp=w.heap.size/\bK w (wr.alloc<|aY #[A v.name,A v.level] 85)from ⟨ab,ac,ao,aq,K⟩;clear hv Vo ab ac ao aq aw K;obtain⟨bb,rfl⟩:=aV wr;go_wp2_with fail;refine o.mono ?_;rintro S w6 ⟨rfl,az⟩;clear v0 v1 b0 a3;go_wp2;go_roundw;exact⟨t+1,by omega,by go_num,Y (by
     obtain⟨c',q,h2,h3,h4,h5,h6,h7⟩:=az.out;refine⟨⟨c',q.trans u.1,h2.trans Q,h3.trans u.2.2.1,h4.trans u.2.2.2.1,?_,?_⟩,h7 R6 bM bM⟩;·rw[vZ];exact h5
     ·have h8:=h6;rw[u.1]at h8;exact u.2.2.2.2.trans h8)⟩
    exact gV
   ·have ay:y.vars.take t=y.vars:=fQ (by rw[<-R8];omega);rw[ay]at d;clear ay;go_wp2;go_roundw;exact⟨j+1,by omega,by go_num,by rw[p];exact Y d.out.1⟩;exact gV
 ·have wU:j=n:=by omega
  subst wU;go_wp2;go_ret;exact⟨by rw[Q];rfl,R⟩
namespace Rn
def TB(nm:List (ByteArray × ByteArray))(c:List Vr):List Ce:=(nm.zip c).map λp=>⟨p.1.1,p.1.2,p.2.val⟩
def tag(t:UInt8)(x:ByteArray × ByteArray):ByteArray:=(((⟨#[t,58]⟩:ByteArray)++x.1)++⟨#[46]⟩)++x.2
def yj(s:ByteArray):ByteArray:=(⟨#[112,58]⟩:ByteArray)++s
def TD(p:(ByteArray × ByteArray) × Vr):List ByteArray:=(if p.2.rd=true then [tag 114 p.1]else [])++(if p.2.st=true then [tag 119 p.1]else [])
def H8(nm:List (ByteArray × ByteArray))(c:List Vr):List ByteArray:=((nm.zip c).map TD).flatten
def did(nm:List (ByteArray × ByteArray))(e:List Vr)(c:List (ByteArray × Int)):List ByteArray:=H8 nm e++c.map λd=>yj d.1
structure Fx where
 res:Int
 TB:List Ce
 pr:List (ByteArray × Int)
 did:List ByteArray
 err:Int
def bad(e:Int):Fx:=⟨0,[],[],[],e⟩
def out(nm:List (aS × aS))(x:Int × Int × gM):Fx:=
 if x.2.1=0 then ⟨x.1,Rn.TB nm x.2.2.vs,x.2.2.pr,gP (jZ (Rn.did nm x.2.2.vs x.2.2.pr)),0⟩else bad x.2.1
def run(g m:Nat)(l:List Mo)(mod fn:aS)(args:List Int)(store:List Ce)(fuel:Int):Fx:=
 if F6 m l≠0 then bad (F6 m l)
 else if fuel<1\/10000<fuel then bad 1
 else match tV l mod fn with
  | none=>bad 4
  | some (a,k)=>out (mP store l l.length).1 (enter (M (mP store l l.length).1 l g) l a k args ⟨fuel.toNat,(mP store l l.length).2,[]⟩)
theorem aeU{α β:Type}{l:List α}{r:List β}{x:α}{y:β}(d:l[j]?=some x)(e:r[j]?=some y):((l.zip r).take (j+1))=(l.zip r).take j++[(x,y)]:=by rw[gy];congr 1;have c:(l.zip r)[j]?=some (x,y):=NP.2 ⟨d,e⟩;rw[c];rfl
theorem NS{y:Mo}(c:oO m y=0):y.vars.length<=8/\y.bq.length<=8/\y.name.size<=8/\∀v∈y.vars,v.name.size<=8:=by
 have o:∀{s:aS},kR s=true->s.size<=8:=λ{s} e=>by unfold kR dZ at e;simp only[dK,iy]at e;have g:=e.1.2;rw[Array.length_toList]at g;exact g
 unfold oO at c;by_cases n:8<y.imports.length\/8<y.vars.length\/8<y.bq.length;·rw[aK n]at c;cases c
 ·rw[aI n]at c;by_cases h:((kR y.name&&y.imports.all kR)&&y.vars.all Q6)=false;·rw[aK h]at c;cases c
  ·have d:((kR y.name&&y.imports.all kR)&&y.vars.all Q6)=true:=by
    cases p:((kR y.name&&y.imports.all kR)&&y.vars.all Q6)with
    | true=>rfl
    | false=>exact aM p h
   simp only[dK]at d;refine⟨by omega,by omega,o d.1.1,λv q=>?_⟩;have:=iB.1 d.2 v q;unfold Q6 at this;simp only[dK]at this;exact o this.1
theorem Zg:∀{l:List Mo},um m l=0->∀y∈l,oO m y=0
 | [],_=>λy d=>aM d cK
 | x::l,c=>by
  unfold um at c;by_cases e:oO m x=0
  ·rw[aK e]at c;intro y d;rcases fV.1 d with rfl|d;·exact e
   ·exact Zg c y d
  ·rw[aI e]at c;exact aM c e
theorem ah7(c:F6 m l=0):l.length<=6/\∀y∈l,oO m y=0:=by
 unfold F6 at c;by_cases d:um m l=0
 ·rw[aK d]at c;refine⟨?_,Zg d⟩;by_cases e:6<l.length;·rw[aK e]at c;cases c
  ·omega
 ·rw[aI d]at c;exact aM c d
theorem aeV(c:tV l mod fn=some (a,k)):∃y fu,l[a]?=some y/\y.bq[k]?=some fu:=by
 unfold tV at c;cases e:dQ l mod with
 | none=>rw[e]at c;cases c
 | some o=>
  rw[e]at c;obtain⟨y,g,_⟩:=bO.rJ e;rw[Option.bind_some,g]at c;simp only[kV,gD]at c;cases d:vP y.bq fn y.bq.length with
  | none=>rw[d]at c;cases c
  | some h=>
   rw[d]at c;simp only[kV,Kj,pO]at c;obtain⟨rfl,rfl⟩:=c;have n:h<y.bq.length:=by unfold vP at d;have:=Gw d;simpa using this
   exact⟨y,y.bq[h],g,aZ n⟩
theorem aeW(h:z∈addN nm x y):z∈nm\/z=(x,y):=by
 unfold addN at h;split at h;·exact aO h
 ·simpa using h
theorem TF{store:List Ce}:∀{c:List Va} {st:List (aS × aS) × List Vr},z∈(AP store mod st c).1->z∈st.1\/∃v∈c,z=(mod,v.name)
 | [],st,d=>aO d
 | v::c,st,d=>by
  have e:z∈(AP store mod (addN st.1 mod v.name,En store st.1 st.2 mod v.name) c).1:=d;rcases TF e with g|⟨u,n,rfl⟩
  ·rcases aeW g with h|rfl;·exact aO h
   ·exact aQ ⟨v,by simp,rfl⟩
  ·exact aQ ⟨u,by simp[n],rfl⟩
theorem zI{store:List Ce}:∀{i:Nat},z∈(mP store l i).1->∃y∈l,∃v∈y.vars,z=(y.name,v.name)
 | 0,c=>aM c (by simp[mP])
 | i+1,c=>by
  unfold mP at c;cases d:l[i]? with
  | none=>rw[d]at c;exact zI c
  | some y=>
   rw[d]at c;simp only at c;split at c;·exact zI c
   ·rcases TF c with e|⟨v,g,rfl⟩;·exact zI e
    ·exact⟨y,dG d,v,g,rfl⟩
theorem ajD{store:List Ce}(c:∀y∈l,oO m y=0)(n:z∈(mP store l i).1):z.1.size<=8/\z.2.size<=8:=by obtain⟨y,h,v,g,rfl⟩:=zI n;obtain⟨_,_,d,e⟩:=NS<|c y h;exact⟨d,e v g⟩
theorem aeX{store:List Ce}{d:List Vr}(c:d.length=nm.length):(En store nm d x y).length=(addN nm x y).length:=by
 unfold En addN;split;·exact c
 ·simp[c]
end Rn
namespace Rn
end Rn
