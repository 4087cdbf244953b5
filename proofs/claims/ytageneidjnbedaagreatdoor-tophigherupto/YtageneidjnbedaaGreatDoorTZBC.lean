import Derived.Test.YtageneidjnbedaaGreatDoorTZAY
import Derived.Test.YtageneidjnbedaaGreatDoorTZAZ
set_option maxHeartbeats 0
set_option maxRecDepth 99999
namespace Go.Proofs.YtageneidjnbedaaGreatDoor
open bS
open Go.Proofs.Tryz
open Go.RowKit
namespace bS
def Iw:List UInt8->Int
 | []=>0
 | b::l=>step b+Iw l
def pk:List UInt8->Int
 | []=>0
 | b::l=>max 0 (step b+pk l)
def Cq(t:ByteArray):Nat:=(pk t.data.toList).toNat
def I6(t:ByteArray):Prop:=Iw t.data.toList=0
end bS
variable{l:List Mo}{t s a b:ByteArray}{n d:Int}{m j:Nat}{f:Fu}{x:Mo}
theorem Ag:∀l,0<=bS.pk l
 | []=>Int.le_refl _
 | b::l=>by simp only[bS.pk];omega
theorem El:∀a b,Iw (a++b)=Iw a+Iw b
 | [],b=>by simp[Iw]
 | c::a,b=>by simp only[List.cons_append,Iw,El a b];omega
theorem P7:∀a b,bS.pk (a++b)=max (bS.pk a) (Iw a+bS.pk b)
 | [],b=>by have:=Ag b;simp only[sP,bS.pk,Iw];omega
 | c::a,b=>by simp only[List.cons_append,bS.pk,Iw,P7 a b];omega
theorem Zc:∀{l:List UInt8},(∀b∈l,bS.step b=0)->bS.pk l=0/\Iw l=0
 | [],_=>⟨rfl,rfl⟩
 | b::l,h=>by obtain⟨e,g⟩:=Zc (l:=l) (λc k=>h c<|by simp[k]);have i:=h b cK;simp only[bS.pk,Iw,e,g,i];exact⟨by omega,by omega⟩
theorem P8(t:ByteArray):(Cq t:Int)=bS.pk t.data.toList:=by have:=Ag t.data.toList;unfold Cq;omega
theorem WQ:bS.step 32=0:=by decide
theorem Zd:∀{l:aJ},(∀t∈l,I6 t)->bS.pk (Lib.joinTail [32] (l.map (·.data.toList)))=(jh Cq l:Nat)/\Iw (Lib.joinTail [32] (l.map (·.data.toList)))=0
 | [],_=>⟨rfl,rfl⟩
 | t::l,h=>by obtain⟨h1,h2⟩:=Zd (l:=l) (λc hc=>h c (by simp[hc]));have h3:Iw t.data.toList=0:=h t cK;obtain⟨h4,h5⟩:=eY (P8 t) (Ag t.data.toList);rw[fZ,tail_cons,dF];simp only[bS.pk,Iw,P7,El,h1,h2,h3,WQ];exact⟨by omega,by omega⟩
theorem ah1{l:aJ}(h:∀t∈l,I6 t):bS.pk (Lib.join (l.map (·.data.toList)) [32])=(jh Cq l:Nat)/\Iw (Lib.join (l.map (·.data.toList)) [32])=0:=by
 cases l with
 | nil=>exact⟨rfl,rfl⟩
 | cons t l =>obtain⟨h1,h2⟩:=Zd (l:=l) (λc hc=>h c (by simp[hc]));have h3:Iw t.data.toList=0:=h t cK;have h4:=P8 t;rw[fZ,Lib.join_cons,P7,El,h1,h2,h3,dF];exact⟨by omega,by omega⟩
theorem NR:bS.step 40=1:=by decide
theorem step_shut:bS.step 41=-1:=by decide
theorem lX{l:aJ}(h:∀t∈l,I6 t):Cq (bS.brk l)=1+jh Cq l/\I6 (bS.brk l):=by obtain⟨h1,h2⟩:=ah1 h;have h3:=P8 (bS.brk l);rw[jk]at h3;simp only[bS.pk,P7,h1,h2,NR,step_shut]at h3;refine⟨by omega,?_⟩;unfold I6;rw[jk];simp only[Iw,El,h2,NR,step_shut];omega
theorem iq(h:∀b∈t.data.toList,bS.step b=0):Cq t=0/\I6 t:=by obtain⟨e,g⟩:=Zc h;exact⟨by unfold Cq;rw[e];rfl,g⟩
theorem P9:∀(l:List UInt8) (c:Int),0<=c->(c<bS.pk l↔∃j,j<l.length/\c<Iw (l.take<|j+1))
 | [],c,k=>⟨λh=>by simp only[bS.pk]at h;omega,λ⟨j,e,_⟩=>aM e<|fU _⟩
 | b::l,c,k=>by
  have p:=Ag l;constructor
  ·intro h;simp only[bS.pk]at h;by_cases i:0<=c - bS.step b;·obtain⟨j,e,g⟩:=(P9 l (c - bS.step b) i).1 bC;exact⟨j+1,by simpa using e,by rw[List.take_succ_cons];simp only[Iw];omega⟩
   ·exact⟨0,by simp,by simp only[List.take_succ_cons,List.take_zero,Iw];omega⟩
  ·rintro⟨j,e,g⟩;rw[List.take_succ_cons]at g;simp only[Iw]at g;simp only[bS.pk];cases j with
   | zero=>simp only[List.take_zero,Iw]at g;omega
   | succ j=>
    by_cases i:0<=c - bS.step b;·have:=(P9 l (c - bS.step b) i).2 ⟨j,by simpa using e,by omega⟩;omega
    ·omega
theorem Cr(t:ByteArray):∀j,j<=t.size->y9 t j=Iw (t.data.toList.take j)
 | 0,_=>rfl
 | j+1,g=>by
  have e:j<t.data.toList.length:=by rw[iG];omega
  rw[ZSG t j bC,Cr t j bC,uW e,El];simp only[Iw];have:t[j]=t.data.toList[j]:=rfl;rw[this];omega
theorem aa6(t:ByteArray):DX t=decide (20<Cq t):=by
 have i:=P8 t;by_cases h:20<Cq t;·rw[gW h];obtain⟨j,g,e⟩:=(P9 t.data.toList 20 bC).1 bC;rw[iG]at g;exact aed g (by rw[Cr t (j+1) bC];exact e)
 ·rw[iD h];refine aaR (λj g e=>h ?_);rw[Cr t (j+1) bC]at e;have:=(P9 t.data.toList 20 bC).2 ⟨j,by rw[iG];omega,e⟩;omega
theorem Tz{c:UInt8}(h:iY c=true):bS.step c=0:=by unfold iY at h;simp only[dK,iy]at h;unfold bS.step;rw[aI (by rintro rfl;exact aM h.1 bM),aI (by rintro rfl;exact aM h.1 bM)]
theorem j4{l:List UInt8}(h:bS.dZ l=true):∀b∈l,bS.step b=0:=by unfold bS.dZ at h;simp only[dK]at h;exact λb e=>Tz<|iB.1 h.2 b e
theorem ah2(h:opB s=true):∀b∈s.data.toList,bS.step b=0:=by
 by_cases e:s.size=1
 ·obtain⟨c,rfl⟩:=one_byte e;have:∀c:Fin 256,opB ⟨#[UInt8.ofFin c]⟩=true->bS.step (UInt8.ofFin c)=0:=by decide +kernel
  intro b g;simp at g;subst g;exact this b.toFin h
 ·rw[OC e]at h;cases h
theorem step_dot:bS.step 46=0:=by decide
theorem aa7(h:yB s=true):∀b∈s.data.toList,bS.step b=0:=by
 unfold yB at h;simp only[dK,GK,Bool.not_eq_true']at h;cases p:lI s with
 | none =>have g:=h.1;unfold bS.preS at g;rw[p]at g;exact j4 g
 | some i=>
  have g:=h.1;have e:bS.dZ (uR s).data.toList=true:=by
   rcases h.2 with e|e;·rw[p]at e;cases e
   ·exact e
  unfold bS.preS at g;unfold uR at e;rw[p]at g e;obtain⟨z,r⟩:=bS.find_spec p;intro b w;obtain⟨k,q,rfl⟩:=gU.1 w;have B:k<s.size:=by rw[iG]at q;exact q
  have u:(s.extract 0 i).data.toList=s.data.toList.take i:=by simp[ByteArray.data_extract]
  have v:(s.extract (i+1) s.size).data.toList=s.data.toList.drop (i+1):=by simp[ByteArray.data_extract];exact fQ (by rw[Bo,iG];omega)
  simp only[u]at g;simp only[v]at e;rcases Nat.lt_trichotomy k i with C|rfl|y;·exact j4 g _ (gU.2 ⟨k,by rw[iA];omega,by rw[List.getElem_take]⟩)
  ·have:s.data.toList[k]=46:=by have:=r;simp only[beq_iff_eq]at this;rw[List.getD,aZ q]at this;exact this
   rw[this];exact step_dot
  ·exact j4 e _ (gU.2 ⟨k - (i+1),by rw[Bo];omega,by rw[List.getElem_drop];congr 1;omega⟩)
theorem KL:∀d:Fin 10,bS.step (UInt8.ofNat<|48+d.val)=0:=by decide
theorem aeF:∀(u:Nat),∀b∈Lib.decDigits u,bS.step b=0:=by
 intro u;induction u using Nat.strongRecOn with
 | ind u ih=>
  intro b hb;rw[Lib.decDigits]at hb;split at hb;·rename_i h;rw[dh]at hb;subst hb;exact KL ⟨u,h⟩
  ·rename_i h;rcases bX.1 hb with hb|hb;·exact ih (u / 10) bC b hb
   ·rw[dh]at hb;subst hb;exact KL ⟨u % 10,by omega⟩
theorem aeG(h:0<=n):∀b∈(⟨(Lib.itoa n).toArray⟩:ByteArray).data.toList,bS.step b=0:=by
 intro b g;have e:b∈Lib.itoa n:=by simpa using g
 unfold Lib.itoa at e;rw[aI bC]at e;exact aeF _ b e
theorem zG{α β:Type}{f:β->Nat}{g:α->β}(l:List α):jh f (l.map g)=jh (λy=>f<|g y) l:=by
 induction l with
 | nil=>rfl
 | cons y l e=>rw[fZ,dF,dF,e]
theorem Ct{α:Type}{f g:α->Nat}{l:List α}(h:∀y∈l,f y=g y):jh f l=jh g l:=by
 induction l with
 | nil=>rfl
 | cons y l i=>rw[dF,dF,h y cK,i (λk e=>h k<|by simp[e])]
theorem aa8{α:Type}{f:α->Nat}{l:List α}(h:∀y∈l,f y=0):jh f l=0:=by have:=IY (f:=f) (B:=0) (l:=l) (λy e=>by rw[h y e];omega);omega
theorem tC{α:Type}{f:α->Nat}:jh f []=0:=rfl
theorem Qc:∀(m:Nat) (x:Ex),bS.jo m x=true->Cq (zT m x)=bS.yw m x/\I6 (zT m x)
 | 0,x,h=>by simp[bS.jo]at h
 | m+1,x,h=>by
  rw[GY,dK]at h;obtain⟨e,F⟩:=h;have E:∀y∈x.args,Cq (zT m y)=bS.yw m y/\I6 (zT m y):=λy p=>Qc m y<|iB.1 F y p;unfold BQ at e;by_cases i:x.kind=1;·rw[aK i]at e;simp only[dK,iy]at e;have:=iq<|aeG e.1.1.1;simp only[zT,bS.yw];rw[aK i,aK<|aO i];exact this
  rw[aI i]at e;by_cases k:x.kind=2;·rw[aK k]at e;simp only[dK]at e;have:=iq<|j4 e.1.1;simp only[zT,bS.yw];rw[aI i,aK k,aK<|aQ k];exact this
  rw[aI k]at e;have B:bS.yw (m+1) x=1+jh (bS.yw m) x.args:=by simp only[bS.yw];rw[aI bC]
  have D:zT (m+1) x=x.args.foldl (Fq<|zT m) (Fv x)++(⟨#[41]⟩:ByteArray):=by simp only[zT];rw[aI i,aI k]
  have C:jh Cq (x.args.map<|zT m)=jh (bS.yw m) x.args:=by rw[zG];exact Ct (λy p=>(E y p).1)
  have z:∀t∈x.args.map (zT m),I6 t:=λt g=>by obtain⟨y,p,rfl⟩:=iZ.1 g;exact(E y p).2
  by_cases w:x.kind=3
  ·rw[aK w]at e;simp only[dK]at e;obtain⟨f1,q⟩:=iq<|ah2 e.1.1;rw[D,<-ahC x (zT m) bC,B];obtain⟨r,u⟩:=lX (l:=x.name::x.args.map (zT m)) (λt g=>by
    rcases fV.1 g with rfl|g;·exact q
    ·exact z t g)
   refine⟨?_,u⟩;rw[r,dF,f1,C];omega
  rw[aI w]at e;by_cases v:x.kind=4
  ·rw[aK v]at e;simp only[dK]at e;obtain⟨f1,q⟩:=iq<|aa7 e.1.1;obtain⟨G,H⟩:Cq ⟨#[99,97,108,108]⟩=0/\I6 ⟨#[99,97,108,108]⟩:=iq bM;rw[D,<-aaO x (zT m) v,B];obtain⟨r,u⟩:=lX (l:=⟨#[99,97,108,108]⟩::x.name::x.args.map (zT m)) (λt g=>by
    rcases fV.1 g with rfl|g;·exact H
    ·rcases fV.1 g with rfl|g;·exact q
     ·exact z t g)
   refine⟨?_,u⟩;rw[r,dF,dF,G,f1,C];omega
  rw[aI v]at e;cases e
theorem Qd:∀(m:Nat) (l:List St),bS.j6 m l=true->jh Cq (bS.Me m l)=bS.L6 m l/\∀t∈bS.Me m l,I6 t
 | 0,l,h=>by simp[bS.j6]at h
 | m+1,l,h=>by
  rw[wL]at h;have E:∀s∈l,Cq (stX m s)=bS.Sj m s/\I6 (stX m s):=λs q=>by
   have v:=iB.1 h s q;unfold bS.Vz at v;simp only[dK]at v;obtain⟨⟨⟨g,Q⟩,N⟩,P⟩:=v;obtain⟨u,V⟩:=Qc m s.e Q;obtain⟨C,G⟩:=Qd m s.a N;obtain⟨H,I⟩:=Qd m s.b P;obtain⟨D,R⟩:=lX G;obtain⟨K,S⟩:=lX I;unfold stH at g;by_cases y:s.kind=1\/s.kind=4
   ·rw[aK y]at g;simp only[dK]at g;obtain⟨F,U⟩:=iq<|j4 g.1.1;have p:bS.Sj m s=1+bS.yw m s.e:=by unfold bS.Sj;rw[aI bC]
    rw[p];rcases y with w|w;·rw[<-aee m s w];obtain⟨w1,B⟩:Cq ⟨#[115,101,116]⟩=0/\I6 ⟨#[115,101,116]⟩:=iq bM;obtain⟨i,k⟩:=lX (l:=[⟨#[115,101,116]⟩,s.name,zT m s.e]) (by intro t e;simp only[fV,qZ,or_false]at e;rcases e with rfl|rfl|rfl<;>assumption);refine⟨?_,k⟩;rw[i,dF,dF,dF,tC,w1,F,u];omega
    ·rw[<-Wq m s w];obtain⟨w1,B⟩:Cq ⟨#[112,114,105,110,116]⟩=0/\I6 ⟨#[112,114,105,110,116]⟩:=iq bM;obtain⟨i,k⟩:=lX (l:=[⟨#[112,114,105,110,116]⟩,s.name,zT m s.e]) (by intro t e;simp only[fV,qZ,or_false]at e;rcases e with rfl|rfl|rfl<;>assumption);refine⟨?_,k⟩;rw[i,dF,dF,dF,tC,w1,F,u];omega
   rw[aI y]at g;by_cases z:s.kind=2
   ·have p:bS.Sj m s=1+max (max (bS.yw m s.e)<|1+bS.L6 m s.a) (1+bS.L6 m s.b):=by unfold bS.Sj;rw[aK (aO z)]
    rw[p,<-ahF m s z];obtain⟨w1,B⟩:Cq ⟨#[105,102]⟩=0/\I6 ⟨#[105,102]⟩:=iq bM;obtain⟨i,k⟩:=lX (l:=[⟨#[105,102]⟩,zT m s.e,bS.brk<|bS.Me m s.a,bS.brk<|bS.Me m s.b]) (by intro t e;simp only[fV,qZ,or_false]at e;rcases e with rfl|rfl|rfl|rfl<;>assumption);refine⟨?_,k⟩;rw[i,dF,dF,dF,dF,tC,w1,u,D,K,C,H];omega
   rw[aI z]at g;by_cases r:s.kind=3
   ·rw[aK r]at g;simp only[dK,beq_iff_eq]at g;have L:s.b=[]:=qp.1 g.2;have M:bS.L6 m s.b=0:=by rw[L];cases m<;>rfl
    have p:bS.Sj m s=1+max (max (bS.yw m s.e)<|1+bS.L6 m s.a) (1+bS.L6 m s.b):=by unfold bS.Sj;rw[aK (aQ r)]
    rw[p,<-Ws m s r];obtain⟨w1,B⟩:Cq ⟨#[119,104,105,108,101]⟩=0/\I6 ⟨#[119,104,105,108,101]⟩:=iq bM;obtain⟨i,k⟩:=lX (l:=[⟨#[119,104,105,108,101]⟩,zT m s.e,bS.brk<|bS.Me m s.a]) (by intro t e;simp only[fV,qZ,or_false]at e;rcases e with rfl|rfl|rfl<;>assumption);refine⟨?_,k⟩;rw[i,dF,dF,dF,tC,w1,u,D,C,M];omega
   rw[aI r]at g;cases g
  simp only[bS.Me];rw[JW,zG];refine⟨Ct (λs q=>(E s q).1),λt e=>?_⟩;obtain⟨s,q,rfl⟩:=iZ.1 e;exact(E s q).2
theorem Ze(h:Wp m f=true):Cq (fuX m f)=YK m f/\I6 (fuX m f):=by
 unfold Wp at h;simp only[dK]at h;obtain⟨⟨⟨z,w⟩,C⟩,B⟩:=h;obtain⟨D,E⟩:=iq<|j4 z;obtain⟨q,r⟩:=Qd m f.body w;obtain⟨H,I⟩:=Qc m f.result C;have i:∀p∈f.params,Cq p=0/\I6 p:=λp e=>iq<|j4<|iB.1 B p e;obtain⟨k,F⟩:=lX (l:=f.params) (λp e=>(i p e).2);rw[aa8 (λp e=>(i p e).1)]at k;obtain⟨w1,G⟩:Cq ⟨#[102,117,110]⟩=0/\I6 ⟨#[102,117,110]⟩:=iq bM;have y:[[(⟨#[102,117,110]⟩:ByteArray),f.name,bS.brk f.params],bS.Me m f.body,[zT m f.result]].flatten=⟨#[102,117,110]⟩::f.name::bS.brk f.params::(bS.Me m f.body++[zT m f.result]):=by simp
 unfold fuX;rw[y];obtain⟨u,v⟩:=lX (l:=⟨#[102,117,110]⟩::f.name::bS.brk f.params::(bS.Me m f.body++[zT m f.result])) (by
  intro t g;simp only[fV,bX,qZ,or_false]at g;rcases g with rfl|rfl|rfl|g|rfl;·exact G
  ·exact E
  ·exact F
  ·exact r t g
  ·exact I)
 refine⟨?_,v⟩;rw[u,dF,dF,dF,qC,dF,tC,w1,D,k,q,H];unfold YK;omega
theorem ah4(C:x.bq≠[]->m≠0)(D:bS.kR x.name=true)(B:x.imports.all bS.kR=true)(E:x.vars.all Q6=true)(u:∀f∈x.bq,Wp m f=true):DX (moT m x)=decide (20<moD m x):=by
 rw[aa6,<-akH C];obtain⟨G,H⟩:=iq<|j4 D;have q:∀y∈x.imports,Cq (FY y)=1/\I6 (FY y):=λy e=>by obtain⟨f1,w⟩:=iq<|j4<|iB.1 B y e;obtain⟨w1,p⟩:Cq ⟨#[105,109,112,111,114,116]⟩=0/\I6 ⟨#[105,109,112,111,114,116]⟩:=iq bM;obtain⟨h,k⟩:=lX (l:=[⟨#[105,109,112,111,114,116]⟩,y]) (by intro t g;simp only[fV,qZ,or_false]at g;rcases g with rfl|rfl<;>assumption);refine⟨?_,k⟩;unfold FY;rw[h,dF,dF,tC,w1,f1];omega
 have r:∀y∈x.vars,Cq (vaX y)=1/\I6 (vaX y):=λy e=>by have i:=iB.1 E y e;unfold Q6 at i;simp only[dK]at i;obtain⟨f1,w⟩:=iq<|j4 i.1;obtain⟨v,I⟩:=iq<|j4 i.2;obtain⟨w1,p⟩:Cq ⟨#[118,97,114]⟩=0/\I6 ⟨#[118,97,114]⟩:=iq bM;obtain⟨h,k⟩:=lX (l:=[⟨#[118,97,114]⟩,y.name,y.level]) (by intro t g;simp only[fV,qZ,or_false]at g;rcases g with rfl|rfl|rfl<;>assumption);refine⟨?_,k⟩;unfold vaX;rw[h,dF,dF,dF,tC,w1,f1,v];omega
 obtain⟨w1,p⟩:Cq ⟨#[109,111,100,117,108,101]⟩=0/\I6 ⟨#[109,111,100,117,108,101]⟩:=iq bM;have z:[[(⟨#[109,111,100,117,108,101]⟩:ByteArray),x.name],x.imports.map FY,x.vars.map vaX,x.bq.map<|fuX m].flatten=⟨#[109,111,100,117,108,101]⟩::x.name::(x.imports.map FY++(x.vars.map vaX++x.bq.map (fuX m))):=by simp
 unfold moX;rw[z];obtain⟨h,_⟩:=lX (l:=⟨#[109,111,100,117,108,101]⟩::x.name::(x.imports.map FY++(x.vars.map vaX++x.bq.map (fuX m)))) (by
  intro t g;simp only[fV,bX,iZ]at g;rcases g with rfl|rfl|⟨y,e,rfl⟩|⟨y,e,rfl⟩|⟨y,e,rfl⟩;·exact p
  ·exact H
  ·exact(q y e).2
  ·exact(r y e).2
  ·exact(Ze<|u y e).2)
 have m1:jh Cq (x.imports.map FY)<=1:=by rw[zG];exact IY (λy e=>by rw[(q y e).1];omega)
 have K:jh Cq (x.vars.map vaX)<=1:=by rw[zG];exact IY (λy e=>by rw[(r y e).1];omega)
 have F:jh Cq (x.bq.map<|fuX m)=jh (YK m) x.bq:=by rw[zG];exact Ct (λy e=>(Ze<|u y e).1)
 rw[h,dF,dF,qC,qC,w1,G,F];unfold moD;exact decide_eq_decide.2 bC
namespace bS
def prT(m:Nat)(x:Mo):ByteArray:=if oO m x=0 then moT m x else ⟨#[]⟩
end bS
theorem axp{c:Int}(h:a=b)(e:c=d):dz (.tuple #[A a,O c])=dz (.tuple #[A b,O d]):=by rw[h,e]
theorem aeE(m:Nat)(w:bI)(U S H I K L:aC)(f:Fu)(h:VZ w m U S H I K L f):aD 31 #[.agg #[A f.name,U,S,H,I,K,L]] w λB w'=>B=dz (O<|Q7 m f)/\bK w w':=by
 have E:=Y h;obtain⟨aa,P,Q,R⟩:=h;obtain⟨k,q,rfl,rfl,rfl,rfl⟩:=R.shape;obtain⟨g,r,rfl,ab⟩:=Q.shape;obtain⟨i,p,rfl,ac⟩:=P.shape;clear R Q P;have v:J (Q7 m f=if 4<f.params.length then 2 else if (bS.dZ f.name.data.toList&&bS.j6 m f.body&&bS.jo m f.result&&f.params.all λs=>bS.dZ s.data.toList)then 0 else 5):=rfl;generalize f.result.args.length=le at *;generalize f.body.length=u at *;generalize f.params.length=e at *;have y:=Y<|aH w<|aY #[A f.name,X i e p,X g u r,O f.result.kind,O f.result.n,A f.result.name,X k le q] 82;obtain⟨q0,q1,q2,q3,q4,q5,C⟩:=Ng (akn w (A f.name) (X i e p) (X g u r) (O f.result.kind) (O f.result.n) (A f.result.name) (X k le q) 82) (ako w (A f.name) (X i e p) (X g u r) (O f.result.kind) (O f.result.n) (A f.result.name) (X k le q) 82) (Qk w (A f.name) (X i e p) (X g u r) (O f.result.kind) (O f.result.n) (A f.result.name) (X k le q) 82) (JQ w (A f.name) (X i e p) (X g u r) (O f.result.kind) (O f.result.n) (A f.result.name) (X k le q) 82) (YJ w (A f.name) (X i e p) (X g u r) (O f.result.kind) (O f.result.n) (A f.result.name) (X k le q) 82) (Mj w (A f.name) (X i e p) (X g u r) (O f.result.kind) (O f.result.n) (A f.result.name) (X k le q) 82)<|UR w (A f.name) (X i e p) (X g u r) (O f.result.kind) (O f.result.n) (A f.result.name) (X k le q) 82;by_cases M:4<e;·rw[aK M]at v;clear q0 q1 q2 q3 q4 q5 C;go_enter func31,ntmps31;go_wp2;go_ret;exact⟨bZ v.symm,y⟩
 rw[aI M]at v;go_enter func31,ntmps31;go_wp2_with fail;refine(kE _ f.name aa).mono ?_;rintro B w1 ⟨rfl,F⟩;subst F;generalize (w.alloc<|aY #[A f.name,X i e p,X g u r,O f.result.kind,O f.result.n,A f.result.name,X k le q] 82)=W0 at *;generalize bS.dZ f.name.data.toList=V at *;cases V;·go_wp2;go_ret;exact⟨bZ (by rw[v];rfl),y⟩
 go_wp2_with fail;refine(Dk _ _ f.params (E.below y).2.1).mono ?_;rintro B w1 ⟨rfl,F⟩;subst F;generalize (f.params.all λs=>bS.dZ s.data.toList)=W at *;cases W;·go_wp2;go_ret;exact⟨bZ (by rw[v,Sg];rfl),y⟩
 go_wp2_with fail;refine(aln m _ _ f.body (E.below y).2.2.1).mono ?_;rintro B w1 ⟨rfl,z⟩;replace q3:=aG q3 z;replace q4:=aG q4 z;replace q5:=aG q5 z;replace C:=aG C z;have D:=Y<|up y z;clear z q0 q1 q2;generalize bS.j6 m f.body=Z at *;cases Z;·go_wp2;go_ret;exact⟨bZ (by rw[v];rfl),D⟩
 go_wp2_with fail;refine(JV m _ _ _ _ _ f.result (E.below D).2.2.2).mono ?_;rintro B w2 ⟨rfl,N⟩;have G:=Y<|up D N;clear N q3 q4 q5 C;generalize bS.jo m f.result=b4 at *;cases b4;·go_wp2;go_ret;exact⟨bZ (by rw[v];rfl),G⟩
 ·go_wp2;go_ret;exact⟨bZ (by rw[v];rfl),G⟩
theorem WR(h:Q7 m f=0):Wp m f=true:=by
 unfold Q7 at h;split at h;·cases h
 ·split at h;·assumption
  ·cases h
theorem uP:∀{l:List Fu},uZ m l=0->∀f∈l,Q7 m f=0
 | [],_,f,e=>by cases e
 | g::l,h,f,e=>by
  simp only[uZ]at h;by_cases hg:Q7 m g=0
  ·rw[aK hg]at h;rcases fV.1 e with rfl|e;·exact hg
   ·exact uP h f e
  ·rw[aI hg]at h;exact aM h hg
theorem aa9{w:bI}{v:aC}{l:List Fu}(h:mE w m v l):l≠[]->m≠0:=by rintro i rfl;obtain⟨a,b,off,cap,_,_,_,e⟩:=h;obtain⟨f,g⟩:∃f,l[0]?=some f:=⟨_,aZ<|vO.2 i⟩;obtain⟨_,z,y,p,q,r,u,_,_,_,_,_,_,_,_,k,_⟩:=e 0 f g;exact k
theorem tF(m:Nat)(w:bI)(v:aC)(x:Mo)(h:jl w m v x)(hw:xH m x<=1365000)(_ht:Tab w):aD 12 #[v] w λk w'=>k=dz (O<|oO m x)/\bK w w':=by
 have S:=Y (λW (I:J (bK w W))=>agT m W v x (h.below I) hw);obtain⟨vi,vv,vf,rfl,ay,hI,hV,hF⟩:=h;have ap:=aa9 hF
 have ag:J (bS.kR x.name=true->x.imports.all bS.kR=true->x.vars.all Q6=true->uZ m x.bq=0->DX (moT m x)=decide (20<moD m x)):=
  λh1 h2 h3 h4=>ah4 ap h1 h2 h3 (λf hf=>WR<|uP h4 f hf)
 have e:J (oO m x=if 8<x.imports.length\/8<x.vars.length\/8<x.bq.length then 2 else if ((bS.kR x.name&&x.imports.all bS.kR)&&x.vars.all Q6)=false then 5
  else if uZ m x.bq≠0 then uZ m x.bq else if DX (moT m x)then 2 else 0):=rfl
 have ar:=Y (λW (I:J (bK w W))=>Dk W vi x.imports<|hI.below I);have au:=Y (λW (I:J (bK w W))=>akx W vv x.vars<|hV.below I);obtain⟨B,ci,rfl,a5⟩:=hI.shape;obtain⟨C,D,rfl,a6⟩:∃a c,vv=X a x.vars.length c/\x.vars.length<=9223372036854775807:=by obtain⟨a,_,_,c,k,_,V,_⟩:=hV;exact⟨a,c,k,V⟩
 obtain⟨a,b,off,cap,rfl,ha,hl,ao⟩:=hF;obtain⟨j5,R⟩:=bV ao ha;clear hI hV ao ha ap hw;obtain⟨l,ab⟩:=aV x.bq;rw[<-ab]at j5 R hl e ag S ⊢;clear ab;obtain⟨len,ac⟩:=aV l.length;have HL:=Y ac;rw[<-ac]at hl R e S ⊢;clear ac;generalize x.imports.length=li at *;generalize x.vars.length=lv at *;have q:=Y<|aH w<|aY #[A x.name,X B li ci,X C lv D,X a len cap] 47;obtain⟨q0,q1,q2,q3⟩:=rY (am6 w (A x.name) (X B li ci) (X C lv D) (X a len cap) 47) (am7 w (A x.name) (X B li ci) (X C lv D) (X a len cap) 47) (am8 w (A x.name) (X B li ci) (X C lv D) (X a len cap) 47)<|am9 w (A x.name) (X B li ci) (X C lv D) (X a len cap) 47;by_cases F:8<li\/8<lv\/8<len
 ·rw[aK F]at e;clear q0 q1 q2 q3;by_cases b1:8<li;·clear F;go_enter func12,ntmps12;go_wp2;go_ret;exact⟨bZ e.symm,q⟩
  ·by_cases b2:8<lv;·clear F;go_enter func12,ntmps12;go_wp2;go_ret;exact⟨bZ e.symm,q⟩
   ·have b3:8<len:=by omega
    clear F;go_enter func12,ntmps12;go_wp2;go_ret;exact⟨bZ e.symm,q⟩
 rw[aI F]at e;have b1:¬8<li:=by omega
 have b2:¬8<lv:=by omega
 have b3:¬8<len:=by omega
 clear F;go_enter func12,ntmps12;go_wp2_with fail;refine(kE _ x.name ay).mono ?_;rintro k w1 ⟨rfl,af⟩;subst af;generalize (w.alloc<|aY #[A x.name,X B li ci,X C lv D,X a len cap] 47)=W0 at *;cases hn:bS.dZ x.name.data.toList;·have z:J (bS.kR x.name=false):=hn;go_wp2;go_ret;exact⟨bZ (by rw[e,z];rfl),q⟩
 have z:J (bS.kR x.name=true):=hn;go_wp2_with fail;refine(ar _ q).mono ?_;rintro k w1 ⟨rfl,af⟩;subst af;cases hi:(x.imports.all λs=>bS.dZ s.data.toList);·have H:J (x.imports.all bS.kR=false):=hi;go_wp2;go_ret;exact⟨bZ (by rw[e,z,H];rfl),q⟩
 have H:J (x.imports.all bS.kR=true):=hi;go_wp2_with fail;refine(au _ q).mono ?_;rintro k W1 ⟨rfl,hb1⟩;replace q0:=aG q0 hb1;replace q1:=aG q1 hb1;replace q2:=aG q2 hb1;replace q3:=aG q3 hb1;have K:=Y<|up q hb1;clear hb1 hn hi;cases hv:(x.vars.all λs=>bS.dZ s.name.data.toList&&bS.dZ s.level.data.toList);·have N:J (x.vars.all Q6=false):=hv;go_wp2;go_ret;exact⟨bZ (by rw[e,z,H,N];rfl),K⟩
 have N:J (x.vars.all Q6=true):=hv;have ah:J (oO m x=if uZ m l≠0 then uZ m l else if DX (moT m x)then 2 else 0):=Y (by rw[e,z,H,N];rfl);clear hv;go_wp2;go_loopw[41] (λi wr=>∃j:Nat,j<=len/\i=O j/\(∀d u,d<j->l[d]?=some u->Q7 m u=0)/\bK W1 wr) (λi _=>len - (intOf i).toNat);exact⟨0,bN _,rfl,λd u r=>aM r<|fU _,bQ _ _⟩
 obtain⟨j,hj,rfl,ak,p⟩:=hrel;have Z:=Y ak;clear ak;by_cases ax:j<len
 ·obtain⟨y,hy⟩:∃y,l[j]?=some y:=⟨_,aZ (by rw[<-HL];exact ax)⟩;obtain⟨k1,vp,vb,e0,e1,V,e3,g0,g1,g2,g3,g4,g5,g6,hp,ad,hx⟩:=j5 j y hy;have HY:=Y hy;obtain rfl:=R bC;have g:=up K p;obtain⟨u0,u1⟩:=eY (aG g0 g)<|aG g1 g;have az:=aG g2 g;have YH:=aG g3 g;obtain⟨u4,u5,u6⟩:=lS (aG g4 g) (aG g5 g)<|aG g6 g;have aq:J (VZ wr m vp vb e0 e1 V e3 y):=Y ⟨k1,hp.below g,ad.below g,hx.below g⟩;obtain⟨ae,ce,rfl,rfl,rfl,rfl⟩:=hx.shape;obtain⟨a1,kP,rfl,a3⟩:=ad.shape;obtain⟨a2,aE,rfl,a4⟩:=hp.shape;have P:=Y p;clear g0 g1 g2 g3 g4 g5 g6 hx ad hp hy p g q0 q1 q2 q3;go_wp2_with fail;refine(aeE m _ _ _ _ _ _ _ y<|aq.below<|aH _ _).mono ?_;rintro k w5 ⟨rfl,al⟩;have CW:=Y<|up P<|Z7 al;clear al;obtain⟨E,hE⟩:=aV<|Q7 m y;have M:=Y hE;rw[<-hE];clear hE;by_cases Q:E=0
  ·subst Q;go_wp2;go_roundw;exact⟨j+1,by omega,by go_num,λd u r G=>by
    by_cases k:d=j;·subst k;rw[HY]at G;cases G;exact M.symm
    ·exact Z d u bC G,CW⟩
   exact gV
  ·have a0:=eO Q;have H0:=Y Q;clear Q;go_wp2;go_ret;exact⟨bZ (by rw[ah,YV Z HY (by rw[<-M];exact H0),aK (by rw[<-M];exact H0)];exact M),up K CW⟩
 ·have aa:uZ m l=0:=NG (λd u G=>Z d u (by have:=(cO.1 G).1;have:=HL.out;omega) G);have HD:=Y<|ag z H N aa;have L:J (oO m x=if 20<moD m x then 2 else 0):=Y (by rw[ah,aa,HD];simp);obtain⟨u0,u1⟩:=eY (aG q0 p)<|aG q1 p;have az:=aG q2 p;have YH:=aG q3 p;have P:=Y<|up K p;clear p q0 q1 q2 q3 aa;go_wp2_with fail;refine(S _ P).mono ?_;rintro k w6 ⟨rfl,am⟩;have fD:=Y<|up P am;clear am;generalize moD m x=U at *;by_cases r:20<U
  ·rw[aK r]at L;have aw:(U:Int) > 20:=by omega
   clear r;go_wp2;go_ret;exact⟨bZ L.symm,fD⟩
  ·rw[aI r]at L;have aw:¬((U:Int) > 20):=by omega
   clear r;go_wp2;go_ret;exact⟨bZ L.symm,fD⟩
theorem akT(h:oO m x=0):∀f∈x.bq,bS.j6 m f.body=true/\bS.jo m f.result=true:=by
 have i:uZ m x.bq=0:=by
  unfold oO at h;split at h;·cases h
  ·split at h;·cases h
   ·split at h;·rename_i g;exact aM h g
    ·rename_i g;exact Classical.byContradiction g
 intro f k;have e:=WR<|uP i f k;unfold Wp at e;simp only[dK]at e;exact⟨e.1.1.2,e.1.2⟩
theorem ayE(m:Nat)(w:bI)(v:aC)(x:Mo)(h:jl w m v x)(P:xH m x<=1365000)(N:Tab w):aD 22 #[v] w λe w'=>e=dz (.tuple #[A (prT m x),O<|oO m x])/\bK w w':=by
 have H:=Y h;have S:J (oO m x=0->∀f∈x.bq,bS.j6 m f.body=true/\bS.jo m f.result=true):=Y akT;obtain⟨vi,V,U,rfl,_,K,L,I⟩:=h;obtain⟨i,ci,rfl,aa⟩:=K.shape;obtain⟨k,q,rfl⟩:∃a c,V=X a x.vars.length c:=by obtain⟨a,_,_,c,e,_⟩:=L;exact⟨a,c,e⟩
 obtain⟨g,p,rfl⟩:∃a c,U=X a x.bq.length c:=by obtain⟨a,_,_,c,e,_⟩:=I;exact⟨a,c,e⟩
 clear K L I;generalize x.imports.length=y at *;generalize x.vars.length=z at *;generalize x.bq.length=u at *;have E:=Y<|aH w<|aY #[A x.name,X i y ci,X k z q,X g u p] 47;obtain⟨q0,q1,q2,q3⟩:=rY (am6 w (A x.name) (X i y ci) (X k z q) (X g u p) 47) (am7 w (A x.name) (X i y ci) (X k z q) (X g u p) 47) (am8 w (A x.name) (X i y ci) (X k z q) (X g u p) 47)<|am9 w (A x.name) (X i y ci) (X k z q) (X g u p) 47;go_enter func22,ntmps22;go_wp2_with fail;generalize w.alloc (aY #[A x.name,X i y ci,X k z q,X g u p] 47)=W at *;refine(tF m _ _ x (H.below E) P<|N.below E).mono ?_;rintro e w5 ⟨rfl,r⟩;replace q0:=aG q0 r;replace q1:=aG q1 r;replace q2:=aG q2 r;replace q3:=aG q3 r;have C:=Y<|up E r;clear r;have B:J (prT m x=if oO m x=0 then moT m x else ⟨#[]⟩):=rfl;obtain⟨Q,G⟩:=aV<|oO m x;have F:=Y G;rw[<-G]at B ⊢;clear G;by_cases D:Q=0;·subst D;rw[aK rfl]at B;go_wp2_with fail;refine(aw2 m _ _ x (H.below C) (S F.symm) P<|N.below C).mono ?_;rintro e w6 ⟨rfl,M⟩;have R:=Y<|up C M;clear M;go_wp2;go_ret2;exact⟨axp B.symm F,R.out⟩
 ·rw[aI D]at B;have Z:=eO D;clear D;go_wp2;go_ret2;exact⟨axp B.symm F,C⟩
namespace bO
def um(m:Nat):List Mo->Int
 | []=>0
 | x::r=>if oO m x=0 then um m r else oO m x
def AO(e:Int)(m:Nat)(x:Mo)(known:List Mo):Int:=if e=0 then (if oO m x=0 then um m known else oO m x)else e
theorem KM(h:∀x∈l,oO m x=0):um m l=0:=by
 induction l with
 | nil=>rfl
 | cons x r g =>unfold um;rw[aK (h x cK),g (λy e=>h y<|by simp[e])]
theorem Cu(e:l[j]?=some x)(h:∀(q:Nat) y,q<j->l[q]?=some y->oO m y=0)(g:oO m x≠0):um m l=oO m x:=by
 induction l generalizing j with
 | nil=>simp at e
 | cons y r k=>
  cases j with
  | zero=>simp at e;subst e;unfold um;rw[aI g]
  | succ j =>unfold um;rw[aK (h 0 y bC cK),k (j:=j) (by simpa using e) (λq p u i=>h (q+1) p bC<|by simpa using i)]
end bO
open Go.Maps
namespace Rn
end Rn
namespace Rn
end Rn
namespace Rn
end Rn
namespace Rn
end Rn
namespace Rn
end Rn
namespace Rn
end Rn
