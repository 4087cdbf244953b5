import Derived.Test.YtajaekfdcpjjfaaGreatDoorDZAY
import Derived.Test.YtajaekfdcpjjfaaGreatDoorDZAZ
set_option maxHeartbeats 0
set_option maxRecDepth 99999
namespace Go.Proofs.YtajaekfdcpjjfaaGreatDoor
open bS
open Go.Proofs.Tryz
open Go.RowKit
namespace bS
def Iw:List UInt8->Int
 | []=>0
 | b::l=>step b+Iw l
def pk:List UInt8->Int
 | []=>0
 | b::l=>max 0 (step b+pk l)
def Cq(t:ByteArray):Nat:=(pk t.data.toList).toNat
def I6(t:ByteArray):Prop:=Iw t.data.toList=0
end bS
variable{l:List Mo}{t s:aS}{m j:Nat}{f:Fu}{x:Mo}
theorem Ag:∀l,0<=bS.pk l
 | []=>Int.le_refl _
 | b::l=>by simp only[bS.pk];omega
theorem El:∀a b,Iw (a++b)=Iw a+Iw b
 | [],b=>by simp[Iw]
 | c::a,b=>by simp only[List.cons_append,Iw,El a b];omega
theorem P7:∀a b,bS.pk (a++b)=max (bS.pk a) (Iw a+bS.pk b)
 | [],b=>by have:=Ag b;simp only[sP,bS.pk,Iw];omega
 | c::a,b=>by simp only[List.cons_append,bS.pk,Iw,P7 a b];omega
theorem Zc:∀{l:List UInt8},(∀b∈l,bS.step b=0)->bS.pk l=0/\Iw l=0
 | [],_=>⟨rfl,rfl⟩
 | b::l,a=>by obtain⟨d,e⟩:=Zc (l:=l) (λc h=>a c<|by simp[h]);have g:=a b cK;simp only[bS.pk,Iw,d,e,g];exact⟨by omega,by omega⟩
theorem P8(t:aS):(Cq t:Int)=bS.pk t.data.toList:=by have:=Ag t.data.toList;unfold Cq;omega
theorem WQ:bS.step 32=0:=by decide
theorem Zd:∀{l:aJ},(∀t∈l,I6 t)->bS.pk (Lib.joinTail [32] (l.map (·.data.toList)))=(jh Cq l:Nat)/\Iw (Lib.joinTail [32] (l.map (·.data.toList)))=0
 | [],_=>⟨rfl,rfl⟩
 | t::l,h=>by obtain⟨h1,h2⟩:=Zd (l:=l) (λc hc=>h c (by simp[hc]));have h3:Iw t.data.toList=0:=h t cK;obtain⟨h4,h5⟩:=eY (P8 t) (Ag t.data.toList);rw[fZ,tail_cons,dF];simp only[bS.pk,Iw,P7,El,h1,h2,h3,WQ];exact⟨by omega,by omega⟩
theorem ah1{l:aJ}(h:∀t∈l,I6 t):bS.pk (Lib.join (l.map (·.data.toList)) [32])=(jh Cq l:Nat)/\Iw (Lib.join (l.map (·.data.toList)) [32])=0:=by
 cases l with
 | nil=>exact⟨rfl,rfl⟩
 | cons t l =>obtain⟨h1,h2⟩:=Zd (l:=l) (λc hc=>h c (by simp[hc]));have h3:Iw t.data.toList=0:=h t cK;have h4:=P8 t;rw[fZ,Lib.join_cons,P7,El,h1,h2,h3,dF];exact⟨by omega,by omega⟩
theorem NR:bS.step 40=1:=by decide
theorem step_shut:bS.step 41=-1:=by decide
theorem lX{l:aJ}(h:∀t∈l,I6 t):Cq (bS.brk l)=1+jh Cq l/\I6 (bS.brk l):=by obtain⟨h1,h2⟩:=ah1 h;have h3:=P8 (bS.brk l);rw[jk]at h3;simp only[bS.pk,P7,h1,h2,NR,step_shut]at h3;refine⟨by omega,?_⟩;unfold I6;rw[jk];simp only[Iw,El,h2,NR,step_shut];omega
theorem iq(a:∀b∈t.data.toList,bS.step b=0):Cq t=0/\I6 t:=by obtain⟨c,d⟩:=Zc a;exact⟨by unfold Cq;rw[c];rfl,d⟩
theorem P9:∀(l:List UInt8) (c:Int),0<=c->(c<bS.pk l↔∃j,j<l.length/\c<Iw (l.take<|j+1))
 | [],c,h=>⟨λe=>by simp only[bS.pk]at e;omega,λ⟨j,a,_⟩=>aM a<|fU _⟩
 | b::l,c,h=>by
  have i:=Ag l;constructor
  ·intro e;simp only[bS.pk]at e;by_cases g:0<=c - bS.step b;·obtain⟨j,a,d⟩:=(P9 l (c - bS.step b) g).1 bC;exact⟨j+1,by simpa using a,by rw[List.take_succ_cons];simp only[Iw];omega⟩
   ·exact⟨0,by simp,by simp only[List.take_succ_cons,List.take_zero,Iw];omega⟩
  ·rintro⟨j,a,d⟩;rw[List.take_succ_cons]at d;simp only[Iw]at d;simp only[bS.pk];cases j with
   | zero=>simp only[List.take_zero,Iw]at d;omega
   | succ j=>
    by_cases g:0<=c - bS.step b;·have:=(P9 l (c - bS.step b) g).2 ⟨j,by simpa using a,by omega⟩;omega
    ·omega
theorem Cr(t:aS):∀j,j<=t.size->y9 t j=Iw (t.data.toList.take j)
 | 0,_=>rfl
 | j+1,b=>by
  have a:j<t.data.toList.length:=by rw[iG];omega
  rw[ZSG t j bC,Cr t j bC,uW a,El];simp only[Iw];have:t[j]=t.data.toList[j]:=rfl;rw[this];omega
theorem aa6(t:aS):DX t=decide (20<Cq t):=by
 have d:=P8 t;by_cases b:20<Cq t;·rw[gW b];obtain⟨j,c,a⟩:=(P9 t.data.toList 20 bC).1 bC;rw[iG]at c;exact aed c (by rw[Cr t (j+1) bC];exact a)
 ·rw[iD b];refine aaR (λj c a=>b ?_);rw[Cr t (j+1) bC]at a;have:=(P9 t.data.toList 20 bC).2 ⟨j,by rw[iG];omega,a⟩;omega
theorem Tz{c:UInt8}(h:iY c=true):bS.step c=0:=by unfold iY at h;simp only[dK,iy]at h;unfold bS.step;rw[aI (by rintro rfl;exact aM h.1 bM),aI (by rintro rfl;exact aM h.1 bM)]
theorem j4{l:List UInt8}(a:dZ l=true):∀b∈l,bS.step b=0:=by unfold dZ at a;simp only[dK]at a;exact λb c=>Tz<|iB.1 a.2 b c
theorem ah2(a:opB s=true):∀b∈s.data.toList,bS.step b=0:=by
 by_cases d:s.size=1
 ·obtain⟨c,rfl⟩:=one_byte d;have:∀c:Fin 256,opB ⟨#[UInt8.ofFin c]⟩=true->bS.step (UInt8.ofFin c)=0:=by decide +kernel
  intro b e;simp at e;subst e;exact this b.toFin a
 ·rw[OC d]at a;cases a
theorem step_dot:bS.step 46=0:=by decide
theorem aa7(d:yB s=true):∀b∈s.data.toList,bS.step b=0:=by
 unfold yB at d;simp only[dK,GK,Bool.not_eq_true']at d;cases e:lI s with
 | none =>have c:=d.1;unfold bS.preS at c;rw[e]at c;exact j4 c
 | some i=>
  have c:=d.1;have a:dZ (uR s).data.toList=true:=by
   rcases d.2 with a|a;·rw[e]at a;cases a
   ·exact a
  unfold bS.preS at c;unfold uR at a;rw[e]at c a;obtain⟨r,h⟩:=bS.find_spec e;intro b p;obtain⟨k,g,rfl⟩:=gU.1 p;have u:k<s.size:=by rw[iG]at g;exact g
  have n:(s.extract 0 i).data.toList=s.data.toList.take i:=by simp[ByteArray.data_extract]
  have o:(s.extract (i+1) s.size).data.toList=s.data.toList.drop (i+1):=by simp[ByteArray.data_extract];exact fQ (by rw[Bo,iG];omega)
  simp only[n]at c;simp only[o]at a;rcases Nat.lt_trichotomy k i with v|rfl|q;·exact j4 c _<|gU.2 ⟨k,by rw[iA];omega,by rw[List.getElem_take]⟩
  ·have:s.data.toList[k]=46:=by have:=h;simp only[beq_iff_eq]at this;rw[List.getD,aZ g]at this;exact this
   rw[this];exact step_dot
  ·exact j4 a _<|gU.2 ⟨k - (i+1),by rw[Bo];omega,by rw[List.getElem_drop];congr 1;omega⟩
theorem KL:∀d:Fin 10,bS.step (UInt8.ofNat<|48+d.val)=0:=by decide
theorem aeF:∀(u:Nat),∀b∈Lib.decDigits u,bS.step b=0:=by
 intro u;induction u using Nat.strongRecOn with
 | ind u ih=>
  intro b hb;rw[Lib.decDigits]at hb;split at hb;·rename_i h;rw[dh]at hb;subst hb;exact KL ⟨u,h⟩
  ·rename_i h;rcases bX.1 hb with hb|hb;·exact ih (u / 10) bC b hb
   ·rw[dh]at hb;subst hb;exact KL ⟨u % 10,by omega⟩
theorem aeG{n:Int}(d:0<=n):∀b∈(⟨(Lib.itoa n).toArray⟩:aS).data.toList,bS.step b=0:=by
 intro b c;have a:b∈Lib.itoa n:=by simpa using c
 unfold Lib.itoa at a;rw[aI bC]at a;exact aeF _ b a
theorem zG{α β:Type}{f:β->Nat}{g:α->β}(l:List α):jh f (l.map g)=jh (λy=>f<|g y) l:=by
 induction l with
 | nil=>rfl
 | cons y l a=>rw[fZ,dF,dF,a]
theorem Ct{α:Type}{f g:α->Nat}{l:List α}(a:∀y∈l,f y=g y):jh f l=jh g l:=by
 induction l with
 | nil=>rfl
 | cons y l c=>rw[dF,dF,a y cK,c (λd b=>a d<|by simp[b])]
theorem aa8{α:Type}{f:α->Nat}{l:List α}(a:∀y∈l,f y=0):jh f l=0:=by have:=IY (f:=f) (B:=0) (l:=l) (λy b=>by rw[a y b];omega);omega
theorem tC{α:Type}{f:α->Nat}:jh f []=0:=rfl
theorem Qc:∀(m:Nat) (x:Ex),jo m x=true->Cq (zT m x)=yw m x/\I6 (zT m x)
 | 0,x,g=>by simp[jo]at g
 | m+1,x,g=>by
  rw[GY,dK]at g;obtain⟨a,w⟩:=g;have v:∀y∈x.args,Cq (zT m y)=yw m y/\I6 (zT m y):=λy e=>Qc m y<|iB.1 w y e;unfold BQ at a;by_cases c:x.kind=1;·rw[aK c]at a;simp only[dK,iy]at a;have:=iq<|aeG a.1.1.1;simp only[zT,yw];rw[aK c,aK<|aO c];exact this
  rw[aI c]at a;by_cases d:x.kind=2;·rw[aK d]at a;simp only[dK]at a;have:=iq<|j4 a.1.1;simp only[zT,yw];rw[aI c,aK d,aK<|aQ d];exact this
  rw[aI d]at a;have q:yw (m+1) x=1+jh (yw m) x.args:=by simp only[yw];rw[aI bC]
  have u:zT (m+1) x=x.args.foldl (Fq<|zT m) (Fv x)++(⟨#[41]⟩:aS):=by simp only[zT];rw[aI c,aI d]
  have r:jh Cq (x.args.map<|zT m)=jh (yw m) x.args:=by rw[zG];exact Ct (λy e=>(v y e).1)
  have p:∀t∈x.args.map (zT m),I6 t:=λt b=>by obtain⟨y,e,rfl⟩:=iZ.1 b;exact(v y e).2
  by_cases o:x.kind=3
  ·rw[aK o]at a;simp only[dK]at a;obtain⟨f1,h⟩:=iq<|ah2 a.1.1;rw[u,<-ahC x (zT m) bC,q];obtain⟨i,k⟩:=lX (l:=x.name::x.args.map (zT m)) (λt b=>by
    rcases fV.1 b with rfl|b;·exact h
    ·exact p t b)
   refine⟨?_,k⟩;rw[i,dF,f1,r];omega
  rw[aI o]at a;by_cases n:x.kind=4
  ·rw[aK n]at a;simp only[dK]at a;obtain⟨f1,h⟩:=iq<|aa7 a.1.1;obtain⟨z,B⟩:Cq ⟨#[99,97,108,108]⟩=0/\I6 ⟨#[99,97,108,108]⟩:=iq bM;rw[u,<-aaO x (zT m) n,q];obtain⟨i,k⟩:=lX (l:=⟨#[99,97,108,108]⟩::x.name::x.args.map (zT m)) (λt b=>by
    rcases fV.1 b with rfl|b;·exact B
    ·rcases fV.1 b with rfl|b;·exact h
     ·exact p t b)
   refine⟨?_,k⟩;rw[i,dF,dF,z,f1,r];omega
  rw[aI n]at a;cases a
theorem Qd:∀(m:Nat) (l:List St),j6 m l=true->jh Cq (Me m l)=L6 m l/\∀t∈Me m l,I6 t
 | 0,l,h=>by simp[j6]at h
 | m+1,l,h=>by
  rw[wL]at h;have w:∀s∈l,Cq (stX m s)=Sj m s/\I6 (stX m s):=λs g=>by
   have n:=iB.1 h s g;unfold Vz at n;simp only[dK]at n;obtain⟨⟨⟨b,I⟩,G⟩,H⟩:=n;obtain⟨k,N⟩:=Qc m s.e I;obtain⟨u,z⟩:=Qd m s.a G;obtain⟨B,C⟩:=Qd m s.b H;obtain⟨v,K⟩:=lX z;obtain⟨D,L⟩:=lX C;unfold stH at b;by_cases p:s.kind=1\/s.kind=4
   ·rw[aK p]at b;simp only[dK]at b;obtain⟨y,M⟩:=iq<|j4 b.1.1;have e:Sj m s=1+yw m s.e:=by unfold Sj;rw[aI bC]
    rw[e];rcases p with o|o;·rw[<-aee m s o];obtain⟨w1,r⟩:Cq ⟨#[115,101,116]⟩=0/\I6 ⟨#[115,101,116]⟩:=iq bM;obtain⟨c,d⟩:=lX (l:=[⟨#[115,101,116]⟩,s.name,zT m s.e]) (by intro t a;simp only[fV,qZ,or_false]at a;rcases a with rfl|rfl|rfl<;>assumption);refine⟨?_,d⟩;rw[c,dF,dF,dF,tC,w1,y,k];omega
    ·rw[<-Wq m s o];obtain⟨w1,r⟩:Cq ⟨#[112,114,105,110,116]⟩=0/\I6 ⟨#[112,114,105,110,116]⟩:=iq bM;obtain⟨c,d⟩:=lX (l:=[⟨#[112,114,105,110,116]⟩,s.name,zT m s.e]) (by intro t a;simp only[fV,qZ,or_false]at a;rcases a with rfl|rfl|rfl<;>assumption);refine⟨?_,d⟩;rw[c,dF,dF,dF,tC,w1,y,k];omega
   rw[aI p]at b;by_cases q:s.kind=2
   ·have e:Sj m s=1+max (max (yw m s.e)<|1+L6 m s.a) (1+L6 m s.b):=by unfold Sj;rw[aK (aO q)]
    rw[e,<-ahF m s q];obtain⟨w1,r⟩:Cq ⟨#[105,102]⟩=0/\I6 ⟨#[105,102]⟩:=iq bM;obtain⟨c,d⟩:=lX (l:=[⟨#[105,102]⟩,zT m s.e,bS.brk<|Me m s.a,bS.brk<|Me m s.b]) (by intro t a;simp only[fV,qZ,or_false]at a;rcases a with rfl|rfl|rfl|rfl<;>assumption);refine⟨?_,d⟩;rw[c,dF,dF,dF,dF,tC,w1,k,v,D,u,B];omega
   rw[aI q]at b;by_cases i:s.kind=3
   ·rw[aK i]at b;simp only[dK,beq_iff_eq]at b;have E:s.b=[]:=qp.1 b.2;have F:L6 m s.b=0:=by rw[E];cases m<;>rfl
    have e:Sj m s=1+max (max (yw m s.e)<|1+L6 m s.a) (1+L6 m s.b):=by unfold Sj;rw[aK (aQ i)]
    rw[e,<-Ws m s i];obtain⟨w1,r⟩:Cq ⟨#[119,104,105,108,101]⟩=0/\I6 ⟨#[119,104,105,108,101]⟩:=iq bM;obtain⟨c,d⟩:=lX (l:=[⟨#[119,104,105,108,101]⟩,zT m s.e,bS.brk<|Me m s.a]) (by intro t a;simp only[fV,qZ,or_false]at a;rcases a with rfl|rfl|rfl<;>assumption);refine⟨?_,d⟩;rw[c,dF,dF,dF,tC,w1,k,v,u,F];omega
   rw[aI i]at b;cases b
  simp only[Me];rw[JW,zG];refine⟨Ct (λs g=>(w s g).1),λt a=>?_⟩;obtain⟨s,g,rfl⟩:=iZ.1 a;exact(w s g).2
theorem Ze(c:Wp m f=true):Cq (fuX m f)=YK m f/\I6 (fuX m f):=by
 unfold Wp at c;simp only[dK]at c;obtain⟨⟨⟨q,n⟩,u⟩,r⟩:=c;obtain⟨v,w⟩:=iq<|j4 q;obtain⟨g,h⟩:=Qd m f.body n;obtain⟨B,C⟩:=Qc m f.result u;have d:∀p∈f.params,Cq p=0/\I6 p:=λp a=>iq<|j4<|iB.1 r p a;obtain⟨e,y⟩:=lX (l:=f.params) (λp a=>(d p a).2);rw[aa8 (λp a=>(d p a).1)]at e;obtain⟨w1,z⟩:Cq ⟨#[102,117,110]⟩=0/\I6 ⟨#[102,117,110]⟩:=iq bM;have o:[[(⟨#[102,117,110]⟩:aS),f.name,bS.brk f.params],Me m f.body,[zT m f.result]].flatten=⟨#[102,117,110]⟩::f.name::bS.brk f.params::(Me m f.body++[zT m f.result]):=by simp
 unfold fuX;rw[o];obtain⟨i,k⟩:=lX (l:=⟨#[102,117,110]⟩::f.name::bS.brk f.params::(Me m f.body++[zT m f.result])) (by
  intro t b;simp only[fV,bX,qZ,or_false]at b;rcases b with rfl|rfl|rfl|b|rfl;·exact z
  ·exact w
  ·exact y
  ·exact h t b
  ·exact C)
 refine⟨?_,k⟩;rw[i,dF,dF,dF,qC,dF,tC,w1,v,e,g,B];unfold YK;omega
theorem ah4(r:x.bq≠[]->m≠0)(u:kR x.name=true)(q:x.imports.all kR=true)(v:x.vars.all Q6=true)(k:∀f∈x.bq,Wp m f=true):DX (moT m x)=decide (20<moD m x):=by
 rw[aa6,<-akH r];obtain⟨z,B⟩:=iq<|j4 u;have h:∀y∈x.imports,Cq (FY y)=1/\I6 (FY y):=λy a=>by obtain⟨f1,o⟩:=iq<|j4<|iB.1 q y a;obtain⟨w1,g⟩:Cq ⟨#[105,109,112,111,114,116]⟩=0/\I6 ⟨#[105,109,112,111,114,116]⟩:=iq bM;obtain⟨c,e⟩:=lX (l:=[⟨#[105,109,112,111,114,116]⟩,y]) (by intro t b;simp only[fV,qZ,or_false]at b;rcases b with rfl|rfl<;>assumption);refine⟨?_,e⟩;unfold FY;rw[c,dF,dF,tC,w1,f1];omega
 have i:∀y∈x.vars,Cq (vaX y)=1/\I6 (vaX y):=λy a=>by have d:=iB.1 v y a;unfold Q6 at d;simp only[dK]at d;obtain⟨f1,o⟩:=iq<|j4 d.1;obtain⟨n,C⟩:=iq<|j4 d.2;obtain⟨w1,g⟩:Cq ⟨#[118,97,114]⟩=0/\I6 ⟨#[118,97,114]⟩:=iq bM;obtain⟨c,e⟩:=lX (l:=[⟨#[118,97,114]⟩,y.name,y.level]) (by intro t b;simp only[fV,qZ,or_false]at b;rcases b with rfl|rfl|rfl<;>assumption);refine⟨?_,e⟩;unfold vaX;rw[c,dF,dF,dF,tC,w1,f1,n];omega
 obtain⟨w1,g⟩:Cq ⟨#[109,111,100,117,108,101]⟩=0/\I6 ⟨#[109,111,100,117,108,101]⟩:=iq bM;have p:[[(⟨#[109,111,100,117,108,101]⟩:aS),x.name],x.imports.map FY,x.vars.map vaX,x.bq.map<|fuX m].flatten=⟨#[109,111,100,117,108,101]⟩::x.name::(x.imports.map FY++(x.vars.map vaX++x.bq.map (fuX m))):=by simp
 unfold moX;rw[p];obtain⟨c,_⟩:=lX (l:=⟨#[109,111,100,117,108,101]⟩::x.name::(x.imports.map FY++(x.vars.map vaX++x.bq.map (fuX m)))) (by
  intro t b;simp only[fV,bX,iZ]at b;rcases b with rfl|rfl|⟨y,a,rfl⟩|⟨y,a,rfl⟩|⟨y,a,rfl⟩;·exact g
  ·exact B
  ·exact(h y a).2
  ·exact(i y a).2
  ·exact(Ze<|k y a).2)
 have m1:jh Cq (x.imports.map FY)<=1:=by rw[zG];exact IY (λy a=>by rw[(h y a).1];omega)
 have D:jh Cq (x.vars.map vaX)<=1:=by rw[zG];exact IY (λy a=>by rw[(i y a).1];omega)
 have w:jh Cq (x.bq.map<|fuX m)=jh (YK m) x.bq:=by rw[zG];exact Ct (λy a=>(Ze<|k y a).1)
 rw[c,dF,dF,qC,qC,w1,z,w];unfold moD;exact decide_eq_decide.2 bC
namespace bS
end bS
theorem aeE(m:Nat)(w:bI)(U S D E F G:aC)(f:Fu)(H:VZ w m U S D E F G f):aD 113 #[.agg #[A f.name,U,S,D,E,F,G]] w λp w'=>p=dz (O<|Q7 m f)/\bK w w':=by
 have z:=Y H;obtain⟨aa,L,M,N⟩:=H;obtain⟨d,g,rfl,rfl,rfl,rfl⟩:=N.shape;obtain⟨b,h,rfl,ab⟩:=M.shape;obtain⟨c,e,rfl,ac⟩:=L.shape;clear N M L;have k:J (Q7 m f=if 4<f.params.length then 2 else if (dZ f.name.data.toList&&j6 m f.body&&jo m f.result&&f.params.all λs=>dZ s.data.toList)then 0 else 5):=rfl;generalize f.result.args.length=le at *;generalize f.body.length=i at *;generalize f.params.length=a at *;have n:=Y<|aH w<|aY #[A f.name,X c a e,X b i h,O f.result.kind,O f.result.n,A f.result.name,X d le g] 149;obtain⟨P,Q,R,q,r,u,v⟩:=Ng (akn w (A f.name) (X c a e) (X b i h) (O f.result.kind) (O f.result.n) (A f.result.name) (X d le g) 149) (ako w (A f.name) (X c a e) (X b i h) (O f.result.kind) (O f.result.n) (A f.result.name) (X d le g) 149) (Qk w (A f.name) (X c a e) (X b i h) (O f.result.kind) (O f.result.n) (A f.result.name) (X d le g) 149) (JQ w (A f.name) (X c a e) (X b i h) (O f.result.kind) (O f.result.n) (A f.result.name) (X d le g) 149) (YJ w (A f.name) (X c a e) (X b i h) (O f.result.kind) (O f.result.n) (A f.result.name) (X d le g) 149) (Mj w (A f.name) (X c a e) (X b i h) (O f.result.kind) (O f.result.n) (A f.result.name) (X d le g) 149)<|UR w (A f.name) (X c a e) (X b i h) (O f.result.kind) (O f.result.n) (A f.result.name) (X d le g) 149;by_cases I:4<a;·rw[aK I]at k;clear P Q R q r u v;go_enter func113,ntmps113;go_wp2;go_ret;exact⟨bZ k.symm,n⟩
 rw[aI I]at k;go_enter func113,ntmps113;go_wp2_with fail;refine(kE _ f.name aa).mono ?_;rintro p w1 ⟨rfl,B⟩;subst B;generalize (w.alloc<|aY #[A f.name,X c a e,X b i h,O f.result.kind,O f.result.n,A f.result.name,X d le g] 149)=W0 at *;generalize dZ f.name.data.toList=V at *;cases V;·go_wp2;go_ret;exact⟨bZ (by rw[k];rfl),n⟩
 go_wp2_with fail;refine(Dk _ _ f.params (z.below n).2.1).mono ?_;rintro p w1 ⟨rfl,B⟩;subst B;generalize (f.params.all λs=>dZ s.data.toList)=W at *;cases W;·go_wp2;go_ret;exact⟨bZ (by rw[k,Sg];rfl),n⟩
 go_wp2_with fail;refine(aln m _ _ f.body (z.below n).2.2.1).mono ?_;rintro p w1 ⟨rfl,o⟩;replace q:=aG q o;replace r:=aG r o;replace u:=aG u o;replace v:=aG v o;have y:=Y<|up n o;clear o P Q R;generalize j6 m f.body=Z at *;cases Z;·go_wp2;go_ret;exact⟨bZ (by rw[k];rfl),y⟩
 go_wp2_with fail;refine(JV m _ _ _ _ _ f.result (z.below y).2.2.2).mono ?_;rintro p w2 ⟨rfl,K⟩;have C:=Y<|up y K;clear K q r u v;generalize jo m f.result=b4 at *;cases b4;·go_wp2;go_ret;exact⟨bZ (by rw[k];rfl),C⟩
 ·go_wp2;go_ret;exact⟨bZ (by rw[k];rfl),C⟩
theorem WR(h:Q7 m f=0):Wp m f=true:=by
 unfold Q7 at h;split at h;·cases h
 ·split at h;·assumption
  ·cases h
theorem uP:∀{l:List Fu},uZ m l=0->∀f∈l,Q7 m f=0
 | [],_,f,b=>by cases b
 | g::l,a,f,b=>by
  simp only[uZ]at a;by_cases hg:Q7 m g=0
  ·rw[aK hg]at a;rcases fV.1 b with rfl|b;·exact hg
   ·exact uP a f b
  ·rw[aI hg]at a;exact aM a hg
theorem aa9{w:bI}{v:aC}{l:List Fu}(c:mE w m v l):l≠[]->m≠0:=by rintro g rfl;obtain⟨a,b,off,cap,_,_,_,d⟩:=c;obtain⟨f,e⟩:∃f,l[0]?=some f:=⟨_,aZ<|vO.2 g⟩;obtain⟨_,q,p,i,k,n,o,_,_,_,_,_,_,_,_,h,_⟩:=d 0 f e;exact h
theorem tF(m:Nat)(w:bI)(v:aC)(x:Mo)(h:jl w m v x)(hw:xH m x<=1048576)(_ht:Tab w):aD 67 #[v] w λe w'=>e=dz (O<|oO m x)/\bK w w':=by
 have U:=Y (λW (K:J (bK w W))=>agT m W v x (h.below K) hw);obtain⟨vi,vv,vf,rfl,ay,hI,hV,hF⟩:=h;have ap:=aa9 hF
 have ag:J (kR x.name=true->x.imports.all kR=true->x.vars.all Q6=true->uZ m x.bq=0->DX (moT m x)=decide (20<moD m x)):=
  λh1 h2 h3 h4=>ah4 ap h1 h2 h3 (λf hf=>WR<|uP h4 f hf)
 have HE:J (oO m x=if 8<x.imports.length\/8<x.vars.length\/8<x.bq.length then 2 else if ((kR x.name&&x.imports.all kR)&&x.vars.all Q6)=false then 5
  else if uZ m x.bq≠0 then uZ m x.bq else if DX (moT m x)then 2 else 0):=rfl
 have ar:=Y (λW (K:J (bK w W))=>Dk W vi x.imports<|hI.below K);have au:=Y (λW (K:J (bK w W))=>akx W vv x.vars<|hV.below K);obtain⟨r,ci,rfl,a5⟩:=hI.shape;obtain⟨u,z,rfl,a6⟩:∃a c,vv=X a x.vars.length c/\x.vars.length<=9223372036854775807:=by obtain⟨a,_,_,c,e,_,Z,_⟩:=hV;exact⟨a,c,e,Z⟩
 obtain⟨a,b,off,cap,rfl,ha,hl,ao⟩:=hF;obtain⟨j5,S⟩:=bV ao ha;clear hI hV ao ha ap hw;obtain⟨l,ab⟩:=aV x.bq;rw[<-ab]at j5 S hl HE ag U ⊢;clear ab;obtain⟨len,ac⟩:=aV l.length;have HL:=Y ac;rw[<-ac]at hl S HE U ⊢;clear ac;generalize x.imports.length=li at *;generalize x.vars.length=lv at *;have n:=Y<|aH w<|aY #[A x.name,X r li ci,X u lv z,X a len cap] 89;obtain⟨q0,F,G,H⟩:=rY (am6 w (A x.name) (X r li ci) (X u lv z) (X a len cap) 89) (am7 w (A x.name) (X r li ci) (X u lv z) (X a len cap) 89) (am8 w (A x.name) (X r li ci) (X u lv z) (X a len cap) 89)<|am9 w (A x.name) (X r li ci) (X u lv z) (X a len cap) 89;by_cases C:8<li\/8<lv\/8<len
 ·rw[aK C]at HE;clear q0 F G H;by_cases b1:8<li;·clear C;go_enter func67,ntmps67;go_wp2;go_ret;exact⟨bZ HE.symm,n⟩
  ·by_cases b2:8<lv;·clear C;go_enter func67,ntmps67;go_wp2;go_ret;exact⟨bZ HE.symm,n⟩
   ·have b3:8<len:=by omega
    clear C;go_enter func67,ntmps67;go_wp2;go_ret;exact⟨bZ HE.symm,n⟩
 rw[aI C]at HE;have b1:¬8<li:=by omega
 have b2:¬8<lv:=by omega
 have b3:¬8<len:=by omega
 clear C;go_enter func67,ntmps67;go_wp2_with fail;refine(kE _ x.name ay).mono ?_;rintro e w1 ⟨rfl,af⟩;subst af;generalize (w.alloc<|aY #[A x.name,X r li ci,X u lv z,X a len cap] 89)=W0 at *;cases hn:dZ x.name.data.toList;·have q:J (kR x.name=false):=hn;go_wp2;go_ret;exact⟨bZ (by rw[HE,q];rfl),n⟩
 have q:J (kR x.name=true):=hn;go_wp2_with fail;refine(ar _ n).mono ?_;rintro e w1 ⟨rfl,af⟩;subst af;cases hi:(x.imports.all λs=>dZ s.data.toList);·have I:J (x.imports.all kR=false):=hi;go_wp2;go_ret;exact⟨bZ (by rw[HE,q,I];rfl),n⟩
 have I:J (x.imports.all kR=true):=hi;go_wp2_with fail;refine(au _ n).mono ?_;rintro e W1 ⟨rfl,B⟩;replace q0:=aG q0 B;replace F:=aG F B;replace G:=aG G B;replace H:=aG H B;have L:=Y<|up n B;clear B hn hi;cases hv:(x.vars.all λs=>dZ s.name.data.toList&&dZ s.level.data.toList);·have P:J (x.vars.all Q6=false):=hv;go_wp2;go_ret;exact⟨bZ (by rw[HE,q,I,P];rfl),L⟩
 have P:J (x.vars.all Q6=true):=hv;have ah:J (oO m x=if uZ m l≠0 then uZ m l else if DX (moT m x)then 2 else 0):=Y (by rw[HE,q,I,P];rfl);clear hv;go_wp2;go_loopw[41] (λi wr=>∃j:Nat,j<=len/\i=O j/\(∀d p,d<j->l[d]?=some p->Q7 m p=0)/\bK W1 wr) (λi _=>len - (intOf i).toNat);exact⟨0,bN _,rfl,λd p o=>aM o<|fU _,bQ _ _⟩
 obtain⟨j,hj,rfl,ak,k⟩:=hrel;have eP:=Y ak;clear ak;by_cases ax:j<len
 ·obtain⟨y,hy⟩:∃y,l[j]?=some y:=⟨_,aZ (by rw[<-HL];exact ax)⟩;obtain⟨k1,vp,vb,e0,e1,Z,e3,g0,g1,g2,g3,g4,g5,g6,hp,ad,hx⟩:=j5 j y hy;have HY:=Y hy;obtain rfl:=S bC;have g:=up L k;obtain⟨u0,u1⟩:=eY (aG g0 g)<|aG g1 g;have az:=aG g2 g;have YH:=aG g3 g;obtain⟨u4,u5,u6⟩:=lS (aG g4 g) (aG g5 g)<|aG g6 g;have aq:J (VZ wr m vp vb e0 e1 Z e3 y):=Y ⟨k1,hp.below g,ad.below g,hx.below g⟩;obtain⟨ae,ce,rfl,rfl,rfl,rfl⟩:=hx.shape;obtain⟨a1,kP,rfl,a3⟩:=ad.shape;obtain⟨a2,aE,rfl,a4⟩:=hp.shape;have Q:=Y k;clear g0 g1 g2 g3 g4 g5 g6 hx ad hp hy k g q0 F G H;go_wp2_with fail;refine(aeE m _ _ _ _ _ _ _ y<|aq.below<|aH _ _).mono ?_;rintro e w5 ⟨rfl,al⟩;have CW:=Y<|up Q<|Z7 al;clear al;obtain⟨E,hE⟩:=aV<|Q7 m y;have N:=Y hE;rw[<-hE];clear hE;by_cases R:E=0
  ·subst R;go_wp2;go_roundw;exact⟨j+1,by omega,by go_num,λd p o D=>by
    by_cases e:d=j;·subst e;rw[HY]at D;cases D;exact N.symm
    ·exact eP d p bC D,CW⟩
   exact gV
  ·have a0:=eO R;have H0:=Y R;clear R;go_wp2;go_ret;exact⟨bZ (by rw[ah,YV eP HY (by rw[<-N];exact H0),aK (by rw[<-N];exact H0)];exact N),up L CW⟩
 ·have aa:uZ m l=0:=NG (λd p D=>eP d p (by have:=(cO.1 D).1;have:=HL.out;omega) D);have HD:=Y<|ag q I P aa;have M:J (oO m x=if 20<moD m x then 2 else 0):=Y (by rw[ah,aa,HD];simp);obtain⟨u0,u1⟩:=eY (aG q0 k)<|aG F k;have az:=aG G k;have YH:=aG H k;have Q:=Y<|up L k;clear k q0 F G H aa;go_wp2_with fail;refine(U _ Q).mono ?_;rintro e w6 ⟨rfl,am⟩;have fD:=Y<|up Q am;clear am;generalize moD m x=V at *;by_cases o:20<V
  ·rw[aK o]at M;have aw:(V:Int) > 20:=by omega
   clear o;go_wp2;go_ret;exact⟨bZ M.symm,fD⟩
  ·rw[aI o]at M;have aw:¬((V:Int) > 20):=by omega
   clear o;go_wp2;go_ret;exact⟨bZ M.symm,fD⟩
theorem akT(a:oO m x=0):∀f∈x.bq,j6 m f.body=true/\jo m f.result=true:=by
 have d:uZ m x.bq=0:=by
  unfold oO at a;split at a;·cases a
  ·split at a;·cases a
   ·split at a;·rename_i c;exact aM a c
    ·rename_i c;exact Classical.byContradiction c
 intro f e;have b:=WR<|uP d f e;unfold Wp at b;simp only[dK]at b;exact⟨b.1.1.2,b.1.2⟩
namespace bO
def um(m:Nat):List Mo->Int
 | []=>0
 | x::r=>if oO m x=0 then um m r else oO m x
def AO(a:Int)(m:Nat)(x:Mo)(known:List Mo):Int:=if a=0 then (if oO m x=0 then um m known else oO m x)else a
theorem KM(a:∀x∈l,oO m x=0):um m l=0:=by
 induction l with
 | nil=>rfl
 | cons x r c =>unfold um;rw[aK (a x cK),c (λy b=>a y<|by simp[b])]
theorem Cu(a:l[j]?=some x)(b:∀(q:Nat) y,q<j->l[q]?=some y->oO m y=0)(c:oO m x≠0):um m l=oO m x:=by
 induction l generalizing j with
 | nil=>simp at a
 | cons y r e=>
  cases j with
  | zero=>simp at a;subst a;unfold um;rw[aI c]
  | succ j =>unfold um;rw[aK (b 0 y bC cK),e (j:=j) (by simpa using a) (λq g h d=>b (q+1) g bC<|by simpa using d)]
end bO
open Go.Maps
namespace Rn
end Rn
namespace Rn
end Rn
namespace Rn
end Rn
namespace Rn
end Rn
namespace Rn
end Rn
namespace Rn
end Rn
theorem auJ(a b c d:Int)(w:bI):(Op.equalIn 10000 33 (.agg #[O a,O b])<|.agg #[O c,O d]).run prog w=.ok ((a==c)&&(b==d)) w:=by
 obtain⟨n,h,o⟩:=lS underlying3 Tryz.isAgg3 Tryz.sizeOf3;have e:prog.underlying 33=some (.struct<|prog.fieldsOf 33):=by kernel_rfl
 have g:prog.stoodInHeld 33=false:=by kernel_rfl
 rw[show(10000:Nat)=9999+1 from rfl,run_equalIn_agg w 9999 33 _ _ e g];simp only[Program.fieldsOf,underlying33];go_simp;cases i:(a==c)<;>cases k:(b==d)<;>simp_all
theorem auz(op:BinOp)(p q:Operand)(a b c d:Int)(w:bI):(eqGuard op 33 p q (.agg #[O a,O b])<|.agg #[O c,O d]).run prog w=.ok () w:=
 run_eqGuard_agg w op _ p q _ _ dw
