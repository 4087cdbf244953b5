/- part -/
import Derived.Test.YtbgkpehhdibaoaaGreatDoorMZAY
import Derived.Test.YtbgkpehhdibaoaaGreatDoorMZAZ
set_option maxHeartbeats 0
set_option maxRecDepth 99999
namespace Go.Proofs.YtbgkpehhdibaoaaGreatDoor
open bO
open Go.Proofs.Tryz
open Go.RowKit
namespace bO
def Gw:List UInt8->Int
 | []=>0
 | b::l=>step b+Gw l
def pk:List UInt8->Int
 | []=>0
 | b::l=>max 0 (step b+pk l)
def Bu(t:ByteArray):Nat:=(pk t.data.toList).toNat
def Hf(t:ByteArray):Prop:=Gw t.data.toList=0
end bO
variable{l:List aZ}{t s:aZ}{m j:Nat}{f:Fu}{x:Mo}
theorem zA:∀l,0<=bO.pk l
 | []=>Int.le_refl _
 | b::l=>by simp only[bO.pk];omega
theorem Dj:∀a b,Gw (a++b)=Gw a+Gw b
 | [],b=>by simp[Gw]
 | c::a,b=>by simp only[List.cons_append,Gw,Dj a b];omega
theorem OY:∀a b,bO.pk (a++b)=max (bO.pk a) (Gw a+bO.pk b)
 | [],b=>by have:=zA b;simp only[rX,bO.pk,Gw];omega
 | c::a,b=>by simp only[List.cons_append,bO.pk,Gw,OY a b];omega
theorem X9:∀{l:List UInt8},(∀b∈l,bO.step b=0)->bO.pk l=0/\Gw l=0
 | [],_=>⟨rfl,rfl⟩
 | b::l,h=>by obtain⟨h1,h2⟩:=X9 (l:=l) (λc hc=>h c (by simp[hc]));have h3:=h b cZ;simp only[bO.pk,Gw,h1,h2,h3];exact⟨by omega,by omega⟩
theorem OZ(t:aZ):(Bu t:Int)=bO.pk t.data.toList:=by have:=zA t.data.toList;unfold Bu;omega
theorem Vv:bO.step 32=0:=by decide
theorem Ya:∀{l:List aZ},(∀t∈l,Hf t)->bO.pk (Lib.joinTail [32] (l.map (·.data.toList)))=(iU Bu l:Nat)/\Gw (Lib.joinTail [32] (l.map (·.data.toList)))=0
 | [],_=>⟨rfl,rfl⟩
 | t::l,h=>by obtain⟨h1,h2⟩:=Ya (l:=l) (λc hc=>h c (by simp[hc]));have h3:Gw t.data.toList=0:=h t cZ;obtain⟨h4,h5⟩:=eD (OZ t) (zA t.data.toList);rw[fD,tail_cons,cB];simp only[bO.pk,Gw,OY,Dj,h1,h2,h3,Vv];exact⟨by omega,by omega⟩
theorem join_pk(h:∀t∈l,Hf t):bO.pk (Lib.join (l.map (·.data.toList)) [32])=(iU Bu l:Nat)/\Gw (Lib.join (l.map (·.data.toList)) [32])=0:=by
 cases l with
 | nil=>exact⟨rfl,rfl⟩
 | cons t l =>obtain⟨h1,h2⟩:=Ya (l:=l) (λc hc=>h c (by simp[hc]));have h3:Gw t.data.toList=0:=h t cZ;have h4:=OZ t;rw[fD,Lib.join_cons,OY,Dj,h1,h2,h3,cB];exact⟨by omega,by omega⟩
theorem ML:bO.step 40=1:=by decide
theorem step_shut:bO.step 41=-1:=by decide
theorem lF(h:∀t∈l,Hf t):Bu (bO.brk l)=1+iU Bu l/\Hf (bO.brk l):=by obtain⟨h1,h2⟩:=join_pk h;have h3:=OZ (bO.brk l);rw[iV]at h3;simp only[bO.pk,OY,h1,h2,ML,step_shut]at h3;refine⟨by omega,?_⟩;unfold Hf;rw[iV];simp only[Gw,Dj,h2,ML,step_shut];omega
theorem gL(h:∀b∈t.data.toList,bO.step b=0):Bu t=0/\Hf t:=by obtain⟨h1,h2⟩:=X9 h;exact⟨by unfold Bu;rw[h1];rfl,h2⟩
theorem O1:∀(l:List UInt8) (c:Int),0<=c->(c<bO.pk l↔∃j,j<l.length/\c<Gw (l.take (j+1)))
 | [],c,hc=>⟨λh=>by simp only[bO.pk]at h;omega,λ⟨j,hj,_⟩=>aN hj (fK _)⟩
 | b::l,c,hc=>by
  have hp:=zA l;constructor
  ·intro h;simp only[bO.pk]at h;by_cases h0:0<=c - bO.step b;·obtain⟨j,hj,hb⟩:=(O1 l (c - bO.step b) h0).1 aV;exact⟨j+1,by simpa using hj,by rw[List.take_succ_cons];simp only[Gw];omega⟩
   ·exact⟨0,by simp,by simp only[List.take_succ_cons,List.take_zero,Gw];omega⟩
  ·rintro⟨j,hj,hb⟩;rw[List.take_succ_cons]at hb;simp only[Gw]at hb;simp only[bO.pk];cases j with
   | zero=>simp only[List.take_zero,Gw]at hb;omega
   | succ j=>
    by_cases h0:0<=c - bO.step b;·have:=(O1 l (c - bO.step b) h0).2 ⟨j,by simpa using hj,by omega⟩;omega
    ·omega
theorem Bv(t:aZ):∀j,j<=t.size->kW t j=Gw (t.data.toList.take j)
 | 0,_=>rfl
 | j+1,hj=>by
  have hj':j<t.data.toList.length:=by rw[gI];omega
  rw[FX t j aV,Bv t j aV,kR hj',Dj];simp only[Gw];have:t[j]=t.data.toList[j]:=rfl;rw[this];omega
theorem deepB_dpt(t:aZ):Ah t=decide (20<Bu t):=by
 have h0:=OZ t;by_cases h:20<Bu t;·rw[fQ h];obtain⟨j,hj,hb⟩:=(O1 t.data.toList 20 aV).1 aV;rw[gI]at hj;exact CX hj (by rw[Bv t (j+1) aV];exact hb)
 ·rw[gN h];refine MC (λj hj hb=>h ?_);rw[Bv t (j+1) aV]at hb;have:=(O1 t.data.toList 20 aV).2 ⟨j,by rw[gI];omega,hb⟩;omega
theorem R6{c:UInt8}(h:iq c=true):bO.step c=0:=by unfold iq at h;simp only[dS,iA]at h;unfold bO.step;rw[aJ (by rintro rfl;exact aN h.1 bP),aJ (by rintro rfl;exact aN h.1 bP)]
theorem jQ{l:List UInt8}(h:dx l=true):∀b∈l,bO.step b=0:=by unfold dx at h;simp only[dS]at h;exact λb hb=>R6 (gY.1 h.2 b hb)
theorem op_flat(h:TV s=true):∀b∈s.data.toList,bO.step b=0:=by
 by_cases h1:s.size=1
 ·obtain⟨c,rfl⟩:=one_byte h1;have:∀c:Fin 256,TV ⟨#[UInt8.ofFin c]⟩=true->bO.step (UInt8.ofFin c)=0:=by decide +kernel
  intro b hb;simp at hb;subst hb;exact this b.toFin h
 ·rw[ND h1]at h;cases h
theorem step_dot:bO.step 46=0:=by decide
theorem call_flat(h:rH s=true):∀b∈s.data.toList,bO.step b=0:=by
 unfold rH at h;simp only[dS,Iw,Bool.not_eq_true']at h;cases hd:jo s with
 | none =>have h1:=h.1;unfold bO.preS at h1;rw[hd]at h1;exact jQ h1
 | some i=>
  have h1:=h.1;have h2:dx (om s).data.toList=true:=by
   rcases h.2 with h2|h2;·rw[hd]at h2;cases h2
   ·exact h2
  unfold bO.preS at h1;unfold om at h2;rw[hd]at h1 h2;obtain⟨hi,hdot⟩:=bO.find_spec hd;intro b hb;obtain⟨k,hk,rfl⟩:=gP.1 hb;have hks:k<s.size:=by rw[gI]at hk;exact hk
  have e1:(s.extract 0 i).data.toList=s.data.toList.take i:=by simp[ByteArray.data_extract]
  have e2:(s.extract (i+1) s.size).data.toList=s.data.toList.drop (i+1):=by simp[ByteArray.data_extract];exact fJ (by rw[FW,gI];omega)
  simp only[e1]at h1;simp only[e2]at h2;rcases Nat.lt_trichotomy k i with hlt|rfl|hgt;·exact jQ h1 _ (gP.2 ⟨k,by rw[jO];omega,by rw[List.getElem_take]⟩)
  ·have:s.data.toList[k]=46:=by have:=hdot;simp only[beq_iff_eq]at this;rw[List.getD,bg hk]at this;exact this
   rw[this];exact step_dot
  ·exact jQ h2 _ (gP.2 ⟨k - (i+1),by rw[FW];omega,by rw[List.getElem_drop];congr 1;omega⟩)
theorem JQ:∀d:Fin 10,bO.step (UInt8.ofNat (48+d.val))=0:=by decide
theorem dec_flat:∀(u:Nat),∀b∈Lib.decDigits u,bO.step b=0:=by
 intro u;induction u using Nat.strongRecOn with
 | ind u ih=>
  intro b hb;rw[Lib.decDigits]at hb;split at hb;·rename_i h;rw[dG]at hb;subst hb;exact JQ ⟨u,h⟩
  ·rename_i h;rcases bV.1 hb with hb|hb;·exact ih (u / 10) aV b hb
   ·rw[dG]at hb;subst hb;exact JQ ⟨u % 10,by omega⟩
theorem num_flat{n:Int}(h:0<=n):∀b∈(⟨(Lib.itoa n).toArray⟩:aZ).data.toList,bO.step b=0:=by
 intro b hb;have hb':b∈Lib.itoa n:=by simpa using hb
 unfold Lib.itoa at hb';rw[aJ aV]at hb';exact dec_flat _ b hb'
theorem yJ{α β:Type}{f:β->Nat}{g:α->β}(l:List α):iU f (l.map g)=iU (λy=>f (g y)) l:=by
 induction l with
 | nil=>rfl
 | cons y l ih=>rw[fD,cB,cB,ih]
theorem Bw{α:Type}{f g:α->Nat}{l:List α}(h:∀y∈l,f y=g y):iU f l=iU g l:=by
 induction l with
 | nil=>rfl
 | cons y l ih=>rw[cB,cB,h y cZ,ih (λz hz=>h z (by simp[hz]))]
theorem maxN_zero{α:Type}{f:α->Nat}{l:List α}(h:∀y∈l,f y=0):iU f l=0:=by have:=G6 (f:=f) (B:=0) (l:=l) (λy hy=>by rw[h y hy];omega);omega
theorem sJ{α:Type}{f:α->Nat}:iU f []=0:=rfl
theorem O4:∀(m:Nat) (x:Ex),fA m x=true->Bu (kP m x)=xA m x/\Hf (kP m x)
 | 0,x,h=>by simp[fA]at h
 | m+1,x,h=>by
  rw[FN,dS]at h;obtain⟨hp,hall⟩:=h;have hargs:∀y∈x.args,Bu (kP m y)=xA m y/\Hf (kP m y):=λy hy=>O4 m y (gY.1 hall y hy);unfold A9 at hp;by_cases h1:x.kind=1;·rw[aL h1]at hp;simp only[dS,iA]at hp;have:=gL (num_flat hp.1.1.1);simp only[kP,xA];rw[aL h1,aL (aR h1)];exact this
  rw[aJ h1]at hp;by_cases h2:x.kind=2;·rw[aL h2]at hp;simp only[dS]at hp;have:=gL (jQ hp.1.1);simp only[kP,xA];rw[aJ h1,aL h2,aL (aT h2)];exact this
  rw[aJ h2]at hp;have hD:xA (m+1) x=1+iU (xA m) x.args:=by simp only[xA];rw[aJ aV]
  have hT:kP (m+1) x=x.args.foldl (jX (kP m)) (qD x)++(⟨#[41]⟩:aZ):=by simp only[kP];rw[aJ h1,aJ h2]
  have hM:iU Bu (x.args.map (kP m))=iU (xA m) x.args:=by rw[yJ];exact Bw (λy hy=>(hargs y hy).1)
  have hB:∀t∈x.args.map (kP m),Hf t:=λt ht=>by obtain⟨y,hy,rfl⟩:=jU.1 ht;exact(hargs y hy).2
  by_cases h3:x.kind=3
  ·rw[aL h3]at hp;simp only[dS]at hp;obtain⟨f1,f2⟩:=gL (op_flat hp.1.1);rw[hT,<-op_text x (kP m) aV,hD];obtain⟨g1,g2⟩:=lF (l:=x.name::x.args.map (kP m)) (λt ht=>by
    rcases gy.1 ht with rfl|ht;·exact f2
    ·exact hB t ht)
   refine⟨?_,g2⟩;rw[g1,cB,f1,hM];omega
  rw[aJ h3]at hp;by_cases h4:x.kind=4
  ·rw[aL h4]at hp;simp only[dS]at hp;obtain⟨f1,f2⟩:=gL (call_flat hp.1.1);obtain⟨k1,k2⟩:Bu ⟨#[99,97,108,108]⟩=0/\Hf ⟨#[99,97,108,108]⟩:=gL bP;rw[hT,<-ZO x (kP m) h4,hD];obtain⟨g1,g2⟩:=lF (l:=⟨#[99,97,108,108]⟩::x.name::x.args.map (kP m)) (λt ht=>by
    rcases gy.1 ht with rfl|ht;·exact k2
    ·rcases gy.1 ht with rfl|ht;·exact f2
     ·exact hB t ht)
   refine⟨?_,g2⟩;rw[g1,cB,cB,k1,f1,hM];omega
  rw[aJ h4]at hp;cases hp
theorem O5:∀(m:Nat) (l:List St),iP m l=true->iU Bu (KR m l)=KM m l/\∀t∈KR m l,Hf t
 | 0,l,h=>by simp[iP]at h
 | m+1,l,h=>by
  rw[vN]at h;have hst:∀s∈l,Bu (ZR m s)=Rk m s/\Hf (ZR m s):=λs hs=>by
   have h1:=gY.1 h s hs;unfold uZ at h1;simp only[dS]at h1;obtain⟨⟨⟨okh,oke⟩,oka⟩,okb⟩:=h1;obtain⟨x1,x2⟩:=O4 m s.e oke;obtain⟨a1,a2⟩:=O5 m s.a oka;obtain⟨b1,b2⟩:=O5 m s.b okb;obtain⟨a3,a4⟩:=lF a2;obtain⟨b3,b4⟩:=lF b2;unfold xI at okh;by_cases k14:s.kind=1\/s.kind=4
   ·rw[aL k14]at okh;simp only[dS]at okh;obtain⟨n1,n2⟩:=gL (jQ okh.1.1);have hd:Rk m s=1+xA m s.e:=by unfold Rk;rw[aJ aV]
    rw[hd];rcases k14 with hk|hk;·rw[<-set_text m s hk];obtain⟨w1,w2⟩:Bu ⟨#[115,101,116]⟩=0/\Hf ⟨#[115,101,116]⟩:=gL bP;obtain⟨g1,g2⟩:=lF (l:=[⟨#[115,101,116]⟩,s.name,kP m s.e]) (by intro t ht;simp only[gy,tT,or_false]at ht;rcases ht with rfl|rfl|rfl<;>assumption);refine⟨?_,g2⟩;rw[g1,cB,cB,cB,sJ,w1,n1,x1];omega
    ·rw[<-Vb m s hk];obtain⟨w1,w2⟩:Bu ⟨#[112,114,105,110,116]⟩=0/\Hf ⟨#[112,114,105,110,116]⟩:=gL bP;obtain⟨g1,g2⟩:=lF (l:=[⟨#[112,114,105,110,116]⟩,s.name,kP m s.e]) (by intro t ht;simp only[gy,tT,or_false]at ht;rcases ht with rfl|rfl|rfl<;>assumption);refine⟨?_,g2⟩;rw[g1,cB,cB,cB,sJ,w1,n1,x1];omega
   rw[aJ k14]at okh;by_cases k2:s.kind=2
   ·have hd:Rk m s=1+max (max (xA m s.e) (1+KM m s.a)) (1+KM m s.b):=by unfold Rk;rw[aL (aR k2)]
    rw[hd,<-if_text m s k2];obtain⟨w1,w2⟩:Bu ⟨#[105,102]⟩=0/\Hf ⟨#[105,102]⟩:=gL bP;obtain⟨g1,g2⟩:=lF (l:=[⟨#[105,102]⟩,kP m s.e,bO.brk (KR m s.a),bO.brk (KR m s.b)]) (by intro t ht;simp only[gy,tT,or_false]at ht;rcases ht with rfl|rfl|rfl|rfl<;>assumption);refine⟨?_,g2⟩;rw[g1,cB,cB,cB,cB,sJ,w1,x1,a3,b3,a1,b1];omega
   rw[aJ k2]at okh;by_cases k3:s.kind=3
   ·rw[aL k3]at okh;simp only[dS,beq_iff_eq]at okh;have hb0:s.b=[]:=pQ.1 okh.2;have hbd:KM m s.b=0:=by rw[hb0];cases m<;>rfl
    have hd:Rk m s=1+max (max (xA m s.e) (1+KM m s.a)) (1+KM m s.b):=by unfold Rk;rw[aL (aT k3)]
    rw[hd,<-Vd m s k3];obtain⟨w1,w2⟩:Bu ⟨#[119,104,105,108,101]⟩=0/\Hf ⟨#[119,104,105,108,101]⟩:=gL bP;obtain⟨g1,g2⟩:=lF (l:=[⟨#[119,104,105,108,101]⟩,kP m s.e,bO.brk (KR m s.a)]) (by intro t ht;simp only[gy,tT,or_false]at ht;rcases ht with rfl|rfl|rfl<;>assumption);refine⟨?_,g2⟩;rw[g1,cB,cB,cB,sJ,w1,x1,a3,a1,hbd];omega
   rw[aJ k3]at okh;cases okh
  simp only[KR];rw[I7,yJ];refine⟨Bw (λs hs=>(hst s hs).1),λt ht=>?_⟩;obtain⟨s,hs,rfl⟩:=jU.1 ht;exact(hst s hs).2
theorem Yb(h:ZP m f=true):Bu (Z5 m f)=Xz m f/\Hf (Z5 m f):=by
 unfold ZP at h;simp only[dS]at h;obtain⟨⟨⟨hn,hb⟩,hx⟩,hp⟩:=h;obtain⟨n1,n2⟩:=gL (jQ hn);obtain⟨b1,b2⟩:=O5 m f.body hb;obtain⟨x1,x2⟩:=O4 m f.result hx;have hpar:∀p∈f.params,Bu p=0/\Hf p:=λp hpm=>gL (jQ (gY.1 hp p hpm));obtain⟨p1,p2⟩:=lF (l:=f.params) (λp hpm=>(hpar p hpm).2);rw[maxN_zero (λp hpm=>(hpar p hpm).1)]at p1;obtain⟨w1,w2⟩:Bu ⟨#[102,117,110]⟩=0/\Hf ⟨#[102,117,110]⟩:=gL bP;have hfl:[[(⟨#[102,117,110]⟩:aZ),f.name,bO.brk f.params],KR m f.body,[kP m f.result]].flatten=⟨#[102,117,110]⟩::f.name::bO.brk f.params::(KR m f.body++[kP m f.result]):=by simp
 unfold Z5;rw[hfl];obtain⟨g1,g2⟩:=lF (l:=⟨#[102,117,110]⟩::f.name::bO.brk f.params::(KR m f.body++[kP m f.result])) (by
  intro t ht;simp only[gy,bV,tT,or_false]at ht;rcases ht with rfl|rfl|rfl|ht|rfl;·exact w2
  ·exact n2
  ·exact p2
  ·exact b2 t ht
  ·exact x2)
 refine⟨?_,g2⟩;rw[g1,cB,cB,cB,qh,cB,sJ,w1,n1,p1,b1,x1];unfold Xz;omega
theorem moT_dpt(hm:x.bq≠[]->m≠0)(hn:fU x.name=true)(hi:x.imports.all fU=true)(hv:x.vars.all KP=true)(hf:∀f∈x.bq,ZP m f=true):Ah (XJ m x)=decide (20<moD m x):=by
 rw[deepB_dpt,<-moX_eq hm];obtain⟨n1,n2⟩:=gL (jQ hn);have hI:∀y∈x.imports,Bu (ED y)=1/\Hf (ED y):=λy hy=>by obtain⟨f1,f2⟩:=gL (jQ (gY.1 hi y hy));obtain⟨w1,w2⟩:Bu ⟨#[105,109,112,111,114,116]⟩=0/\Hf ⟨#[105,109,112,111,114,116]⟩:=gL bP;obtain⟨g1,g2⟩:=lF (l:=[⟨#[105,109,112,111,114,116]⟩,y]) (by intro t ht;simp only[gy,tT,or_false]at ht;rcases ht with rfl|rfl<;>assumption);refine⟨?_,g2⟩;unfold ED;rw[g1,cB,cB,sJ,w1,f1];omega
 have hV:∀y∈x.vars,Bu (Z4 y)=1/\Hf (Z4 y):=λy hy=>by have hy':=gY.1 hv y hy;unfold KP at hy';simp only[dS]at hy';obtain⟨f1,f2⟩:=gL (jQ hy'.1);obtain⟨e1,e2⟩:=gL (jQ hy'.2);obtain⟨w1,w2⟩:Bu ⟨#[118,97,114]⟩=0/\Hf ⟨#[118,97,114]⟩:=gL bP;obtain⟨g1,g2⟩:=lF (l:=[⟨#[118,97,114]⟩,y.name,y.level]) (by intro t ht;simp only[gy,tT,or_false]at ht;rcases ht with rfl|rfl|rfl<;>assumption);refine⟨?_,g2⟩;unfold Z4;rw[g1,cB,cB,cB,sJ,w1,f1,e1];omega
 obtain⟨w1,w2⟩:Bu ⟨#[109,111,100,117,108,101]⟩=0/\Hf ⟨#[109,111,100,117,108,101]⟩:=gL bP;have hfl:[[(⟨#[109,111,100,117,108,101]⟩:aZ),x.name],x.imports.map ED,x.vars.map Z4,x.bq.map (Z5 m)].flatten=⟨#[109,111,100,117,108,101]⟩::x.name::(x.imports.map ED++(x.vars.map Z4++x.bq.map (Z5 m))):=by simp
 unfold moX;rw[hfl];obtain⟨g1,_⟩:=lF (l:=⟨#[109,111,100,117,108,101]⟩::x.name::(x.imports.map ED++(x.vars.map Z4++x.bq.map (Z5 m)))) (by
  intro t ht;simp only[gy,bV,jU]at ht;rcases ht with rfl|rfl|⟨y,hy,rfl⟩|⟨y,hy,rfl⟩|⟨y,hy,rfl⟩;·exact w2
  ·exact n2
  ·exact(hI y hy).2
  ·exact(hV y hy).2
  ·exact(Yb (hf y hy)).2)
 have m1:iU Bu (x.imports.map ED)<=1:=by rw[yJ];exact G6 (λy hy=>by rw[(hI y hy).1];omega)
 have m2:iU Bu (x.vars.map Z4)<=1:=by rw[yJ];exact G6 (λy hy=>by rw[(hV y hy).1];omega)
 have m3:iU Bu (x.bq.map (Z5 m))=iU (Xz m) x.bq:=by rw[yJ];exact Bw (λy hy=>(Yb (hf y hy)).1)
 rw[g1,cB,cB,qh,qh,w1,n1,m3];unfold moD;exact decide_eq_decide.2 aV
namespace bO
end bO
theorem O6(m:Nat)(w:World)(vp vb e0 e1 e2 e3:Value)(f:Fu)(h:UU w m vp vb e0 e1 e2 e3 f):Calls prog 95 #[.agg #[A f.name,vp,vb,e0,e1,e2,e3]] w λe w'=>e=cO (O (Jr m f))/\bG w w':=by
 have HS:=I h;obtain⟨hnm,hp,hsb,hx⟩:=h;obtain⟨ae,ce,rfl,rfl,rfl,rfl⟩:=hx.shape;obtain⟨a1,kD,rfl,hl1⟩:=hsb.shape;obtain⟨a2,cap2,rfl,hl2⟩:=hp.shape;clear hx hsb hp;have HE:Hid (Jr m f=if 4<f.params.length then 2 else if (dx f.name.data.toList&&iP m f.body&&fA m f.result&&f.params.all λs=>dx s.data.toList)then 0 else 5):=rfl;generalize f.result.args.length=le at *;generalize f.body.length=l1 at *;generalize f.params.length=l2 at *;have HB0:=I (aH w (aY #[A f.name,Y a2 l2 cap2,Y a1 l1 kD,O f.result.kind,O f.result.n,A f.result.name,Y ae le ce] 109));obtain⟨q0,q1,q2,q3,q4,q5,q6⟩:=Iz (box7_0 w (A f.name) (Y a2 l2 cap2) (Y a1 l1 kD) (O f.result.kind) (O f.result.n) (A f.result.name) (Y ae le ce) 109) (box7_1 w (A f.name) (Y a2 l2 cap2) (Y a1 l1 kD) (O f.result.kind) (O f.result.n) (A f.result.name) (Y ae le ce) 109) (box7_2 w (A f.name) (Y a2 l2 cap2) (Y a1 l1 kD) (O f.result.kind) (O f.result.n) (A f.result.name) (Y ae le ce) 109) (box7_3 w (A f.name) (Y a2 l2 cap2) (Y a1 l1 kD) (O f.result.kind) (O f.result.n) (A f.result.name) (Y ae le ce) 109) (box7_4 w (A f.name) (Y a2 l2 cap2) (Y a1 l1 kD) (O f.result.kind) (O f.result.n) (A f.result.name) (Y ae le ce) 109) (box7_5 w (A f.name) (Y a2 l2 cap2) (Y a1 l1 kD) (O f.result.kind) (O f.result.n) (A f.result.name) (Y ae le ce) 109) (box7_6 w (A f.name) (Y a2 l2 cap2) (Y a1 l1 kD) (O f.result.kind) (O f.result.n) (A f.result.name) (Y ae le ce) 109);by_cases h4:4<l2;·rw[aL h4]at HE;clear q0 q1 q2 q3 q4 q5 q6;go_enter func95,ntmps95;go_wp2;go_ret;exact⟨bQ HE.symm,HB0⟩
 rw[aJ h4]at HE;go_enter func95,ntmps95;go_wp2_with fail;refine(jW _ f.name hnm).mono ?_;rintro e w1 ⟨rfl,hw1⟩;subst hw1;generalize (w.alloc (aY #[A f.name,Y a2 l2 cap2,Y a1 l1 kD,O f.result.kind,O f.result.n,A f.result.name,Y ae le ce] 109))=W0 at *;generalize dx f.name.data.toList=b1 at *;cases b1;·go_wp2;go_ret;exact⟨bQ (by rw[HE];rfl),HB0⟩
 go_wp2_with fail;refine(Cm _ _ f.params (HS.below HB0).2.1).mono ?_;rintro e w1 ⟨rfl,hw1⟩;subst hw1;generalize (f.params.all λs=>dx s.data.toList)=b2 at *;cases b2;·go_wp2;go_ret;exact⟨bQ (by rw[HE,Rj];rfl),HB0⟩
 go_wp2_with fail;refine(Gm m _ _ f.body (HS.below HB0).2.2.1).mono ?_;rintro e w1 ⟨rfl,hb1⟩;replace q3:=aC q3 hb1;replace q4:=aC q4 hb1;replace q5:=aC q5 hb1;replace q6:=aC q6 hb1;have HB1:=I (up HB0 hb1);clear hb1 q0 q1 q2;generalize iP m f.body=b3 at *;cases b3;·go_wp2;go_ret;exact⟨bQ (by rw[HE];rfl),HB1⟩
 go_wp2_with fail;refine(I6 m _ _ _ _ _ f.result (HS.below HB1).2.2.2).mono ?_;rintro e w2 ⟨rfl,hb2⟩;have HB2:=I (up HB1 hb2);clear hb2 q3 q4 q5 q6;generalize fA m f.result=b4 at *;cases b4;·go_wp2;go_ret;exact⟨bQ (by rw[HE];rfl),HB2⟩
 ·go_wp2;go_ret;exact⟨bQ (by rw[HE];rfl),HB2⟩
theorem fuE_ok(h:Jr m f=0):ZP m f=true:=by
 unfold Jr at h;split at h;·cases h
 ·split at h;·assumption
  ·cases h
theorem Dk:∀{l:List Fu},uj m l=0->∀f∈l,Jr m f=0
 | [],_,f,hf=>by cases hf
 | g::l,h,f,hf=>by
  simp only[uj]at h;by_cases hg:Jr m g=0
  ·rw[aL hg]at h;rcases gy.1 hf with rfl|hf;·exact hg
   ·exact Dk h f hf
  ·rw[aJ hg]at h;exact aN h hg
theorem funs_deep{w:World}{v:Value}{l:List Fu}(h:lS w m v l):l≠[]->m≠0:=by rintro hne rfl;obtain⟨a,b,off,cap,_,_,_,hel⟩:=h;obtain⟨f,hf⟩:∃f,l[0]?=some f:=⟨_,bg (uF.2 hne)⟩;obtain⟨_,vp,vb,e0,e1,e2,e3,_,_,_,_,_,_,_,_,hsb,_⟩:=hel 0 f hf;exact hsb
theorem wI(m:Nat)(w:World)(v:Value)(x:Mo)(h:gT w m v x)(hw:qx m x<=1048576)(_ht:Tab w):Calls prog 52 #[v] w λe w'=>e=cO (O (oM m x))/\bG w w':=by
 have HM:=I h;have Gx:=I (λW (hW:Hid (bG w W))=>Gp m W v x (h.below hW) hw);obtain⟨vi,vv,vf,rfl,hnm,hI,hV,hF⟩:=h;have hmz:=funs_deep hF
 have HDP:Hid (fU x.name=true->x.imports.all fU=true->x.vars.all KP=true->uj m x.bq=0->Ah (XJ m x)=decide (20<moD m x)):=
  λh1 h2 h3 h4=>moT_dpt hmz h1 h2 h3 (λf hf=>fuE_ok (Dk h4 f hf))
 have HE:Hid (oM m x=if 8<x.imports.length\/8<x.vars.length\/8<x.bq.length then 2 else if ((fU x.name&&x.imports.all fU)&&x.vars.all KP)=false then 5
  else if uj m x.bq≠0 then uj m x.bq else if Ah (XJ m x)then 2 else 0):=rfl
 have XK:=I (λW (hW:Hid (bG w W))=>Cm W vi x.imports (hI.below hW));have HVN:=I (λW (hW:Hid (bG w W))=>QH W vv x.vars (hV.below hW));obtain⟨ai,ci,rfl,NI⟩:=hI.shape;obtain⟨av,cv,rfl,hlv⟩:∃a c,vv=Y a x.vars.length c/\x.vars.length<=9223372036854775807:=by obtain⟨a,_,_,c,e,_,e2,_⟩:=hV;exact⟨a,c,e,e2⟩
 obtain⟨a,b,off,cap,rfl,ha,hl,hel⟩:=hF;obtain⟨kg,HA⟩:=bT hel ha;clear hI hV hel ha hmz hw;obtain⟨l,hfs⟩:=bC x.bq;rw[<-hfs]at kg HA hl HE HDP Gx ⊢;have HFS:=I hfs;clear hfs;obtain⟨len,hlen⟩:=bC l.length;have HL:=I hlen;rw[<-hlen]at hl HA HE Gx ⊢;clear hlen;generalize x.imports.length=li at *;generalize x.vars.length=lv at *;have HB0:=I (aH w (aY #[A x.name,Y ai li ci,Y av lv cv,Y a len cap] 58));obtain⟨q0,q1,q2,q3⟩:=rG (boxM0 w (A x.name) (Y ai li ci) (Y av lv cv) (Y a len cap) 58) (boxM1 w (A x.name) (Y ai li ci) (Y av lv cv) (Y a len cap) 58) (boxM2 w (A x.name) (Y ai li ci) (Y av lv cv) (Y a len cap) 58) (boxM3 w (A x.name) (Y ai li ci) (Y av lv cv) (Y a len cap) 58);by_cases hbig:8<li\/8<lv\/8<len
 ·rw[aL hbig]at HE;clear q0 q1 q2 q3;by_cases b1:8<li;·clear hbig;go_enter func52,ntmps52;go_wp2;go_ret;exact⟨bQ HE.symm,HB0⟩
  ·by_cases b2:8<lv;·clear hbig;go_enter func52,ntmps52;go_wp2;go_ret;exact⟨bQ HE.symm,HB0⟩
   ·have b3:8<len:=by omega
    clear hbig;go_enter func52,ntmps52;go_wp2;go_ret;exact⟨bQ HE.symm,HB0⟩
 rw[aJ hbig]at HE;have b1:¬8<li:=by omega
 have b2:¬8<lv:=by omega
 have b3:¬8<len:=by omega
 clear hbig;go_enter func52,ntmps52;go_wp2_with fail;refine(jW _ x.name hnm).mono ?_;rintro e w1 ⟨rfl,hw1⟩;subst hw1;generalize (w.alloc (aY #[A x.name,Y ai li ci,Y av lv cv,Y a len cap] 58))=W0 at *;cases hn:dx x.name.data.toList;·have HN:Hid (fU x.name=false):=hn;go_wp2;go_ret;exact⟨bQ (by rw[HE,HN];rfl),HB0⟩
 have HN:Hid (fU x.name=true):=hn;go_wp2_with fail;refine(XK _ HB0).mono ?_;rintro e w1 ⟨rfl,hw1⟩;subst hw1;cases hi:(x.imports.all λs=>dx s.data.toList);·have HI:Hid (x.imports.all fU=false):=hi;go_wp2;go_ret;exact⟨bQ (by rw[HE,HN,HI];rfl),HB0⟩
 have HI:Hid (x.imports.all fU=true):=hi;go_wp2_with fail;refine(HVN _ HB0).mono ?_;rintro e W1 ⟨rfl,hb1⟩;replace q0:=aC q0 hb1;replace q1:=aC q1 hb1;replace q2:=aC q2 hb1;replace q3:=aC q3 hb1;have HB1:=I (up HB0 hb1);clear hb1 hn hi;cases hv:(x.vars.all λs=>dx s.name.data.toList&&dx s.level.data.toList);·have HV:Hid (x.vars.all KP=false):=hv;go_wp2;go_ret;exact⟨bQ (by rw[HE,HN,HI,HV];rfl),HB1⟩
 have HV:Hid (x.vars.all KP=true):=hv;have HE2:Hid (oM m x=if uj m l≠0 then uj m l else if Ah (XJ m x)then 2 else 0):=I (by rw[HE,HN,HI,HV];rfl);clear hv;go_wp2;go_loopw[41] (λi wr=>∃j:Nat,j<=len/\i=O j/\(∀d z,d<j->l[d]?=some z->Jr m z=0)/\bG W1 wr) (λi _=>len - (intOf i).toNat);case atStart=>exact⟨0,bI _,rfl,λd z hd=>aN hd (fK _),bN _ _⟩
 case round=>
  obtain⟨j,hj,rfl,hall,hnx⟩:=hrel;have dU:=I hall;clear hall;by_cases hjl:j<len
  ·obtain⟨y,hy⟩:∃y,l[j]?=some y:=⟨_,bg (by rw[<-HL];exact hjl)⟩;obtain⟨k1,vp,vb,e0,e1,e2,e3,g0,g1,g2,g3,g4,g5,g6,hp,hsb,hx⟩:=kg j y hy;have HY:=I hy;obtain rfl:=HA aV;have hbb:=up HB1 hnx;obtain⟨u0,u1⟩:=eD (aC g0 hbb) (aC g1 hbb);have Xa:=aC g2 hbb;have KD:=aC g3 hbb;obtain⟨u4,u5,u6⟩:=lQ (aC g4 hbb) (aC g5 hbb) (aC g6 hbb);have HAT:Hid (UU wr m vp vb e0 e1 e2 e3 y):=I ⟨k1,hp.below hbb,hsb.below hbb,hx.below hbb⟩;obtain⟨ae,ce,rfl,rfl,rfl,rfl⟩:=hx.shape;obtain⟨a1,kD,rfl,hl1⟩:=hsb.shape;obtain⟨a2,cap2,rfl,hl2⟩:=hp.shape;have dM:=I hnx;clear g0 g1 g2 g3 g4 g5 g6 hx hsb hp hy hnx hbb q0 q1 q2 q3;go_wp2_with fail;refine(O6 m _ _ _ _ _ _ _ y (HAT.below (aH _ _))).mono ?_;rintro e w5 ⟨rfl,hb5⟩;have kG:=I (up dM (TU hb5));clear hb5;obtain⟨E,hE⟩:=bC (Jr m y);have HEY:=I hE;rw[<-hE];clear hE;by_cases h0:E=0
   ·subst h0;go_wp2_with fail;go_roundw;case rel=>exact⟨j+1,by omega,by go_num,λd z hd hz=>by
     by_cases e:d=j;·subst e;rw[HY]at hz;cases hz;exact HEY.symm
     ·exact dU d z aV hz,kG⟩
    case measure=>simp[intOf];omega
   ·have h0':=dY h0;have H0:=I h0;clear h0;go_wp2;go_ret;exact⟨bQ (by rw[HE2,OD dU HY (by rw[<-HEY];exact H0),aL (by rw[<-HEY];exact H0)];exact HEY),up HB1 kG⟩
  ·have hf0:uj m l=0:=Ev (λd z hz=>dU d z (by have:=(dz.1 hz).1;have:=HL.out;omega) hz);have HD:=I (HDP HN HI HV hf0);have Y9:Hid (oM m x=if 20<moD m x then 2 else 0):=I (by rw[HE2,hf0,HD];simp);obtain⟨u0,u1⟩:=eD (aC q0 hnx) (aC q1 hnx);have Xa:=aC q2 hnx;have KD:=aC q3 hnx;have dM:=I (up HB1 hnx);clear hnx q0 q1 q2 q3 hf0;go_wp2_with fail;refine(Gx _ dM).mono ?_;rintro e w6 ⟨rfl,hb6⟩;have eF:=I (up dM hb6);clear hb6;generalize moD m x=dd at *;by_cases hd:20<dd
   ·rw[aL hd]at Y9;have hd':(dd:Int) > 20:=by omega
    clear hd;go_wp2;go_ret;exact⟨bQ Y9.symm,eF⟩
   ·rw[aJ hd]at Y9;have hd':¬((dd:Int) > 20):=by omega
    clear hd;go_wp2;go_ret;exact⟨bQ Y9.symm,eF⟩
theorem moE_ok(h:oM m x=0):∀f∈x.bq,iP m f.body=true/\fA m f.result=true:=by
 have h1:uj m x.bq=0:=by
  unfold oM at h;split at h;·cases h
  ·split at h;·cases h
   ·split at h;·rename_i hne;exact aN h hne
    ·rename_i hne;exact Classical.byContradiction hne
 intro f hf;have h2:=fuE_ok (Dk h1 f hf);unfold ZP at h2;simp only[dS]at h2;exact⟨h2.1.1.2,h2.1.2⟩
namespace aO
def zN(m:Nat):List Mo->Int
 | []=>0
 | x::r=>if oM m x=0 then zN m r else oM m x
def yK(e0:Int)(m:Nat)(x:Mo)(known:List Mo):Int:=if e0=0 then (if oM m x=0 then zN m known else oM m x)else e0
theorem yL{l:List Mo}(h:∀x∈l,oM m x=0):zN m l=0:=by
 induction l with
 | nil=>rfl
 | cons x r ih =>unfold zN;rw[aL (h x cZ),ih (λy hy=>h y (by simp[hy]))]
theorem JR{l:List Mo}(hx:l[j]?=some x)(h:∀(q:Nat) y,q<j->l[q]?=some y->oM m y=0)(he:oM m x≠0):zN m l=oM m x:=by
 induction l generalizing j with
 | nil=>simp at hx
 | cons y r ih=>
  cases j with
  | zero=>simp at hx;subst hx;unfold zN;rw[aJ he]
  | succ j =>unfold zN;rw[aL (h 0 y aV cZ),ih (j:=j) (by simpa using hx) (λq z hq hz=>h (q+1) z aV (by simpa using hz))]
end aO
open Go.Maps
namespace Rn
end Rn
namespace Rn
end Rn
namespace Rn
end Rn
namespace Rn
end Rn
namespace Rn
end Rn
namespace Rn
end Rn
theorem eqIn_lb(a b c d:Int)(w:World):(Op.equalIn 10000 33 (.agg #[O a,O b]) (.agg #[O c,O d])).run prog w=.ok ((a==c)&&(b==d)) w:=by
 obtain⟨u3,a3,z3⟩:=lQ underlying3 Tryz.isAgg3 Tryz.sizeOf3;have hS:prog.underlying 33=some (.struct (prog.fieldsOf 33)):=by kernel_rfl
 have hp:prog.stoodInHeld 33=false:=by kernel_rfl
 rw[show(10000:Nat)=9999+1 from rfl,run_equalIn_agg w 9999 33 _ _ hS hp];simp only[Program.fieldsOf,underlying33];go_simp;cases h1:(a==c)<;>cases h2:(b==d)<;>simp_all
theorem guard_lb(op:BinOp)(p q:Operand)(a b c d:Int)(w:World):(eqGuard op 33 p q (.agg #[O a,O b]) (.agg #[O c,O d])).run prog w=.ok () w:=
 run_eqGuard_agg w op _ p q _ _ bU
end Go.Proofs.YtbgkpehhdibaoaaGreatDoor
