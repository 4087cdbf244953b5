/- part -/
import Derived.Test.YtbgkpehhdibaoaaGreatDoorBZAY
import Derived.Test.YtbgkpehhdibaoaaGreatDoorBZAZ
set_option maxHeartbeats 0
set_option maxRecDepth 99999
namespace Go.Proofs.YtbgkpehhdibaoaaGreatDoor
open bN
open Go.Proofs.Tryz
open Go.RowKit
namespace bN
def ER:List UInt8->Int
 | []=>0
 | b::l=>step b+ER l
def pk:List UInt8->Int
 | []=>0
 | b::l=>max 0 (step b+pk l)
def zW(t:ByteArray):Nat:=(pk t.data.toList).toNat
def FI(t:ByteArray):Prop:=ER t.data.toList=0
end bN
variable{l:List aY}{t s:aY}{m j:Nat}{f:Fu}{x:Mo}
theorem xZ:∀l,0<=bN.pk l
 | []=>Int.le_refl _
 | b::l=>by simp only[bN.pk];omega
theorem BA:∀a b,ER (a++b)=ER a+ER b
 | [],b=>by simp[ER]
 | c::a,b=>by simp only[List.cons_append,ER,BA a b];omega
theorem MO:∀a b,bN.pk (a++b)=max (bN.pk a) (ER a+bN.pk b)
 | [],b=>by have:=xZ b;simp only[uL,bN.pk,ER];omega
 | c::a,b=>by simp only[List.cons_append,bN.pk,ER,MO a b];omega
theorem Vv:∀{l:List UInt8},(∀b∈l,bN.step b=0)->bN.pk l=0/\ER l=0
 | [],_=>⟨rfl,rfl⟩
 | b::l,h=>by obtain⟨h1,h2⟩:=Vv (l:=l) (λc hc=>h c (by simp[hc]));have h3:=h b dx;simp only[bN.pk,ER,h1,h2,h3];exact⟨by omega,by omega⟩
theorem MP(t:aY):(zW t:Int)=bN.pk t.data.toList:=by have:=xZ t.data.toList;unfold zW;omega
theorem SV:bN.step 32=0:=by decide
theorem Vw:∀{l:List aY},(∀t∈l,FI t)->bN.pk (Lib.joinTail [32] (l.map (·.data.toList)))=(iG zW l:Nat)/\ER (Lib.joinTail [32] (l.map (·.data.toList)))=0
 | [],_=>⟨rfl,rfl⟩
 | t::l,h=>by obtain⟨h1,h2⟩:=Vw (l:=l) (λc hc=>h c (by simp[hc]));have h3:ER t.data.toList=0:=h t dx;obtain⟨h4,h5⟩:=eY (MP t) (xZ t.data.toList);rw[fG,tail_cons,cK];simp only[bN.pk,ER,MO,BA,h1,h2,h3,SV];exact⟨by omega,by omega⟩
theorem join_pk(h:∀t∈l,FI t):bN.pk (Lib.join (l.map (·.data.toList)) [32])=(iG zW l:Nat)/\ER (Lib.join (l.map (·.data.toList)) [32])=0:=by
 cases l with
 | nil=>exact⟨rfl,rfl⟩
 | cons t l =>obtain⟨h1,h2⟩:=Vw (l:=l) (λc hc=>h c (by simp[hc]));have h3:ER t.data.toList=0:=h t dx;have h4:=MP t;rw[fG,Lib.join_cons,MO,BA,h1,h2,h3,cK];exact⟨by omega,by omega⟩
theorem KC:bN.step 40=1:=by decide
theorem step_shut:bN.step 41=-1:=by decide
theorem kK(h:∀t∈l,FI t):zW (bN.brk l)=1+iG zW l/\FI (bN.brk l):=by obtain⟨h1,h2⟩:=join_pk h;have h3:=MP (bN.brk l);rw[iH]at h3;simp only[bN.pk,MO,h1,h2,KC,step_shut]at h3;refine⟨by omega,?_⟩;unfold FI;rw[iH];simp only[ER,BA,h2,KC,step_shut];omega
theorem gD(h:∀b∈t.data.toList,bN.step b=0):zW t=0/\FI t:=by obtain⟨h1,h2⟩:=Vv h;exact⟨by unfold zW;rw[h1];rfl,h2⟩
theorem MQ:∀(l:List UInt8) (c:Int),0<=c->(c<bN.pk l↔∃j,j<l.length/\c<ER (l.take (j+1)))
 | [],c,hc=>⟨λh=>by simp only[bN.pk]at h;omega,λ⟨j,hj,_⟩=>aM hj (fT _)⟩
 | b::l,c,hc=>by
  have hp:=xZ l;constructor
  ·intro h;simp only[bN.pk]at h;by_cases h0:0<=c - bN.step b;·obtain⟨j,hj,hb⟩:=(MQ l (c - bN.step b) h0).1 aX;exact⟨j+1,by simpa using hj,by rw[List.take_succ_cons];simp only[ER];omega⟩
   ·exact⟨0,by simp,by simp only[List.take_succ_cons,List.take_zero,ER];omega⟩
  ·rintro⟨j,hj,hb⟩;rw[List.take_succ_cons]at hb;simp only[ER]at hb;simp only[bN.pk];cases j with
   | zero=>simp only[List.take_zero,ER]at hb;omega
   | succ j=>
    by_cases h0:0<=c - bN.step b;·have:=(MQ l (c - bN.step b) h0).2 ⟨j,by simpa using hj,by omega⟩;omega
    ·omega
theorem zX(t:aY):∀j,j<=t.size->wP t j=ER (t.data.toList.take j)
 | 0,_=>rfl
 | j+1,hj=>by
  have hj':j<t.data.toList.length:=by rw[gM];omega
  rw[Pf t j aX,zX t j aX,rX hj',BA];simp only[ER];have:t[j]=t.data.toList[j]:=rfl;rw[this];omega
theorem X5(t:aY):Bj t=decide (20<zW t):=by
 have h0:=MP t;by_cases h:20<zW t;·rw[gq h];obtain⟨j,hj,hb⟩:=(MQ t.data.toList 20 aX).1 aX;rw[gM]at hj;exact deepB_at hj (by rw[zX t (j+1) aX];exact hb)
 ·rw[gG h];refine XD (λj hj hb=>h ?_);rw[zX t (j+1) aX]at hb;have:=(MQ t.data.toList 20 aX).2 ⟨j,by rw[gM];omega,hb⟩;omega
theorem Py{c:UInt8}(h:iI c=true):bN.step c=0:=by unfold iI at h;simp only[dJ,gP]at h;unfold bN.step;rw[aJ (by rintro rfl;exact aM h.1 bO),aJ (by rintro rfl;exact aM h.1 bO)]
theorem jE{l:List UInt8}(h:dP l=true):∀b∈l,bN.step b=0:=by unfold dP at h;simp only[dJ]at h;exact λb hb=>Py (iB.1 h.2 b hb)
theorem op_flat(h:Ws s=true):∀b∈s.data.toList,bN.step b=0:=by
 by_cases h1:s.size=1
 ·obtain⟨c,rfl⟩:=one_byte h1;have:∀c:Fin 256,Ws ⟨#[UInt8.ofFin c]⟩=true->bN.step (UInt8.ofFin c)=0:=by decide +kernel
  intro b hb;simp at hb;subst hb;exact this b.toFin h
 ·rw[Lh h1]at h;cases h
theorem step_dot:bN.step 46=0:=by decide
theorem X6(h:vU s=true):∀b∈s.data.toList,bN.step b=0:=by
 unfold vU at h;simp only[dJ,Gl,Bool.not_eq_true']at h;cases hd:kM s with
 | none =>have h1:=h.1;unfold bN.preS at h1;rw[hd]at h1;exact jE h1
 | some i=>
  have h1:=h.1;have h2:dP (sP s).data.toList=true:=by
   rcases h.2 with h2|h2;·rw[hd]at h2;cases h2
   ·exact h2
  unfold bN.preS at h1;unfold sP at h2;rw[hd]at h1 h2;obtain⟨hi,hdot⟩:=bN.find_spec hd;intro b hb;obtain⟨k,hk,rfl⟩:=gZ.1 hb;have hks:k<s.size:=by rw[gM]at hk;exact hk
  have e1:(s.extract 0 i).data.toList=s.data.toList.take i:=by simp[ByteArray.data_extract]
  have e2:(s.extract (i+1) s.size).data.toList=s.data.toList.drop (i+1):=by simp[ByteArray.data_extract];exact fU (by rw[Ee,gM];omega)
  simp only[e1]at h1;simp only[e2]at h2;rcases Nat.lt_trichotomy k i with hlt|rfl|hgt;·exact jE h1 _ (gZ.2 ⟨k,by rw[jB];omega,by rw[List.getElem_take]⟩)
  ·have:s.data.toList[k]=46:=by have:=hdot;simp only[beq_iff_eq]at this;rw[List.getD,bD hk]at this;exact this
   rw[this];exact step_dot
  ·exact jE h2 _ (gZ.2 ⟨k - (i+1),by rw[Ee];omega,by rw[List.getElem_drop];congr 1;omega⟩)
theorem Ib:∀d:Fin 10,bN.step (UInt8.ofNat (48+d.val))=0:=by decide
theorem dec_flat:∀(u:Nat),∀b∈Lib.decDigits u,bN.step b=0:=by
 intro u;induction u using Nat.strongRecOn with
 | ind u ih=>
  intro b hb;rw[Lib.decDigits]at hb;split at hb;·rename_i h;rw[dD]at hb;subst hb;exact Ib ⟨u,h⟩
  ·rename_i h;rcases bZ.1 hb with hb|hb;·exact ih (u / 10) aX b hb
   ·rw[dD]at hb;subst hb;exact Ib ⟨u % 10,by omega⟩
theorem num_flat{n:Int}(h:0<=n):∀b∈(⟨(Lib.itoa n).toArray⟩:aY).data.toList,bN.step b=0:=by
 intro b hb;have hb':b∈Lib.itoa n:=by simpa using hb
 unfold Lib.itoa at hb';rw[aJ aX]at hb';exact dec_flat _ b hb'
theorem xw{α β:Type}{f:β->Nat}{g:α->β}(l:List α):iG f (l.map g)=iG (λy=>f (g y)) l:=by
 induction l with
 | nil=>rfl
 | cons y l ih=>rw[fG,cK,cK,ih]
theorem zY{α:Type}{f g:α->Nat}{l:List α}(h:∀y∈l,f y=g y):iG f l=iG g l:=by
 induction l with
 | nil=>rfl
 | cons y l ih=>rw[cK,cK,h y dx,ih (λz hz=>h z (by simp[hz]))]
theorem X7{α:Type}{f:α->Nat}{l:List α}(h:∀y∈l,f y=0):iG f l=0:=by have:=Fx (f:=f) (B:=0) (l:=l) (λy hy=>by rw[h y hy];omega);omega
theorem qR{α:Type}{f:α->Nat}:iG f []=0:=rfl
theorem MR:∀(m:Nat) (x:Ex),kN m x=true->zW (xQ m x)=vQ m x/\FI (xQ m x)
 | 0,x,h=>by simp[kN]at h
 | m+1,x,h=>by
  rw[D9,dJ]at h;obtain⟨hp,hall⟩:=h;have hargs:∀y∈x.args,zW (xQ m y)=vQ m y/\FI (xQ m y):=λy hy=>MR m y (iB.1 hall y hy);unfold zL at hp;by_cases h1:x.kind=1;·rw[aL h1]at hp;simp only[dJ,gP]at hp;have:=gD (num_flat hp.1.1.1);simp only[xQ,vQ];rw[aL h1,aL (aR h1)];exact this
  rw[aJ h1]at hp;by_cases h2:x.kind=2;·rw[aL h2]at hp;simp only[dJ]at hp;have:=gD (jE hp.1.1);simp only[xQ,vQ];rw[aJ h1,aL h2,aL (aV h2)];exact this
  rw[aJ h2]at hp;have hD:vQ (m+1) x=1+iG (vQ m) x.args:=by simp only[vQ];rw[aJ aX]
  have hT:xQ (m+1) x=x.args.foldl (Cz (xQ m)) (CB x)++(⟨#[41]⟩:aY):=by simp only[xQ];rw[aJ h1,aJ h2]
  have hM:iG zW (x.args.map (xQ m))=iG (vQ m) x.args:=by rw[xw];exact zY (λy hy=>(hargs y hy).1)
  have hB:∀t∈x.args.map (xQ m),FI t:=λt ht=>by obtain⟨y,hy,rfl⟩:=jP.1 ht;exact(hargs y hy).2
  by_cases h3:x.kind=3
  ·rw[aL h3]at hp;simp only[dJ]at hp;obtain⟨f1,f2⟩:=gD (op_flat hp.1.1);rw[hT,<-op_text x (xQ m) aX,hD];obtain⟨g1,g2⟩:=kK (l:=x.name::x.args.map (xQ m)) (λt ht=>by
    rcases fK.1 ht with rfl|ht;·exact f2
    ·exact hB t ht)
   refine⟨?_,g2⟩;rw[g1,cK,f1,hM];omega
  rw[aJ h3]at hp;by_cases h4:x.kind=4
  ·rw[aL h4]at hp;simp only[dJ]at hp;obtain⟨f1,f2⟩:=gD (X6 hp.1.1);obtain⟨k1,k2⟩:zW ⟨#[99,97,108,108]⟩=0/\FI ⟨#[99,97,108,108]⟩:=gD bO;rw[hT,<-XA x (xQ m) h4,hD];obtain⟨g1,g2⟩:=kK (l:=⟨#[99,97,108,108]⟩::x.name::x.args.map (xQ m)) (λt ht=>by
    rcases fK.1 ht with rfl|ht;·exact k2
    ·rcases fK.1 ht with rfl|ht;·exact f2
     ·exact hB t ht)
   refine⟨?_,g2⟩;rw[g1,cK,cK,k1,f1,hM];omega
  rw[aJ h4]at hp;cases hp
theorem MS:∀(m:Nat) (l:List St),mG m l=true->iG zW (Jc m l)=I9 m l/\∀t∈Jc m l,FI t
 | 0,l,h=>by simp[mG]at h
 | m+1,l,h=>by
  rw[zB]at h;have hst:∀s∈l,zW (XF m s)=OP m s/\FI (XF m s):=λs hs=>by
   have h1:=iB.1 h s hs;unfold stB at h1;simp only[dJ]at h1;obtain⟨⟨⟨okh,oke⟩,oka⟩,okb⟩:=h1;obtain⟨x1,x2⟩:=MR m s.e oke;obtain⟨a1,a2⟩:=MS m s.a oka;obtain⟨b1,b2⟩:=MS m s.b okb;obtain⟨a3,a4⟩:=kK a2;obtain⟨b3,b4⟩:=kK b2;unfold stH at okh;by_cases k14:s.kind=1\/s.kind=4
   ·rw[aL k14]at okh;simp only[dJ]at okh;obtain⟨n1,n2⟩:=gD (jE okh.1.1);have hd:OP m s=1+vQ m s.e:=by unfold OP;rw[aJ aX]
    rw[hd];rcases k14 with hk|hk;·rw[<-set_text m s hk];obtain⟨w1,w2⟩:zW ⟨#[115,101,116]⟩=0/\FI ⟨#[115,101,116]⟩:=gD bO;obtain⟨g1,g2⟩:=kK (l:=[⟨#[115,101,116]⟩,s.name,xQ m s.e]) (by intro t ht;simp only[fK,uT,or_false]at ht;rcases ht with rfl|rfl|rfl<;>assumption);refine⟨?_,g2⟩;rw[g1,cK,cK,cK,qR,w1,n1,x1];omega
    ·rw[<-Sl m s hk];obtain⟨w1,w2⟩:zW ⟨#[112,114,105,110,116]⟩=0/\FI ⟨#[112,114,105,110,116]⟩:=gD bO;obtain⟨g1,g2⟩:=kK (l:=[⟨#[112,114,105,110,116]⟩,s.name,xQ m s.e]) (by intro t ht;simp only[fK,uT,or_false]at ht;rcases ht with rfl|rfl|rfl<;>assumption);refine⟨?_,g2⟩;rw[g1,cK,cK,cK,qR,w1,n1,x1];omega
   rw[aJ k14]at okh;by_cases k2:s.kind=2
   ·have hd:OP m s=1+max (max (vQ m s.e) (1+I9 m s.a)) (1+I9 m s.b):=by unfold OP;rw[aL (aR k2)]
    rw[hd,<-if_text m s k2];obtain⟨w1,w2⟩:zW ⟨#[105,102]⟩=0/\FI ⟨#[105,102]⟩:=gD bO;obtain⟨g1,g2⟩:=kK (l:=[⟨#[105,102]⟩,xQ m s.e,bN.brk (Jc m s.a),bN.brk (Jc m s.b)]) (by intro t ht;simp only[fK,uT,or_false]at ht;rcases ht with rfl|rfl|rfl|rfl<;>assumption);refine⟨?_,g2⟩;rw[g1,cK,cK,cK,cK,qR,w1,x1,a3,b3,a1,b1];omega
   rw[aJ k2]at okh;by_cases k3:s.kind=3
   ·rw[aL k3]at okh;simp only[dJ,beq_iff_eq]at okh;have hb0:s.b=[]:=om.1 okh.2;have hbd:I9 m s.b=0:=by rw[hb0];cases m<;>rfl
    have hd:OP m s=1+max (max (vQ m s.e) (1+I9 m s.a)) (1+I9 m s.b):=by unfold OP;rw[aL (aV k3)]
    rw[hd,<-Sn m s k3];obtain⟨w1,w2⟩:zW ⟨#[119,104,105,108,101]⟩=0/\FI ⟨#[119,104,105,108,101]⟩:=gD bO;obtain⟨g1,g2⟩:=kK (l:=[⟨#[119,104,105,108,101]⟩,xQ m s.e,bN.brk (Jc m s.a)]) (by intro t ht;simp only[fK,uT,or_false]at ht;rcases ht with rfl|rfl|rfl<;>assumption);refine⟨?_,g2⟩;rw[g1,cK,cK,cK,qR,w1,x1,a3,a1,hbd];omega
   rw[aJ k3]at okh;cases okh
  simp only[Jc];rw[GA,xw];refine⟨zY (λs hs=>(hst s hs).1),λt ht=>?_⟩;obtain⟨s,hs,rfl⟩:=jP.1 ht;exact(hst s hs).2
theorem Vx(h:XC m f=true):zW (XP m f)=U2 m f/\FI (XP m f):=by
 unfold XC at h;simp only[dJ]at h;obtain⟨⟨⟨hn,hb⟩,hx⟩,hp⟩:=h;obtain⟨n1,n2⟩:=gD (jE hn);obtain⟨b1,b2⟩:=MS m f.body hb;obtain⟨x1,x2⟩:=MR m f.result hx;have hpar:∀p∈f.params,zW p=0/\FI p:=λp hpm=>gD (jE (iB.1 hp p hpm));obtain⟨p1,p2⟩:=kK (l:=f.params) (λp hpm=>(hpar p hpm).2);rw[X7 (λp hpm=>(hpar p hpm).1)]at p1;obtain⟨w1,w2⟩:zW ⟨#[102,117,110]⟩=0/\FI ⟨#[102,117,110]⟩:=gD bO;have hfl:[[(⟨#[102,117,110]⟩:aY),f.name,bN.brk f.params],Jc m f.body,[xQ m f.result]].flatten=⟨#[102,117,110]⟩::f.name::bN.brk f.params::(Jc m f.body++[xQ m f.result]):=by simp
 unfold XP;rw[hfl];obtain⟨g1,g2⟩:=kK (l:=⟨#[102,117,110]⟩::f.name::bN.brk f.params::(Jc m f.body++[xQ m f.result])) (by
  intro t ht;simp only[fK,bZ,uT,or_false]at ht;rcases ht with rfl|rfl|rfl|ht|rfl;·exact w2
  ·exact n2
  ·exact p2
  ·exact b2 t ht
  ·exact x2)
 refine⟨?_,g2⟩;rw[g1,cK,cK,cK,oJ,cK,qR,w1,n1,p1,b1,x1];unfold U2;omega
theorem moT_dpt(hm:x.bg≠[]->m≠0)(hn:oK x.name=true)(hi:x.imports.all oK=true)(hv:x.vars.all XB=true)(hf:∀f∈x.bg,XC m f=true):Bj (moT m x)=decide (20<moD m x):=by
 rw[X5,<-moX_eq hm];obtain⟨n1,n2⟩:=gD (jE hn);have hI:∀y∈x.imports,zW (Dc y)=1/\FI (Dc y):=λy hy=>by obtain⟨f1,f2⟩:=gD (jE (iB.1 hi y hy));obtain⟨w1,w2⟩:zW ⟨#[105,109,112,111,114,116]⟩=0/\FI ⟨#[105,109,112,111,114,116]⟩:=gD bO;obtain⟨g1,g2⟩:=kK (l:=[⟨#[105,109,112,111,114,116]⟩,y]) (by intro t ht;simp only[fK,uT,or_false]at ht;rcases ht with rfl|rfl<;>assumption);refine⟨?_,g2⟩;unfold Dc;rw[g1,cK,cK,qR,w1,f1];omega
 have hV:∀y∈x.vars,zW (XO y)=1/\FI (XO y):=λy hy=>by have hy':=iB.1 hv y hy;unfold XB at hy';simp only[dJ]at hy';obtain⟨f1,f2⟩:=gD (jE hy'.1);obtain⟨e1,e2⟩:=gD (jE hy'.2);obtain⟨w1,w2⟩:zW ⟨#[118,97,114]⟩=0/\FI ⟨#[118,97,114]⟩:=gD bO;obtain⟨g1,g2⟩:=kK (l:=[⟨#[118,97,114]⟩,y.name,y.level]) (by intro t ht;simp only[fK,uT,or_false]at ht;rcases ht with rfl|rfl|rfl<;>assumption);refine⟨?_,g2⟩;unfold XO;rw[g1,cK,cK,cK,qR,w1,f1,e1];omega
 obtain⟨w1,w2⟩:zW ⟨#[109,111,100,117,108,101]⟩=0/\FI ⟨#[109,111,100,117,108,101]⟩:=gD bO;have hfl:[[(⟨#[109,111,100,117,108,101]⟩:aY),x.name],x.imports.map Dc,x.vars.map XO,x.bg.map (XP m)].flatten=⟨#[109,111,100,117,108,101]⟩::x.name::(x.imports.map Dc++(x.vars.map XO++x.bg.map (XP m))):=by simp
 unfold moX;rw[hfl];obtain⟨g1,_⟩:=kK (l:=⟨#[109,111,100,117,108,101]⟩::x.name::(x.imports.map Dc++(x.vars.map XO++x.bg.map (XP m)))) (by
  intro t ht;simp only[fK,bZ,jP]at ht;rcases ht with rfl|rfl|⟨y,hy,rfl⟩|⟨y,hy,rfl⟩|⟨y,hy,rfl⟩;·exact w2
  ·exact n2
  ·exact(hI y hy).2
  ·exact(hV y hy).2
  ·exact(Vx (hf y hy)).2)
 have m1:iG zW (x.imports.map Dc)<=1:=by rw[xw];exact Fx (λy hy=>by rw[(hI y hy).1];omega)
 have m2:iG zW (x.vars.map XO)<=1:=by rw[xw];exact Fx (λy hy=>by rw[(hV y hy).1];omega)
 have m3:iG zW (x.bg.map (XP m))=iG (U2 m) x.bg:=by rw[xw];exact zY (λy hy=>(Vx (hf y hy)).1)
 rw[g1,cK,cK,oJ,oJ,w1,n1,m3];unfold moD;exact decide_eq_decide.2 aX
namespace bN
end bN
theorem MU(m:Nat)(w:World)(vp vb e0 e1 e2 e3:Value)(f:Fu)(h:RS w m vp vb e0 e1 e2 e3 f):Calls prog 95 #[.agg #[A f.name,vp,vb,e0,e1,e2,e3]] w λe w'=>e=dz (O (Q8 m f))/\bG w w':=by
 have HS:=I h;obtain⟨hnm,hp,hsb,hx⟩:=h;obtain⟨ae,ce,rfl,rfl,rfl,rfl⟩:=hx.shape;obtain⟨a1,jS,rfl,hl1⟩:=hsb.shape;obtain⟨a2,cap2,rfl,hl2⟩:=hp.shape;clear hx hsb hp;have HE:Hid (Q8 m f=if 4<f.params.length then 2 else if (dP f.name.data.toList&&mG m f.body&&kN m f.result&&f.params.all λs=>dP s.data.toList)then 0 else 5):=rfl;generalize f.result.args.length=le at *;generalize f.body.length=l1 at *;generalize f.params.length=l2 at *;have HB0:=I (aH w (aW #[A f.name,Y a2 l2 cap2,Y a1 l1 jS,O f.result.kind,O f.result.n,A f.result.name,Y ae le ce] 109));obtain⟨q0,q1,q2,q3,q4,q5,q6⟩:=J5 (box7_0 w (A f.name) (Y a2 l2 cap2) (Y a1 l1 jS) (O f.result.kind) (O f.result.n) (A f.result.name) (Y ae le ce) 109) (box7_1 w (A f.name) (Y a2 l2 cap2) (Y a1 l1 jS) (O f.result.kind) (O f.result.n) (A f.result.name) (Y ae le ce) 109) (box7_2 w (A f.name) (Y a2 l2 cap2) (Y a1 l1 jS) (O f.result.kind) (O f.result.n) (A f.result.name) (Y ae le ce) 109) (box7_3 w (A f.name) (Y a2 l2 cap2) (Y a1 l1 jS) (O f.result.kind) (O f.result.n) (A f.result.name) (Y ae le ce) 109) (box7_4 w (A f.name) (Y a2 l2 cap2) (Y a1 l1 jS) (O f.result.kind) (O f.result.n) (A f.result.name) (Y ae le ce) 109) (box7_5 w (A f.name) (Y a2 l2 cap2) (Y a1 l1 jS) (O f.result.kind) (O f.result.n) (A f.result.name) (Y ae le ce) 109) (box7_6 w (A f.name) (Y a2 l2 cap2) (Y a1 l1 jS) (O f.result.kind) (O f.result.n) (A f.result.name) (Y ae le ce) 109);by_cases h4:4<l2;·rw[aL h4]at HE;clear q0 q1 q2 q3 q4 q5 q6;go_enter func95,ntmps95;go_wp2;go_ret;exact⟨bT HE.symm,HB0⟩
 rw[aJ h4]at HE;go_enter func95,ntmps95;go_wp2_with fail;refine(jL _ f.name hnm).mono ?_;rintro e w1 ⟨rfl,hw1⟩;subst hw1;generalize (w.alloc (aW #[A f.name,Y a2 l2 cap2,Y a1 l1 jS,O f.result.kind,O f.result.n,A f.result.name,Y ae le ce] 109))=W0 at *;generalize dP f.name.data.toList=b1 at *;cases b1;·go_wp2;go_ret;exact⟨bT (by rw[HE];rfl),HB0⟩
 go_wp2_with fail;refine(AJ _ _ f.params (HS.below HB0).2.1).mono ?_;rintro e w1 ⟨rfl,hw1⟩;subst hw1;generalize (f.params.all λs=>dP s.data.toList)=b2 at *;cases b2;·go_wp2;go_ret;exact⟨bT (by rw[HE,OO];rfl),HB0⟩
 go_wp2_with fail;refine(ED m _ _ f.body (HS.below HB0).2.2.1).mono ?_;rintro e w1 ⟨rfl,hb1⟩;replace q3:=aD q3 hb1;replace q4:=aD q4 hb1;replace q5:=aD q5 hb1;replace q6:=aD q6 hb1;have HB1:=I (up HB0 hb1);clear hb1 q0 q1 q2;generalize mG m f.body=b3 at *;cases b3;·go_wp2;go_ret;exact⟨bT (by rw[HE];rfl),HB1⟩
 go_wp2_with fail;refine(Gz m _ _ _ _ _ f.result (HS.below HB1).2.2.2).mono ?_;rintro e w2 ⟨rfl,hb2⟩;have HB2:=I (up HB1 hb2);clear hb2 q3 q4 q5 q6;generalize kN m f.result=b4 at *;cases b4;·go_wp2;go_ret;exact⟨bT (by rw[HE];rfl),HB2⟩
 ·go_wp2;go_ret;exact⟨bT (by rw[HE];rfl),HB2⟩
theorem fuE_ok(h:Q8 m f=0):XC m f=true:=by
 unfold Q8 at h;split at h;·cases h
 ·split at h;·assumption
  ·cases h
theorem BD:∀{l:List Fu},uP m l=0->∀f∈l,Q8 m f=0
 | [],_,f,hf=>by cases hf
 | g::l,h,f,hf=>by
  simp only[uP]at h;by_cases hg:Q8 m g=0
  ·rw[aL hg]at h;rcases fK.1 hf with rfl|hf;·exact hg
   ·exact BD h f hf
  ·rw[aJ hg]at h;exact aM h hg
theorem X8{w:World}{v:Value}{l:List Fu}(h:kW w m v l):l≠[]->m≠0:=by rintro hne rfl;obtain⟨a,b,off,cap,_,_,_,hel⟩:=h;obtain⟨f,hf⟩:∃f,l[0]?=some f:=⟨_,bD (sQ.2 hne)⟩;obtain⟨_,vp,vb,e0,e1,e2,e3,_,_,_,_,_,_,_,_,hsb,_⟩:=hel 0 f hf;exact hsb
theorem uU(m:Nat)(w:World)(v:Value)(x:Mo)(h:iY w m v x)(hw:vF m x<=1048576)(_ht:Tab w):Calls prog 52 #[v] w λe w'=>e=dz (O (sI m x))/\bG w w':=by
 have HM:=I h;have ES:=I (λW (hW:Hid (bG w W))=>EH m W v x (h.below hW) hw);obtain⟨vi,vv,vf,rfl,hnm,hI,hV,hF⟩:=h;have hmz:=X8 hF
 have HDP:Hid (oK x.name=true->x.imports.all oK=true->x.vars.all XB=true->uP m x.bg=0->Bj (moT m x)=decide (20<moD m x)):=
  λh1 h2 h3 h4=>moT_dpt hmz h1 h2 h3 (λf hf=>fuE_ok (BD h4 f hf))
 have HE:Hid (sI m x=if 8<x.imports.length\/8<x.vars.length\/8<x.bg.length then 2 else if ((oK x.name&&x.imports.all oK)&&x.vars.all XB)=false then 5
  else if uP m x.bg≠0 then uP m x.bg else if Bj (moT m x)then 2 else 0):=rfl
 have HIN:=I (λW (hW:Hid (bG w W))=>AJ W vi x.imports (hI.below hW));have HVN:=I (λW (hW:Hid (bG w W))=>Oi W vv x.vars (hV.below hW));obtain⟨ai,ci,rfl,WK⟩:=hI.shape;obtain⟨av,cv,rfl,hlv⟩:∃a c,vv=Y a x.vars.length c/\x.vars.length<=9223372036854775807:=by obtain⟨a,_,_,c,e,_,e2,_⟩:=hV;exact⟨a,c,e,e2⟩
 obtain⟨a,b,off,cap,rfl,ha,hl,hel⟩:=hF;obtain⟨lK,HA⟩:=bU hel ha;clear hI hV hel ha hmz hw;obtain⟨l,hfs⟩:=bC x.bg;rw[<-hfs]at lK HA hl HE HDP ES ⊢;have HFS:=I hfs;clear hfs;obtain⟨len,hlen⟩:=bC l.length;have HL:=I hlen;rw[<-hlen]at hl HA HE ES ⊢;clear hlen;generalize x.imports.length=li at *;generalize x.vars.length=lv at *;have HB0:=I (aH w (aW #[A x.name,Y ai li ci,Y av lv cv,Y a len cap] 58));obtain⟨q0,q1,q2,q3⟩:=tZ (boxM0 w (A x.name) (Y ai li ci) (Y av lv cv) (Y a len cap) 58) (boxM1 w (A x.name) (Y ai li ci) (Y av lv cv) (Y a len cap) 58) (boxM2 w (A x.name) (Y ai li ci) (Y av lv cv) (Y a len cap) 58) (boxM3 w (A x.name) (Y ai li ci) (Y av lv cv) (Y a len cap) 58);by_cases hbig:8<li\/8<lv\/8<len
 ·rw[aL hbig]at HE;clear q0 q1 q2 q3;by_cases b1:8<li;·clear hbig;go_enter func52,ntmps52;go_wp2;go_ret;exact⟨bT HE.symm,HB0⟩
  ·by_cases b2:8<lv;·clear hbig;go_enter func52,ntmps52;go_wp2;go_ret;exact⟨bT HE.symm,HB0⟩
   ·have b3:8<len:=by omega
    clear hbig;go_enter func52,ntmps52;go_wp2;go_ret;exact⟨bT HE.symm,HB0⟩
 rw[aJ hbig]at HE;have b1:¬8<li:=by omega
 have b2:¬8<lv:=by omega
 have b3:¬8<len:=by omega
 clear hbig;go_enter func52,ntmps52;go_wp2_with fail;refine(jL _ x.name hnm).mono ?_;rintro e w1 ⟨rfl,hw1⟩;subst hw1;generalize (w.alloc (aW #[A x.name,Y ai li ci,Y av lv cv,Y a len cap] 58))=W0 at *;cases hn:dP x.name.data.toList;·have HN:Hid (oK x.name=false):=hn;go_wp2;go_ret;exact⟨bT (by rw[HE,HN];rfl),HB0⟩
 have HN:Hid (oK x.name=true):=hn;go_wp2_with fail;refine(HIN _ HB0).mono ?_;rintro e w1 ⟨rfl,hw1⟩;subst hw1;cases hi:(x.imports.all λs=>dP s.data.toList);·have HI:Hid (x.imports.all oK=false):=hi;go_wp2;go_ret;exact⟨bT (by rw[HE,HN,HI];rfl),HB0⟩
 have HI:Hid (x.imports.all oK=true):=hi;go_wp2_with fail;refine(HVN _ HB0).mono ?_;rintro e W1 ⟨rfl,hb1⟩;replace q0:=aD q0 hb1;replace q1:=aD q1 hb1;replace q2:=aD q2 hb1;replace q3:=aD q3 hb1;have HB1:=I (up HB0 hb1);clear hb1 hn hi;cases hv:(x.vars.all λs=>dP s.name.data.toList&&dP s.level.data.toList);·have HV:Hid (x.vars.all XB=false):=hv;go_wp2;go_ret;exact⟨bT (by rw[HE,HN,HI,HV];rfl),HB1⟩
 have HV:Hid (x.vars.all XB=true):=hv;have HE2:Hid (sI m x=if uP m l≠0 then uP m l else if Bj (moT m x)then 2 else 0):=I (by rw[HE,HN,HI,HV];rfl);clear hv;go_wp2;go_loopw[41] (λi wr=>∃j:Nat,j<=len/\i=O j/\(∀d z,d<j->l[d]?=some z->Q8 m z=0)/\bG W1 wr) (λi _=>len - (intOf i).toNat);case atStart=>exact⟨0,bL _,rfl,λd z hd=>aM hd (fT _),bP _ _⟩
 case round=>
  obtain⟨j,hj,rfl,hall,hnx⟩:=hrel;have fF:=I hall;clear hall;by_cases hjl:j<len
  ·obtain⟨y,hy⟩:∃y,l[j]?=some y:=⟨_,bD (by rw[<-HL];exact hjl)⟩;obtain⟨k1,vp,vb,e0,e1,e2,e3,g0,g1,g2,g3,g4,g5,g6,hp,hsb,hx⟩:=lK j y hy;have HY:=I hy;obtain rfl:=HA aX;have hbb:=up HB1 hnx;obtain⟨u0,u1⟩:=eY (aD g0 hbb) (aD g1 hbb);have u2':=aD g2 hbb;have UW:=aD g3 hbb;obtain⟨u4,u5,u6⟩:=l9 (aD g4 hbb) (aD g5 hbb) (aD g6 hbb);have HAT:Hid (RS wr m vp vb e0 e1 e2 e3 y):=I ⟨k1,hp.below hbb,hsb.below hbb,hx.below hbb⟩;obtain⟨ae,ce,rfl,rfl,rfl,rfl⟩:=hx.shape;obtain⟨a1,jS,rfl,hl1⟩:=hsb.shape;obtain⟨a2,cap2,rfl,hl2⟩:=hp.shape;have fO:=I hnx;clear g0 g1 g2 g3 g4 g5 g6 hx hsb hp hy hnx hbb q0 q1 q2 q3;go_wp2_with fail;refine(MU m _ _ _ _ _ _ _ y (HAT.below (aH _ _))).mono ?_;rintro e w5 ⟨rfl,hb5⟩;have Cg:=I (up fO (Wn hb5));clear hb5;obtain⟨E,hE⟩:=bC (Q8 m y);have Zf:=I hE;rw[<-hE];clear hE;by_cases h0:E=0
   ·subst h0;go_wp2_with fail;go_roundw;case rel=>exact⟨j+1,by omega,by go_num,λd z hd hz=>by
     by_cases e:d=j;·subst e;rw[HY]at hz;cases hz;exact Zf.symm
     ·exact fF d z aX hz,Cg⟩
    case measure=>simp[intOf];omega
   ·have h0':=eP h0;have H0:=I h0;clear h0;go_wp2;go_ret;exact⟨bT (by rw[HE2,Vb fF HY (by rw[<-Zf];exact H0),aL (by rw[<-Zf];exact H0)];exact Zf),up HB1 Cg⟩
  ·have hf0:uP m l=0:=Ku (λd z hz=>fF d z (by have:=(dK.1 hz).1;have:=HL.out;omega) hz);have HD:=I (HDP HN HI HV hf0);have WI:Hid (sI m x=if 20<moD m x then 2 else 0):=I (by rw[HE2,hf0,HD];simp);obtain⟨u0,u1⟩:=eY (aD q0 hnx) (aD q1 hnx);have u2':=aD q2 hnx;have UW:=aD q3 hnx;have fO:=I (up HB1 hnx);clear hnx q0 q1 q2 q3 hf0;go_wp2_with fail;refine(ES _ fO).mono ?_;rintro e w6 ⟨rfl,hb6⟩;have dX:=I (up fO hb6);clear hb6;generalize moD m x=dd at *;by_cases hd:20<dd
   ·rw[aL hd]at WI;have hd':(dd:Int) > 20:=by omega
    clear hd;go_wp2;go_ret;exact⟨bT WI.symm,dX⟩
   ·rw[aJ hd]at WI;have hd':¬((dd:Int) > 20):=by omega
    clear hd;go_wp2;go_ret;exact⟨bT WI.symm,dX⟩
theorem moE_ok(h:sI m x=0):∀f∈x.bg,mG m f.body=true/\kN m f.result=true:=by
 have h1:uP m x.bg=0:=by
  unfold sI at h;split at h;·cases h
  ·split at h;·cases h
   ·split at h;·rename_i hne;exact aM h hne
    ·rename_i hne;exact Classical.byContradiction hne
 intro f hf;have h2:=fuE_ok (BD h1 f hf);unfold XC at h2;simp only[dJ]at h2;exact⟨h2.1.1.2,h2.1.2⟩
namespace bJ
def BF(m:Nat):List Mo->Int
 | []=>0
 | x::r=>if sI m x=0 then BF m r else sI m x
def yZ(e0:Int)(m:Nat)(x:Mo)(known:List Mo):Int:=if e0=0 then (if sI m x=0 then BF m known else sI m x)else e0
theorem Pz{l:List Mo}(h:∀x∈l,sI m x=0):BF m l=0:=by
 induction l with
 | nil=>rfl
 | cons x r ih =>unfold BF;rw[aL (h x dx),ih (λy hy=>h y (by simp[hy]))]
theorem Ic{l:List Mo}(hx:l[j]?=some x)(h:∀(q:Nat) y,q<j->l[q]?=some y->sI m y=0)(he:sI m x≠0):BF m l=sI m x:=by
 induction l generalizing j with
 | nil=>simp at hx
 | cons y r ih=>
  cases j with
  | zero=>simp at hx;subst hx;unfold BF;rw[aJ he]
  | succ j =>unfold BF;rw[aL (h 0 y aX dx),ih (j:=j) (by simpa using hx) (λq z hq hz=>h (q+1) z aX (by simpa using hz))]
end bJ
open Go.Maps
namespace Rn
end Rn
namespace Rn
end Rn
namespace Rn
end Rn
namespace Rn
end Rn
namespace Rn
end Rn
namespace Rn
end Rn
end Go.Proofs.YtbgkpehhdibaoaaGreatDoor
