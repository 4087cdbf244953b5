/- Walks over package tree: funTexts. -/
import Derived.Test.YtfnboapebijcpaaGreatDoorMZAS
import Derived.Test.YtfnboapebijcpaaGreatDoorMZAM
import Derived.Test.YtfnboapebijcpaaGreatDoorMZAR
set_option maxHeartbeats 16000000
set_option maxRecDepth 100000
namespace Go.Proofs.YtfnboapebijcpaaGreatDoor
open bC Sv
open Go.Proofs.Tryz
open Go.RowKit
namespace bC
def VQ(m:Nat)(f:Fu):ByteArray:=brk [[⟨#[102,117,110]⟩,f.name,brk f.params],Iu m f.body,[jI m f.result]].flatten
end bC
theorem Zl(l:List ByteArray)(acc:ByteArray):∀j,j<=l.length->nV l acc j=acc++bC.jn (l.take j)
 | 0,_=>by apply fP;rw[fK,jX];simp[nV,Lib.join_nil]
 | j+1,hj=>by
  obtain⟨y,hy⟩:∃y,l[j]?=some y:=⟨_,aU (by omega)⟩;have e1:l.take (j+1)=l.take j++[y]:=by have:=map_take (f:=id) hy;simpa using this
  have e2:l.getD j ByteArray.empty=y:=by rw[List.getD,hy];rfl
  have e3:(l.take j).length=j:=by rw[d9];omega
  rw[Gn,Zl l acc j (by omega),e1,e2,TW,e3];apply fP;by_cases h:0<j;·rw[if_pos h,if_pos h];simp only[fK,bE]
  ·rw[if_neg h,if_neg h];simp only[fK,bE]
theorem tail_jn{l:List ByteArray}(h:l≠[]):Lib.joinTail [32] (l.map (·.data.toList))=32::(bC.jn l).data.toList:=by
 cases l with
 | nil=>exact absurd rfl h
 | cons y l =>rw[jX,dN,Lib.join_cons];simp[Lib.joinTail]
theorem tail_cons(x:List UInt8)(r:List (List UInt8)):Lib.joinTail [32] (x::r)=32::(x++Lib.joinTail [32] r):=by simp[Lib.joinTail]
theorem Uu{m:Nat}(hm:m≠0)(l:List St):Iu m l=[]↔l=[]:=by
 cases m with
 | zero=>exact absurd rfl hm
 | succ m=>simp[Iu]
theorem fuT_eq{m:Nat}(hm:m≠0)(acc:ByteArray)(f:Fu):(M9 m acc f).data.toList=acc.data.toList++32::(VQ m f).data.toList:=by
 unfold M9 fuB fuP fuH VQ;rw[Zl _ _ _ (bM _),gG,gJ];by_cases h:0<f.body.length
 ·have hne:Iu m f.body≠[]:=by rw[ne_eq,Uu hm];intro e;rw[e]at h;simp at h
  rw[if_pos h,Lb];have hfl:[[(⟨#[102,117,110]⟩:ByteArray),f.name,bC.brk f.params],Iu m f.body,[jI m f.result]].flatten=⟨#[102,117,110]⟩::f.name::bC.brk f.params::(Iu m f.body++[jI m f.result]):=by simp
  rw[hfl,dN,Lib.join_cons,dN,tail_cons,dN,tail_cons,cZ,oJ,tail_jn hne,dN,tail_cons,iK,gJ,jX];simp[jX,Lib.joinTail]
 ·have he:f.body=[]:=qp.1 (by omega);have hne:Iu m f.body=[]:=(Uu hm _).2 he;rw[if_neg h,hne];simp[Lib.join_cons,Lib.joinTail,gJ,jX]
namespace bC
def moX(m:Nat)(x:Mo):ByteArray:=brk [[⟨#[109,111,100,117,108,101]⟩,x.name],x.imports.map CS,x.vars.map VA,x.aR.map (VQ m)].flatten
end bC
theorem Uv{α:Type}{f:ByteArray->α->ByteArray}{g:α->ByteArray}:∀(l:List α) (acc:ByteArray),(∀y∈l,∀acc,(f acc y).data.toList=acc.data.toList++32::(g y).data.toList)->
 (l.foldl f acc).data.toList=acc.data.toList++Lib.joinTail [32] ((l.map g).map (·.data.toList))
 | [],acc,_=>by simp[Lib.joinTail]
 | y::l,acc,h=>by rw[pG,Uv l _ (λz hz=>h z (by simp[hz])),h y (by simp),dN,dN,tail_cons];simp
theorem impT_eq(acc s:ByteArray):(Ae acc s).data.toList=acc.data.toList++32::(CS s).data.toList:=by unfold Ae CS;rw[gJ];simp[Lib.join_cons,Lib.joinTail]
theorem vaT_eq(acc:ByteArray)(v:Va):(QO acc v).data.toList=acc.data.toList++32::(VA v).data.toList:=by unfold QO VA;rw[gJ];simp[Lib.join_cons,Lib.joinTail]
theorem moX_eq{m:Nat}{x:Mo}(hm:x.aR≠[]->m≠0):moX m x=TL m x:=by
 apply fP;unfold moX TL moF WE TK WC;have hfl:[[(⟨#[109,111,100,117,108,101]⟩:ByteArray),x.name],x.imports.map CS,x.vars.map VA,x.aR.map (VQ m)].flatten=⟨#[109,111,100,117,108,101]⟩::x.name::(x.imports.map CS++(x.vars.map VA++x.aR.map (VQ m))):=by simp
 rw[hfl,gJ,fK,Uv (g:=VQ m) x.aR _ (λy hy acc=>fuT_eq (hm (List.ne_nil_of_mem hy)) acc y),Uv (g:=VA) x.vars _ (λy _ acc=>vaT_eq acc y),Uv (g:=CS) x.imports _ (λy _ acc=>impT_eq acc y),dN,Lib.join_cons,dN,tail_cons,cZ,oJ,cZ,oJ,fK];simp
namespace bC
def EC:List UInt8->Int
 | []=>0
 | b::l=>step b+EC l
def pk:List UInt8->Int
 | []=>0
 | b::l=>max 0 (step b+pk l)
def yT(t:ByteArray):Nat:=(pk t.data.toList).toNat
def EW(t:ByteArray):Prop:=EC t.data.toList=0
end bC
theorem wV:∀l,0<=bC.pk l
 | []=>Int.le_refl _
 | b::l=>by simp only[bC.pk];omega
theorem AO:∀a b,EC (a++b)=EC a+EC b
 | [],b=>by simp[EC]
 | c::a,b=>by simp only[List.cons_append,EC,AO a b];omega
theorem LQ:∀a b,bC.pk (a++b)=max (bC.pk a) (EC a+bC.pk b)
 | [],b=>by have:=wV b;simp only[ug,bC.pk,EC];omega
 | c::a,b=>by simp only[List.cons_append,bC.pk,EC,LQ a b];omega
theorem Uw:∀{l:List UInt8},(∀b∈l,bC.step b=0)->bC.pk l=0/\EC l=0
 | [],_=>⟨rfl,rfl⟩
 | b::l,h=>by obtain⟨h1,h2⟩:=Uw (l:=l) (λc hc=>h c (by simp[hc]));have h3:=h b (by simp);simp only[bC.pk,EC,h1,h2,h3];exact⟨by omega,by omega⟩
theorem LU(t:ByteArray):(yT t:Int)=bC.pk t.data.toList:=by have:=wV t.data.toList;unfold yT;omega
theorem RI:bC.step 32=0:=by decide
theorem Ux:∀{l:List ByteArray},(∀t∈l,EW t)->bC.pk (Lib.joinTail [32] (l.map (·.data.toList)))=(gH yT l:Nat)/\EC (Lib.joinTail [32] (l.map (·.data.toList)))=0
 | [],_=>⟨rfl,rfl⟩
 | t::l,h=>by obtain⟨h1,h2⟩:=Ux (l:=l) (λc hc=>h c (by simp[hc]));have h3:EC t.data.toList=0:=h t (by simp);have h4:=LU t;have h5:=wV t.data.toList;rw[dN,tail_cons,bH];simp only[bC.pk,EC,LQ,AO,h1,h2,h3,RI];exact⟨by omega,by omega⟩
theorem join_pk{l:List ByteArray}(h:∀t∈l,EW t):bC.pk (Lib.join (l.map (·.data.toList)) [32])=(gH yT l:Nat)/\EC (Lib.join (l.map (·.data.toList)) [32])=0:=by
 cases l with
 | nil=>exact⟨rfl,rfl⟩
 | cons t l =>obtain⟨h1,h2⟩:=Ux (l:=l) (λc hc=>h c (by simp[hc]));have h3:EC t.data.toList=0:=h t (by simp);have h4:=LU t;rw[dN,Lib.join_cons,LQ,AO,h1,h2,h3,bH];exact⟨by omega,by omega⟩
theorem JZ:bC.step 40=1:=by decide
theorem step_shut:bC.step 41=-1:=by decide
theorem j4{l:List ByteArray}(h:∀t∈l,EW t):yT (bC.brk l)=1+gH yT l/\EW (bC.brk l):=by obtain⟨h1,h2⟩:=join_pk h;have h3:=LU (bC.brk l);rw[gJ]at h3;simp only[bC.pk,LQ,h1,h2,JZ,step_shut]at h3;refine⟨by omega,?_⟩;unfold EW;rw[gJ];simp only[EC,AO,h2,JZ,step_shut];omega
theorem eT{t:ByteArray}(h:∀b∈t.data.toList,bC.step b=0):yT t=0/\EW t:=by obtain⟨h1,h2⟩:=Uw h;exact⟨by unfold yT;rw[h1];rfl,h2⟩
theorem LW:∀(l:List UInt8) (c:Int),0<=c->(c<bC.pk l↔∃j,j<l.length/\c<EC (l.take (j+1)))
 | [],c,hc=>⟨λh=>by simp only[bC.pk]at h;omega,λ⟨j,hj,_⟩=>absurd hj (dY _)⟩
 | b::l,c,hc=>by
  have hp:=wV l;constructor
  ·intro h;simp only[bC.pk]at h;by_cases h0:0<=c - bC.step b;·obtain⟨j,hj,hb⟩:=(LW l (c - bC.step b) h0).1 (by omega);exact⟨j+1,by simpa using hj,by rw[KD];simp only[EC];omega⟩
   ·exact⟨0,by simp,by simp only[KD,vJ,EC];omega⟩
  ·rintro⟨j,hj,hb⟩;rw[KD]at hb;simp only[EC]at hb;simp only[bC.pk];cases j with
   | zero=>simp only[vJ,EC]at hb;omega
   | succ j=>
    by_cases h0:0<=c - bC.step b;·have:=(LW l (c - bC.step b) h0).2 ⟨j,by simpa using hj,by omega⟩;omega
    ·omega
theorem yU(t:ByteArray):∀j,j<=t.size->jO t j=EC (t.data.toList.take j)
 | 0,_=>rfl
 | j+1,hj=>by
  have hj':j<t.data.toList.length:=by rw[fA];omega
  rw[DZ t j (by omega),yU t j (by omega),lI hj',AO];simp only[EC];have:t[j]=t.data.toList[j]:=rfl;rw[this];omega
theorem VR(t:ByteArray):xS t=decide (20<yT t):=by
 have h0:=LU t;by_cases h:20<yT t;·rw[decide_eq_true h];obtain⟨j,hj,hb⟩:=(LW t.data.toList 20 (by omega)).1 (by omega);rw[fA]at hj;exact Ai hj (by rw[yU t (j+1) (by omega)];exact hb)
 ·rw[decide_eq_false h];refine JE (λj hj hb=>h ?_);rw[yU t (j+1) (by omega)]at hb;have:=(LW t.data.toList 20 (by omega)).2 ⟨j,by rw[fA];omega,hb⟩;omega
theorem O6{c:UInt8}(h:fF c=true):bC.step c=0:=by unfold fF at h;simp only[eB,decide_eq_true_eq]at h;unfold bC.step;rw[if_neg (by rintro rfl;exact absurd h.1 (by decide)),if_neg (by rintro rfl;exact absurd h.1 (by decide))]
theorem iV{l:List UInt8}(h:bL l=true):∀b∈l,bC.step b=0:=by unfold bL at h;simp only[eB]at h;exact λb hb=>O6 (iO.1 h.2 b hb)
theorem op_flat{s:ByteArray}(h:Qd s=true):∀b∈s.data.toList,bC.step b=0:=by
 by_cases h1:s.size=1
 ·obtain⟨c,rfl⟩:=one_byte h1;have:∀c:Fin 256,Qd ⟨#[UInt8.ofFin c]⟩=true->bC.step (UInt8.ofFin c)=0:=by decide +kernel
  intro b hb;simp at hb;subst hb;exact this b.toFin h
 ·rw[Ku h1]at h;cases h
theorem step_dot:bC.step 46=0:=by decide
theorem VT{s:ByteArray}(h:o9 s=true):∀b∈s.data.toList,bC.step b=0:=by
 unfold o9 at h;simp only[eB,Bool.or_eq_true,Bool.not_eq_true']at h;cases hd:fB s with
 | none =>have h1:=h.1;unfold bC.preS at h1;rw[hd]at h1;exact iV h1
 | some i=>
  have h1:=h.1;have h2:bL (jW s).data.toList=true:=by
   rcases h.2 with h2|h2;·rw[hd]at h2;cases h2
   ·exact h2
  unfold bC.preS at h1;unfold jW at h2;rw[hd]at h1 h2;obtain⟨hi,hdot⟩:=bC.find_spec hd;intro b hb;obtain⟨k,hk,rfl⟩:=eX.1 hb;have hks:k<s.size:=by rw[fA]at hk;exact hk
  have e1:(s.extract 0 i).data.toList=s.data.toList.take i:=by simp[ByteArray.data_extract]
  have e2:(s.extract (i+1) s.size).data.toList=s.data.toList.drop (i+1):=by simp[ByteArray.data_extract];exact eP (by rw[qz,fA];omega)
  simp only[e1]at h1;simp only[e2]at h2;rcases Nat.lt_trichotomy k i with hlt|rfl|hgt;·exact iV h1 _ (eX.2 ⟨k,by rw[d9];omega,by rw[List.getElem_take]⟩)
  ·have:s.data.toList[k]=46:=by have:=hdot;simp only[beq_iff_eq]at this;rw[List.getD,aU hk]at this;exact this
   rw[this];exact step_dot
  ·exact iV h2 _ (eX.2 ⟨k - (i+1),by rw[qz];omega,by rw[List.getElem_drop];congr 1;omega⟩)
theorem Hl:∀d:Fin 10,bC.step (UInt8.ofNat (48+d.val))=0:=by decide
theorem Zm:∀(u:Nat),∀b∈Lib.decDigits u,bC.step b=0:=by
 intro u;induction u using Nat.strongRecOn with
 | ind u ih=>
  intro b hb;rw[Lib.decDigits]at hb;split at hb;·rename_i h;rw[iy]at hb;subst hb;exact Hl ⟨u,h⟩
  ·rename_i h;rcases cK.1 hb with hb|hb;·exact ih (u / 10) (by omega) b hb
   ·rw[iy]at hb;subst hb;exact Hl ⟨u % 10,by omega⟩
theorem Zn{n:Int}(h:0<=n):∀b∈(⟨(Lib.itoa n).toArray⟩:ByteArray).data.toList,bC.step b=0:=by
 intro b hb;have hb':b∈Lib.itoa n:=by simpa using hb
 unfold Lib.itoa at hb';rw[if_neg (by omega)]at hb';exact Zm _ b hb'
theorem wu{α β:Type}{f:β->Nat}{g:α->β}(l:List α):gH f (l.map g)=gH (λy=>f (g y)) l:=by
 induction l with
 | nil=>rfl
 | cons y l ih=>rw[dN,bH,bH,ih]
theorem yV{α:Type}{f g:α->Nat}{l:List α}(h:∀y∈l,f y=g y):gH f l=gH g l:=by
 induction l with
 | nil=>rfl
 | cons y l ih=>rw[bH,bH,h y (by simp),ih (λz hz=>h z (by simp[hz]))]
theorem VU{α:Type}{f:α->Nat}{l:List α}(h:∀y∈l,f y=0):gH f l=0:=by have:=EO (f:=f) (B:=0) (l:=l) (λy hy=>by rw[h y hy];omega);omega
theorem pQ{α:Type}{f:α->Nat}:gH f []=0:=rfl
theorem LX:∀(m:Nat) (x:Ex),dM m x=true->yT (jI m x)=uN m x/\EW (jI m x)
 | 0,x,h=>by simp[dM]at h
 | m+1,x,h=>by
  rw[DR,eB]at h;obtain⟨hp,hall⟩:=h;have hargs:∀y∈x.args,yT (jI m y)=uN m y/\EW (jI m y):=λy hy=>LX m y (iO.1 hall y hy);unfold yD at hp;by_cases h1:x.kind=1;·rw[if_pos h1]at hp;simp only[eB,decide_eq_true_eq]at hp;have:=eT (Zn hp.1.1.1);simp only[jI,uN];rw[if_pos h1,if_pos (Or.inl h1)];exact this
  rw[if_neg h1]at hp;by_cases h2:x.kind=2;·rw[if_pos h2]at hp;simp only[eB]at hp;have:=eT (iV hp.1.1);simp only[jI,uN];rw[if_neg h1,if_pos h2,if_pos (Or.inr h2)];exact this
  rw[if_neg h2]at hp;have hD:uN (m+1) x=1+gH (uN m) x.args:=by simp only[uN];rw[if_neg (by omega)]
  have hT:jI (m+1) x=x.args.foldl (jc (jI m)) (nI x)++(⟨#[41]⟩:ByteArray):=by simp only[jI];rw[if_neg h1,if_neg h2]
  have hM:gH yT (x.args.map (jI m))=gH (uN m) x.args:=by rw[wu];exact yV (λy hy=>(hargs y hy).1)
  have hB:∀t∈x.args.map (jI m),EW t:=λt ht=>by obtain⟨y,hy,rfl⟩:=qC.1 ht;exact(hargs y hy).2
  by_cases h3:x.kind=3
  ·rw[if_pos h3]at hp;simp only[eB]at hp;obtain⟨f1,f2⟩:=eT (op_flat hp.1.1);rw[hT,<-op_text x (jI m) (by omega),hD];obtain⟨g1,g2⟩:=j4 (l:=x.name::x.args.map (jI m)) (λt ht=>by
    rcases eY.1 ht with rfl|ht;·exact f2
    ·exact hB t ht)
   refine⟨?_,g2⟩;rw[g1,bH,f1,hM];omega
  rw[if_neg h3]at hp;by_cases h4:x.kind=4
  ·rw[if_pos h4]at hp;simp only[eB]at hp;obtain⟨f1,f2⟩:=eT (VT hp.1.1);obtain⟨k1,k2⟩:yT ⟨#[99,97,108,108]⟩=0/\EW ⟨#[99,97,108,108]⟩:=eT (by decide);rw[hT,<-Ve x (jI m) h4,hD];obtain⟨g1,g2⟩:=j4 (l:=⟨#[99,97,108,108]⟩::x.name::x.args.map (jI m)) (λt ht=>by
    rcases eY.1 ht with rfl|ht;·exact k2
    ·rcases eY.1 ht with rfl|ht;·exact f2
     ·exact hB t ht)
   refine⟨?_,g2⟩;rw[g1,bH,bH,k1,f1,hM];omega
  rw[if_neg h4]at hp;cases hp
theorem LY:∀(m:Nat) (l:List St),fZ m l=true->gH yT (Iu m l)=Io m l/\∀t∈Iu m l,EW t
 | 0,l,h=>by simp[fZ]at h
 | m+1,l,h=>by
  rw[sW]at h;have hst:∀s∈l,yT (Vj m s)=Og m s/\EW (Vj m s):=λs hs=>by
   have h1:=iO.1 h s hs;unfold sG at h1;simp only[eB]at h1;obtain⟨⟨⟨Zo,oke⟩,oka⟩,okb⟩:=h1;obtain⟨x1,x2⟩:=LX m s.e oke;obtain⟨a1,a2⟩:=LY m s.a oka;obtain⟨b1,b2⟩:=LY m s.b okb;obtain⟨a3,a4⟩:=j4 a2;obtain⟨b3,b4⟩:=j4 b2;unfold vB at Zo;by_cases k14:s.kind=1\/s.kind=4
   ·rw[if_pos k14]at Zo;simp only[eB]at Zo;obtain⟨n1,n2⟩:=eT (iV Zo.1.1);have hd:Og m s=1+uN m s.e:=by unfold Og;rw[if_neg (by omega)]
    rw[hd];rcases k14 with hk|hk;·rw[<-Yx m s hk];obtain⟨w1,w2⟩:yT ⟨#[115,101,116]⟩=0/\EW ⟨#[115,101,116]⟩:=eT (by decide);obtain⟨g1,g2⟩:=j4 (l:=[⟨#[115,101,116]⟩,s.name,jI m s.e]) (by intro t ht;simp only[eY,uX,or_false]at ht;rcases ht with rfl|rfl|rfl<;>assumption);refine⟨?_,g2⟩;rw[g1,bH,bH,bH,pQ,w1,n1,x1];omega
    ·rw[<-Q5 m s hk];obtain⟨w1,w2⟩:yT ⟨#[112,114,105,110,116]⟩=0/\EW ⟨#[112,114,105,110,116]⟩:=eT (by decide);obtain⟨g1,g2⟩:=j4 (l:=[⟨#[112,114,105,110,116]⟩,s.name,jI m s.e]) (by intro t ht;simp only[eY,uX,or_false]at ht;rcases ht with rfl|rfl|rfl<;>assumption);refine⟨?_,g2⟩;rw[g1,bH,bH,bH,pQ,w1,n1,x1];omega
   rw[if_neg k14]at Zo;by_cases k2:s.kind=2
   ·have hd:Og m s=1+max (max (uN m s.e) (1+Io m s.a)) (1+Io m s.b):=by unfold Og;rw[if_pos (Or.inl k2)]
    rw[hd,<-if_text m s k2];obtain⟨w1,w2⟩:yT ⟨#[105,102]⟩=0/\EW ⟨#[105,102]⟩:=eT (by decide);obtain⟨g1,g2⟩:=j4 (l:=[⟨#[105,102]⟩,jI m s.e,bC.brk (Iu m s.a),bC.brk (Iu m s.b)]) (by intro t ht;simp only[eY,uX,or_false]at ht;rcases ht with rfl|rfl|rfl|rfl<;>assumption);refine⟨?_,g2⟩;rw[g1,bH,bH,bH,bH,pQ,w1,x1,a3,b3,a1,b1];omega
   rw[if_neg k2]at Zo;by_cases k3:s.kind=3
   ·rw[if_pos k3]at Zo;simp only[eB,beq_iff_eq]at Zo;have hb0:s.b=[]:=qp.1 Zo.2;have hbd:Io m s.b=0:=by rw[hb0];cases m<;>rfl
    have hd:Og m s=1+max (max (uN m s.e) (1+Io m s.a)) (1+Io m s.b):=by unfold Og;rw[if_pos (Or.inr k3)]
    rw[hd,<-Q6 m s k3];obtain⟨w1,w2⟩:yT ⟨#[119,104,105,108,101]⟩=0/\EW ⟨#[119,104,105,108,101]⟩:=eT (by decide);obtain⟨g1,g2⟩:=j4 (l:=[⟨#[119,104,105,108,101]⟩,jI m s.e,bC.brk (Iu m s.a)]) (by intro t ht;simp only[eY,uX,or_false]at ht;rcases ht with rfl|rfl|rfl<;>assumption);refine⟨?_,g2⟩;rw[g1,bH,bH,bH,pQ,w1,x1,a3,a1,hbd];omega
   rw[if_neg k3]at Zo;cases Zo
  simp only[Iu];rw[Gd,wu];refine⟨yV (λs hs=>(hst s hs).1),λt ht=>?_⟩;obtain⟨s,hs,rfl⟩:=qC.1 ht;exact(hst s hs).2
theorem Uy{m:Nat}{f:Fu}(h:Vd m f=true):yT (VQ m f)=TM m f/\EW (VQ m f):=by
 unfold Vd at h;simp only[eB]at h;obtain⟨⟨⟨hn,hb⟩,hx⟩,hp⟩:=h;obtain⟨n1,n2⟩:=eT (iV hn);obtain⟨b1,b2⟩:=LY m f.body hb;obtain⟨x1,x2⟩:=LX m f.result hx;have hpar:∀p∈f.params,yT p=0/\EW p:=λp hpm=>eT (iV (iO.1 hp p hpm));obtain⟨p1,p2⟩:=j4 (l:=f.params) (λp hpm=>(hpar p hpm).2);rw[VU (λp hpm=>(hpar p hpm).1)]at p1;obtain⟨w1,w2⟩:yT ⟨#[102,117,110]⟩=0/\EW ⟨#[102,117,110]⟩:=eT (by decide);have hfl:[[(⟨#[102,117,110]⟩:ByteArray),f.name,bC.brk f.params],Iu m f.body,[jI m f.result]].flatten=⟨#[102,117,110]⟩::f.name::bC.brk f.params::(Iu m f.body++[jI m f.result]):=by simp
 unfold VQ;rw[hfl];obtain⟨g1,g2⟩:=j4 (l:=⟨#[102,117,110]⟩::f.name::bC.brk f.params::(Iu m f.body++[jI m f.result])) (by
  intro t ht;simp only[eY,cK,uX,or_false]at ht;rcases ht with rfl|rfl|rfl|ht|rfl;·exact w2
  ·exact n2
  ·exact p2
  ·exact b2 t ht
  ·exact x2)
 refine⟨?_,g2⟩;rw[g1,bH,bH,bH,mZ,bH,pQ,w1,n1,p1,b1,x1];unfold TM;omega
theorem moT_dpt{m:Nat}{x:Mo}(hm:x.aR≠[]->m≠0)(hn:dP x.name=true)(hi:x.imports.all dP=true)(hv:x.vars.all Es=true)(hf:∀f∈x.aR,Vd m f=true):xS (TL m x)=decide (20<moD m x):=by
 rw[VR,<-moX_eq hm];obtain⟨n1,n2⟩:=eT (iV hn);have hI:∀y∈x.imports,yT (CS y)=1/\EW (CS y):=λy hy=>by obtain⟨f1,f2⟩:=eT (iV (iO.1 hi y hy));obtain⟨w1,w2⟩:yT ⟨#[105,109,112,111,114,116]⟩=0/\EW ⟨#[105,109,112,111,114,116]⟩:=eT (by decide);obtain⟨g1,g2⟩:=j4 (l:=[⟨#[105,109,112,111,114,116]⟩,y]) (by intro t ht;simp only[eY,uX,or_false]at ht;rcases ht with rfl|rfl<;>assumption);refine⟨?_,g2⟩;unfold CS;rw[g1,bH,bH,pQ,w1,f1];omega
 have hV:∀y∈x.vars,yT (VA y)=1/\EW (VA y):=λy hy=>by have hy':=iO.1 hv y hy;unfold Es at hy';simp only[eB]at hy';obtain⟨f1,f2⟩:=eT (iV hy'.1);obtain⟨e1,e2⟩:=eT (iV hy'.2);obtain⟨w1,w2⟩:yT ⟨#[118,97,114]⟩=0/\EW ⟨#[118,97,114]⟩:=eT (by decide);obtain⟨g1,g2⟩:=j4 (l:=[⟨#[118,97,114]⟩,y.name,y.level]) (by intro t ht;simp only[eY,uX,or_false]at ht;rcases ht with rfl|rfl|rfl<;>assumption);refine⟨?_,g2⟩;unfold VA;rw[g1,bH,bH,bH,pQ,w1,f1,e1];omega
 obtain⟨w1,w2⟩:yT ⟨#[109,111,100,117,108,101]⟩=0/\EW ⟨#[109,111,100,117,108,101]⟩:=eT (by decide);have hfl:[[(⟨#[109,111,100,117,108,101]⟩:ByteArray),x.name],x.imports.map CS,x.vars.map VA,x.aR.map (VQ m)].flatten=⟨#[109,111,100,117,108,101]⟩::x.name::(x.imports.map CS++(x.vars.map VA++x.aR.map (VQ m))):=by simp
 unfold moX;rw[hfl];obtain⟨g1,_⟩:=j4 (l:=⟨#[109,111,100,117,108,101]⟩::x.name::(x.imports.map CS++(x.vars.map VA++x.aR.map (VQ m)))) (by
  intro t ht;simp only[eY,cK,qC]at ht;rcases ht with rfl|rfl|⟨y,hy,rfl⟩|⟨y,hy,rfl⟩|⟨y,hy,rfl⟩;·exact w2
  ·exact n2
  ·exact(hI y hy).2
  ·exact(hV y hy).2
  ·exact(Uy (hf y hy)).2)
 have m1:gH yT (x.imports.map CS)<=1:=by rw[wu];exact EO (λy hy=>by rw[(hI y hy).1];omega)
 have m2:gH yT (x.vars.map VA)<=1:=by rw[wu];exact EO (λy hy=>by rw[(hV y hy).1];omega)
 have m3:gH yT (x.aR.map (VQ m))=gH (TM m) x.aR:=by rw[wu];exact yV (λy hy=>(Uy (hf y hy)).1)
 rw[g1,bH,bH,mZ,mZ,w1,n1,m3];unfold moD;exact decide_eq_decide.2 (by omega)
namespace bC
end bC
theorem LZ(m:Nat)(w:World)(vp vb e0 e1 e2 e3:Value)(f:Fu)(h:QT w m vp vb e0 e1 e2 e3 f):Calls prog 139 #[.agg #[.string f.name,vp,vb,e0,e1,e2,e3]] w λe w'=>e=.returned (.int .i64 (Gq m f))/\Below w.heap.size w w':=by
 have HS:=hide h;obtain⟨hnm,hp,hsb,hx⟩:=h;obtain⟨ae,ce,rfl,rfl,rfl,rfl⟩:=hx.shape;obtain⟨a1,jm,rfl,hl1⟩:=hsb.shape;obtain⟨a2,cap2,rfl,hl2⟩:=hp.shape;clear hx hsb hp;have HE:Hid (Gq m f=if 4<f.params.length then 2 else if (bL f.name.data.toList&&fZ m f.body&&dM m f.result&&f.params.all λs=>bL s.data.toList)then 0 else 5):=rfl;generalize f.result.args.length=le at *;generalize f.body.length=l1 at *;generalize f.params.length=l2 at *;have HB0:=hide (aB w (.cells #[.string f.name,.slice a2 l2 cap2,.slice a1 l1 jm,.int .i64 f.result.kind,.int .i64 f.result.n,.string f.result.name,.slice ae le ce] 132));have q0:=box7_0 w (.string f.name) (.slice a2 l2 cap2) (.slice a1 l1 jm) (.int .i64 f.result.kind) (.int .i64 f.result.n) (.string f.result.name) (.slice ae le ce) 132;have q1:=box7_1 w (.string f.name) (.slice a2 l2 cap2) (.slice a1 l1 jm) (.int .i64 f.result.kind) (.int .i64 f.result.n) (.string f.result.name) (.slice ae le ce) 132;have q2:=X4 w (.string f.name) (.slice a2 l2 cap2) (.slice a1 l1 jm) (.int .i64 f.result.kind) (.int .i64 f.result.n) (.string f.result.name) (.slice ae le ce) 132;have q3:=X5 w (.string f.name) (.slice a2 l2 cap2) (.slice a1 l1 jm) (.int .i64 f.result.kind) (.int .i64 f.result.n) (.string f.result.name) (.slice ae le ce) 132;have q4:=X6 w (.string f.name) (.slice a2 l2 cap2) (.slice a1 l1 jm) (.int .i64 f.result.kind) (.int .i64 f.result.n) (.string f.result.name) (.slice ae le ce) 132;have q5:=X7 w (.string f.name) (.slice a2 l2 cap2) (.slice a1 l1 jm) (.int .i64 f.result.kind) (.int .i64 f.result.n) (.string f.result.name) (.slice ae le ce) 132;have q6:=X8 w (.string f.name) (.slice a2 l2 cap2) (.slice a1 l1 jm) (.int .i64 f.result.kind) (.int .i64 f.result.n) (.string f.result.name) (.slice ae le ce) 132;by_cases h4:4<l2;·rw[if_pos h4]at HE;clear q0 q1 q2 q3 q4 q5 q6;go_enter func139,ntmps139;go_wp2;go_ret;exact⟨bA HE.symm,HB0⟩
 rw[if_neg h4]at HE;go_enter func139,ntmps139;go_wp2_with fail;refine(iZ _ f.name hnm).mono ?_;rintro e w1 ⟨rfl,hw1⟩;subst hw1;generalize (w.alloc (.cells #[.string f.name,.slice a2 l2 cap2,.slice a1 l1 jm,.int .i64 f.result.kind,.int .i64 f.result.n,.string f.result.name,.slice ae le ce] 132))=W0 at *;generalize bL f.name.data.toList=b1 at *;cases b1;·go_wp2;go_ret;exact⟨bA (by rw[HE];rfl),HB0⟩
 go_wp2_with fail;refine(zP _ _ f.params (HS.below HB0).2.1).mono ?_;rintro e w1 ⟨rfl,hw1⟩;subst hw1;generalize (f.params.all λs=>bL s.data.toList)=b2 at *;cases b2;·go_wp2;go_ret;exact⟨bA (by rw[HE,Af];rfl),HB0⟩
 go_wp2_with fail;refine(Em m _ _ f.body (HS.below HB0).2.2.1).mono ?_;rintro e w1 ⟨rfl,hb1⟩;replace q3:=aA q3 hb1;replace q4:=aA q4 hb1;replace q5:=aA q5 hb1;replace q6:=aA q6 hb1;have HB1:=hide (up HB0 hb1);clear hb1 q0 q1 q2 HB0;generalize fZ m f.body=b3 at *;cases b3;·go_wp2;go_ret;exact⟨bA (by rw[HE];rfl),HB1⟩
 go_wp2_with fail;refine(Gc m _ _ _ _ _ f.result (HS.below HB1).2.2.2).mono ?_;rintro e w2 ⟨rfl,hb2⟩;have HB2:=hide (up HB1 hb2);clear hb2 q3 q4 q5 q6;generalize dM m f.result=b4 at *;cases b4;·go_wp2;go_ret;exact⟨bA (by rw[HE];rfl),HB2⟩
 ·go_wp2;go_ret;exact⟨bA (by rw[HE];rfl),HB2⟩
theorem Zp{m:Nat}{f:Fu}(h:Gq m f=0):Vd m f=true:=by
 unfold Gq at h;split at h;·cases h
 ·split at h;·assumption
  ·cases h
theorem AP{m:Nat}:∀{l:List Fu},qQ m l=0->∀f∈l,Gq m f=0
 | [],_,f,hf=>by cases hf
 | g::l,h,f,hf=>by
  simp only[qQ]at h;by_cases hg:Gq m g=0
  ·rw[if_pos hg]at h;rcases eY.1 hf with rfl|hf;·exact hg
   ·exact AP h f hf
  ·rw[if_neg hg]at h;exact absurd h hg
theorem aaj{w:World}{m:Nat}{v:Value}{l:List Fu}(h:mP w m v l):l≠[]->m≠0:=by rintro hne rfl;obtain⟨a,b,off,cap,_,_,_,hel⟩:=h;obtain⟨f,hf⟩:∃f,l[0]?=some f:=⟨_,aU (Fw.2 hne)⟩;obtain⟨_,vp,vb,e0,e1,e2,e3,_,_,_,_,_,_,_,_,hsb,_⟩:=hel 0 f hf;exact hsb
theorem Ho(m:Nat)(w:World)(v:Value)(x:Mo)(h:jK w m v x)(hw:uM m x<=1048576)(_ht:Tab w):Calls prog 54 #[v] w λe w'=>e=.returned (.int .i64 (qA m x))/\Below w.heap.size w w':=by
 have HM:=hide h;have Ea:=hide (λW (hW:Hid (Below w.heap.size w W))=>Eo m W v x (h.below hW) hw);obtain⟨vi,vv,vf,rfl,hnm,hI,hV,hF⟩:=h;have hmz:=aaj hF
 have HDP:Hid (dP x.name=true->x.imports.all dP=true->x.vars.all Es=true->qQ m x.aR=0->xS (TL m x)=decide (20<moD m x)):=
  λh1 h2 h3 h4=>moT_dpt hmz h1 h2 h3 (λf hf=>Zp (AP h4 f hf))
 have HE:Hid (qA m x=if 8<x.imports.length\/8<x.vars.length\/8<x.aR.length then 2 else if ((dP x.name&&x.imports.all dP)&&x.vars.all Es)=false then 5
  else if qQ m x.aR≠0 then qQ m x.aR else if xS (TL m x)then 2 else 0):=rfl
 have Yf:=hide (λW (hW:Hid (Below w.heap.size w W))=>zP W vi x.imports (hI.below hW));have HVN:=hide (λW (hW:Hid (Below w.heap.size w W))=>Nk W vv x.vars (hV.below hW));obtain⟨ai,ci,rfl,IG⟩:=hI.shape;obtain⟨av,cv,rfl,hlv⟩:∃a c,vv=.slice a x.vars.length c/\x.vars.length<=9223372036854775807:=by obtain⟨a,_,_,c,e,_,e2,_⟩:=hV;exact⟨a,c,e,e2⟩
 obtain⟨a,b,off,cap,rfl,ha,hl,hel⟩:=hF;have gF:=hide hel;have HA:=hide ha;clear hI hV hel ha hmz hw;obtain⟨l,hfs⟩:=aG x.aR;rw[<-hfs]at gF HA hl HE HDP Ea ⊢;have Qg:=hide hfs;clear hfs;obtain⟨len,hlen⟩:=aG l.length;have HL:=hide hlen;rw[<-hlen]at hl HA HE Ea ⊢;clear hlen;generalize x.imports.length=li at *;generalize x.vars.length=lv at *;have HB0:=hide (aB w (.cells #[.string x.name,.slice ai li ci,.slice av lv cv,.slice a len cap] 26));have q0:=boxM0 w (.string x.name) (.slice ai li ci) (.slice av lv cv) (.slice a len cap) 26;have q1:=XZ w (.string x.name) (.slice ai li ci) (.slice av lv cv) (.slice a len cap) 26;have q2:=X0 w (.string x.name) (.slice ai li ci) (.slice av lv cv) (.slice a len cap) 26;have q3:=X3 w (.string x.name) (.slice ai li ci) (.slice av lv cv) (.slice a len cap) 26;by_cases hbig:8<li\/8<lv\/8<len
 ·rw[if_pos hbig]at HE;clear q0 q1 q2 q3;by_cases b1:8<li;·clear hbig;go_enter func54,ntmps54;go_wp2;go_ret;exact⟨bA HE.symm,HB0⟩
  ·by_cases b2:8<lv;·clear hbig;go_enter func54,ntmps54;go_wp2;go_ret;exact⟨bA HE.symm,HB0⟩
   ·have b3:8<len:=by omega
    clear hbig;go_enter func54,ntmps54;go_wp2;go_ret;exact⟨bA HE.symm,HB0⟩
 rw[if_neg hbig]at HE;have b1:¬8<li:=by omega
 have b2:¬8<lv:=by omega
 have b3:¬8<len:=by omega
 clear hbig;go_enter func54,ntmps54;go_wp2_with fail;refine(iZ _ x.name hnm).mono ?_;rintro e w1 ⟨rfl,hw1⟩;subst hw1;generalize (w.alloc (.cells #[.string x.name,.slice ai li ci,.slice av lv cv,.slice a len cap] 26))=W0 at *;cases hn:bL x.name.data.toList;·have HN:Hid (dP x.name=false):=hn;go_wp2;go_ret;exact⟨bA (by rw[HE,HN];rfl),HB0⟩
 have HN:Hid (dP x.name=true):=hn;go_wp2_with fail;refine(Yf _ HB0).mono ?_;rintro e w1 ⟨rfl,hw1⟩;subst hw1;cases hi:(x.imports.all λs=>bL s.data.toList);·have HI:Hid (x.imports.all dP=false):=hi;go_wp2;go_ret;exact⟨bA (by rw[HE,HN,HI];rfl),HB0⟩
 have HI:Hid (x.imports.all dP=true):=hi;go_wp2_with fail;refine(HVN _ HB0).mono ?_;rintro e W1 ⟨rfl,hb1⟩;replace q0:=aA q0 hb1;replace q1:=aA q1 hb1;replace q2:=aA q2 hb1;replace q3:=aA q3 hb1;have HB1:=hide (up HB0 hb1);clear hb1 HB0 hn hi;cases hv:(x.vars.all λs=>bL s.name.data.toList&&bL s.level.data.toList);·have HV:Hid (x.vars.all Es=false):=hv;go_wp2;go_ret;exact⟨bA (by rw[HE,HN,HI,HV];rfl),HB1⟩
 have HV:Hid (x.vars.all Es=true):=hv;have HE2:Hid (qA m x=if qQ m l≠0 then qQ m l else if xS (TL m x)then 2 else 0):=hide (by rw[HE,HN,HI,HV];rfl);clear hv HE;go_wp2;go_loopw[41] (λi wr=>∃j:Nat,j<=len/\i=.int .i64 j/\(∀d z,d<j->l[d]?=some z->Gq m z=0)/\Below W1.heap.size W1 wr) (λi _=>len - (intOf i).toNat);case atStart=>exact⟨0,bJ _,rfl,λd z hd=>absurd hd (dY _),aX _ _⟩
 case round=>
  obtain⟨j,hj,rfl,hall,hnx⟩:=hrel;have cO:=hide hall;clear hall;by_cases hjl:j<len
  ·obtain⟨y,hy⟩:∃y,l[j]?=some y:=⟨_,aU (by rw[<-HL];exact hjl)⟩;obtain⟨k1,vp,vb,e0,e1,e2,e3,g0,g1,g2,g3,g4,g5,g6,hp,hsb,hx⟩:=gF j y hy;have HY:=hide hy;obtain rfl:=HA (by omega);have hbb:=up HB1 hnx;have u0:=aA g0 hbb;have u1:=aA g1 hbb;have Qt:=aA g2 hbb;have Ed:=aA g3 hbb;have u4:=aA g4 hbb;have u5:=aA g5 hbb;have u6:=aA g6 hbb;have HAT:Hid (QT wr m vp vb e0 e1 e2 e3 y):=hide ⟨k1,hp.below hbb,hsb.below hbb,hx.below hbb⟩;obtain⟨ae,ce,rfl,rfl,rfl,rfl⟩:=hx.shape;obtain⟨a1,jm,rfl,hl1⟩:=hsb.shape;obtain⟨a2,cap2,rfl,hl2⟩:=hp.shape;have bR:=hide hnx;clear g0 g1 g2 g3 g4 g5 g6 hx hsb hp hy hnx hbb q0 q1 q2 q3;go_wp2_with fail;refine(LZ m _ _ _ _ _ _ _ y (HAT.below (aB _ _))).mono ?_;rintro e w5 ⟨rfl,hb5⟩;have iL:=hide (up bR (Qc hb5));clear hb5 bR;obtain⟨E,hE⟩:=aG (Gq m y);have WT:=hide hE;rw[<-hE];clear hE;by_cases h0:E=0
   ·subst h0;go_wp2_with fail;go_roundw;case rel=>exact⟨j+1,by omega,by go_num,λd z hd hz=>by
     by_cases e:d=j;·subst e;rw[HY]at hz;cases hz;exact WT.symm
     ·exact cO d z (by omega) hz,iL⟩
    case measure=>simp[intOf];omega
   ·have h0':=xI h0;have H0:=hide h0;clear h0;go_wp2;go_ret;exact⟨bA (by rw[HE2,K3 cO HY (by rw[<-WT];exact H0),if_pos (by rw[<-WT];exact H0)];exact WT),up HB1 iL⟩
  ·have hf0:qQ m l=0:=Cu (λd z hz=>cO d z (by have:=(dG.1 hz).1;have:=HL.out;omega) hz);have HD:=hide (HDP HN HI HV hf0);have HE3:Hid (qA m x=if 20<moD m x then 2 else 0):=hide (by rw[HE2,hf0,HD];simp);have u0:=aA q0 hnx;have u1:=aA q1 hnx;have Qt:=aA q2 hnx;have Ed:=aA q3 hnx;have bR:=hide (up HB1 hnx);clear hnx q0 q1 q2 q3 hf0;go_wp2_with fail;refine(Ea _ bR).mono ?_;rintro e w6 ⟨rfl,hb6⟩;have dB:=hide (up bR hb6);clear hb6;generalize moD m x=dd at *;by_cases hd:20<dd
   ·rw[if_pos hd]at HE3;have hd':(dd:Int) > 20:=by omega
    clear hd;go_wp2;go_ret;exact⟨bA HE3.symm,dB⟩
   ·rw[if_neg hd]at HE3;have hd':¬((dd:Int) > 20):=by omega
    clear hd;go_wp2;go_ret;exact⟨bA HE3.symm,dB⟩
theorem moE_ok{m:Nat}{x:Mo}(h:qA m x=0):∀f∈x.aR,fZ m f.body=true/\dM m f.result=true:=by
 have h1:qQ m x.aR=0:=by
  unfold qA at h;split at h;·cases h
  ·split at h;·cases h
   ·split at h;·rename_i hne;exact absurd h hne
    ·rename_i hne;exact Classical.byContradiction hne
 intro f hf;have h2:=Zp (AP h1 f hf);unfold Vd at h2;simp only[eB]at h2;exact⟨h2.1.1.2,h2.1.2⟩
open Go.Shelf
theorem lF.holds{w:World}{g:Nat}{l:List ByteArray}(h:lF w g l):Sort.Holds encStr w g 0 (l.map (·.data.toList)).toArray:=by
 obtain⟨cur,hc,hsz,hel⟩:=h;intro j hj;have hjl:j<l.length:=by simpa using hj
 refine⟨?_,aD hc _⟩;rw[fT,aj hc,hel j _ (aU hjl)];congr 1;simp[hjl]
theorem lF.Rf{w:World}{g n:Nat}{l:List ByteArray}{os:Array Obj}{b:List (List UInt8)}(h:lF w g l)(hb:b.length=l.length):lF (Sort.grow (Sort.putRow encStr (Sort.ahead w n) g 0 b.toArray) os) g (b.map λx=>⟨x.toArray⟩):=by
 obtain⟨cur,hc,hsz,hel⟩:=h;have hg:=block_lt hc;have hblk:(Sort.grow (Sort.putRow encStr (Sort.ahead w n) g 0 b.toArray) os).heap[g]?=some (.cells (Sort.putCells encStr 0 b.toArray cur) 9 (0,0)):=by simp only[Sort.grow,Sort.putRow,Sort.mapBlock,Sort.ahead];rw[JI (by simpa using hg)];simp[Fv,hc,Sort.onCells]
 refine⟨_,hblk,by simp only[Sort.putCells,Array.size_mapIdx,cB];omega,λi d hd=>?_⟩;have hi:i<b.length:=by simpa using(dG.1 hd).1
 rw[rF,aU hi]at hd;simp at hd;subst hd;have hic:i<cur.size:=by omega
 simp[Sort.putCells,hic,hi]
theorem Hq(w:World)(p:Option Addr)(cap:Nat):Calls prog 89 #[.slice p 0 cap] w λe w'=>e=.returned (.tuple #[])/\w'=w:=
 Any.slices_Sort_string_none Tryz.lSoS p cap w
theorem RJ(w:World)(va:Option Addr)(vl:Value)(N cap:Nat)(m l:Int)(hN:N<=9223372036854775807):Calls prog 90 #[.agg #[.slice va N cap,vl],.agg #[.int .i64 m,.int .i64 l]] w λe w'=>e=.returned (.bool (yg N m l))/\Below w.heap.size w w':=by
 obtain⟨W,hW⟩:=aG ((w.alloc (.cells #[.slice va N cap,vl] 34)).alloc (.cells #[.int .i64 m,.int .i64 l] 72));have hb:Below w.heap.size w W:=by rw[hW];exact((aX _ _).alloc (bM _) _).alloc (by simp) _
 have HB:=hide hb;obtain⟨E,hE⟩:=aG (yg N m l);have HE:Hid (E=(decide (0<=m)&&decide (m<=15)&&(decide (0<=l)&&decide (l<=(N:Int) - 1)))):=hide (by rw[hE,yg,rD];simp only[eB,decide_eq_true_eq];omega);rw[<-hE];have HI:=hide (λa lo hi=>o8 W a lo hi);have q0:W.cell? ⟨w.heap.size,0,none⟩=some (.slice va N cap):=by rw[hW];simp[go_sem]
 have q1:W.cell? ⟨w.heap.size+1,1,none⟩=some (.int .i64 l):=by rw[hW];simp[go_sem]
 clear hb hE;go_enter func90,ntmps90;go_wp2_with fail;rw[<-hW];clear hW;refine(HI m 0 15).mono ?_;rintro e w' ⟨rfl,rfl⟩;cases h1:(decide (0<=m)&&decide (m<=15));·rw[h1,ng]at HE;go_wp2_with fail;go_ret;exact⟨aH (by rw[HE]),HB⟩
 ·rw[h1,gV]at HE;go_wp2_with fail;refine(HI l 0 ((N:Int) - 1)).mono ?_;rintro e w' ⟨rfl,rfl⟩;go_wp2_with fail;go_ret;exact⟨aH (by rw[HE]),HB⟩
theorem L9(a b c d:Int)(w:World):(Op.equalIn 10000 72 (.agg #[.int .i64 a,.int .i64 b]) (.agg #[.int .i64 c,.int .i64 d])).run prog w=.ok ((a==c)&&(b==d)) w:=by
 have u3:=underlying3;have a3:=Tryz.isAgg3;have z3:=Tryz.sizeOf3;have hS:prog.underlying 72=some (.struct (prog.fieldsOf 72)):=by kernel_rfl
 have hp:prog.stoodInHeld 72=false:=by kernel_rfl
 rw[show(10000:Nat)=9999+1 from rfl,run_equalIn_agg w 9999 72 _ _ hS hp];simp only[Program.fieldsOf,underlying72];go_simp;cases h1:(a==c)<;>cases h2:(b==d)<;>simp_all
theorem Hr(op:BinOp)(p q:Operand)(a b c d:Int)(w:World):(eqGuard op 72 p q (.agg #[.int .i64 a,.int .i64 b]) (.agg #[.int .i64 c,.int .i64 d])).run prog w=.ok () w:=
 run_eqGuard_agg w op _ p q _ _ (by kernel_rfl)
end Go.Proofs.YtfnboapebijcpaaGreatDoor
