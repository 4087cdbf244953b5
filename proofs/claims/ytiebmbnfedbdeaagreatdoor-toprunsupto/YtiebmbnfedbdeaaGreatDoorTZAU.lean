import Derived.Test.YtiebmbnfedbdeaaGreatDoorTZAS
import Derived.Test.YtiebmbnfedbdeaaGreatDoorTZAQ
set_option maxHeartbeats 0
set_option maxRecDepth 99999
namespace Go.Proofs.YtiebmbnfedbdeaaGreatDoor
open bS bO Rn
open Go.Proofs.Tryz
open Go.RowKit
namespace bO
end bO
namespace bS
def stX(m:Nat)(s:St):ByteArray:=stT (zT m) (bdT m) s ⟨#[]⟩
def Me:Nat->List St->List ByteArray
 | 0,_=>[]
 | m+1,l=>l.map (stX m)
end bS
theorem ahE(a:Ex->aS)(bt:List St->aS)(s:St)(acc:aS):stT a bt s acc=acc++stT a bt s ⟨#[]⟩:=by
 have b:∀x:aS,(⟨#[]⟩:aS)++x=x:=λx=>by apply iQ;rw[iN];rfl
 have c:∀x:aS,x++(⟨#[]⟩:aS)=x:=λx=>by apply iQ;rw[iN];simp
 unfold stT;simp only[b];split;·rfl
 ·split;·rfl
  ·split;·rfl
   ·split;·rfl
    ·rw[c]
theorem rQ(c:List UInt8)(a b:List (List UInt8)):Lib.joinTail c (a++b)=Lib.joinTail c a++Lib.joinTail c b:=by simp[Lib.joinTail]
theorem lW(l:aJ):(bS.jn l).data.toList=Lib.join (l.map (·.data.toList)) [32]:=by unfold bS.jn;rfl
theorem YX(l:aJ)(x:aS):bS.jn (l++[x])=(if 0<l.length then bS.jn l++(⟨#[32]⟩:aS)else bS.jn l)++x:=by
 cases l with
 | nil =>apply iQ;rw[aI cK,iN,lW,lW];simp[Lib.join_one,Lib.join_nil]
 | cons y l =>apply iQ;rw[aK cK,iN,iN,lW,lW,List.cons_append,fZ,fZ,Lib.join_cons,Lib.join_cons,gX,rQ];simp[Lib.joinTail]
theorem YZ(m:Nat)(l:List St):∀j,j<=l.length->bS.mK (zT m) (bdT m) l j=bS.jn ((l.take j).map (stX m))
 | 0,_=>by apply iQ;rw[lW];simp[bS.mK,Lib.join_nil]
 | j+1,hj=>by
  obtain⟨s,hs⟩:∃s,l[j]?=some s:=⟨_,aZ bC⟩;rw[Fz hs,ahE,map_take hs,YX,YZ m l j bC];have e:((l.take j).map (stX m)).length=j:=by rw[dV,iA];omega
  rw[e];rfl
theorem Pt(m:Nat)(l:List St):bdT m l=bS.jn (Me m l):=by
 cases m with
 | zero=>apply iQ;rw[lW];simp[bdT,Me,Lib.join_nil]
 | succ m =>simp only[bdT,Me];rw[YZ m l l.length (bG _),jQ]
section
variable (m : Nat) (s : St)
theorem aee(h:s.kind=1):bS.brk [⟨#[115,101,116]⟩,s.name,zT m s.e]=stX m s:=by apply iQ;rw[jk];unfold stX stT;rw[aK h];simp[Lib.join_cons,Lib.joinTail]
theorem Wq(h:s.kind=4):bS.brk [⟨#[112,114,105,110,116]⟩,s.name,zT m s.e]=stX m s:=by apply iQ;rw[jk];unfold stX stT;rw[aI bC,aK h];simp[Lib.join_cons,Lib.joinTail]
theorem Ws(h:s.kind=3):bS.brk [⟨#[119,104,105,108,101]⟩,zT m s.e,bS.brk (Me m s.a)]=stX m s:=by apply iQ;rw[jk];unfold stX stT;rw[aI bC,aI bC,aK h,Pt];simp[Lib.join_cons,Lib.joinTail,jk,lW]
theorem ahF(h:s.kind=2):bS.brk [⟨#[105,102]⟩,zT m s.e,bS.brk (Me m s.a),bS.brk (Me m s.b)]=stX m s:=by apply iQ;rw[jk];unfold stX stT;rw[aI bC,aI bC,aI bC,aK h,Pt,Pt];simp[Lib.join_cons,Lib.joinTail,jk,lW]
end
theorem Pv(w:bI)(g len cap:Nat)(l:aJ)(R:ji w g l)(ab:len=l.length)(ak:len<=cap)(hl:len<=4398046511104):aD 50 #[Tc g len cap] w λV w'=>∃c',V=dz (Tc g (gP l).length c')/\ji w' g (gP l)/\But g w w':=by
 obtain⟨e,HR⟩:=bV ab R;clear ab R;by_cases o:len<2
 ·have K:J (gP l=l):=Y (by
   have ae:=e.out;match l,ae with
   | [],_=>rfl
   | [x],_=>rfl
   | x::y::r,R=>simp at R;omega)
  go_enter func50,ntmps50;go_wp2;go_ret;exact⟨_,by rw[K,<-e];rfl,by rw[K];exact HR,But.refl _ _⟩
 ·go_enter func50,ntmps50;go_wp2_with fail;go_loopw[3] (λi wr=>∃j:Nat,j+1<=len/\i=O ((j:Int)+1)/\(∀(q:Nat) x y,q<j->l[q]?=some y->l[q+1]?=some x->cB x y=false)/\ji wr g l/\But g w wr) (λi _=>len - (intOf i).toNat);exact⟨0,by omega,rfl,λq x y S=>aM S<|fU _,HR,But.refl _ _⟩
  obtain⟨j,hj,rfl,aa,f,u⟩:=hrel;obtain⟨W,sU,fT⟩:=fE aa f u;clear aa u;by_cases aq:j+1<len
  ·obtain⟨y,z⟩:∃y,l[j]?=some y:=⟨_,aZ (by rw[<-e];omega)⟩;obtain⟨x,v⟩:∃y,l[j+1]?=some y:=⟨_,aZ (by rw[<-e];omega)⟩;obtain⟨HX,HY⟩:=bV v z;obtain⟨N,U⟩:=eY (f.cell v)<|f.cell z;have ag:decide ((j:Int)+1<(len:Int))=true:=by simp;omega
   clear v z f;cases H:cB x y
   ·have G:(x.toList==y.toList)=false:=H;have MF:=Y H;clear H;go_wp2_with fail;go_quiet (fail);go_wp2;go_roundw;exact⟨j+1,by omega,by go_num,λq a b S h o=>by
     by_cases V:q=j;·subst V;rw[HY]at h;rw[HX]at o;cases h;cases o;exact MF
     ·exact W q a b bC h o,sU.drew,fT.drew _⟩
    exact gV
   ·have G:(x.toList==y.toList)=true:=H;have Vi:J (gP (l.take<|j+1+1)=l.take (j+1)):=Y (by
     rw[vS HY HX,H,aK rfl];have af:(l.take<|j+1).length=j+1:=by rw[iA];have:=e.out;omega
     have h:=Aa (l:=l.take<|j+1) (λq a b h o=>by have S:=(cO.1 o).1;rw[af]at S;rw[nM bC]at h o;exact W q a b bC h o) (j+1) bC;rwa[List.take_take,Nat.min_self]at h)
    clear H;go_wp2_with fail;go_quiet (fail);obtain⟨ad,Mv⟩:=bV (sU.out.drew (n:=nq))<|fT.out.drew nq;clear N U G;generalize wr.drewN nq=W1 at *;go_wp2_with fail;go_loopw[3,5] (λa b wx=>∃c t:Nat,a=O c/\b=O ((t:Int)+1)/\j+1+(t+1)<=len/\c=(gP<|l.take<|j+1+(t+1)).length/\c<=j+1+t/\ji wx g (gP (l.take<|j+1+(t+1))++l.drop c)/\But g w wx) (λ_ b _=>len - (intOf b).toNat);exact⟨j+1,0,by go_num,rfl,by omega,by
     rw[show j+1+(0+1)=j+1+1 from rfl,Vi,iA];have:=e.out;omega,bG _,by
     rw[show j+1+(0+1)=j+1+1 from rfl,Vi,pK];exact ad,Mv⟩
    obtain⟨c,t,rfl,rfl,ar,E,am,f,u⟩:=hrel;obtain⟨p,oD,Kh⟩:=fE E f u;by_cases ao:j+1+(t+1)<len
    ·obtain⟨Q,z⟩:∃y,l[j+1+t]?=some y:=⟨_,aZ (by rw[<-e];omega)⟩;obtain⟨B,v⟩:∃y,l[j+1+(t+1)]?=some y:=⟨_,aZ (by rw[<-e];omega)⟩;obtain⟨z',hz⟩:∃y,l[c]?=some y:=⟨_,aZ (by rw[<-e];omega)⟩;obtain⟨N,U,m0⟩:=lS (f.cell (i:=j+1+(t+1)) (d:=B) (by rw[Ab E bC];exact v)) (f.cell (i:=j+1+t) (d:=Q) (by rw[Ab E bC];exact z)) (f.cell (i:=c) (d:=z') (by rw[Ab E bC];exact hz));obtain⟨D,F,-,-⟩:=f;have Z:=aF F c;have I:J (gP (l.take<|j+1+(t+1)+1)=if cB B Q then gP (l.take<|j+1+(t+1))else gP (l.take<|j+1+(t+1))++[B]):=Y<|vS (j:=j+1+t) z v;have ah:decide ((t:Int)+1<((len - (j+1):Nat):Int))=true:=by simp;omega
     clear v z hz F E u;cases C:cB B Q
     ·have G:(B.toList==Q.toList)=false:=C;rw[C,aI cK]at I;clear C;go_wp2_with fail;go_quiet (fail);have L:J (ji (wr.drewN nq) g _):=Y<|oD.out.drew (n:=nq);have P:=Y<|Kh.out.drew nq;replace N:(wr.drewN nq).cell? _=_:=N;replace m0:(wr.drewN nq).cell? _=_:=m0;replace Z:(wr.drewN nq).frozen? _=_:=Z;clear U G;generalize wr.drewN nq=W2 at *;go_wp2;go_roundw;exact⟨c+1,t+1,by go_num,by go_num,by omega,by
       rw[show j+1+(t+1+1)=j+1+(t+1)+1 by omega,I,bg,<-p];rfl,by omega,by
       rw[show j+1+(t+1+1)=j+1+(t+1)+1 by omega,I,<-SF p (by rw[<-e];omega)];exact L.set (by rw[bg,Bo,<-p,<-e];omega) B,P.set (aO rfl) _⟩
      exact gV
     ·have G:(B.toList==Q.toList)=true:=C;rw[C,aK rfl]at I;clear C;go_wp2_with fail;go_quiet (fail);have L:J (ji (wr.drewN nq) g _):=Y<|oD.out.drew (n:=nq);have P:=Y<|Kh.out.drew nq;clear N m0 Z U G;generalize wr.drewN nq=W2 at *;go_wp2;go_roundw;exact⟨c,t+1,rfl,by go_num,by omega,by
       rw[show j+1+(t+1+1)=j+1+(t+1)+1 by omega,I];exact p,by omega,by
       rw[show j+1+(t+1+1)=j+1+(t+1)+1 by omega,I];exact L,P⟩
      exact gV
    ·have DU:J (l.take (j+1+(t+1))=l):=Y<|fQ (by rw[<-e];omega);rw[DU]at oD p f;have ac:=f;obtain⟨D,F,ai,-⟩:=f;rw[bg,Bo,<-p,<-e]at ai;have al:=λty=>apG (c:=cap - c) F (show 0<len - c by omega) (show c+(len - c)<=D.size by omega) ty;have YR:=Y (λzs m=>ji.clear (zs:=zs) (k:=c) ac F (by rw[bg,<-p];omega) m);have ah:decide ((t:Int)+1<((len - (j+1):Nat):Int))=false:=by simp;omega
     have I4:J ((gP l++l.drop c).take c=gP l):=Y (by rw[p,List.take_left]);rw[I4]at YR;generalize (Builtin.zeroCells (A ⟨#[]⟩).cells<|len - c).toList=zs at *;obtain⟨P,L⟩:=bV (But.row (cs:=(D.toList.take (c)++zs++D.toList.drop (c+zs.length)).toArray) u)<|YR zs<|c+zs.length;generalize wr.setRow g (D.toList.take (c)++zs++D.toList.drop (c+zs.length)).toArray=W2 at *;clear ac F E u;go_wp2;go_ret;exact⟨_,by rw[<-p];rfl,L,P⟩
  ·have K:J (gP l=l):=Y (by have h:=Aa (l:=l) (λq a b h o=>W q a b (by have:=(cO.1 o).1;have:=e.out;omega) h o) l.length (bG _);rwa[jQ]at h);have ag:decide ((j:Int)+1<(len:Int))=false:=by simp;omega
   clear f;go_wp2;go_ret;exact⟨_,by rw[K,<-e];rfl,by rw[K];exact sU,fT⟩
theorem Bp(w:bI):aD 50 #[aU] w λe w'=>e=dz (aU)/\w'=w:=by go_enter func50,ntmps50;go_wp2;go_ret;exact⟨rfl,rfl⟩
