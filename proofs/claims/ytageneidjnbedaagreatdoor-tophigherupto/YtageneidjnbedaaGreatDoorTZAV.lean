import Derived.Test.YtageneidjnbedaaGreatDoorTZAQ
import Derived.Test.YtageneidjnbedaaGreatDoorTZVS
import Derived.Test.YtageneidjnbedaaGreatDoorTZAP
import Derived.Deep.RegionHeld3
set_option maxHeartbeats 0
set_option maxRecDepth 99999
namespace Go.Proofs.YtageneidjnbedaaGreatDoor
open bS bO Rn Sv
open Go.Proofs.Tryz
open Go.ChangeShapes Go.WideShapes Go.ChangeAt Go.RowKit Go.Deep Go.Joins
section
variable {H : Type} {enc : TypeId × Value → H} {W : World}
theorem Kl{t d r:Nat}{v:aC}{y:DataW H × List MemPlace}(u:prog.underlying t=some (.slice d))(h:DataW.trod enc prog W 0 (λ_=>true) true r t [v]=some y):uL v:=by
 rcases DataW.trod_slice u h with⟨e,rfl⟩|⟨a,len,cap,x,rest,n,D,e,rfl,_,E,G,F,C,_,_⟩;·simp at e;subst e;intro a n c d;injection d with _ f p;omega
 ·simp at e;subst e;intro a n c d;injection d with _ f p;omega
theorem Td{G:Nat}{v:aC}{y:DataW H × List MemPlace}(h:DataW.trod enc prog W 0 (λ_=>true) true G 45 [v]=some y):∀b off n c,v=X (some<|aN b off) n c->∀i,i<n->∃vp,bJ W b (off+i*7+1)=some vp/\uL vp:=by obtain⟨a,b,off,len,cap,D,U,K,hl,hD,Dj,M⟩:=kD underlying45 Yo bM h;intro b' ae n' c' f i Q;rw[U]at f;injection f with E F e2;subst F;have d:=K bC;rw[E]at d;injection d with d;injection d with d I;subst d I;obtain⟨n0,cs,d',af,ad,R,L,qx,Yq⟩:=M i Q;obtain⟨xs,n,ab,hx,ac,aa,P⟩:=Jw underlying82 qx;obtain⟨p,e,r,t,u,x,C,rfl⟩:=Tx R;obtain⟨y0,y1,y2,y3,rfl⟩:=Nb (by simpa using aa);have f1:DataW.trod enc prog W 0 (λ_=>true) true n 22 (([p,e,r,t,u,x,C].drop 1).take (prog.cellsOf 22))=some y1:=P 1 _ rfl;rw[Fg]at f1;simp only[List.drop,List.take]at f1;exact⟨e,L 1 bM,Kl underlying22 f1⟩
end
variable{V V':Nat->Nat × Nat}{k m i j g n off B cap:Nat}{cs:List Co}{S S':Nat->Nat}{l b:List Int}{s:aS}{z:Int}{nl vs:aJ}{w w' W:bI}{v vf r0 r1:aC}
theorem apF(w:bI)(g len cap:Nat)(l:List Int)(h:kH w g l)(ad:len=l.length)(am:len<=cap)(hl:len<=16777216):aD 239 #[Tc g len cap] w λe w'=>∃c',e=dz (Tc g (kQ l).length c')/\kH w' g (kQ l)/\But g w w':=by
 obtain⟨HL,HR⟩:=bV ad h;clear ad h;by_cases u:len<2
 ·have HE:J (kQ l=l):=Y (by
   have ag:=HL.out;match l,ag with
   | [],_=>rfl
   | [x],_=>rfl
   | x::y::r,h=>simp at h;omega)
  go_enter func239,ntmps239;go_wp2;go_ret;exact⟨_,by rw[HE,<-HL];rfl,by rw[HE];exact HR,But.refl _ _⟩
 ·go_enter func239,ntmps239;go_wp2_with fail;go_loopw[3] (λi wr=>∃j:Nat,j+1<=len/\i=O ((j:Int)+1)/\(∀(q:Nat) x y,q<j->l[q]?=some y->l[q+1]?=some x->DR x y=false)/\kH wr g l/\But g w wr) (λi _=>len - (intOf i).toNat);exact⟨0,by omega,rfl,λq x y hq=>aM hq<|fU _,HR,But.refl _ _⟩
  obtain⟨j,hj,rfl,ac,f,F⟩:=hrel;obtain⟨eP,sU,fT⟩:=fE ac f F;clear ac F;by_cases ar:j+1<len
  ·obtain⟨y,I⟩:∃y,l[j]?=some y:=⟨_,aZ (by rw[<-HL];omega)⟩;obtain⟨x,G⟩:∃y,l[j+1]?=some y:=⟨_,aZ (by rw[<-HL];omega)⟩;obtain⟨HX,HY⟩:=bV G I;obtain⟨p0,k0⟩:=eY (f.cell G)<|f.cell I;have ai:decide ((j:Int)+1<(len:Int))=true:=by simp;omega
   clear G I f;cases R:DR x y
   ·have E:(x==y)=false:=R;have MF:=Y R;clear R;go_wp2_with fail;go_quiet (fail);go_wp2;go_roundw;exact⟨j+1,by omega,by go_num,λq a b hq p u=>by
     by_cases e:q=j;·subst e;rw[HY]at p;rw[HX]at u;cases p;cases u;exact MF
     ·exact eP q a b bC p u,sU.drew,fT.drew _⟩
    exact gV
   ·have E:(x==y)=true:=R;have Vi:J (kQ (l.take<|j+1+1)=l.take (j+1)):=Y (by
     rw[FN HY HX,R,aK rfl];have ah:(l.take<|j+1).length=j+1:=by rw[iA];have:=HL.out;omega
     have p:=Ny (l:=l.take<|j+1) (λq a b p u=>by have hq:=(cO.1 u).1;rw[ah]at hq;rw[nM bC]at p u;exact eP q a b bC p u) (j+1) bC;rwa[List.take_take,Nat.min_self]at p)
    clear R;go_wp2_with fail;go_quiet (fail);obtain⟨af,Mv⟩:=bV (sU.out.drew (n:=nq))<|fT.out.drew nq;clear p0 k0 E;generalize wr.drewN nq=W1 at *;go_wp2_with fail;go_loopw[3,5] (λa b wx=>∃c t:Nat,a=O c/\b=O ((t:Int)+1)/\j+1+(t+1)<=len/\c=(kQ<|l.take<|j+1+(t+1)).length/\c<=j+1+t/\kH wx g (kQ (l.take<|j+1+(t+1))++l.drop c)/\But g w wx) (λ_ b _=>len - (intOf b).toNat);exact⟨j+1,0,by go_num,rfl,by omega,by
     rw[show j+1+(0+1)=j+1+1 from rfl,Vi,iA];have:=HL.out;omega,bG _,by
     rw[show j+1+(0+1)=j+1+1 from rfl,Vi,pK];exact af,Mv⟩
    obtain⟨c,t,rfl,rfl,au,P,ap,f,F⟩:=hrel;obtain⟨C,oD,Kh⟩:=fE P f F;by_cases aq:j+1+(t+1)<len
    ·obtain⟨K,I⟩:∃y,l[j+1+t]?=some y:=⟨_,aZ (by rw[<-HL];omega)⟩;obtain⟨D,G⟩:∃y,l[j+1+(t+1)]?=some y:=⟨_,aZ (by rw[<-HL];omega)⟩;obtain⟨z',hz⟩:∃y,l[c]?=some y:=⟨_,aZ (by rw[<-HL];omega)⟩;obtain⟨p0,k0,m0⟩:=lS (f.cell (i:=j+1+(t+1)) (d:=D) (by rw[Pm P bC];exact G)) (f.cell (i:=j+1+t) (d:=K) (by rw[Pm P bC];exact I)) (f.cell (i:=c) (d:=z') (by rw[Pm P bC];exact hz));obtain⟨M,Q,-,-⟩:=f;have f0:=aF Q c;have U:J (kQ (l.take<|j+1+(t+1)+1)=if DR D K then kQ (l.take<|j+1+(t+1))else kQ (l.take<|j+1+(t+1))++[D]):=Y<|FN (j:=j+1+t) I G;have ak:decide ((t:Int)+1<((len - (j+1):Nat):Int))=true:=by simp;omega
     clear G I hz Q P F;cases L:DR D K
     ·have E:(D==K)=false:=L;have ab:(D != K)=true:=by rw[bne,E];rfl
      rw[L,aI cK]at U;clear L;go_wp2_with fail;go_quiet (fail);have aa:J (kH (wr.drewN nq) g _):=Y<|oD.out.drew (n:=nq);have xg:=Y<|Kh.out.drew nq;replace p0:(wr.drewN nq).cell? _=_:=p0;replace m0:(wr.drewN nq).cell? _=_:=m0;replace f0:(wr.drewN nq).frozen? _=_:=f0;clear k0 E ab;generalize wr.drewN nq=W2 at *;go_wp2;go_roundw;exact⟨c+1,t+1,by go_num,by go_num,by omega,by
       rw[show j+1+(t+1+1)=j+1+(t+1)+1 by omega,U,bg,<-C];rfl,by omega,by
       rw[show j+1+(t+1+1)=j+1+(t+1)+1 by omega,U,<-adY C (by rw[<-HL];omega)];exact aa.set (by rw[bg,Bo,<-C,<-HL];omega) D,xg.set (aO rfl) _⟩
      exact gV
     ·have E:(D==K)=true:=L;have ab:(D != K)=false:=by rw[bne,E];rfl
      rw[L,aK rfl]at U;clear L;go_wp2_with fail;go_quiet (fail);have aa:J (kH (wr.drewN nq) g _):=Y<|oD.out.drew (n:=nq);have xg:=Y<|Kh.out.drew nq;clear p0 m0 f0 k0 E ab;generalize wr.drewN nq=W2 at *;go_wp2;go_roundw;exact⟨c,t+1,rfl,by go_num,by omega,by
       rw[show j+1+(t+1+1)=j+1+(t+1)+1 by omega,U];exact C,by omega,by
       rw[show j+1+(t+1+1)=j+1+(t+1)+1 by omega,U];exact aa,xg⟩
      exact gV
    ·have DU:J (l.take (j+1+(t+1))=l):=Y (fQ (by rw[<-HL];omega));rw[DU]at oD C f;have ae:=f;obtain⟨M,Q,al,-⟩:=f;rw[bg,Bo,<-C,<-HL]at al;have ao:=λty=>ajP (c:=cap - c) Q (show 0<len - c by omega) (show c+(len - c)<=M.size by omega) ty;have YR:=Y (λzs m=>kH.clear (zs:=zs) (k:=c) ae Q (by rw[bg,<-C];omega) m);have ak:decide ((t:Int)+1<((len - (j+1):Nat):Int))=false:=by simp;omega
     have I4:J ((kQ l++l.drop c).take c=kQ l):=Y (by rw[C,List.take_left]);rw[I4]at YR;generalize (Builtin.zeroCells (O 0).cells<|len - c).toList=zs at *;obtain⟨xg,aa⟩:=bV (But.row (cs:=(M.toList.take (c)++zs++M.toList.drop (c+zs.length)).toArray) F)<|YR zs<|c+zs.length;generalize wr.setRow g (M.toList.take (c)++zs++M.toList.drop (c+zs.length)).toArray=W2 at *;clear ae Q P F;go_wp2;go_ret;exact⟨_,by rw[<-C];rfl,aa,xg⟩
  ·have HE:J (kQ l=l):=Y (by have p:=Ny (l:=l) (λq a b p u=>eP q a b (by have:=(cO.1 u).1;have:=HL.out;omega) p u) l.length (bG _);rwa[jQ]at p);have ai:decide ((j:Int)+1<(len:Int))=false:=by simp;omega
   clear f;go_wp2;go_ret;exact⟨_,by rw[HE,<-HL];rfl,by rw[HE];exact sU,fT⟩
theorem adG(w:bI):aD 239 #[aU] w λe w'=>e=dz (aU)/\w'=w:=by go_enter func239,ntmps239;go_wp2;go_ret;exact⟨rfl,rfl⟩
namespace Sv
variable {Z : Nat → Nat → Bool} {N n : Nat} {S : Nat → Nat}
def Closed(Z:Nat->Nat->Bool)(n:Nat)(S:Nat->Nat)(U:Nat->Nat × Nat):Prop:=∀t f,t<n->f<n->(S t).testBit f=true->le Z (U f) (U t)=true
structure Rd(Z:Nat->Nat->Bool)(N n:Nat)(S:Nat->Nat)(V V':Nat->Nat × Nat)(r:Bool):Prop where
 ok:yS N n V'
 ge:OY Z n V V'
 same:r=false->V'=V
 less:r=true->left Z N n V'<left Z N n V
 least:∀U,yS N n U->Closed Z n S U->OY Z n V U->OY Z n V' U
theorem Rd.refl(d:bS.Joins Z N)(h:yS N n V):Rd Z N n S V V false:=⟨h,RQ d h,λ_=>rfl,(λe=>by cases e),λ_ _ _ h=>h⟩
theorem Rd.up(e:bS.Joins Z N){r:Bool}(u:yS N n V)(h:Rd Z N n S V V' r)(f:k<n)(d:m<n)(F:(S k).testBit m=true)(G:le Z (V' m) (V' k)=false):Rd Z N n S V (up Z N V' k<|V' m) true:=by
 have y:=KU e h.ok f<|h.ok m d;refine⟨y,FC e u h.ok y h.ge<|Vs e h.ok f<|h.ok m d,(λD=>by cases D),λ_=>?_,λC p x E=>?_⟩;·have t:=ahm e h.ok f (h.ok m d) G;have I:=ahl e u h.ok h.ge;omega
 ·have t:=h.least C p x E;exact F7 e h.ok p f (h.ok m d) t<|le_trans e (h.ok m d) (p m d) (p k f) (t m d)<|x k m f d F
structure Y0(Z:Nat->Nat->Bool)(N n:Nat)(S:Nat->Nat)(V V':Nat->Nat × Nat):Prop where
 ok:yS N n V'
 ge:OY Z n V V'
 closed:Closed Z n S V'
 least:∀U,yS N n U->Closed Z n S U->OY Z n V U->OY Z n V' U
structure Fed(Z:Nat->Nat->Bool)(N n:Nat)(cs:List Co)(V:Nat->Nat × Nat)(S:Nat->Nat):Prop where
 ok:yS N n V
 has:∀c∈cs,le Z c.lab (V c.to.toNat)=true
 least:∀U,yS N n U->Sol Z cs U->OY Z n V U
 bit:∀t j,(S t).testBit j=true↔∃c∈cs,c.to.toNat=t/\(j:Int)∈c.fr
theorem Fed.nil(d:bS.Joins (bS.tr Z) N)(h:0<N):Fed Z N n [] (λ_=>(0,xR Z N)) (λ_=>0):=by obtain⟨e,f⟩:=Db d h;refine⟨λv _=>⟨by show(0:Nat)<16;omega,e⟩,λc r=>by simp at r,λx p _ v u=>?_,λt j=>by simp⟩;unfold le;rw[sub_zero,f _ (p v u).2];rfl
theorem Fed.more(r:bS.Joins Z N)(h:Fed Z N n cs V S){c:Co}(M:∀d∈cs,Ms N n d=true)(K:Ms N n c=true)(I:∀i j,(S' i).testBit j=((S i).testBit j||(decide (i=c.to.toNat)&&c.fr.contains (j:Int)))):Fed Z N n (cs++[c]) (up Z N V c.to.toNat c.lab) S':=by
 obtain⟨_,P,L⟩:=Dt K;have x:=(lU P).2.1;have u:=(wX L).1;have E:=KU r h.ok x u;refine⟨E,λd e=>?_,λF C D=>?_,λt j=>?_⟩
 ·rcases bX.1 e with e|e;·obtain⟨_,G,dl⟩:=Dt<|M d e;have y:=(lU G).2.1;exact le_trans r (wX dl).1 (h.ok _ y) (E _ y) (h.has d e)<|Vs r h.ok x u _ y
  ·rw[dh]at e;subst e;exact MC r h.ok x u
 ·exact F7 r h.ok C x u (h.least F C D.less) (D c cK).1
 ·rw[I,GK,h.bit,dK,iy,List.contains_iff_mem];constructor
  ·rintro(⟨d,e,f,p⟩|⟨f,p⟩);·exact⟨d,List.mem_append_left _ e,f,p⟩
   ·exact⟨c,by simp,f.symm,p⟩
  ·rintro⟨d,e,f,p⟩;rcases bX.1 e with e|e;·exact aO ⟨d,e,f,p⟩
   ·rw[dh]at e;subst e;exact aQ ⟨f.symm,p⟩
theorem Fed.done(D:bS.Joins Z N)(h:Fed Z N n cs V S)(I:∀c∈cs,Ms N n c=true)(k:Y0 Z N n S V V'):Bf Z N n cs V':=by
 refine⟨k.ok,λc d=>?_,λp r y=>k.least p r (λt f C u G=>?_)<|h.least p r y⟩;·obtain⟨u,C,L⟩:=Dt<|I c d;have e:=(lU C).2.1;refine⟨le_trans D (wX L).1 (h.ok _ e) (k.ok _ e) (h.has c d)<|k.ge _ e,λf x=>?_⟩;obtain⟨_,M,K⟩:=lU<|u f x;exact k.closed _ _ e M ((h.bit _ _).2 ⟨c,d,rfl,by rw[<-K];exact x⟩)
 ·obtain⟨c,d,E,F⟩:=(h.bit t f).1 G;have:=(y c d).2 _ F;rwa[E,vQ]at this
end Sv
structure Sc where
 fn:ByteArray
 mask:Int
 level:Int
 bounds:List Int
 pc:Int
 gY:List ByteArray
structure Si where
 fr:List Int
 mask:Int
 level:Int
 lv:Int
 name:ByteArray
 gY:Bool
structure Pb where
 names:List ByteArray
 cons:List Co
 sinks:List Si
 fr:List Int
 mask:Int
 level:Int
 gY:List ByteArray
namespace Fl
def has(l:List ByteArray)(s:ByteArray):Bool:=l.any λt=>cB t s
theorem uN{l:aJ}:has l s=true↔s∈l:=by
 unfold has;rw[RY];constructor;·rintro⟨t,d,h⟩;rw[dM]at h;subst h;exact d
 ·intro h;exact⟨s,h,dM.2 rfl⟩
theorem ahG{l:aJ}:has l s=false↔s∉l:=by rw[<-uN];cases has l s<;>simp
def add(l:List ByteArray)(s:ByteArray):List ByteArray:=if has l s then l else l++[s]
def adds(l r:List ByteArray):List ByteArray:=r.foldl add l
theorem ahH{l:aJ}{z:aS}:z∈add l s↔z∈l\/z=s:=by
 unfold add;split;·rename_i h;rw[uN]at h;exact⟨aO,λk=>k.elim id (λe=>e ▸ h)⟩
 ·simp
theorem sV{r:aJ}:∀{l:aJ} {z:aS},z∈adds l r↔z∈l\/z∈r:=by
 induction r with
 | nil=>intro l z;simp[adds]
 | cons s r d =>intro l z;have:adds l (s::r)=adds (add l s) r:=rfl;rw[this,d,ahH,fV,or_assoc]
theorem ahI(l:aJ)(s:aS):(add l s).length<=l.length+1:=by unfold add;split<;>simp
theorem lN:∀(r l:aJ),(adds l r).length<=l.length+r.length:=by
 intro r;induction r with
 | nil=>intro l;simp[adds]
 | cons s r d =>intro l;obtain⟨e,f⟩:=eY (d<|add l s)<|ahI l s;have:adds l (s::r)=adds (add l s) r:=rfl;rw[this,vN];omega
theorem ze(l a b:aJ):adds l (a++b)=adds (adds l a) b:=by unfold adds;rw[JX]
theorem Te(l:aJ):adds l []=l:=rfl
theorem aaS(l:aJ)(s:aS)(r:aJ):adds l (s::r)=adds (add l s) r:=rfl
theorem ahJ(l:aJ)(s:aS):∃t,add l s=l++t:=by
 unfold add;split;·exact⟨[],by simp⟩
 ·exact⟨[s],rfl⟩
theorem aef:∀(r l:aJ),∃t,adds l r=l++t:=by
 intro r;induction r with
 | nil=>intro l;exact⟨[],by simp[adds]⟩
 | cons s r f =>intro l;obtain⟨t,d⟩:=f<|add l s;obtain⟨h,e⟩:=ahJ l s;exact⟨h++t,by rw[aaS,d,e,iK]⟩
def nums(nl vs:List ByteArray):List Int:=((List.range nl.length).filter λi=>has vs (nl.getD i ByteArray.empty)).map λi:Nat=>(i:Int)
theorem zh:z∈nums nl vs↔∃i:Nat,z=i/\∃s,nl[i]?=some s/\s∈vs:=by
 unfold nums;rw[iZ];constructor;·rintro⟨i,d,rfl⟩;rw[List.mem_filter,jE,uN]at d;refine⟨i,rfl,nl[i],aZ d.1,?_⟩;have:=d.2;rw[List.getD,aZ d.1]at this;exact this
 ·rintro⟨i,rfl,s,e,f⟩;obtain⟨d,h⟩:=cO.1 e;refine⟨i,?_,rfl⟩;rw[List.mem_filter,jE,uN];refine⟨d,?_⟩;rw[List.getD,e];exact f
theorem Tf(nl vs:aJ):MB (nums nl vs):=by unfold nums MB;rw[List.pairwise_map];refine List.Pairwise.imp (R:=λa b:Nat=>a<b) (λh=>by omega) ?_;exact List.Pairwise.filter _ List.pairwise_lt_range
theorem vW(nl vs:aJ):(nums nl vs).length<=nl.length:=by unfold nums;rw[dV];have:=Km (λi=>has vs<|nl.getD i ByteArray.empty)<|List.range nl.length;rwa[uJ]at this
theorem ahK(h:z∈nums nl vs):0<=z/\z<nl.length:=by obtain⟨i,rfl,s,d,_⟩:=zh.1 h;have:=(cO.1 d).1;omega
theorem aeg(nl:aJ):nums nl []=[]:=by unfold nums;rw[List.filter_eq_nil_iff.2 (by simp[has])];rfl
theorem aaT(nl a b:aJ):kQ (vU<|nums nl a++nums nl b)=nums nl (adds a b):=by
 obtain⟨h,p⟩:=adX<|nums nl a++nums nl b;refine YO h (Tf _ _) λx=>?_;rw[p,bX,zh,zh,zh];constructor
 ·rintro(⟨i,e,s,f,d⟩|⟨i,e,s,f,d⟩);·exact⟨i,e,s,f,sV.2<|aO d⟩
  ·exact⟨i,e,s,f,sV.2<|aQ d⟩
 ·rintro⟨i,e,s,f,d⟩;rcases sV.1 d with d|d;·exact aO ⟨i,e,s,f,d⟩
  ·exact aQ ⟨i,e,s,f,d⟩
def idx(nl:List ByteArray)(s:ByteArray):Option Nat:=(List.range nl.length).find? λi=>cB (nl.getD i ByteArray.empty) s
theorem vX(h:idx nl s=some i):nl[i]?=some s:=by obtain⟨d,e⟩:=bS.find_spec h;rw[dM,List.getD,aZ d]at e;rw[aZ d];exact congrArg some e
theorem xk(h:s∈nl):∃i,idx nl s=some i:=by
 obtain⟨i,d,rfl⟩:=gU.1 h;cases e:idx nl nl[i]with
 | some j=>exact⟨j,rfl⟩
 | none =>have:=Gv.1 e i<|jE.2 d;exact aM (dM.2 (by rw[List.getD,aZ d];rfl)) this
theorem DY(h:s∉nl):idx nl s=none:=by
 cases e:idx nl s with
 | none=>rfl
 | some i=>exact aM (dG<|vX e) h
theorem DZ(h:nl.Nodup)(p:nl[i]?=some s)(r:nl[j]?=some s):i=j:=by
 obtain⟨a,e⟩:=cO.1 p;obtain⟨b,f⟩:=cO.1 r;rcases Nat.lt_trichotomy i j with d|d|d;·exact aM (e.trans f.symm)<|Px.1 h i j a b d
 ·exact d
 ·exact aM (f.trans e.symm)<|Px.1 h j i b a d
theorem RV(h:nl.Nodup)(d:nl[i]?=some s):idx nl s=some i:=by obtain⟨j,e⟩:=xk<|dG d;rw[e,DZ h (vX e) d]
theorem aei(e:nl.Nodup)(h:idx nl s=some i):nums nl [s]=[(i:Int)]:=by
 refine YO (Tf _ _) (List.pairwise_singleton _ _) λx=>?_;rw[zh,dh];constructor;·rintro⟨j,rfl,t,f,d⟩;rw[dh]at d;subst d;rw[DZ e f (vX h)]
 ·rintro rfl;exact⟨i,rfl,s,vX h,by simp⟩
theorem ahL{t:aJ}(f:(nl++t).Nodup)(h:s∈nl):idx (nl++t) s=idx nl s:=by obtain⟨i,e⟩:=xk h;have d:=vX e;have:=(cO.1 d).1;rw[e,RV f (by rw[jX this];exact d)]
structure Env where
 Z:Nat->Nat->Bool
 N:Nat
 low:Nat
 md:ByteArray
 nQ:ByteArray->Option Nat
 pl:ByteArray->Int
 eF:ByteArray->Sc
abbrev Hg:=List ByteArray × Nat
def ex0:Ex:=⟨0,0,⟨#[]⟩,[]⟩
def bit(k:Int)(i:Nat):Bool:=k.toNat.testBit i
section
variable (c : Env)
def Env.and(a b:Hg):Hg:=(adds a.1 b.1,nT c.Z c.N a.2 b.2)
def Env.nh(s:ByteArray):Hg:=match c.nQ s with|some n=>([],n)|none=>([s],c.low)
def Env.hgA(f:Ex->Hg)(k:Int)(h:Hg)(args:List Ex):Nat->Hg
 | 0=>h
 | j+1=>if bit k j then c.and (Env.hgA f k h args j) (f (args.getD j ex0))else Env.hgA f k h args j
def Env.hg:Nat->Ex->Hg
 | 0,_=>([],c.low)
 | m+1,x=>
  if x.kind=2 then c.nh x.name
  else if x.kind=3 then c.and (Env.hg m (x.args.getD 0 ex0)) (Env.hg m (x.args.getD 1 ex0))
  else if x.kind=4 then c.hgA (Env.hg m) (c.eF x.name).mask ([],(c.eF x.name).level.toNat) x.args x.args.length
  else ([],c.low)
def Env.MH(s:ByteArray):List ByteArray:=match c.nQ s with|some _=>[]|none=>[s]
def Env.oM:Nat->Ex->List ByteArray
 | 0,_=>[]
 | m+1,x=>(if x.kind=2 then c.MH x.name else [])++x.args.flatMap (Env.oM m)
def Env.G8(s:St):List ByteArray:=if s.kind=1 then c.MH s.name else []
def Env.yx:Nat->List St->List ByteArray
 | 0,_=>[]
 | m+1,l=>l.flatMap λs=>c.oM m s.e++c.G8 s++Env.yx m s.a++Env.yx m s.b
def deed(d md n:ByteArray):ByteArray:=d++md++⟨#[46]⟩++n
def Env.Q8(d s:ByteArray):List ByteArray:=match c.nQ s with|some _=>[deed d c.md s]|none=>[]
def Env.AA:Nat->Ex->List ByteArray
 | 0,_=>[]
 | m+1,x=>(if x.kind=2 then c.Q8 ⟨#[114,58]⟩ x.name else if x.kind=4 then (c.eF x.name).gY else [])++x.args.flatMap (Env.AA m)
def Env.Py(s:St):List ByteArray:=
 if s.kind=1 then c.Q8 ⟨#[119,58]⟩ s.name else if s.kind=4 then [⟨#[112,58]⟩++s.name]else []
def Env.Pz:Nat->List St->List ByteArray
 | 0,_=>[]
 | m+1,l=>l.flatMap λs=>c.AA m s.e++c.Py s++Env.Pz m s.a++Env.Pz m s.b
def Env.xY(s:St):Nat:=if s.kind=1 then (c.MH s.name).length else 0
def Env.vY:Nat->List St->Nat
 | 0,_=>0
 | m+1,l=>(l.map λs=>c.xY s+Env.vY m s.a+Env.vY m s.b).sum
end
structure Sk where
 vs:List ByteArray
 lab:Nat
 lv:Int
 name:ByteArray
 gY:Bool
structure Cn where
 «to»:ByteArray
 vs:List ByteArray
 lab:Nat
def sk(h:Hg)(d:Int)(name:ByteArray)(gY:Bool):Sk:=⟨h.1,h.2,d,name,gY⟩
section
variable (c : Env)
def Env.skA(f:Ex->Hg)(x:Ex)(j:Nat):List Sk:=(List.range j).map λi=>sk (f (x.args.getD i ex0)) ((c.eF x.name).bounds.getD i 0) x.name false
def Env.zi:Nat->Ex->Hg->List Sk
 | 0,_,_=>[]
 | m+1,x,pc=>(x.args.flatMap λy=>Env.zi m y pc)++if x.kind=4 then c.skA (c.hg m) x x.args.length++[sk pc (c.eF x.name).pc x.name true]else []
def Env.skN(name:ByteArray)(h:Hg):List Sk:=match c.nQ name with|some n=>[sk h n name true]|none=>[]
def Env.cnN(name:ByteArray)(h:Hg):List Cn:=match c.nQ name with|some _=>[]|none=>[⟨name,h.1,h.2⟩]
def Env.Vl(s:St)(here:Hg):List Sk:=
 if s.kind=1 then c.skN s.name here else if s.kind=4 then [sk here (c.pl s.name) s.name true]else []
def Env.cn1(s:St)(here:Hg):List Cn:=if s.kind=1 then c.cnN s.name here else []
def Env.here(m:Nat)(pc:Hg)(s:St):Hg:=c.and pc (c.hg m s.e)
def Env.at(m:Nat)(pc:Hg)(s:St):Hg:=if s.kind=3 then c.here m pc s else pc
def Env.Il:Nat->List St->Hg->List Sk
 | 0,_,_=>[]
 | m+1,l,pc=>l.flatMap λs=>c.zi m s.e (c.at m pc s)++c.Vl s (c.here m pc s)++Env.Il m s.a (c.here m pc s)++Env.Il m s.b (c.here m pc s)
def Env.Kn:Nat->List St->Hg->List Cn
 | 0,_,_=>[]
 | m+1,l,pc=>l.flatMap λs=>c.cn1 s (c.here m pc s)++Env.Kn m s.a (c.here m pc s)++Env.Kn m s.b (c.here m pc s)
def oP(nl:List ByteArray)(s:Sk):Si:=⟨nums nl s.vs,0,s.lab,s.lv,s.name,s.gY⟩
def BX(nl:List ByteArray)(s:Cn):Co:=⟨((idx nl s.to).getD 0:Nat),nums nl s.vs,0,s.lab⟩
def D5(low:Nat)(i:Nat):Co:=⟨i,[],(2 ^ i:Nat),low⟩
def Env.names(m:Nat)(f:Fu):List ByteArray:=adds f.params (c.yx m f.body++c.oM m f.result)
def Env.gY(m:Nat)(f:Fu):List ByteArray:=c.Pz m f.body++c.AA m f.result
def Env.jd(m:Nat)(f:Fu):Pb:=
 ⟨c.names m f,((List.range f.params.length).map (D5 c.low))++(c.Kn m f.body ([],c.low)).map (BX (c.names m f)),(c.Il m f.body ([],c.low)++c.zi m f.result ([],c.low)).map (oP (c.names m f)),nums (c.names m f) (c.hg m f.result).1,0,(c.hg m f.result).2,gP (jZ (c.gY m f))⟩
end
structure Wt(N:Nat)(s:Sc)(n:Nat):Prop where
 bounds:s.bounds.length=n
 ER:∀b∈s.bounds,0<=b/\b<N
 mask:0<=s.mask/\s.mask<=15
 level:0<=s.level/\s.level<N
 pc:0<=s.pc/\s.pc<N
structure Env.Ok(c:Env):Prop where
 low:c.low<c.N
 nQ:∀s n,c.nQ s=some n->n<c.N
 joins:bS.Joins c.Z c.N
 six:c.N<=6
def Env.xZ(c:Env):Nat->Ex->Prop
 | 0,_=>False
 | m+1,x=>x.name.size<=17/\(x.kind=3->x.args.length=2)/\(x.kind=4->x.args.length<=4/\Wt c.N (c.eF x.name) x.args.length)/\∀y∈x.args,Env.xZ c m y
def Env.yg(c:Env):Nat->List St->Prop
 | 0,_=>False
 | m+1,l=>∀s∈l,s.name.size<=8/\c.xZ m s.e/\(s.kind=1\/s.kind=4->s.a=[]/\s.b=[])/\(s.kind=4->0<=c.pl s.name)/\Env.yg c m s.a/\Env.yg c m s.b
section
variable {c : Env}
theorem Env.PE(h:c.Ok){a b:Hg}(d:a.2<c.N)(e:b.2<c.N):(c.and a b).2<c.N:=h.joins.lt d e
theorem Env.VL(h:c.Ok){f:Ex->Hg}{k:Int}{e:Hg}{args:List Ex}(r:e.2<c.N):∀j,j<=args.length->(∀x∈args,(f x).2<c.N)->(c.hgA f k e args j).2<c.N:=by
 intro j;induction j with
 | zero=>intro _ _;exact r
 | succ j p=>
  intro t d;simp only[Env.hgA];split;·refine Env.PE h (p bC d)<|d _ ?_;rw[List.getD,aZ bC];exact kZ _
  ·exact p bC d
theorem Ko{l:List Ex}{i:Nat}(h:i<l.length):l.getD i ex0∈l:=by rw[List.getD,aZ h];exact kZ h
theorem Env.zk(h:c.Ok):∀{m:Nat} {x:Ex},c.xZ m x->(c.hg m x).2<c.N
 | 0,_,f=>iU f
 | m+1,x,f=>by
  obtain⟨_,p,r,e⟩:=f;simp only[Env.hg];split
  ·unfold Env.nh;split;·rename_i n t;exact h.nQ _ _ t
   ·exact h.low
  ·split;·rename_i d;have D:=p d;exact Env.PE h (Env.zk h<|e _<|Ko bC)<|Env.zk h<|e _<|Ko bC
   ·split;·rename_i d;obtain⟨_,u⟩:=r d;exact Env.VL h (by have:=u.level;simp only;omega) _ (bG _) (λy C=>Env.zk h<|e y C)
    ·exact h.low
end
end Fl
open Fl
open Go.Shelf
theorem kH.holds(h:kH w g l):Sort.Holds (Value.int .i64) w g 0 l.toArray:=by
 obtain⟨r,d,t,f⟩:=h;intro j p;have e:j<l.length:=by simpa using p
 refine⟨?_,aF d _⟩;rw[d9,aj d,f j _<|aZ e];congr 1;simp[e]
theorem kH.PG{t:Array Obj}(h:kH w g l)(y:b.length=l.length):kH (Sort.grow (Sort.putRow (Value.int .i64) (Sort.ahead w n) g 0 b.toArray) t) g b:=by
 obtain⟨f,p,D,C⟩:=h;have hg:=aR p;have u:(Sort.grow (Sort.putRow (Value.int .i64) (Sort.ahead w n) g 0 b.toArray) t).heap[g]?=some (.cells (Sort.putCells (Value.int .i64) 0 b.toArray f) 3 (0,0)):=by simp only[Sort.grow,Sort.putRow,Sort.mapBlock,Sort.ahead];rw[Lu (by simpa using hg)];simp[Jg,p,Sort.onCells]
 refine⟨_,u,by simp only[Sort.putCells,Array.size_mapIdx];omega,λi d e=>?_⟩;have r:i<b.length:=by simpa using(cO.1 e).1
 rw[aZ r]at e;simp at e;subst e;have x:i<f.size:=by omega
 simp[Sort.putCells,x,r]
theorem aaU(w:bI)(g len cap:Nat)(l:List Int)(h:kH w g l)(u:len=l.length)(E:l.length<=16777216):aD 238 #[Tc g len cap] w λd w'=>d=dz (.tuple #[])/\kH w' g (vU l)/\But g w w':=by
 subst u;have e:=h;obtain⟨y,f,F,C⟩:=h;have r:=Any.slices_Sort_int Tryz.lSoI g 0 cap l w e.holds (aR f) bC;refine Calls.mono (show aD 238 #[Tc g l.length cap] w _ from r) ?_;rintro d w' ⟨t,k,G,rfl⟩;refine⟨t,e.PG (by rw[SE]),rfl,rfl,rfl,?_,λj D x=>?_⟩;·simp[Sort.grow,Sort.putRow,Sort.mapBlock,Sort.ahead]
 ·have hg:=aR f;simp only[Sort.grow,Sort.putRow,Sort.mapBlock,Sort.ahead];rw[Lu (by simp;omega)];simp[Jg];intro p;exact aM p.symm x
theorem Wu(w:bI)(p:Option Addr)(cap:Nat):aD 238 #[X p 0 cap] w λe w'=>e=dz (.tuple #[])/\w'=w:=
 Any.slices_Sort_int_none Tryz.lSoI p cap w
theorem Kq{b:Nat}(f:∀(j:Nat) z,l[j]?=some z->bJ w b (off+j)=some (O z)):(∀(j:Nat) d,(l.map<|Value.int .i64)[j]?=some d->bJ w b (off+j)=some d)/\∀d∈l.map (Value.int .i64),d.oneCell'=true:=by
 refine⟨λj d e=>?_,λd e=>?_⟩;·rw[pq]at e;obtain⟨z,h,rfl⟩:=yF.1 e;exact f j z h
 ·obtain⟨z,_,rfl⟩:=iZ.1 e;rfl
theorem gQ.nil(w:bI)(B:Nat):gQ w B (aU) []:=lJ _ _ _ _
theorem gQ.row(h:gQ w B (Tc g n cap) l):kH w g l/\l.length<=cap/\n=l.length/\B<=g:=by
 rcases h.2 with⟨e,_⟩|⟨C,y,f,e,hg,u,t,_,E,x⟩;·simp at e
 ·simp at e;obtain⟨rfl,rfl,rfl⟩:=e;refine⟨⟨f,u,by omega,λi d r=>?_⟩,t,rfl,hg⟩;have D:=(cO.1 r).1;have p:(f.toList.take<|l.length*1)[i]?=some (O d):=by rw[x,pq,r];rfl
  rw[nM bC]at p;simpa using p
theorem gQ.Ih(h:gQ w B v l):(v=aU/\l=[])\/∃g cap,v=Tc g l.length cap/\l.length<=cap/\B<=g/\kH w g l:=by
 have e:=h;rcases h.2 with⟨rfl,d⟩|⟨g,cap,r,rfl,_⟩;·exact aO ⟨rfl,qp.1 bC⟩
 ·obtain⟨d,f,_,p⟩:=e.row;exact aQ ⟨g,cap,rfl,f,p,d⟩
def dJ(w:World)(v:Value)(l:List Int):Prop:=(v=.slice none 0 0/\l=[])\/∃g cap,v=.slice (some ⟨g,0,none⟩) l.length cap/\l.length<=9223372036854775807/\kH w g l
theorem dJ.ints(h:dJ w v l):Ints w v l:=by
 rcases h with⟨rfl,rfl⟩|⟨g,cap,rfl,e,f⟩;·exact⟨none,0,0,0,rfl,λh=>aM h cK,by simp,λj z d=>aM d cK⟩
 ·exact⟨_,g,0,cap,rfl,λ_=>rfl,e,λj z d=>by rw[d9];exact f.cell d⟩
theorem dJ.below(h:dJ w v l)(e:bK w w'):dJ w' v l:=by
 rcases h with h|⟨g,cap,d,f,p⟩;·exact aO h
 ·exact aQ ⟨g,cap,d,f,p.below e⟩
theorem dJ.form(h:dJ w v l):∃a c,v=X a l.length c:=by
 rcases h with⟨rfl,rfl⟩|⟨g,cap,rfl,_⟩;·exact⟨_,_,rfl⟩
 ·exact⟨_,_,rfl⟩
theorem dJ.nil(w:bI):dJ w (aU) []:=aO ⟨rfl,rfl⟩
theorem gQ.Tg(h:gQ w B v l)(e:l.length<=9223372036854775807):dJ w v l:=by
 rcases h.Ih with h|⟨g,cap,d,_,_,f⟩;·exact aO h
 ·exact aQ ⟨g,cap,d,e,f⟩
theorem aaV(w:bI)(n:Nat)(P:n<=16777216):aD 259 #[aU,O n] w λd w'=>∃v,d=dz v/\J (gQ w' w.heap.size v []/\(n=0->v=aU)/\bK w w'):=by
 obtain⟨K,E,y,Q,C⟩:=info_parts wJ;by_cases p:n=0;·subst p;go_enter func259,ntmps259;go_wp2;go_ret;exact⟨_,rfl,Y ⟨gQ.nil _ _,λ_=>rfl,bQ _ _⟩⟩
 ·obtain⟨Z,t⟩:∃Z:aC,Z=O 0:=⟨_,rfl⟩;rw[<-t]at y;have x:∀f,(Builtin.append_ #[32,3] f #[aU,O n]).run prog w=.ok (Tc w.heap.size n<|grownCap w n 0 3) (w.drew.alloc<|.cells (Builtin.zeroCells Z.cells n++Builtin.zeroCells Z.cells (grownCap w n 0 3 - n)) 3):=λf=>by have h:=Lib.run_append_grow_zeros w 32 3 f 3 K Z .i64 .i64 underlying32 underlying3 E y none 0 0 [] (run_firstCells_none w.drew _ 0 0 0) n bC bC bC bC (by rw[C];omega) (by rw[d9];exact growslice_fits bC (by rw[C];omega));simpa using h
  have F:n<=grownCap w n 0 3:=grownCap_ge w _ _ _;have e:grownCap w n 0 3<=maxLen:=grownCap_le_maxLen w n 0 3 (by unfold maxLen;omega);obtain⟨G,r⟩:=aV<|grownCap w n 0 3;rw[<-r]at x F e;have M:G<=9223372036854775807:=by unfold maxLen at e;omega
  have u:(w.drew.alloc<|.cells (Builtin.zeroCells Z.cells n++Builtin.zeroCells Z.cells (G - n)) 3).ownsRow w.heap.size 3 1 (Tc w.heap.size 0 G) 0 []:=
   ⟨by simp,.inr ⟨w.heap.size,G,_,rfl,bG _,heap_alloc_new w.drew _,bN _,e,by
    have d:∀k,(Builtin.zeroCells Z.cells k).size=k*1:=λk=>by rw[t];simp[Builtin.zeroCells,Value.cells]
    rw[Array.size_append,d,d];omega,by simp⟩⟩
  have D:=Y u;have I:J (bK w<|w.drew.alloc<|.cells (Builtin.zeroCells Z.cells n++Builtin.zeroCells Z.cells (G - n)) 3):=Y<|((bQ _ _).drew).alloc cK _;clear u r;generalize (w.drew.alloc<|.cells (Builtin.zeroCells Z.cells n++Builtin.zeroCells Z.cells (G - n)) 3)=L at *;go_enter func259,ntmps259;go_wp2_with (at_builtin;refine Lib.wpList_append_run _ rfl _ _ _ _ rfl _ _ rfl rfl _ _ (x _) ?_);go_ret;exact⟨_,rfl,Y ⟨D,λh=>aM h p,I⟩⟩
def U9(w:World)(v:Value)(ls:List (List Int)):Prop:=
 ∃b off cap,v=.slice (some ⟨b,off,none⟩) ls.length cap/\ls.length<=16/\∀i l,ls[i]?=some l->∃d,w.cell? ⟨b,off+i,none⟩=some d/\Ints w d l
theorem Kr{ls:List (List Int)}(h:ls[j]?=some l):(ls.take<|j+1).flatten=(ls.take j).flatten++l:=by obtain⟨d,rfl⟩:=cO.1 h;rw[uW d,Da];simp
theorem D6(ls:List (List Int))(j:Nat):(ls.take j).flatten.length<=ls.flatten.length:=by
 conv=>rhs;rw[<-pK j ls]
 rw[Da,bg];omega
theorem aen(w:bI)(v:aC)(ls:List (List Int))(h:U9 w v ls)(Q:ls.flatten.length<=16777216):aD 237 #[v] w λd w'=>∃v',d=dz v'/\J (gQ w' w.heap.size v' ls.flatten/\(ls.flatten=[]->v'=aU)/\bK w w'):=by
 obtain⟨b,off,cap,rfl,am,r⟩:=h;have j5:=Y r;clear r;obtain⟨len,P⟩:=aV ls.length;have u:=Y P;rw[<-P]at am ⊢;clear P;go_enter func237,ntmps237;go_wp2;go_loop [3,11] (λo i=>∃k:Nat,k<=len/\i=O k/\o=O (ls.take k).flatten.length) (λ_ i=>len - (intOf i).toNat);exact⟨0,bN _,rfl,rfl⟩
 obtain⟨k,hk,rfl,rfl⟩:=hrel;have M:=bE (D6 ls k) Q;by_cases x:k<len
 ·obtain⟨l,f⟩:∃l,ls[k]?=some l:=⟨_,aZ (by rw[<-u];exact x)⟩;obtain⟨vi,I,y⟩:=j5 k l f;obtain⟨a,bb,oo,cp,rfl,-⟩:=y;have p:J ((ls.take<|k+1).flatten.length=(ls.take k).flatten.length+l.length):=Y (by rw[Kr f,bg]);have D:=bE (D6 ls<|k+1) Q;rw[p]at D;generalize (ls.take k).flatten.length=n0 at *;generalize l.length=n1 at *;clear f;go_wp2;go_round;exact⟨k+1,by omega,by go_num,by rw[p];go_num⟩;exact gV
 ·have d:ls.take k=ls:=fQ (by have:=u.out;omega);rw[d]at M ⊢;clear d;obtain⟨N,L⟩:=aV ls.flatten.length;have HN:=Y L;rw[<-L]at M ⊢;clear L;go_wp2_with fail;refine(aaV w N M).mono ?_;rintro d w1 ⟨v1,rfl,Ki⟩;obtain⟨ag,ai,ad⟩:=Ki.out;obtain⟨HO,HB⟩:=bV ag ad;have HZ:J (ls.flatten=[]->v1=aU):=Y (λh=>ai (by rw[HN,h];rfl));clear ag ad hk x ai Ki;go_wp2;go_loopw[6,27] (λo i wr=>∃k:Nat,k<=len/\i=O k/\gQ wr w.heap.size o (ls.take k).flatten/\(ls.flatten=[]->o=aU)/\bK w wr) (λ_ i _=>len - (intOf i).toNat);exact⟨0,bN _,rfl,HO,HZ,HB⟩
  obtain⟨k,hk,rfl,t,C,e⟩:=hrel;by_cases x:k<len
  ·obtain⟨l,f⟩:∃l,ls[k]?=some l:=⟨_,aZ (by rw[<-u];exact x)⟩;obtain⟨vi,I,y⟩:=j5 k l f;obtain⟨u0,ap⟩:=eY (aG I e)<|y.below e;obtain⟨a,bb,oo,cp,rfl,ac,-,r⟩:=ap;obtain⟨HC,ES,p⟩:=fE (Kq r) ac<|Kr f;have D:=bE (D6 ls<|k+1) Q;rw[p,bg]at D;obtain⟨ab,G,al⟩:=fE t e C;have ae:=e.size;have aa:J (ls.flatten=[]->l.length=0):=Y (λh=>by have K:=D6 ls<|k+1;rw[p,bg,h]at K;simp at K;simpa using K.2);have U:J ((l.map<|Value.int .i64).length=l.length*1):=Y cK;obtain⟨n1,R⟩:=aV l.length;have Mv:=Y R;rw[<-R]at u0 ES U aa D;clear R f y I t e C ac r
   go_wp2_with (first
    | (at_builtin;refine lq rfl _ _ 32 3 1 8 _ rfl underlying32 wJ bM bM w.heap.size _ _ _ rfl ab a bb oo n1 cp (l.map<|Value.int .i64) rfl ES U HC.1 HC.2 (by unfold maxLen;omega) bC ae ?_;intro v' w2 ah af ak ao)
    | fail)
   have R2:=Y<|G.grown af ae (λj hj=>(ab.lt j hj).1);have E:J (gQ w2 w.heap.size v'<|(ls.take k).flatten++l):=Y (by unfold gQ;rw[bg,gX,<-Mv];exact ah);have F:=Y ak;clear af ah ak ao;go_roundw;exact⟨k+1,by omega,by go_num,by rw[p];exact E,λh=>by rw[F (aa h)];exact al h,R2⟩;exact gV
  ·have d:ls.take k=ls:=fQ (by have:=u.out;omega);rw[d]at t;obtain⟨E,F,G⟩:=fE t C e;clear t C e;go_wp2;go_ret;exact⟨_,rfl,Y ⟨E,F,G⟩⟩
theorem Kt(w:bI)(v:aC)(l:List Int)(h:Ints w v l)(u:l.length<=16777216):aD 236 #[v] w λp w'=>∃v',p=dz v'/\J (gQ w' w.heap.size v' l/\bK w w'):=by
 obtain⟨a,b,off,cap,rfl,e,-,t⟩:=h;cases a with
 | none=>
  have C:l=[]:=by
   cases l with
   | nil=>rfl
   | cons y r=>exact aM (e cK) cK
  subst C;clear e t;have R:∀w c,(binOp .eql 32 (X none 0 c)<|aU).run prog w=.ok (.bool true) w:=λw c=>Lib.run_eql_slice_nil w 32 3 none 0 c 0 0 underlying32;go_enter func236,ntmps236;go_wp2;go_ret;exact⟨_,rfl,Y ⟨gQ.nil _ _,bQ _ _⟩⟩
 | some f=>
  have d:=Y<|aH w<|aY #[] 3;have E:=Y<|Kq (w:=w.alloc<|aY #[] 3) (b:=b) (off:=off) (l:=l) λj z C=>aG (t j z C) d;have D:J ((l.map<|Value.int .i64).length=l.length*1):=Y cK;have F:=Y e;obtain⟨nl,x⟩:=aV l.length;rw[<-x]at D F u ⊢;obtain⟨Q,G⟩:=bV x u;clear x u e t;have R:∀w n c,(binOp .eql 32 (X (some f) n c)<|aU).run prog w=.ok (.bool false) w:=λw n c=>Lib.run_eql_slice_nil w 32 3 (some f) n c 0 0 underlying32;have I:=Y<|M5 w 3 1;go_enter func236,ntmps236
  go_wp2_with (first
   | (at_builtin;refine lq rfl _ _ 32 3 1 8 _ rfl underlying32 wJ bM bM w.heap.size _ 0 [] rfl I (some f) b off nl cap (l.map<|Value.int .i64) rfl F D E.1 E.2 (by have:=G.out;unfold maxLen;omega) (by have:=G.out;omega) d.size ?_;intro v7 w7 L K P U;have M:=Y L;have kG:=Y (Below.grown d K d.size (λk p=>by have:=(I.lt k p).1;omega));clear L K P U)
   | fail)
  go_ret;refine⟨_,rfl,Y ⟨?_,kG⟩⟩;unfold gQ;rw[<-Q];have h:=M.out;rwa[d9,sP]at h
open Go.Maps Go.WideMaps
structure Kx(B:Nat)(mu:Obj->Bool)(w w':World):Prop where
 os:w'.os=w.os
 tape:w'.tape=w.tape
 output:w'.output=w.output
 size:w.heap.size<=w'.heap.size
 block:∀k o,w.heap[k]?=some o->(k<B\/mu o=false)->w'.heap[k]?=some o
section
variable {B : Nat} {mu : Obj → Bool} {a b w w' : World}
theorem Kx.refl(w:bI):Kx B mu w w:=⟨rfl,rfl,rfl,bG _,λ_ _ h _=>h⟩
theorem Kx.trans(h:Kx B mu a b)(k:Kx B mu b w):Kx B mu a w:=
 ⟨k.os.trans h.os,k.tape.trans h.tape,k.output.trans h.output,bE h.size k.size,λi o e d=>k.block i o (h.block i o e d) d⟩
theorem Kx.of_below(h:bK w w'):Kx B mu w w':=⟨h.os,h.tape,h.output,h.size,λk o d _=>by rw[h.block k (aR d)];exact d⟩
theorem Kx.below(h:Kx B mu w w')(f:B<=w.heap.size):Below B w w':=⟨h.os,h.tape,h.output,h.size,λk e=>by have d:w.heap[k]?=some w.heap[k]:=Array.getElem?_eq_getElem bC;rw[d];exact h.block k _ d<|aO e⟩
theorem Kx.at{q:Nat}{o:Obj}(h:Kx B mu w w')(e:w.heap[q]?=some o)(d:mu o=false):w'.heap[q]?=some o:=h.block q o e<|aQ d
theorem Kx.set{p:Nat}{o:Obj}(r:w.heap[p]?=some o)(h:mu o=true)(t:B<=p)(i:Nat)(v:aC):Kx B mu w (w.setCell (aN p i) v):=
 ⟨rfl,rfl,rfl,by simp only[World.setCell,Am];exact bG _,λk u e d=>by
  refine aX e (λf=>?_) _;subst f;rw[r]at e;cases e;rcases d with d|d;·omega
  ·rw[h]at d;cases d⟩
theorem Kx.grown{r:Option Nat}(hg:w.grownBy w' r)(p:∀k,r=some k->B<=k/\∀o,w.heap[k]?=some o->mu o=true):Kx B mu w w':=
 ⟨hg.os,hg.tape,hg.output,hg.size,λk o e d=>by
  rw[hg.block k (aR e) (λf=>?_)];·exact e
  ·obtain⟨t,h⟩:=p k f.symm;rcases d with d|d;·omega
   ·rw[h o e]at d;cases d⟩
theorem Kx.cells{v:aC}{l:List Int}(h:Kx B mu w w')(u:∀cs f,mu (.cells cs 3 f)=false)(d:dJ w v l):dJ w' v l:=by
 rcases d with d|⟨g,cap,p,t,e,r,x⟩;·exact aO d
 ·exact aQ ⟨g,cap,p,t,e,h.at r<|u _ _,x⟩
end
def sW(v:Value):Option (DataW Value × List MemPlace):=some (.held v,[])
def qo(w:World)(b n:Nat)(z:Value)(o:ByteArray->Option Value):Prop:=
 ∃D:DataW Value,w.ownsMap prog 9 sW b n D/\∀s:ByteArray,s.size<=maxLen->
  (Maps.has D (.string s.data.toList)=(o s).isSome/\D.atKey (.string s.data.toList) (.held z)=.held ((o s).getD z))
def oQ(o:ByteArray->Option Value)(s:ByteArray)(v:Value):ByteArray->Option Value:=λt=>if cB t s then some v else o t
section
variable {w w' : World} {b n : Nat} {z : Value} {o : ByteArray → Option Value}
theorem qo.kept{row:Option Nat}(h:qo w b n z o)(hg:w.grownBy w' row)(f:some b≠row):qo w' b n z o:=by obtain⟨D,d,e⟩:=h;exact⟨D,d.kept hg f,e⟩
theorem qo.same(h:qo w b n z o)(t:w'.heap[b]?=w.heap[b]?):qo w' b n z o:=by obtain⟨D,⟨e,d,f,p⟩,r⟩:=h;exact⟨D,⟨e,d,by rw[t];exact f,p⟩,r⟩
theorem qo.mono{n':Nat}(h:qo w b n z o)(f:n<=n'):qo w b n' z o:=by obtain⟨D,d,e⟩:=h;exact⟨D,d.mono f,e⟩
theorem qo.lt(h:qo w b n z o):b<w.heap.size:=by obtain⟨D,d,_⟩:=h;exact d.lt
theorem qo.isMap(h:qo w b n z o):∃e d,w.heap[b]?=some (.map e d):=by obtain⟨D,⟨e,d,f,_⟩,_⟩:=h;exact⟨e,d,f⟩
theorem qo.new(w:bI)(z:aC):qo (w.alloc<|.map #[] 0) w.heap.size 0 z (λ_=>none):=
 ⟨.map [],World.ownsMap_made _ _ _ _,λ_ _=>⟨rfl,rfl⟩⟩
theorem qo.put{t e:TypeId}(p:prog.underlying t=some (.map 9 e))(h:qo w b n z o)(y:n<maxLen){s:ByteArray}(C:s.size<=maxLen)(v:Value):∃w',(Instr.mapUpdate t (.map<|some b) (.string s) v).run prog w=.ok () w'/\qo w' b (n+1) z (oQ o s v)/\w.grownBy w' (some b):=by
 obtain⟨D,f,r⟩:=h;obtain⟨w',e,u,x⟩:=f.update uY p y (keyOf_string_mk underlying9 C)<|show sW v=some (.held v,[])from rfl;refine⟨w',e,⟨_,u,λt p=>?_⟩,x⟩;cases d:cB t s with
 | true =>have:=key_eq d;subst this;rw[has_put_same f.isMap (show WideAt.IsKeyLit (.string t.data.toList)from trivial),atKey_put_same f.isMap<|show WideAt.IsKeyLit (.string t.data.toList)from trivial];simp[oQ,d]
 | false =>rw[has_put_other (yV d),atKey_put_other<|yV d];simpa[oQ,d]using r t p
theorem Tj{v u:aC}{ps:List MemPlace}(h:sW v=some (.held u,ps)):v=u:=by unfold sW at h;simp only[Kj,pO,DataW.held.injEq]at h;exact h.1
theorem qo.look{t d:TypeId}(u:prog.underlying t=some (.map 9 d))(x:∀w,(zeroValue d).run prog w=.ok z w)(h:qo w b n z o){s:aS}(f:s.size<=maxLen):(Instr.lookup t (.map<|some b) (A s) false).run prog w=.ok ((o s).getD z) w:=by obtain⟨D,p,r⟩:=h;obtain⟨v,ps,d,e⟩:=p.lookup uY u (x w) (zd:=.held z) (zp:=[]) rfl (keyOf_string_mk underlying9 f);rw[(r s f).2]at e;rw[d,Tj e]
theorem qo.sS{t d:TypeId}(u:prog.underlying t=some (.map 9 d))(x:∀w,(zeroValue d).run prog w=.ok z w)(h:qo w b n z o){s:aS}(e:s.size<=maxLen):(Instr.lookup t (.map<|some b) (A s) true).run prog w=.ok (.tuple #[(o s).getD z,.bool (o s).isSome]) w:=by obtain⟨D,r,f⟩:=h;obtain⟨v,ps,d,p⟩:=r.look_ok uY u (x w) (zd:=.held z) (zp:=[]) rfl (keyOf_string_mk underlying9 e);rw[(f s e).2]at p;rw[d,(f s e).1,Tj p]
end
def FV(w:World)(v:Value)(y:Sc):Prop:=∃d ve,v=.agg #[.string y.fn,.int .i64 y.mask,.int .i64 y.level,d,.int .i64 y.pc,ve]/\Ints w d y.bounds/\Strs w ve y.gY
theorem FV.below{y:Sc}(h:FV w v y)(d:bK w w'):FV w' v y:=by obtain⟨r,ve,e,f,p⟩:=h;exact⟨r,ve,e,f.below d,p.below d⟩
def xO(w:World)(v:Value)(l:List Sc):Prop:=
 ∃(a:Option Addr) (b off cap:Nat),v=.slice a l.length cap/\(0<l.length->a=some ⟨b,off,none⟩)/\l.length<=9223372036854775807/\
  ∀(i:Nat) y,l[i]?=some y->∃d ve,w.cell? ⟨b,off+i*6,none⟩=some (.string y.fn)/\w.cell? ⟨b,off+i*6+1,none⟩=some (.int .i64 y.mask)/\w.cell? ⟨b,off+i*6+2,none⟩=some (.int .i64 y.level)/\
   w.cell? ⟨b,off+i*6+3,none⟩=some d/\w.cell? ⟨b,off+i*6+4,none⟩=some (.int .i64 y.pc)/\w.cell? ⟨b,off+i*6+5,none⟩=some ve/\Ints w d y.bounds/\Strs w ve y.gY
theorem xO.below{l:List Sc}(h:xO w v l)(d:bK w w'):xO w' v l:=by obtain⟨a,b,off,cap,e,C,E,D⟩:=h;refine⟨a,b,off,cap,e,C,E,λi y F=>?_⟩;obtain⟨K,ve,f,p,r,t,u,x,G,I⟩:=D i y F;exact⟨K,ve,aG f d,aG p d,aG r d,aG t d,aG u d,aG x d,G.below d,I.below d⟩
def BZ(w:World)(v:Value)(l:List (List Sc)):Prop:=
 ∃(a:Option Addr) (b off cap:Nat),v=.slice a l.length cap/\(0<l.length->a=some ⟨b,off,none⟩)/\l.length<=9223372036854775807/\
  ∀(i:Nat) y,l[i]?=some y->∃u,w.cell? ⟨b,off+i,none⟩=some u/\xO w u y
theorem BZ.below{l:List (List Sc)}(h:BZ w v l)(d:bK w w'):BZ w' v l:=by obtain⟨a,b,off,cap,e,p,t,r⟩:=h;refine⟨a,b,off,cap,e,p,t,λi y u=>?_⟩;obtain⟨C,f,x⟩:=r i y u;exact⟨C,aG f d,x.below d⟩
def sc0:Value:=.agg #[.string ⟨#[]⟩,.int .i64 0,.int .i64 0,.slice none 0 0,.int .i64 0,.slice none 0 0]
theorem Wv(w:bI):(zeroValue 34).run prog w=.ok sc0 w:=by kernel_rfl
structure Sp where
 p:Nat
 vn:Value
 vl:Value
 ss:List ByteArray
 G:Nat
 L:Nat->Nat
 c:Fl.Env
 ml:Nat
 mn:Nat
 mc:Nat
structure D7(w:World)(q:Sp)(nl:List ByteArray)(fC:ByteArray->Option Value)(eU:Value)(sets:Int)(ve:Value):Prop where
 blk:w.heap[q.p]?=some (.cells #[q.vn,q.vl,.int .i64 q.c.low,.string q.c.md,.map (some q.ml),eU,.map (some q.mn),.map (some q.mc),.int .i64 sets,ve] 184 (0,0))
 lat:nC w q.vn q.vl q.ss q.G q.L q.c.Z
 N:q.c.N=q.ss.length
 levels:nS w q.ml 1048576 (λs=>(q.c.nQ s).map λn:Nat=>(n:Int))
 numbers:nS w q.mn nl.length (λs=>(Fl.idx nl s).map λn:Nat=>(n:Int))
 called:qo w q.mc 16777216 sc0 fC
 eF:∀s v,fC s=some v->FV w v (q.c.eF s)
 nodup:nl.Nodup
 len:nl.length<=1048576
section
variable {w w' : World} {q : Sp} {nl : List ByteArray} {fC : ByteArray → Option Value} {eU : Value} {sets : Int} {ve : Value}
theorem nS.below{b n:Nat}{o:Rn.Own}(h:nS w b n o)(d:bK w w'):nS w' b n o:=h.same<|d.block _ h.lt
theorem qo.below{b n:Nat}{z:aC}{o:aS->Option aC}(h:qo w b n z o)(d:bK w w'):qo w' b n z o:=h.same<|d.block _ h.lt
theorem D7.below(h:D7 w q nl fC eU sets ve)(d:bK w w'):D7 w' q nl fC eU sets ve:=
 ⟨bH h.blk d,h.lat.below d,h.N,h.levels.below d,h.numbers.below d,h.called.below d,λs v e=>(h.eF s v e).below d,h.nodup,h.len⟩
theorem D7.cells(h:D7 w q nl fC eU sets ve):bJ w q.p 0=some q.vn/\bJ w q.p 1=some q.vl/\bJ w q.p 2=some (O q.c.low)/\bJ w q.p 3=some (A q.c.md)/\bJ w q.p 4=some (.map<|some q.ml)/\
  bJ w q.p 5=some eU/\bJ w q.p 6=some (.map<|some q.mn)/\bJ w q.p 7=some (.map<|some q.mc)/\bJ w q.p 8=some (O sets)/\bJ w q.p 9=some ve:=
 ⟨(aj h.blk 0).trans rfl,(aj h.blk 1).trans rfl,(aj h.blk 2).trans rfl,(aj h.blk 3).trans rfl,(aj h.blk 4).trans rfl,(aj h.blk 5).trans rfl,(aj h.blk 6).trans rfl,(aj h.blk 7).trans rfl,(aj h.blk 8).trans rfl,(aj h.blk 9).trans rfl⟩
end
def iM(w:World)(nl:List ByteArray)(vf:Value)(h:Fl.Hg):Prop:=dJ w vf (Fl.nums nl h.1)
theorem iM.below{h:Fl.Hg}(e:iM w nl vf h)(d:bK w w'):iM w' nl vf h:=dJ.below e d
theorem iM.nil(w:bI)(nl:aJ)(n:Nat):iM w nl (aU) ([],n):=by unfold iM;rw[aeg];exact dJ.nil w
theorem jR(h:Below n w W)(d:n<=B)(x y:aC):Below n w ((W.setCell (aN B 0) x).setCell (aN B 1) y):=(h.setCell d _).setCell d _
theorem FW(w:bI)(vf:aC)(n:Int):aD 166 #[.agg #[vf,O n]] w λe w'=>e=dz (.agg #[O 0,O n])/\bK w w':=by have q1:=vH (w) vf (O n) 244;have r1:((w.alloc<|aY #[vf,O n] 244).alloc (aY #[O 0,O 0] 31)).cell? (aN w.heap.size 1)=some (O n):=aG q1<|aH _ _;clear q1;go_enter func166,ntmps166;go_wp2;refine cZ (v:=.agg #[O 0,O n]) (by simp[results,results166,go_sem]) rfl ⟨rfl,?_⟩;exact up (aH _ _)<|aH _ _
theorem xP{t:TypeId}(h:dR W B (.cells #[r0,r1] t (0,0)))(d e:aC):((W.setCell (aN B 0) d).setCell (aN B 1) e).heap[B]?=some (.cells #[d,e] t (0,0)):=aP (aP h 0 d) 1 e
theorem al3(w:bI)(d e f:Obj):∃W,W=((w.alloc d).alloc e).alloc f/\W.heap[w.heap.size]?=some d/\W.heap[w.heap.size+1]?=some e/\W.heap[w.heap.size+1+1]?=some f/\W.heap.size=w.heap.size+1+1+1/\bK w W:=by
 refine⟨_,rfl,bT (bT (bF w _) _) _,?_,?_,by simp,(((bQ _ _).alloc (bG _) _).alloc cK _).alloc (by simp;omega) _⟩;·have h:=bF (w.alloc d) e;rw[show(w.alloc d).heap.size=w.heap.size+1 by simp]at h;exact bT h _
 ·have h:=bF ((w.alloc d).alloc e) f;rw[show((w.alloc d).alloc e).heap.size=w.heap.size+1+1 by simp]at h;exact h
theorem bP(h:Below n w w'):Below n w w'.drew:=h.drew
theorem aaW(h:kH w g l):kH w.drew g l:=h
theorem kH.Ku(h:kH w g l){a:Addr}(p:g≠a.block)(v:aC):kH (w.setCell a v) g l:=by obtain⟨d,r,e,f⟩:=h;exact⟨d,aX r p v,e,f⟩
theorem Kv(w:bI)(q:Sp)(nl:aJ)(fC:aS->Option aC)(eU:aC)(sets:Int)(ve va vb:aC)(a b:Fl.Hg)(y:D7 w q nl fC eU sets ve)(ha:iM w nl va a)(hb:iM w nl vb b)(la:a.2<q.c.N)(lb:b.2<q.c.N):aD 212 #[gK q.p,.agg #[va,O a.2],.agg #[vb,O b.2]] w λp w'=>∃vf,p=dz (.agg #[vf,O (q.c.and a b).2])/\J (iM w' nl vf (q.c.and a b)/\bK w w'):=by
 obtain⟨W,hW,k0,k1,k2,ax,G⟩:=al3 w (aY #[va,O a.2] 244) (aY #[vb,O b.2] 244)<|aY #[aU,O 0] 244;obtain⟨L,hJ⟩:=aV<|(q.c.and a b).2;have al:J (∀f,bK W f->aD 217 #[.agg #[q.vn,q.vl],O a.2,O b.2] f λp w'=>p=dz (O L)/\bK f w'):=Y λf D=>by rw[hJ];have h:=G6 f q.vn q.vl q.ss.length a.2 b.2 q.c.Z ((y.lat.below<|up G D).grid) y.lat.six (by rw[<-y.N];exact la) (by rw[<-y.N];exact lb);rw[<-y.N]at h;exact h
 have ac:J (∀vf w',dJ w' vf (kQ<|vU<|Fl.nums nl a.1++Fl.nums nl b.1)->iM w' nl vf (q.c.and a b)):=Y λvf w' h=>by rw[aaT]at h;exact h
 have E:J ((Fl.nums nl a.1++Fl.nums nl b.1).length<=16777216):=Y (by have h1:=vW nl a.1;have h2:=vW nl b.1;have h3:=y.len;rw[bg];omega);obtain⟨ay,az⟩:=bV (dJ.below ha G)<|dJ.below hb G;obtain⟨Q,ca,rfl⟩:=dJ.form ha;obtain⟨R,cb,rfl⟩:=dJ.form hb;have r:J (∀f,bK W f->bJ f q.p 0=some q.vn/\bJ f q.p 1=some q.vl/\bJ f w.heap.size 1=some (O a.2)/\bJ f (w.heap.size+1) 1=some (O b.2)):=Y λf D=>by have hc:=(y.below<|up G D).cells;exact⟨hc.1,hc.2.1,(aj (bH k0 D) 1).trans rfl,(aj (bH k1 D) 1).trans rfl⟩
 have HR:J (∀f,bK W f->f.heap[w.heap.size+1+1]?=some (aY #[aU,O 0] 244)):=Y λf D=>bH k2 D;have q0:=aj k0 0;have q1:=aj k1 0;rw[<-hJ];generalize (Fl.nums nl a.1).length=na at *;generalize (Fl.nums nl b.1).length=nb at *;obtain⟨iO,Ae⟩:=bV G ax;clear y ha hb k0 k1 k2 G ax hJ la lb;go_enter func212,ntmps212;go_wp2_with fail;rw[<-hW];have HU:=Y<|aH W<|aY #[X Q na ca,X R nb cb] 32;have aA:J (U9 (W.alloc<|aY #[X Q na ca,X R nb cb] 32) (Tc (w.heap.size+1+1+1) 2 2) [Fl.nums nl a.1,Fl.nums nl b.1]):=Y ⟨_,0,2,rfl,by simp,λi l u=>by
  have ae:=bF W<|aY #[X Q na ca,X R nb cb] 32;rw[Ae]at ae;match i,u with
  | 0,u=>simp at u;subst u;exact⟨_,(aj ae 0).trans rfl,(ay.below HU).ints⟩
  | 1,u=>simp at u;subst u;exact⟨_,(aj ae 1).trans rfl,(az.below HU).ints⟩
  | i+2,u=>simp at u⟩
 have CV:J ([Fl.nums nl a.1,Fl.nums nl b.1].flatten=Fl.nums nl a.1++Fl.nums nl b.1):=Y cK;obtain⟨F,hF⟩:=aV<|Fl.nums nl a.1++Fl.nums nl b.1;rw[<-hF]at CV E ac;have ng:=Y (aen _ _ _ aA (by rw[CV];exact E));rw[CV]at ng;clear hF;refine ng.mono ?_;rintro p w1 ⟨v1,rfl,Ki⟩;obtain⟨ah,au,ad⟩:=Ki.out;have C:=Y<|up HU ad;clear Ki hW q0 q1;rcases gQ.Ih ah with⟨rfl,ap⟩|⟨g,cap,rfl,af,hg,av⟩
 ·have uK:=Y ap;clear ap au ah ad;go_wp2_with fail;refine(Wu _ _ _).mono ?_;rintro p w2 ⟨rfl,a3⟩;subst a3;obtain⟨c0,c1,c2,c3⟩:=r _ C;go_wp2_with fail;refine dx [some false,none,some false,some false,some false,some true,some false,some true,some false,some true,none,none,none] 12 (λw'=>bJ w' q.p 0=some q.vn/\bJ w' q.p 1=some q.vl/\bJ w' w.heap.size 1=some (O a.2)/\bJ w' (w.heap.size+1) 1=some (O b.2)) 4 dw dw (λ_ _ d _ _ h=>(by cases d<;>exact h)) (r _<|bP C) ?_;dsimp only[gB];repeat(first|(refine fO (v:=?_) dH ?_ ?_;rotate_left 1;(focus(intro w;go_simp;try(with_reducible rfl)));simp only[Act.put,dS,dY,eX])|(refine fP (v:=?_) dH ?_ ?_;rotate_left 1;(focus(intro w a2;go_simp;try(with_reducible rfl)));simp only[Act.put,dS,dY,eX]))
  refine dW ?_;refine aT (i:=1) dw dH (λK e=>?_);go_simp;go_at_call 239;refine(adG _).mono ?_;rintro p w9 ⟨rfl,a4⟩;subst a4;dsimp only;refine e _ _ (λ_=>r _<|bP C) ?_;clear e K;refine aT (i:=10) dw dH (λK e=>?_);go_simp;go_at_call 217;refine(al _<|bP C).mono ?_;rintro p w9 ⟨rfl,I⟩;have t:=Y<|up (bP C) I;clear I;dsimp only;refine e _ _ (λ_=>r _ t) ?_;clear e K;refine aT (i:=11) dw dH (λK e=>?_);go_simp;refine e _ _ (λ_=>r _ t) ?_;clear e K;have x:=Y<|HR _ t;obtain⟨r0,r1⟩:=jv x;obtain⟨z0,z1⟩:=eY (aF x 0)<|aF x 1;refine aT (i:=12) dw dH (λK e=>?_);go_simp;refine e _ _ (λh=>aM (h.symm.trans dw) iJ) ?_;clear e K;refine dP dw ?_ _;go_wp2_with fail;have hs:=xP x (aU)<|O L;obtain⟨f0,f1⟩:=jv hs;refine cZ (v:=.agg #[aU,O L]) (by simp[results,results212,go_sem,f0,f1]) rfl ⟨_,rfl,Y ⟨?_,jR (up iO t) bC _ _⟩⟩;refine ac _ _ ?_;rw[uK,show kQ (vU [])=[]from by simp[vU,kQ]];exact dJ.nil _
 ·have sU:=Y av;have P:J (W.heap.size<g):=Y (by have:=hg;rw[show(W.alloc<|aY #[X Q na ca,X R nb cb] 32).heap.size=W.heap.size+1 by simp]at this;omega);obtain⟨fl,ag⟩:=aV F.length;have U:=Y ag;rw[<-ag]at af E ⊢;have a1:=Y af;clear av hg ag au ah ad;go_wp2_with fail;refine(aaU w1 g fl cap F sU U (by rw[<-U];exact E)).mono ?_;rintro p w2 ⟨rfl,aw,aq⟩;obtain⟨oD,M⟩:=bV aw<|C.trans<|aq.below (Nat.le_of_lt P) C.size;have ak:J (∀f,kH f g (vU F)->aD 239 #[Tc g fl cap] f λp w'=>∃c',p=dz (Tc g (kQ<|vU F).length c')/\kH w' g (kQ<|vU F)/\But g f w'):=Y λf hr=>apF f g fl cap (vU F) hr (by rw[SH];exact U) a1 E;have ao:J ((kQ<|vU F).length<=9223372036854775807):=Y (by have h1:=adT<|vU F;rw[SH,<-U]at h1;have:=E.out;omega);obtain⟨pl,ai⟩:=aV<|(kQ<|vU F).length;have S9:=Y ai;rw[<-ai]at ak ao;clear aw aq ai af;obtain⟨c0,c1,c2,c3⟩:=r _ M;go_wp2_with fail;refine dx [some false,none,some false,some false,some false,some true,some false,some true,some false,some true,none,none,none] 12 (λw'=>bJ w' q.p 0=some q.vn/\bJ w' q.p 1=some q.vl/\bJ w' w.heap.size 1=some (O a.2)/\bJ w' (w.heap.size+1) 1=some (O b.2)) 4 dw dw (λ_ _ d _ _ h=>(by cases d<;>exact h)) (r _<|bP M) ?_;dsimp only[gB];repeat(first|(refine fO (v:=?_) dH ?_ ?_;rotate_left 1;(focus(intro w;go_simp;try(with_reducible rfl)));simp only[Act.put,dS,dY,eX])|(refine fP (v:=?_) dH ?_ ?_;rotate_left 1;(focus(intro w a2;go_simp;try(with_reducible rfl)));simp only[Act.put,dS,dY,eX]))
  refine dW ?_;refine aT (i:=1) dw dH (λK e=>?_);go_simp;go_at_call 239;refine(ak w2.drew<|aaW oD).mono ?_;rintro p w5 ⟨c5,rfl,am,ar⟩;obtain⟨aE,eD⟩:=bV am<|(bP M).trans (ar.below (Nat.le_of_lt P) (bP M).size);clear am ar;dsimp only;refine e _ _ (λ_=>r _ eD) ?_;clear e K;refine aT (i:=10) dw dH (λK e=>?_);go_simp;go_at_call 217;refine(al _ eD).mono ?_;rintro p w9 ⟨rfl,I⟩;obtain⟨a0,t⟩:=bV (aE.below I)<|up eD I;clear I;dsimp only;refine e _ _ (λ_=>r _ t) ?_;clear e K;refine aT (i:=11) dw dH (λK e=>?_);go_simp;refine e _ _ (λ_=>r _ t) ?_;clear e K;have x:=Y<|HR _ t;obtain⟨r0,r1⟩:=jv x;obtain⟨z0,z1⟩:=eY (aF x 0)<|aF x 1;refine aT (i:=12) dw dH (λK e=>?_);go_simp;refine e _ _ (λh=>aM (h.symm.trans dw) iJ) ?_;clear e K;refine dP dw ?_ _;go_wp2_with fail;have hs:=xP x (Tc g pl c5)<|O L;obtain⟨f0,f1⟩:=jv hs;refine cZ (v:=.agg #[Tc g pl c5,O L]) (by simp[results,results212,go_sem,f0,f1]) rfl ⟨_,rfl,Y ⟨?_,jR (up iO t) bC _ _⟩⟩;refine ac _ _ (aQ ⟨g,c5,by rw[S9],by rw[<-S9];exact ao,(a0.Ku (by have:=P.out;have:=Ae.out;show g≠w.heap.size+1+1;omega) _).Ku (by have:=P.out;have:=Ae.out;show g≠w.heap.size+1+1;omega) _⟩)
namespace Fl
def cls:Nat->Ex->List ByteArray
 | 0,_=>[]
 | m+1,x=>(if x.kind=4 then [x.name]else [])++x.args.flatMap (cls m)
end Fl
theorem nS.uO{b:Nat}{o:aS->Option Nat}(h:nS w b n (λs=>(o s).map λn:Nat=>(n:Int)))(d:s.size<=maxLen):(Instr.lookup 58 (.map<|some b) (A s) true).run prog w=.ok (.tuple #[O (((o s).map λn:Nat=>(n:Int)).getD 0),.bool (o s).isSome]) w:=by have:=h.sS d;rwa[Option.isSome_map]at this
theorem amN(w:bI)(q:Sp)(nl:aJ)(fC:aS->Option aC)(eU:aC)(sets:Int)(ve:aC)(s:aS)(P:D7 w q nl fC eU sets ve)(U:s.size<=maxLen)(R:q.c.nQ s=none->s∈nl):aD 211 #[gK q.p,A s] w λe w'=>∃vf,e=dz (.agg #[vf,O (q.c.nh s).2])/\J (iM w' nl vf (q.c.nh s)/\bK w w'):=by
 obtain⟨W,x⟩:=aV<|w.alloc<|aY #[aU,O 0] 244;have C:bK w W:=by rw[x];exact aH _ _
 have k0:dR W w.heap.size (aY #[aU,O 0] 244):=by rw[x];exact bF _ _
 have aa:W.heap.size=w.heap.size+1:=by rw[x];simp
 have r:=Y<|P.below C;have HR:J (∀wx,bK W wx->dR wx w.heap.size (aY #[aU,O 0] 244)):=Y λwx hx=>bH k0 hx;obtain⟨iO,Ae⟩:=bV C aa;cases p:q.c.nQ s with
 | some n =>rw[show q.c.nh s=([],n) by simp[Fl.Env.nh,p]];have u:=r.levels.uO U;rw[p]at u;simp only[kV,gD,nD]at u;obtain⟨G,I,y,L,M,-⟩:=r.cells;clear P R p k0 C aa;subst x;go_enter func211,ntmps211;go_wp2_with fail;refine cZ (v:=.agg #[aU,O (n:Nat)]) (by simp[results,results211,go_sem]) rfl ⟨_,rfl,Y ⟨iM.nil _ _ _,aH _ _⟩⟩
 | none=>
  rw[show q.c.nh s=([s],q.c.low) by simp[Fl.Env.nh,p]];obtain⟨i,Q⟩:=Fl.xk<|R p;have u:=r.levels.uO U;rw[p]at u;simp only[Ca,lK,nE]at u;have E:J (∀wx,bK W wx->bJ wx q.p 6=some (.map<|some q.mn)/\bJ wx q.p 2=some (O q.c.low)/\(Instr.lookup 58 (.map<|some q.mn) (A s) false).run prog wx=.ok (O (i:Nat)) wx):=Y λwx hx=>by have hh:=r.below hx;obtain⟨G,I,y,L,M,c5,c6,-⟩:=hh.cells;have:=hh.numbers.look U;rw[Q]at this;exact⟨c6,y,this⟩
  have D8:=Y<|aei r.nodup Q;obtain⟨G,I,y,L,M,-⟩:=r.cells;clear P R p k0 C aa Q;subst x;go_enter func211,ntmps211;go_wp2_with fail;generalize w.alloc (aY #[aU,O 0] 244)=W at *;clear u G I y L M;refine dx [some false,some false,some false,some true,some false,some true,none,some false,some false,some false,some true,none,none] 12 (λw'=>bJ w' q.p 6=some (.map<|some q.mn)/\bJ w' q.p 2=some (O q.c.low)/\(Instr.lookup 58 (.map<|some q.mn) (A s) false).run prog w'=.ok (O (i:Nat)) w') 3 dw dw (λ_ _ d _ _ h=>(by cases d<;>exact h)) (E _<|bP<|bQ _ _) ?_;dsimp only[gB];repeat(first|(refine fO (v:=?_) dH ?_ ?_;rotate_left 1;(focus(intro w;go_simp;try(with_reducible rfl)));simp only[Act.put,dS,dY,eX])|(refine fP (v:=?_) dH ?_ ?_;rotate_left 1;(focus(intro w ad;go_simp;try(with_reducible rfl)));simp only[Act.put,dS,dY,eX]))
  refine dW ?_;refine aT (i:=6) dw dH (λK f=>?_);go_simp;refine f _ _ (λ_=>E _<|bP<|aH _ _) ?_;clear f K;try simp only[Act.put,dS,dY,eX]
  have F:=Y<|bP<|aH W<|aY #[O (i:Nat)] 3;have ac:J (kH (W.alloc<|aY #[O (i:Nat)] 3).drew W.heap.size [(i:Int)]):=Y ⟨_,bF W _,by simp,λj d t=>by
   match j,t with
   | 0,t=>simp at t;subst t;rfl
   | j+1,t=>simp at t⟩
  generalize (W.alloc<|aY #[O (i:Nat)] 3).drew=W9 at *;refine aT (i:=11) dw dH (λK f=>?_);go_simp;refine f _ _ (λ_=>E _ F) ?_;clear f K;have D:=Y<|HR _ F;obtain⟨r0,r1⟩:=jv D;obtain⟨z0,z1⟩:=eY (aF D 0)<|aF D 1;refine aT (i:=12) dw dH (λK f=>?_);go_simp;refine f _ _ (λh=>aM (h.symm.trans dw) iJ) ?_;clear f K;refine dP dw ?_ _;go_wp2_with fail;have ab:=xP D (Tc W.heap.size 1 1)<|O q.c.low;obtain⟨f0,f1⟩:=eY ((aj ab 0).trans rfl) ((aj ab 1).trans rfl);refine cZ (v:=.agg #[Tc W.heap.size 1 1,O q.c.low]) (by simp[results,results211,go_sem,f0,f1]) rfl ⟨_,rfl,Y ⟨?_,jR (up iO F) (bG _) _ _⟩⟩;unfold iM;rw[D8];exact aQ ⟨_,1,rfl,by simp,(ac.Ku (by have:=Ae.out;show W.heap.size≠w.heap.size;omega) _).Ku (by have:=Ae.out;show W.heap.size≠w.heap.size;omega) _⟩
