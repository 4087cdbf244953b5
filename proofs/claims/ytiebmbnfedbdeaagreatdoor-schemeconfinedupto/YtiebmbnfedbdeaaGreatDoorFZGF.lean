import Derived.Test.YtiebmbnfedbdeaaGreatDoorFZBW
import Derived.Test.YtiebmbnfedbdeaaGreatDoorFZRB
import Derived.Test.YtiebmbnfedbdeaaGreatDoorFZMA
set_option maxHeartbeats 0
set_option maxRecDepth 99999
namespace Go.Proofs.YtiebmbnfedbdeaaGreatDoor
open Ck bS Sm
open Go.Proofs.Tryz
open Go.RowKit Go.Maps Go.WideMaps
variable{s name:aS}{w W x:bI}{n cap k m B i G:Nat}{v v1 v2 v3:aC}
theorem U8(w:bI)(c:Nat):xO w (X none 0 c) []:=⟨none,0,0,c,rfl,λa=>aM a cK,by simp,λi y b=>by simp at b⟩
def MJ(w w':bI)(b:Ck.Fi)(v:Value):Prop:=∃a,xO w' v a/\(a=[]\/(a=b.1/\b.2.2=0/\b.2.1=[]))/\bK w w'
theorem agV(m:Nat)(w:bI)(p o j:aC)(ss:aJ)(G:Nat)(L:Nat->Nat)(Z:aL)(l:List Mo)(name:aS)(y:Strs w p ss)(hR:EX w o G L Z)(hK:xQ w m j l)(ad:∀x∈l,xH m x<=1048576)(ht:Tab w)(hn:name.size<=maxLen):aD 6 #[.agg #[p,o],j,A name] w λd w'=>∃v,d=dz v/\J (MJ w w' (Ck.an ⟨m,ss,G,L,Z,l⟩ name) v):=by
 obtain⟨c,z⟩:∃c,c=(⟨m,ss,G,L,Z,l⟩:Cx):=⟨_,rfl⟩;obtain⟨Zk,e⟩:=aV<|Ck.an c name;rw[<-z,<-e];obtain⟨u,q,F⟩:=Zk;have ah:J (∀wx,bK w wx->aD 20 #[.agg #[p,o],j,A name] wx λd w'=>∃a f,d=dz (.tuple #[.agg #[a,f],O F])/\J (xO w' a u/\jg w' f q/\bK wx w')):=Y (λwx g=>by
  have h:=agF m wx p o j ss G L Z l name (Ck.uni ss l) (y.below g) (hR.below g) (hK.below g) ad (ht.below g) hn Ik;rw[<-z,<-e]at h;refine h.mono ?_;rintro d w' ⟨a,f,rfl,C⟩;have h1:=C.1;refine⟨a,f,rfl,Y ⟨?_,C.2.1,C.2.2⟩⟩;have h2:eZ Ht w' 0 35 6 a (Ck.an c name).1:=by rw[<-e];exact h1
  have h3:=amB (c:=c) h2;rw[<-e]at h3;exact h3)
 obtain⟨I,N,S⟩:=jc y;obtain⟨a1,b1,o1,P,lA,al,am,lC,e1,-⟩:=hR;obtain⟨a5,b5,f5,c5,U,-⟩:=hK;generalize ss.length=n0 at S;generalize l.length=n5 at U;subst S e1 U;clear y ad ht hn z e;obtain⟨iO,lH⟩:=Z6 w<|aY #[X I n0 N,X a1 G P] 25;obtain⟨LB,ab⟩:=aV w.heap.size;go_enter func6,ntmps6;go_upto_region 1 with fail;rw[<-ab]at lH ⊢;generalize w.alloc (aY #[X I n0 N,X a1 G P] 25)=W at *;clear ab;obtain⟨x0,x1⟩:=jv lH;go_wp2_with fail;refine(ah W iO).mono ?_;rintro d E ⟨a,f,rfl,b⟩;obtain⟨K,ae⟩:=bV b.out.1<|up iO b.2.2;obtain⟨sa,sb,so,sc,rfl,-⟩:=b.1;obtain⟨Q,db,ai,R,rfl,-⟩:=b.2.1;obtain⟨ns,ac⟩:=aV u.length;obtain⟨nd,D⟩:=aV q.length;rw[<-ac]at K ⊢;rw[<-D];have TI:=Y D;clear b x0 x1 ac D;go_upto_region 2 with fail;obtain⟨V,H⟩:=Z6 E<|aY #[X sa ns sc,X Q nd R] 71;obtain⟨r,ag⟩:=bV (up ae V)<|K.below V;obtain⟨AB,aa⟩:=aV E.heap.size;rw[<-aa]at H ⊢;generalize E.alloc (aY #[X sa ns sc,X Q nd R] 71)=W3 at *;clear aa;obtain⟨z0,z1⟩:=jv H;by_cases hE:F=0
 ·subst hE;by_cases hd:nd=0;·subst hd;have af:J (q=[]):=Y<|List.eq_nil_of_length_eq_zero TI.symm;go_wp2;go_ret;exact⟨_,rfl,Y ⟨u,ag,aQ ⟨rfl,rfl,af⟩,r⟩⟩
  ·have ak:(0:Int)<(nd:Int):=by omega
   go_wp2;go_ret;exact⟨_,rfl,Y ⟨[],U8 _ _,aO rfl,r⟩⟩
 ·have hz:=eO hE;go_wp2;go_ret;exact⟨_,rfl,Y ⟨[],U8 _ _,aO rfl,r⟩⟩
theorem agW{E:aJ}(h:s∈E):decide (0<=dU E s)=true:=gW<|Fl.wD.2 h
theorem Ints.apD{a:Option Addr}{l:List Int}(c:Ints w (X a n cap) l)(q:k<=l.length):Ints w (X a k cap) (l.take k):=by
 obtain⟨u,b,off,y,e,h,C,o⟩:=c;injection e with f z g;subst f g;refine⟨a,b,off,cap,by rw[iA,Nat.min_eq_left q],λc=>h ?_,by rw[iA];omega,λj r d=>?_⟩;·rw[iA]at c;omega
 ·have p:j<k:=by have:=(cO.1 d).1;rw[iA]at this;omega
  rw[nM p]at d;exact o j r d
theorem xQ.caps{l:List Mo}(o:xQ w m v l):∀(b off cap:Nat),v=X (some<|aN b off) l.length cap->∀(i:Nat) (y:Mo) (vf:aC),l[i]?=some y->bJ w b (off+i*4+3)=some vf->uL vf:=λb off cap f i y vf e k3=>by
 obtain⟨z,C,N,D,g,p,_,r⟩:=o;have d:=f;rw[g]at d;injection d with c E F;have u:0<l.length:=by have:=(cO.1 e).1;omega
 rw[p u]at c;injection c with c;injection c with h j;subst h j;obtain⟨Q,R,P,H,I,K,a,L,q⟩:=r i y e;replace a:=k3.symm.trans a;injection a with a;subst a;exact q.fus
theorem qN.amC{r:Rn.Fx}(f:qN w r v1 v2 v3):∃a1 a a2 b a3 c3,v1=X a1 r.TB.length a/\v2=X a2 r.pr.length b/\v3=X a3 r.did.length c3:=by obtain⟨⟨a1,_,_,a,c,_⟩,⟨a2,_,_,b,d,_⟩,⟨a3,_,_,c3,e,_⟩⟩:=f;exact⟨a1,a,a2,b,a3,c3,c,d,e⟩
section
variable {W : World} {B : Nat} {t : TypeId} {n : Int} {a1 a2 a3 : Option Addr} {n1 n2 n3 k1 k2 k3 : Nat}
theorem Gt{b q:Nat}{s:aS}(d:dR W B (.cells #[O n,X a1 n1 k1,X a2 n2 k2,X a3 n3 k3] t (0,0)))(a:W.cell? (aN b q)=some (A s)):b≠B:=λc=>by
 subst c;rw[aj d]at a;match q,a with
 | 0,a=>simp at a
 | 1,a=>simp at a
 | 2,a=>simp at a
 | 3,a=>simp at a
 | q+4,a=>simp at a
theorem Al{b q i:Nat}{v:aC}(e:b≠B)(a:bJ W b q=some v)(c:aC):(W.setCell (aN B i) c).cell? (aN b q)=some v:=by obtain⟨o,d⟩:∃o,W.heap[b]?=some o:=⟨_,Array.getElem?_eq_getElem<|eH _ _ a⟩;exact(jH<|(aX d e c).trans d.symm).trans a
theorem qh{b q:Nat}{v:aC}(a:b≠B)(g:bJ W b q=some v)(c d e f:aC):((((W.setCell (aN B 0) c).setCell (aN B 1) d).setCell (aN B 2) e).setCell (aN B 3) f).cell? (aN b q)=some v:=Al a (Al a (Al a (Al a g c) d) e) f
theorem acy{r:Rn.Fx}{v1 v2 v3:aC}(E:qN W r v1 v2 v3)(d:dR W B (.cells #[O n,X a1 n1 k1,X a2 n2 k2,X a3 n3 k3] t (0,0)))(l o p q:aC):qN ((((W.setCell (aN B 0) l).setCell (aN B 1) o).setCell (aN B 2) p).setCell (aN B 3) q) r v1 v2 v3:=by
 obtain⟨⟨U,y1,z1,w1,u,I,N,F⟩,⟨V,y2,z2,R,z,K,P,H⟩,⟨Z,y3,z3,S,C,L,Q,s3,f⟩⟩:=E;refine⟨⟨U,y1,z1,w1,u,I,N,λi y e=>?_⟩,⟨V,y2,z2,R,z,K,P,λi y e=>?_⟩,⟨Z,y3,z3,S,C,L,Q,s3,λj h=>?_⟩⟩;·obtain⟨g,b,c,D⟩:=F i y e;have a:=Gt d b;exact⟨g,qh a b _ _ _ _,qh a c _ _ _ _,qh a D _ _ _ _⟩
 ·obtain⟨b,c⟩:=H i y e;have a:=Gt d b;exact⟨qh a b _ _ _ _,qh a c _ _ _ _⟩
 ·exact qh (Gt d<|f j h) (f j h) _ _ _ _
end
theorem Vb(b:J (W.heap.size<=B))(a:J (bK W x)):J (bK W<|x.setCell (aN B i) v):=Y<|a.setCell (p:=(aN B i)) b v
theorem Ck.aun{c:Cx}(e:(Ck.an c name).2.2=0)(h:(Ck.an c name).2.1=[]){y:Sc}(g:(Ck.an c name).1[k]?=some y):dD c.ss c.G c.L c.Z=0/\0<=y.pc/\y.pc<c.ss.length:=by
 obtain⟨r,E,p⟩:=agL e;rw[p]at e h g;obtain⟨i,u⟩:=sF.1 E;obtain⟨x,H,rfl⟩:=iT u;have j:Ck.Acc c i x:=⟨H,r,e,h⟩;have a:=j.facts;have z:(FD c x.name).1.length=x.bq.length:=by rw[a.eF];exact xB<|bG _
 have o:k<x.bq.length:=by rw[<-z];exact(cO.1 g).1
 obtain⟨f,l⟩:∃f,x.bq[k]?=some f:=⟨_,aZ o⟩;obtain⟨s1,s2⟩:=j.xD l;rw[g]at s2;injection s2 with s2;obtain⟨q,b⟩:=eY (EH l<|U3 a.inf k o)<|qF a.chk;have d:=Jq b.order;have F:Sm.top c.Z c.ss.length<c.ss.length:=(Db (Z:=bS.tr c.Z) (sD d b.joins) b.pos).1;have C:=(pcf d (sD d.turn b.meets) _ (Sm.top c.Z c.ss.length) F q.pb.sinks).1;refine⟨a.chk,?_⟩;rw[s2,s1];show(0:Int)<=(Sm.pc _ _ _:Nat)/\((Sm.pc _ _ _:Nat):Int)<_;refine⟨Int.natCast_nonneg _,?_⟩;have D:=Int.ofNat_lt.2 C;exact D
theorem atY{L:Nat->Nat}(a:mR G L n=true):G=n/\∀r,r<n->L r=n:=by unfold mR at a;simp only[dK,iB,jE,beq_iff_eq]at a;refine⟨a.1,λr c=>?_⟩;have b:=a.2 r (by rw[a.1];exact c);unfold wM at b;simpa using b
theorem atZ(w:bI)(c q:Nat)(o l:aC)(ss:aJ)(G:Nat)(L:Nat->Nat)(Z:aL)(pc:Int)(s:aS)(V:bJ w c 0=some o)(N:bJ w c 1=some l)(g:Strs w o ss)(P:EX w l G L Z)(d:dD ss G L Z=0)(I:bJ w q 4=some (O pc))(aa:0<=pc/\pc<ss.length)(j:0<=dU ss s/\dU ss s<ss.length/\Z pc.toNat (dU ss s).toNat=true):aD 9 #[A s,gK c,gK q] w λu w'=>u=dz (.bool true)/\bK w w':=by
 have r:=Y<|find_ok w o l ss G L Z s g P d;obtain⟨U,K⟩:=atY (qF d).square;obtain⟨i,b⟩:∃i:Nat,dU ss s=(i:Int):=⟨(dU ss s).toNat,by omega⟩;obtain⟨p,rfl⟩:∃p:Nat,pc=(p:Int):=⟨pc.toNat,by omega⟩;rw[b]at j;have y:atT ss s=(i:Int):=by unfold atT;rw[b,aI bC]
 have z:atU ss s=0:=by unfold atU;rw[b,aI bC]
 rw[y,z]at r;have h:p<G:=by omega
 have Q:i<L p:=by rw[K p bC];omega
 have R:Z p i=true:=by have:=j.2.2;rwa[vQ,vQ]at this
 obtain⟨a0,c0,rfl⟩:=jc g;obtain⟨ga,gb,ab,gc,Zk,RB,RO,C,rfl,E,_,_,F,H⟩:=P;obtain rfl:=E bC;have e:=F p h;obtain⟨D,f⟩:=H p i h Q;rw[D]at e;rw[R]at f;generalize ss.length=n0 at *;have b1:(0:Int)<=(p:Int):=by omega
 have b2:(p:Int)<(G:Int):=by omega
 have b3:(0:Int)<=(i:Int):=by omega
 have b4:(i:Int)<(L p:Int):=by omega
 generalize L p=lp at *;clear g E F H d aa j K R y z D b h Q U;go_enter func9,ntmps9;go_wp2_with fail;refine r.mono ?_;rintro u w1 ⟨rfl,a⟩;have S:=Y a;replace N:=aG N a;replace I:=aG I a;replace e:=aG e a;replace f:=aG f a;clear a V;go_wp2;go_ret;exact⟨rfl,S⟩
