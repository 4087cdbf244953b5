import Derived.Test.YtajaekfdcpjjfaaGreatDoorSZBX
import Derived.Test.YtajaekfdcpjjfaaGreatDoorSZBS
import Derived.Test.YtajaekfdcpjjfaaGreatDoorSZGA
set_option maxHeartbeats 0
set_option maxRecDepth 99999
namespace Go.Proofs.YtajaekfdcpjjfaaGreatDoor
open Ck bS Rd Sm
open Go.Proofs.Tryz
open Go.RowKit Go.Maps Go.WideMaps
namespace Sm
open Fl
def Ye(x:Mo):List ByteArray:=(x.vars.flatMap λv=>[deed ⟨#[114,58]⟩ x.name v.name,deed ⟨#[119,58]⟩ x.name v.name])++nH.map λs=>(⟨#[112,58]⟩++s:ByteArray)
theorem Z4{x:Mo}(a:(decide ((Ye x).length<=1048576)&&(Ye x).all (λt=>decide (t.size<=100)))=true):UOk (Ye x) nH x []:=by
 rw[dK,iB]at a;refine⟨λl c=>(by cases c),λv b=>⟨?_,?_⟩,λs d=>?_,iP a.1,λt e=>bE (iP<|a.2 t e) bM⟩;·exact bX.2<|aO<|gZ.2 ⟨v,b,by simp⟩
 ·exact bX.2<|aO<|gZ.2 ⟨v,b,by simp⟩
 ·exact bX.2<|aQ<|iZ.2 ⟨s,d,rfl⟩
end Sm
theorem Hl.below{w w':bI}{a vf:aC}(b:Hl w a vf)(c:bK w w'):Hl w' a vf:=b.sub<|aad c
theorem Z5{w:bI}{g f d e v3:aC}{x:Mo}(n:Strs w g nH)(m:EX w f 2 (λ_=>2) qg)(k:jl w 8196 (.agg #[A x.name,d,e,v3]) x)(c:Hl w d v3)(p:Tab w)(q:xH 8196 x<=1048576):mQ w 8196 g f d e v3 (aU) (aU) (aU) nH 2 (λ_=>2) qg x [] [] []:=
 ⟨n,m,k,⟨c.1,c.2.1,c.2.2⟩,⟨none,0,0,0,rfl,λb=>aM b cK,by simp,λi y a=>aM a cK⟩,⟨none,0,0,0,rfl,λb=>aM b cK,by simp,λi y a=>aM a cK⟩,⟨none,0,0,0,rfl,λb=>aM b cK,by simp,λi y a=>aM a cK⟩,q,λy a=>(by cases a),p,λl h=>(by cases h),λy a=>(by cases a)⟩
structure As1(w w':World)(b off:Nat)(ba:Option Addr)(bc:Nat):Prop where
 nQ:w'.cell? ⟨b,off+2,none⟩=some (.int .i64 0)
 pc:w'.cell? ⟨b,off+4,none⟩=some (.int .i64 0)
 bd:w'.cell? ⟨b,off+3,none⟩=some (.slice ba 1 bc)
 ints:Ints w' (.slice ba 1 bc) [1]
 wB:Below w.heap.size w w'
structure As2(w w':World)(v:Value):Prop where
 dg:jg w' v [⟨6,⟨#[102]⟩,⟨#[120]⟩⟩]
 wB:Below w.heap.size w w'
theorem agP(w:bI)(H F:aC)(d p e:Option Addr)(k C n f s g:Nat)(hs:Strs w H nH)(hr:EX w F 2 (λ_=>2) qg)(hm:jl w 8196 (.agg #[A ⟨#[109]⟩,X d k f,X p C s,X e n g]) Rd.s1)(hp:Hl w (X d k f) (X e n g))(ht:Tab w):aD 36 #[.agg #[H,F],.agg #[A ⟨#[109]⟩,X d k f,X p C s,X e n g],aU,aU] w λI w'=>∃b off c D E q r,I=dz (.tuple #[X (some<|aN b off) 1 c,X D 0 E,O 0])/\J (As1 w w' b off q r):=by have h:UOk (Ye Rd.s1) nH Rd.s1 []:=Z4 dw;obtain⟨P,i⟩:=eY (Gp 8196 w H F (X d k f) (X p C s) (X e n g) (aU) (aU) nH 2 (λ_=>2) qg Rd.s1 [] [] (Ye Rd.s1) (Z5 (x:=Rd.s1) hs hr hm hp ht<|iP dw) h)<|ZC (G:=2) (L:=λ_=>2) (Z:=qg) (m:=8196) (known:=[]) h;rw[asD]at P i;refine P.mono ?_;rintro I w' ⟨v,u,rfl,hh⟩;obtain⟨S,U,V⟩:=hh.out;have hy:=i Sm.y1 cK;obtain⟨a,b,off,c,rfl,W,-,aa⟩:=Li S cK (λy B t ab=>h.size t<|(i y B).1 t ab) (λy B=>bE (i y B).2 h.len);obtain⟨D,ub,uo,E,rfl,-⟩:=U;obtain⟨vb,ve,g0,g1,K,Q,N,g5,z,-⟩:=aa 0 Sm.y1 rfl;rw[IK.1]at K;rw[IK.2.1]at N;rw[IK.2.2]at z;obtain⟨q,r,rfl⟩:=z.Hr;obtain rfl:=W cK;exact⟨b,off,c,D,E,q,r,rfl,Y ⟨by simpa using K,by simpa using N,by simpa using Q,z,V⟩⟩
theorem agQ(w:bI)(s r:aC)(d m e:Option Addr)(h p i f n g:Nat)(N:Strs w s nH)(L:EX w r 2 (λ_=>2) qg)(I:jl w 8196 (.agg #[A ⟨#[109]⟩,X d h f,X m p n,X e i g]) Rd.sB)(K:Hl w (X d h f) (X e i g))(P:Tab w):aD 36 #[.agg #[s,r],.agg #[A ⟨#[109]⟩,X d h f,X m p n,X e i g],aU,aU] w λz w'=>∃b off c q k t y,z=dz (.tuple #[X b off c,X (some<|aN q k) t y,O 0])/\J (off=0/\t=1/\As2 w w' (X (some<|aN q k) 1 y)):=by have G:UOk (Ye Rd.sB) nH Rd.sB []:=Z4 dw;have B:=Gp 8196 w s r (X d h f) (X m p n) (X e i g) (aU) (aU) nH 2 (λ_=>2) qg Rd.sB [] [] (Ye Rd.sB) (Z5 (x:=Rd.sB) N L I K P<|iP dw) G;rw[asE]at B;refine B.mono ?_;rintro z w' ⟨v,u,rfl,H⟩;obtain⟨D,C,F⟩:=H.out;obtain⟨a,c,rfl⟩:=D.form;have E:=C;obtain⟨q,S,U,k,rfl,Q,-⟩:=C;obtain rfl:=Q cK;exact⟨a,0,c,S,U,1,k,rfl,Y ⟨rfl,rfl,E,F⟩⟩
theorem EM(w:bI)(t:aS)(x:Mo)(n:prE t=0)(p:prX t=x)(v:t.size<=maxLen)(y:Tab w)(r:Qo w):aD 35 #[A t] w λk w'=>∃a e c g i h b f d z,k=dz (.tuple #[.agg #[A x.name,X a e c,X g i h,X b f d],O z,O 0])/\J (jl (fr w w') 8196 (.agg #[A x.name,X a e c,X g i h,X b f d]) x/\Hl (fr w w') (X a e c) (X b f d)/\bK w w'):=by have m:=Xo w t v y r;rw[n,p]at m;refine m.mono ?_;rintro k w' ⟨a,e,c,g,i,h,b,f,d,rfl,s,q,-,u⟩;exact⟨a,e,c,g,i,h,b,f,d,_,rfl,Y ⟨s,u,q⟩⟩
theorem acs(w:bI)(n:Int):Ints (w.alloc<|aY #[O n] 3) (Tc w.heap.size 1 1) [n]:=by
 refine⟨_,w.heap.size,0,1,rfl,λ_=>rfl,by simp,λi x a=>?_⟩;match i,a with
 | 0,a =>simp at a;subst a;simp[go_sem]
 | i+1,a=>simp at a
theorem agR(w:bI)(d:Dg):jg (w.alloc<|aY #[O d.code,A d.fn,A d.name] 97) (Tc w.heap.size 1 1) [d]:=by
 refine⟨_,w.heap.size,0,1,rfl,λ_=>rfl,by simp,λi x a=>?_⟩;match i,a with
 | 0,a =>simp at a;subst a;exact⟨by simp[go_sem],by simp[go_sem],by simp[go_sem]⟩
 | i+1,a=>simp at a
theorem DF{W:bI}{B:Nat}{t:TypeId}{f g h i:aC}(e:dR W B (.cells #[f,g,h,i] t (0,0)))(a b c d:aC):((((W.setCell (aN B 0) a).setCell (aN B 1) b).setCell (aN B 2) c).setCell (aN B 3) d).heap[B]?=some (.cells #[a,b,c,d] t (0,0)):=by rw[aP (aP (aP (aP e 0 a) 1 b) 2 c) 3 d];rfl
theorem afc{n B:Nat}{w W:bI}(f:Below n w W)(a:n<=B)(b c d e:aC):Below n w ((((W.setCell (aN B 0) b).setCell (aN B 1) c).setCell (aN B 2) d).setCell (aN B 3) e):=
 (((f.setCell (p:=(aN B 0)) a b).setCell (p:=(aN B 1)) a c).setCell (p:=(aN B 2)) a d).setCell (p:=(aN B 3)) a e
theorem agS{w W:bI}{B:Nat}(b:B<w.heap.size)(c d e f:aC):Sub (fr w W) ((((W.setCell (aN B 0) c).setCell (aN B 1) d).setCell (aN B 2) e).setCell (aN B 3) f):=
 ((((OL (a:=(aN B 0)) b c).trans (OL (a:=(aN B 1)) b d)).trans (OL (a:=(aN B 2)) b e)).trans (OL (a:=(aN B 3)) b f)).trans (C9 _ _)
theorem acu(w:bI)(S:Tab w)(he:Qo w):aD 8 #[] w λn w'=>n=dz (.bool true)/\bK w w':=by
 have az:=Y<|EM w Rd.t1 Rd.s1 ZT.1 ZT.2 bM S he;have aA:J (∀wx,bK w wx->_):=Y (λwx t=>EM wx Rd.tB Rd.sB ZU.1 ZU.2 bM (S.below t)<|he.below t);have HT:=Y S;clear S he;go_enter func8,ntmps8;go_wp2_with fail;refine az.mono ?_;rintro n w1 ⟨a,g,e,i,m,k,d,n3,f,z,rfl,Ki⟩;have u:=Y Ki.out;clear Ki;go_upto_region 2 with fail;obtain⟨aa,al⟩:=sO w1<|aY #[A Rd.s1.name,X a g e,X i m k,X d n3 f] 89;have Fy:=Y u.out.2.2.size;obtain⟨B,hB⟩:=aV w1.heap.size;rw[<-hB]at Fy al ⊢;generalize w1.alloc (aY #[A Rd.s1.name,X a g e,X i m k,X d n3 f] 89)=p at *;have ag:=Y<|up u.2.2 aa;have Cv:J (jl p 8196 (.agg #[A ⟨#[109]⟩,X a g e,X i m k,X d n3 f]) Rd.s1/\Hl p (X a g e) (X d n3 f)):=Y ⟨(u.1.sub<|C9 _ _).below aa,(u.2.1.sub<|C9 _ _).below aa⟩;have jG:J (dR p B<|aY #[A ⟨#[109]⟩,X a g e,X i m k,X d n3 f] 89):=Y al.out;clear hB;have U:J (bK p p):=Y<|bQ _ _;have a7:J (∀wx r q,J (bK p wx)->Strs wx r nH->EX wx q 2 (λ_=>2) qg->aD 36 #[.agg #[r,q],.agg #[A ⟨#[109]⟩,X a g e,X i m k,X d n3 f],aU,aU] wx λn w'=>∃b off c I K C D,n=dz (.tuple #[X (some<|aN b off) 1 c,X I 0 K,O 0])/\J (As1 wx w' b off C D)):=Y (λwx r q t hs hr=>agP wx r q a i d g m n3 e k f hs hr (Cv.1.below t) (Cv.2.below t)<|(HT.below ag).below t);have ao:J (∀wx,J (bK p wx)->bJ wx B 0=some (A ⟨#[109]⟩)/\bJ wx B 1=some (X a g e)/\bJ wx B 2=some (X i m k)/\bJ wx B 3=some (X d n3 f)):=Y (λwx h=>by have y:=bH jG h;exact⟨(aj y 0).trans rfl,(aj y 1).trans rfl,(aj y 2).trans rfl,(aj y 3).trans rfl⟩);have bb:=ao p U
 go_region_held3 (λwx=>bJ wx B 0=some (A ⟨#[109]⟩)/\bJ wx B 1=some (X a g e)/\bJ wx B 2=some (X i m k)/\bJ wx B 3=some (X d n3 f))
  ((refine ao _ ?_;repeat(first|exact ac|exact ad|exact U|apply eG)))
  (first
   | (go_at_call 19;refine(ZQ _).mono ?_;rintro n F ⟨r,q,rfl,E,N,L⟩;have a4:=Y E;have aE:=Y N;obtain⟨na,nc,rfl⟩:=jc E;obtain⟨la,lb,lo,lc,lA,a8,a9,lC,rfl,-⟩:=N;have ad:J (bK p F):=Y<|up (w:=p) (gT<|by repeat(first|exact U|apply eG)) L;have aq:J (bK F F):=Y<|bQ _ _;clear E L)
   | (go_at_call 36;refine(a7 _ _ _ (by repeat(first|exact ad|apply eG)) (a4.below<|gT<|by repeat(first|exact aq|apply eG)) (aE.below<|gT<|by repeat(first|exact aq|apply eG))).mono ?_;rintro n s ⟨b,off,c,I,K,C,D,rfl,hh3⟩;have u:=Y hh3.out;have ac:J (bK p s):=Y<|up (w:=p) (gT<|by repeat(first|exact ad|apply eG)) hh3.wB;clear hh3))
 all_goals
  obtain⟨Z,ay,ax⟩:=fE (up ag ac) (bH jG ac) u.out.ints;obtain⟨q2,q3,q4⟩:=lS u.nQ u.bd u.pc;clear bb;have G:=Y<|aH s<|aY #[O 1] 3;have ab:=Y<|acZ (s.alloc<|aY #[O 1] 3) (X C 1 D) (Tc s.heap.size 1 1) [1] (ax.below G)<|acs s 1;go_wp2_with fail;refine ab.mono ?_;rintro n w4 ⟨rfl,af⟩;obtain⟨xU,ak⟩:=bV (up (up Z G) af)<|bH (bH ay G) af;clear af q2 q3 q4;go_wp2_with fail;refine(aA w4 xU).mono ?_;rintro n P ⟨a,g,e,i,m,k,d,n3,f,z,rfl,lQ⟩;have Q:=Y lQ.out;clear lQ;have H:=Y<|bH ak Q.2.2;obtain⟨r0,r1,r2,r3⟩:=xX H;obtain⟨z0,z1,z2,z3⟩:=rY (aF H 0) (aF H 1) (aF H 2)<|aF H 3;go_upto_region 6 with fail;clear r0 r1 r2 r3 z0 z1 z2 z3;have ah:=Y<|afc (up xU Q.2.2) Fy (A Rd.sB.name) (X a g e) (X i m k)<|X d n3 f;have IJ:J (((((P.setCell (aN B 0)<|A Rd.sB.name).setCell (aN B 1) (X a g e)).setCell (aN B 2) (X i m k)).setCell (aN B 3) (X d n3 f)).heap[B]?=some (aY #[A ⟨#[109]⟩,X a g e,X i m k,X d n3 f] 89)):=Y<|DF H _ _ _ _;have Ns:=Y<|agS (w:=w4) (W:=P) (aR ak) (A Rd.sB.name) (X a g e) (X i m k)<|X d n3 f;have Je:J (jl ((((P.setCell (aN B 0)<|A Rd.sB.name).setCell (aN B 1) (X a g e)).setCell (aN B 2) (X i m k)).setCell (aN B 3) (X d n3 f)) 8196 (.agg #[A ⟨#[109]⟩,X a g e,X i m k,X d n3 f]) Rd.sB/\Hl ((((P.setCell (aN B 0)<|A Rd.sB.name).setCell (aN B 1) (X a g e)).setCell (aN B 2) (X i m k)).setCell (aN B 3) (X d n3 f)) (X a g e) (X d n3 f)):=Y ⟨Q.1.sub Ns,Q.2.1.sub Ns⟩;generalize (((P.setCell (aN B 0)<|A Rd.sB.name).setCell (aN B 1) (X a g e)).setCell (aN B 2) (X i m k)).setCell (aN B 3) (X d n3 f)=v at *;have V:J (bK v v):=Y<|bQ _ _;have a6:J (∀wx r q,J (bK v wx)->Strs wx r nH->EX wx q 2 (λ_=>2) qg->aD 36 #[.agg #[r,q],.agg #[A ⟨#[109]⟩,X a g e,X i m k,X d n3 f],aU,aU] wx λn w'=>∃b off c I K C D,n=dz (.tuple #[X b off c,X (some<|aN I K) C D,O 0])/\J (off=0/\C=1/\As2 wx w' (X (some<|aN I K) 1 D))):=Y (λwx r q t hs hr=>agQ wx r q a i d g m n3 e k f hs hr (Je.1.below t) (Je.2.below t)<|(HT.below ah).below t);have ar:J (∀wx,J (bK v wx)->bJ wx B 0=some (A ⟨#[109]⟩)/\bJ wx B 1=some (X a g e)/\bJ wx B 2=some (X i m k)/\bJ wx B 3=some (X d n3 f)):=Y (λwx h=>by have y:=bH IJ h;exact⟨(aj y 0).trans rfl,(aj y 1).trans rfl,(aj y 2).trans rfl,(aj y 3).trans rfl⟩);have be:=ar v V
  go_region_held3 (λwx=>bJ wx B 0=some (A ⟨#[109]⟩)/\bJ wx B 1=some (X a g e)/\bJ wx B 2=some (X i m k)/\bJ wx B 3=some (X d n3 f))
   ((refine ar _ ?_;repeat(first|exact au|exact ae|exact V|apply eG)))
   (first
    | (go_at_call 19;refine(ZQ _).mono ?_;rintro n F ⟨r,q,rfl,E,N,L⟩;have a5:=Y E;have a0:=Y N;obtain⟨na,nc,rfl⟩:=jc E;obtain⟨la,lb,lo,lc,lA,a8,a9,lC,rfl,-⟩:=N;have ae:J (bK v F):=Y<|up (w:=v) (gT<|by repeat(first|exact V|apply eG)) L;have am:J (bK F F):=Y<|bQ _ _;clear E L)
    | (go_at_call 36;refine(a6 _ _ _ (by repeat(first|exact ae|apply eG)) (a5.below<|gT<|by repeat(first|exact am|apply eG)) (a0.below<|gT<|by repeat(first|exact am|apply eG))).mono ?_;rintro n s ⟨b,off,c,I,K,C,D,rfl,hh3⟩;have ai:=Y hh3.out.2.2;obtain rfl:=hh3.1;obtain rfl:=hh3.2.1;have au:J (bK v s):=Y<|up (w:=v) (gT<|by repeat(first|exact ae|apply eG)) ai.wB;clear hh3))
 all_goals have Z:=Y<|up ah au;obtain⟨aw,G⟩:=bV ai.out.dg<|aH s<|aY #[O 6,A ⟨#[102]⟩,A ⟨#[120]⟩] 97;have ab:=Y<|aeo (s.alloc<|aY #[O 6,A ⟨#[102]⟩,A ⟨#[120]⟩] 97) _ (Tc s.heap.size 1 1) [⟨6,⟨#[102]⟩,⟨#[120]⟩⟩] (aw.below G)<|agR s ⟨6,⟨#[102]⟩,⟨#[120]⟩⟩;go_wp2_with fail;refine ab.mono ?_;rintro n w6 ⟨rfl,av⟩;have fD:=Y<|up (up Z G) av;clear av;go_wp2;go_ret;exact⟨rfl,fD⟩
namespace Ck
section
variable {R : List ByteArray} {name : ByteArray} {o : Mo} {l : List Mo} {j : Nat} {x : Mo}
end
theorem Ii{b:aJ}{c:Cx}{name:aS}(d:Uk b c.ss c.l):∀y∈(an c name).1,XI b y:=by
 intro y a;unfold an at a;split at a;·cases a
 ·split at a;·cases a
  ·exact XY d _ name y a
end Ck
theorem Ck.amA{c:Cx}{name:aS}:(Ck.an c name).1.length<=8:=by
 unfold Ck.an;split;·simp
 ·rename_i h;split;·simp
  ·exact FU (kK<|by simpa using h).2.2.1 _ _
theorem amB{c:Cx}{name:aS}{w:bI}{v:aC}(d:eZ Ht w 0 35 6 v (Ck.an c name).1):xO w v (Ck.an c name).1:=by
 by_cases e:nN (dD c.ss c.G c.L c.Z) c.m c.l=0;·have b:=Ik e;exact Li d (bE amA bM) (λy a u g=>b.size u<|(Ii b y a).1 u g) (λy a=>bE (Ii b y a).2 b.len)
 ·have f:(Ck.an c name).1=[]:=by unfold Ck.an;rw[aK e]
  rw[f]at d ⊢;exact Li d cK (λy a=>by cases a) (λy a=>by cases a)
def Hy(x:Int)(n:Nat):Nat:=if x.tmod n<0 then (x.tmod n+n).toNat else (x.tmod n).toNat
theorem agU{x:Int}{n:Nat}(a:0<n):Hy x n<n:=by have t1:x.tmod n<n:=Int.tmod_lt_of_pos x bC;have b:-(n:Int)<x.tmod n:=Int.lt_tmod_of_pos x bC;unfold Hy;split<;>omega
theorem acv(w:bI)(x:Int)(n:Nat)(f:0<n)(e:n<=9223372036854775807):aD 10 #[O x,O n] w λd w'=>d=dz (O (Hy x n:Nat))/\w'=w:=by
 have t1:x.tmod n<n:=Int.tmod_lt_of_pos x bC;have g:-(n:Int)<x.tmod n:=Int.lt_tmod_of_pos x bC;have b:J (x.tmod n<0->Hy x n=(x.tmod n+n).toNat):=Y (λa=>by unfold Hy;rw[aK a]);have c:J (¬x.tmod n<0->Hy x n=(x.tmod n).toNat):=Y (λa=>by unfold Hy;rw[aI a]);go_enter func10,ntmps10;go_wp2;·go_ret;refine⟨?_,rfl⟩;rw[b bC];exact bZ bC
 ·go_ret;refine⟨?_,rfl⟩;rw[c bC];exact bZ bC
theorem Z6(w:bI)(o:Obj):J (bK w<|w.alloc o)/\J ((w.alloc o).heap[w.heap.size]?=some o):=⟨aH w o,bF w o⟩
