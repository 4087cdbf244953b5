import Derived.Test.YtiebmbnfedbdeaaGreatDoorTZBW
set_option maxHeartbeats 0
set_option maxRecDepth 99999
namespace Go.Proofs.YtiebmbnfedbdeaaGreatDoor
open Ck bO Rn
open Go.Proofs.Tryz
open Go.RowKit Go.Maps Go.WideMaps
variable{w W w':bI}{b n m B i r cnt:Nat}{z key v c v1 v2 v3:aC}{f:aS->Option aC}{s t:aS}{x:Mo}
theorem fB{e:Array Oper}{rest:List Oper}{o:Oper}{a:Act}{d:Exit->Act->bI->Prop}(hg:o.guard=none)(m x v:Operand)(t g:TypeId)(q:o.op=Op.insert t m x v)(C:prog.underlying t=some (.map 9 g))(l:a.eval m=.map (some b))(h:qo w b n z f)(p:n<maxLen)(s:aS)(y:s.size<=maxLen)(val:aC)(E:a.eval x=A s)(D:a.eval v=val)(j:∀w',qo w' b (n+1) z (oQ f s val)->w.grownBy w' (some b)->wpList prog e d rest (a.put o.dst undef) w'):wpList prog e d (o::rest) a w:=by refine wpList_plain hg λH k=>?_;obtain⟨w',u,F,G⟩:=h.put C p y val;unfold Oper.wp;simp[execOp,q,l,E,D,u,Result.andThen];exact k _ _<|j w' F G
theorem atT{d:Lit}(a:keyOf prog 9 key=some d):∃s:aS,key=.string s/\s.size<=maxLen/\d=.string s.data.toList:=by cases key<;>simp[keyOf,underlying9,mapKey]at a;exact⟨_,rfl,a.1,a.2.symm⟩
def six:aS->Option Value:=oQ (oQ (oQ (oQ (oQ (oQ (λ_=>none) Rd.u0 (.bool true)) Rd.u1 (.bool false)) Rd.u2 (.bool false)) Rd.u3 (.bool false)) Rd.u4 (.bool false)) Rd.u5 (.bool true)
theorem atP(a:oQ f s v t=some c):(t=s/\c=v)\/f t=some c:=by
 unfold oQ at a;cases d:cB t s with
 | true=>rw[d]at a;exact aO ⟨dM.1 d,by cases a;rfl⟩
 | false=>rw[d]at a;exact aQ a
theorem auq(h:six s=some c):∃ok x,c=.bool ok/\Ck.Says s ok x:=by
 rcases atP h with⟨rfl,rfl⟩|h;·exact⟨_,_,rfl,auK⟩
 rcases atP h with⟨rfl,rfl⟩|h;·exact⟨_,_,rfl,auJ⟩
 rcases atP h with⟨rfl,rfl⟩|h;·exact⟨_,_,rfl,auI⟩
 rcases atP h with⟨rfl,rfl⟩|h;·exact⟨_,_,rfl,auH⟩
 rcases atP h with⟨rfl,rfl⟩|h;·exact⟨_,_,rfl,auG⟩
 rcases atP h with⟨rfl,rfl⟩|h;·exact⟨_,_,rfl,auF⟩
 cases h
theorem aul(d:dR w B (aY #[A x.name,v1,v2,v3] 59))(g:jl w m (.agg #[A x.name,v1,v2,v3]) x)(e:Hl w v1 v3):xQ w m (Tc B 1 1) [x]:=by
 refine⟨_,B,0,1,rfl,λ_=>rfl,by simp,λi y a=>?_⟩;match i,a with
 | 0,a =>simp at a;subst a;exact⟨v1,v2,v3,(aj d 0).trans rfl,(aj d 1).trans rfl,(aj d 2).trans rfl,(aj d 3).trans rfl,g,⟨e.1,e.2.1,e.2.2⟩⟩
 | i+1,a=>simp at a
theorem atW{x:bI}(d:J (W.heap.size<=B))(a:J (bK W x)):J (bK W<|x.setCell (aN B i) v):=Y<|a.setCell (p:=(aN B i)) d v
def aun(w:bI)(ok:Bool)(w':bI)(h:Ending):Prop:=∃(j:Option Addr) (d k:Nat) (e:Option Addr) (a g:Nat),h=.returned (.tuple #[.agg #[.slice j d k,.slice e a g],.int .i64 0])/\(decide (a=0)&&decide (0<d))=ok/\bK w w'
theorem aue{ok:Bool}(a:Ck.Says t ok x)(w:bI)(h g d:aC)(F:Strs w h nH)(E:EX w g 2 (λ_=>2) qg)(D:xQ w 8196 d [x])(H:Tab w):aD 20 #[.agg #[h,g],d,A ⟨#[109]⟩] w λe w'=>aun w ok w' e:=by have l:=agF 8196 w h g d nH 2 (λ_=>2) qg [x] x.name (Ck.uni nH [x]) F E D (λy I=>by rw[dh.1 I];exact a.small) H (by rw[a.name];decide) Ik;rw[a.name]at l;refine l.mono ?_;rintro e w' ⟨R,Q,rfl,G⟩;obtain⟨j,k⟩:=eY a.errno a.acc;rw[a.name]at j k;obtain⟨q,u,C⟩:=G.out;obtain⟨K,L,rfl⟩:=q.form;obtain⟨o,N,P,p,rfl,-⟩:=u;rw[show(Ck.an ⟨8196,nH,2,λ_=>2,qg,[x]⟩ ⟨#[109]⟩).2.2=0 from j];exact⟨K,_,L,o,_,p,rfl,k,C⟩
theorem atU{D:DataW aC}{left:Lit->Bool}(d:w.ranges prog 9 sW b r n D left cnt)(a:bK w w'):w'.ranges prog 9 sW b r n D left cnt:=
 d.kept (row:=none) ⟨a.os,a.tape,a.output,a.size,λi e _=>a.block i e⟩ cK cK
theorem auf(w:bI)(ht:Tab w)(he:Qo w):aD 13 #[] w λU w'=>U=dz (.bool true)/\bK w w':=by
 have HT:=Y ht;have xV:=Y (λwx t ok x (hx:Ck.Says t ok x) (C:bK w wx)=>EM wx t x hx.err hx.mod hx.size (ht.below C)<|he.below C);have a4:J (qo (w.alloc<|.map #[] 0) w.heap.size 0 (.bool false) (λ_=>none)):=Y<|qo.new _ _;have ak:J (bK w<|w.alloc<|.map #[] 0):=Y<|aH _ _;have b2:=@run_makeMap prog;clear ht he;go_enter func13,ntmps13;go_upto_region 1 with fail
 go_wp2_with (first
  | (refine fB rfl _ _ _ 86 _ rfl underlying86 rfl a4.out bM Rd.u0 bM (.bool true) dw rfl ?_;intro w1 bo ac;have Cv:=Y bo;have al:J (bK w w1):=Y (ak.out.grown ac ak.out.size (λk e=>by cases e;exact bG _));clear bo ac a4 ak)
  | (refine fB rfl _ _ _ 86 _ rfl underlying86 rfl Cv.out bM Rd.u1 bM (.bool false) dw rfl ?_;intro Q bp bc;have Je:=Y bp;have aa:J (bK w Q):=Y (al.out.grown bc al.out.size (λk e=>by cases e;exact bG _));clear bp bc Cv al)
  | (refine fB rfl _ _ _ 86 _ rfl underlying86 rfl Je.out bM Rd.u2 bM (.bool false) dw rfl ?_;intro w3 bq be;have a5:=Y bq;have am:J (bK w w3):=Y (aa.out.grown be aa.out.size (λk e=>by cases e;exact bG _));clear bq be Je aa)
  | (refine fB rfl _ _ _ 86 _ rfl underlying86 rfl a5.out bM Rd.u3 bM (.bool false) dw rfl ?_;intro w4 br bf;have tQ:=Y br;have xU:J (bK w w4):=Y (am.out.grown bf am.out.size (λk e=>by cases e;exact bG _));clear br bf a5 am)
  | (refine fB rfl _ _ _ 86 _ rfl underlying86 rfl tQ.out bM Rd.u4 bM (.bool false) dw rfl ?_;intro w5 bs bh;have a6:=Y bs;have eD:J (bK w w5):=Y (xU.out.grown bh xU.out.size (λk e=>by cases e;exact bG _));clear bs bh tQ xU)
  | (refine fB rfl _ _ _ 86 _ rfl underlying86 rfl a6.out bM Rd.u5 bM (.bool true) dw rfl ?_;intro w6 bu bi;have uq:=Y bu;have fD:J (bK w w6):=Y (eD.out.grown bi eD.out.size (λk e=>by cases e;exact bG _));clear bu bi a6 eD)
  | (at_range;obtain⟨D,bv,hD⟩:=uq.out;refine wpList_range_own _ rfl _ 86 rfl 9 4 uY underlying86 sW _ _ D rfl bv ?_;intro w7 bw bb bz))
 go_frame;have HD:=Y hD;have kG:J (bK w w7):=Y (fD.out.grown bb fD.out.size (λk e=>by cases e));have au:=Y bw;obtain⟨R7,ay⟩:∃B,B=w6.heap.size:=⟨_,rfl⟩;have Ar:J (w.heap.size<=R7):=Y (by rw[ay];exact fD.out.size);rw[<-ay]at au ⊢;clear hD bv bw bb bz ay b2;obtain⟨MB,ax⟩:∃B,B=w.heap.size:=⟨_,rfl⟩;rw[<-ax]at au;clear ax;go_loopw[1] (λ_ wr=>∃left cnt,J<|wr.ranges prog 9 sW MB R7 (0+1+1+1+1+1+1) D left cnt/\(∀kl,left kl=true->Maps.has D kl=true)/\bK w wr) (λ_ wr=>wr.rangeLeft MB R7);exact⟨_,_,Y ⟨au.out,λkl h=>h,kG.out⟩⟩
 obtain⟨left,cnt,HR⟩:=hrel;have aA:=HR.out.1;go_wp2_with (at_next;refine wpList_next_ranges _ rfl _ rfl 9 uY sW A id (λkey kl e=>by obtain⟨s,U,-⟩:=atT e;exact⟨s,U⟩) (λv y _=>⟨v,rfl⟩) _ _ _ _ _ _ rfl aA ?_ ?_);·intro _ _;go_wp2;go_ret;exact⟨rfl,HR.out.2.2⟩
 ·intro s c kl yd yp w1 a7 bj bk hv a8 bx bm ac bA b1;obtain⟨s',es,aE,aw⟩:=atT bj;cases es;have hc:six s=some c:=by
   obtain⟨h1,h2⟩:=eY (HR.out.2.1 kl bk)<|a8<|.held<|.bool false;rw[aw,(HD.out s aE).1]at h1;rw[aw,(HD.out s aE).2]at h2;obtain⟨c',a9⟩:=sF.1 h1;have h3:yd=.held c:=by have:some (DataW.held c,[])=some (yd,yp):=hv;cases this;rfl
   have h4:oQ (oQ (oQ (oQ (oQ (oQ (λ_=>none) Rd.u0<|.bool true) Rd.u1<|.bool false) Rd.u2<|.bool false) Rd.u3<|.bool false) Rd.u4<|.bool false) Rd.u5 (.bool true) s=some c':=a9;rw[h4,h3]at h2;have h5:c'=c:=by simpa using h2
   rw[<-h5];exact a9
  obtain⟨ok,x,rfl,hx⟩:=auq hc;have av:=Y hx;have iO:J (bK w w1):=Y (HR.out.2.2.grown ac HR.out.2.2.size (λk e=>by cases e;exact Ar.out));have bS:=Y bx;have oL:J (a7<cnt):=Y bm;have ar:=Y HR.out.2.1;have wu:J (wr.rangeLeft MB R7=cnt):=Y aA.left_eq;clear hc bj bk hv a8 bx bm ac bA hx aE aw aA;go_wp2_with fail;refine(xV.out w1 s ok x av.out iO.out).mono ?_;rintro U Q ⟨a1,E,o,G,I,H,l,F,q,z,rfl,WL⟩;have ag:=Y WL.out;clear WL b1;go_upto_region 5 with fail;obtain⟨af,a0⟩:=sO Q<|aY #[A x.name,X a1 E o,X G I H,X l F q] 59;obtain⟨B,hB⟩:∃B,B=Q.heap.size:=⟨_,rfl⟩;rw[<-hB]at a0 ⊢;have Cv:J (jl (Q.alloc<|aY #[A x.name,X a1 E o,X G I H,X l F q] 59) 8196 (.agg #[A x.name,X a1 E o,X G I H,X l F q]) x/\Hl (Q.alloc<|aY #[A x.name,X a1 E o,X G I H,X l F q] 59) (X a1 E o) (X l F q)):=Y ⟨(ag.out.1.sub<|C9 _ _).below af.out,(ag.out.2.1.sub<|C9 _ _).below af.out⟩;have aa:J (bK w<|Q.alloc<|aY #[A x.name,X a1 E o,X G I H,X l F q] 59):=Y<|up (up iO.out ag.out.2.2) af.out;have bY:J ((Q.alloc<|aY #[A x.name,X a1 E o,X G I H,X l F q] 59).ranges prog 9 sW MB R7 (0+1+1+1+1+1+1) D (λz=>left z&&!z.sameKey kl) a7):=Y<|atU bS.out<|up ag.out.2.2 af.out;generalize Q.alloc (aY #[A x.name,X a1 E o,X G I H,X l F q] 59)=W1 at *;clear hB;have Aw:J (bK W1 W1):=Y<|bQ _ _;have xm:=av.out.name;have Vt:J (∀wx,J (bK W1 wx)->bJ wx B 0=some (A x.name)/\bJ wx B 1=some (X a1 E o)/\bJ wx B 2=some (X G I H)/\bJ wx B 3=some (X l F q)):=Y (λwx h=>by have e:=bH a0.out h.out;exact⟨(aj e 0).trans rfl,(aj e 1).trans rfl,(aj e 2).trans rfl,(aj e 3).trans rfl⟩);have bB:J (∀wx vn vl SB,J (bK W1 wx)->Strs wx vn nH->EX wx vl 2 (λ_=>2) qg->dR wx SB (aY #[A x.name,X a1 E o,X G I H,X l F q] 59)->aD 20 #[.agg #[vn,vl],Tc SB 1 1,A ⟨#[109]⟩] wx λU w'=>aun wx ok w' U):=Y (λwx vn vl SB C Z hr e=>aue av.out wx vn vl _ Z hr (aul e (Cv.out.1.below C.out)<|Cv.out.2.below C.out)<|(HT.out.below aa.out).below C.out);clear xm;go_cut [6,7]from 11 to 48 (λp f x=>∃AB sa sn sc da S dc,p=gK AB/\f=O 0/\J (dR x AB (aY #[X sa sn sc,X da S dc] 71)/\(decide (S=0)&&decide (0<sn))=ok/\bK W1 x));case first=>
   rename_i Q9 K9 h9 J9 L9 h8 h7;clear h9;refine dx [none,some true,none,none,none,none,none,none,none,none] 8 (λu=>bJ u B 0=some (A x.name)/\bJ u B 1=some (X a1 E o)/\bJ u B 2=some (X G I H)/\bJ u B 3=some (X l F q)) 9 dw dw (λ_ _ d _ _ h=>(by cases d<;>exact h)) (Vt.out _<|eG Aw) ?_;dsimp only[gB];repeat(first|(refine fO (v:=?_) dH ?_ ?_;rotate_left 1;(focus(intro w;go_simp;try(with_reducible rfl)));simp only[Act.put,dS,dY,eX])|(refine fP (v:=?_) dH ?_ ?_;rotate_left 1;(focus(intro w b0;obtain⟨q0,q1,q2,q3⟩:=b0;go_simp;try(with_reducible rfl)));simp only[Act.put,dS,dY,eX]))
   refine dW ?_;refine nG ?_;intro u P;have N:J (bK W1 u):=by rw[P];exact(by repeat(first|with_reducible exact Aw|with_reducible refine eG ?_))
   clear P;have R:J (bK u u):=Y<|bQ _ _
   iterate 9 (
    all_goals rename World=>KE
    all_goals first
     | refine aT (i:=7) (by decide +kernel) dH (λK a=>?_)
     | refine aT (i:=8) (by decide +kernel) dH (λK a=>?_)
     | refine aT (i:=9) (by decide +kernel) dH (λK a=>?_)
     | refine aT (i:=6) (by decide +kernel) dH (λK a=>?_)
     | refine aT (i:=5) (by decide +kernel) dH (λK a=>?_)
     | refine aT (i:=4) (by decide +kernel) dH (λK a=>?_)
     | refine aT (i:=3) (by decide +kernel) dH (λK a=>?_)
     | refine aT (i:=2) (by decide +kernel) dH (λK a=>?_)
     | refine aT (i:=0) (by decide +kernel) dH (λK a=>?_)
     | refine gG (i:=2) (k:=7) (by decide +kernel) dH dH (λK a=>?_) (λK a=>?_)
     | refine gG (i:=3) (k:=7) (by decide +kernel) dH dH (λK a=>?_) (λK a=>?_)
     | refine gG (i:=4) (k:=7) (by decide +kernel) dH dH (λK a=>?_) (λK a=>?_)
     | refine gG (i:=6) (k:=7) (by decide +kernel) dH dH (λK a=>?_) (λK a=>?_)
     | refine gG (i:=6) (k:=8) (by decide +kernel) dH dH (λK a=>?_) (λK a=>?_)
     | refine gG (i:=5) (k:=7) (by decide +kernel) dH dH (λK a=>?_) (λK a=>?_)
     | refine gG (i:=5) (k:=6) (by decide +kernel) dH dH (λK a=>?_) (λK a=>?_)
     | refine gG (i:=0) (k:=7) (by decide +kernel) dH dH (λK a=>?_) (λK a=>?_)
     | refine gG (i:=0) (k:=2) (by decide +kernel) dH dH (λK a=>?_) (λK a=>?_)
     | refine xC (i:=0) (j:=2) (k:=7) (by decide +kernel) dH dH dH (λK a=>?_) (λK a=>?_) (λK a=>?_)
     | refine xC (i:=5) (j:=6) (k:=7) (by decide +kernel) dH dH dH (λK a=>?_) (λK a=>?_) (λK a=>?_)
    all_goals try(have o0:=(aj L.out 0).trans rfl;have o1:=(aj L.out 1).trans rfl;have z0:=aF L.out 0;have z1:=aF L.out 1)
    all_goals go_simp
    all_goals first
     | (go_at_call 17;refine(ZQ _).mono ?_;rintro U u ⟨vn,vl,rfl,Z,hr,C⟩;have g:J (bK KE u):=Y (up (gT<|by repeat(first|with_reducible exact R|with_reducible refine eG ?_|with_reducible refine jU ?_)) C);have ai:=Y Z;have ah:=Y hr;obtain⟨na,nc,rfl⟩:=jc Z;obtain⟨la,lb,lo,lc,lA,b6,b7,lC,rfl,-⟩:=hr;clear Z C)
     | (go_at_call 20;refine(bB.out _ _ _ _ (by repeat(first|with_reducible exact N|with_reducible refine eG ?_|with_reducible refine jU ?_|with_reducible refine atW aq ?_)) (ai.out.below<|gT<|by repeat(first|with_reducible exact R|with_reducible refine eG ?_|with_reducible refine jU ?_)) (ah.out.below<|gT<|by repeat(first|with_reducible exact R|with_reducible refine eG ?_|with_reducible refine jU ?_)) (bH Ns.out<|gT<|by repeat(first|with_reducible exact R|with_reducible refine eG ?_|with_reducible refine jU ?_))).mono ?_;rintro U u ⟨sa,sn,sc,da,S,dc,rfl,ad,C⟩;have g:J (bK KE u):=Y (up (gT<|by repeat(first|with_reducible exact R|with_reducible refine eG ?_|with_reducible refine jU ?_)) C);have OH:=Y ad;clear ad C)
     | skip
    all_goals(
     try(replace N:=Y<|up N.out g.out;(try replace Ns:=Y<|bH Ns.out g.out);(try replace L:=Y<|bH L.out g.out);clear g;replace R:J (bK u u):=Y<|bQ _ _;dsimp only)
     with_reducible refine a.out _ _ (λ_=>Vt.out _<|by repeat(first|with_reducible exact N|with_reducible refine eG ?_|with_reducible refine jU ?_|with_reducible refine atW aq ?_)) ?_
     clear a K
     have bL:=Y N.out.size
     rename World=>KE
     refine nG ?_
     intro u P
     first
      | (have g:J (bK KE u):=?h1;(case h1=>(rw[P];repeat(first|with_reducible exact R|with_reducible refine eG ?_|with_reducible refine jU ?_)));replace N:=Y<|up N.out g.out;(try replace Ns:=Y<|bH Ns.out g.out);(try replace L:=Y<|bH L.out g.out);(try replace HF:=Y<|bH HF.out g.out);(try replace ai:=Y<|ai.out.below g.out);(try replace ah:=Y<|ah.out.below g.out);(first|(have Ns:J (dR u KE.heap.size<|aY #[A x.name,X a1 E o,X G I H,X l F q] 59):=Y (by rw[P];with_reducible(first|exact EK _ _ rfl|exact Ll<|EK _ _ rfl)))|(have L:J (dR u KE.heap.size<|aY #[aU,aU] 71):=Y (by rw[P];with_reducible(first|exact EK _ _ rfl|exact Ll<|EK _ _ rfl));have aq:=bL)|skip);clear g)
      | (replace N:J (bK W1 u):=(by rw[P];exact(by repeat(first|with_reducible exact N|with_reducible refine eG ?_|with_reducible refine jU ?_|with_reducible refine atW aq ?_)));have HF:=Y<|CJ L.out (X sa sn sc)<|X da S dc;rw[<-P]at HF;clear L ai ah Ns o0 o1 z0 z1)
     clear P
     try clear o0 o1 z0 z1
     replace R:J (bK u u):=Y<|bQ _ _))
   all_goals(refine dP dw ?_ _;go_wp2;go_meet;exact⟨_,_,_,_,_,_,_,rfl,rfl,Y ⟨HF.out,OH.out,N.out⟩⟩)
  case rest=>
   obtain⟨AB,sa,sn,sc,da,S,dc,rfl,rfl,ba⟩:=hcut;obtain⟨hF,ad,az⟩:=ba.out;obtain⟨HF,OH,ao,ab⟩:=lD hF ad (up aa.out az)<|atU bY.out az;clear ba hF ad az;obtain⟨o0,o1⟩:=jv HF.out;by_cases hd:S=0
   ·by_cases Z:sn=0
    ·have e:ok=false:=by rw[<-OH.out,Z];simp
     subst hd Z e;go_wp2;go_roundw;exact⟨_,_,Y ⟨ab.out,λae V=>ar.out ae (by simp only[dK]at V;exact V.1),ao.out⟩⟩;rw[ab.out.left_eq,wu.out];exact oL.out
    ·have e:ok=true:=by rw[<-OH.out,hd];simp;omega
     have bz:(0:Int)<(sn:Int):=by omega
     have bA:0<sn:=by omega
     subst hd e;go_wp2;go_roundw;exact⟨_,_,Y ⟨ab.out,λae V=>ar.out ae (by simp only[dK]at V;exact V.1),ao.out⟩⟩;rw[ab.out.left_eq,wu.out];exact oL.out
   ·have e:ok=false:=by rw[<-OH.out];simp[hd]
    have b4:((S:Int)==0)=false:=by simp;omega
    have b5:¬((S:Int)=0):=by omega
    subst e;go_wp2;go_roundw;exact⟨_,_,Y ⟨ab.out,λae V=>ar.out ae (by simp only[dK]at V;exact V.1),ao.out⟩⟩;rw[ab.out.left_eq,wu.out];exact oL.out
