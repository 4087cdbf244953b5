import Derived.Test.YtageneidjnbedaaGreatDoorTZBW
set_option maxHeartbeats 0
set_option maxRecDepth 99999
namespace Go.Proofs.YtageneidjnbedaaGreatDoor
open Ck bO Rn
open Go.Proofs.Tryz
open Go.RowKit Go.Maps Go.WideMaps
variable{w W w':bI}{b n m B i r cnt:Nat}{z v c v1 v2 v3:aC}{f:aS->Option aC}{s t:aS}{x:Mo}
theorem avS{g:Array Oper}{rest:List Oper}{o:Oper}{a:Act}{e:Exit->Act->bI->Prop}(hg:o.guard=none)(m x v:Operand)(t j:TypeId)(u:o.op=Op.insert t m x v)(D:prog.underlying t=some (.map 9 j))(p:a.eval m=.map (some b))(h:qo w b n z f)(q:n<maxLen)(s:aS)(C:s.size<=maxLen)(d:aC)(F:a.eval x=A s)(E:a.eval v=d)(k:∀w',qo w' b (n+1) z (oQ f s d)->w.grownBy w' (some b)->wpList prog g e rest (a.put o.dst undef) w'):wpList prog g e (o::rest) a w:=by refine wpList_plain hg λI l=>?_;obtain⟨w',y,G,H⟩:=h.put D q C d;unfold Oper.wp;simp[execOp,u,p,F,E,y,Result.andThen];exact l _ _<|k w' G H
theorem awx{key:Value}{kl:Lit}(h:keyOf prog 9 key=some kl):∃s:ByteArray,key=.string s/\s.size<=maxLen/\kl=.string s.data.toList:=by cases key<;>simp[keyOf,underlying9,mapKey]at h;exact⟨_,rfl,h.1,h.2.symm⟩
def six:aS->Option Value:=oQ (oQ (oQ (oQ (oQ (oQ (λ_=>none) Rd.u0 (.bool true)) Rd.u1 (.bool false)) Rd.u2 (.bool false)) Rd.u3 (.bool false)) Rd.u4 (.bool false)) Rd.u5 (.bool true)
theorem awn(h:oQ f s v t=some c):(t=s/\c=v)\/f t=some c:=by
 unfold oQ at h;cases a:cB t s with
 | true=>rw[a]at h;exact aO ⟨dM.1 a,by cases h;rfl⟩
 | false=>rw[a]at h;exact aQ h
theorem aAl(h:six s=some c):∃ok x,c=.bool ok/\Ck.Says s ok x:=by
 rcases awn h with⟨rfl,rfl⟩|h;·exact⟨_,_,rfl,aAJ⟩
 rcases awn h with⟨rfl,rfl⟩|h;·exact⟨_,_,rfl,aAI⟩
 rcases awn h with⟨rfl,rfl⟩|h;·exact⟨_,_,rfl,aAH⟩
 rcases awn h with⟨rfl,rfl⟩|h;·exact⟨_,_,rfl,aAG⟩
 rcases awn h with⟨rfl,rfl⟩|h;·exact⟨_,_,rfl,aAF⟩
 rcases awn h with⟨rfl,rfl⟩|h;·exact⟨_,_,rfl,aAE⟩
 cases h
theorem azU(d:dR w B (aY #[A x.name,v1,v2,v3] 47))(g:jl w m (.agg #[A x.name,v1,v2,v3]) x)(e:Hl w v1 v3):xQ w m (Tc B 1 1) [x]:=by
 refine⟨_,B,0,1,rfl,λ_=>rfl,by simp,λi y a=>?_⟩;match i,a with
 | 0,a =>simp at a;subst a;exact⟨v1,v2,v3,(aj d 0).trans rfl,(aj d 1).trans rfl,(aj d 2).trans rfl,(aj d 3).trans rfl,g,⟨e.1,e.2.1,e.2.2⟩⟩
 | i+1,a=>simp at a
theorem axd{x:bI}(a:J (W.heap.size<=B))(h:J (bK W x)):J (bK W<|x.setCell (aN B i) v):=Y<|h.setCell (p:=(aN B i)) a v
def azY(w:bI)(ok:Bool)(w':bI)(h:Ending):Prop:=∃(j:Option Addr) (d k:Nat) (e:Option Addr) (a g:Nat),h=.returned (.tuple #[.agg #[.slice j d k,.slice e a g],.int .i64 0])/\(decide (a=0)&&decide (0<d))=ok/\bK w w'
theorem azr{ok:Bool}(a:Ck.Says t ok x)(w:bI)(j g d:aC)(G:Strs w j nH)(F:EX w g 2 (λ_=>2) qg)(E:xQ w 8196 d [x])(I:Tab w):aD 7 #[.agg #[j,g],d,A ⟨#[109]⟩] w λe w'=>azY w ok w' e:=by have h:=agF 8196 w j g d nH 2 (λ_=>2) qg [x] x.name (Ck.uni nH [x]) G F E (λy K=>by rw[dh.1 K];exact a.small) I (by rw[a.name];decide) Ik;rw[a.name]at h;refine h.mono ?_;rintro e w' ⟨R,Q,rfl,H⟩;obtain⟨k,l⟩:=eY a.errno a.acc;rw[a.name]at k l;obtain⟨u,C,D⟩:=H.out;obtain⟨L,M,rfl⟩:=u.form;obtain⟨p,N,P,q,rfl,-⟩:=C;rw[show(Ck.an ⟨8196,nH,2,λ_=>2,qg,[x]⟩ ⟨#[109]⟩).2.2=0 from k];exact⟨L,_,M,p,_,q,rfl,l,D⟩
theorem awH{D:DataW aC}{left:Lit->Bool}(h:w.ranges prog 9 sW b r n D left cnt)(a:bK w w'):w'.ranges prog 9 sW b r n D left cnt:=
 h.kept (row:=none) ⟨a.os,a.tape,a.output,a.size,λi d _=>a.block i d⟩ cK cK
theorem azs(w:bI)(ht:Tab w)(he:Qo w):aD 4 #[] w λe w'=>e=dz (.bool true)/\bK w w':=by
 have HT:=Y ht;have xV:=Y (λwx t ok x (hx:Ck.Says t ok x) (hb:bK w wx)=>EM wx t x hx.err hx.mod hx.size (ht.below hb) (he.below hb));have HM0:J (qo (w.alloc (.map #[] 0)) w.heap.size 0 (.bool false) (λ_=>none)):=Y (qo.new _ _);have HB0:J (bK w (w.alloc (.map #[] 0))):=Y (aH _ _);have hmm:=@run_makeMap prog;clear ht he;go_enter func4,ntmps4;go_upto_region 1 with fail
 go_wp2_with (first
  | (refine avS rfl _ _ _ 54 _ rfl underlying54 rfl HM0.out bM Rd.u0 bM (.bool true) dw rfl ?_;intro w1 hm1 hg1;have Cv:=Y hm1;have HB1:J (bK w w1):=Y (HB0.out.grown hg1 HB0.out.size (λk hk=>by cases hk;exact bG _));clear hm1 hg1 HM0 HB0)
  | (refine avS rfl _ _ _ 54 _ rfl underlying54 rfl Cv.out bM Rd.u1 bM (.bool false) dw rfl ?_;intro w2 hm2 hg2;have Je:=Y hm2;have HB2:J (bK w w2):=Y (HB1.out.grown hg2 HB1.out.size (λk hk=>by cases hk;exact bG _));clear hm2 hg2 Cv HB1)
  | (refine avS rfl _ _ _ 54 _ rfl underlying54 rfl Je.out bM Rd.u2 bM (.bool false) dw rfl ?_;intro w3 hm3 hg3;have HM3:=Y hm3;have HB3:J (bK w w3):=Y (HB2.out.grown hg3 HB2.out.size (λk hk=>by cases hk;exact bG _));clear hm3 hg3 Je HB2)
  | (refine avS rfl _ _ _ 54 _ rfl underlying54 rfl HM3.out bM Rd.u3 bM (.bool false) dw rfl ?_;intro w4 hm4 hg4;have tQ:=Y hm4;have xU:J (bK w w4):=Y (HB3.out.grown hg4 HB3.out.size (λk hk=>by cases hk;exact bG _));clear hm4 hg4 HM3 HB3)
  | (refine avS rfl _ _ _ 54 _ rfl underlying54 rfl tQ.out bM Rd.u4 bM (.bool false) dw rfl ?_;intro w5 hm5 hg5;have afJ:=Y hm5;have eD:J (bK w w5):=Y (xU.out.grown hg5 xU.out.size (λk hk=>by cases hk;exact bG _));clear hm5 hg5 tQ xU)
  | (refine avS rfl _ _ _ 54 _ rfl underlying54 rfl afJ.out bM Rd.u5 bM (.bool true) dw rfl ?_;intro w6 hm6 hg6;have uq:=Y hm6;have fD:J (bK w w6):=Y (eD.out.grown hg6 eD.out.size (λk hk=>by cases hk;exact bG _));clear hm6 hg6 afJ eD)
  | (at_range;obtain⟨D,hown,hD⟩:=uq.out;refine wpList_range_own _ rfl _ 54 rfl 9 4 uY underlying54 sW _ _ D rfl hown ?_;intro w7 hrg0 hg0 hs0))
 go_frame;have HD:=Y hD;have kG:J (bK w w7):=Y (fD.out.grown hg0 fD.out.size (λk hk=>by cases hk));have HRG:=Y hrg0;obtain⟨R7,hR7⟩:∃B,B=w6.heap.size:=⟨_,rfl⟩;have Ar:J (w.heap.size<=R7):=Y (by rw[hR7];exact fD.out.size);rw[<-hR7]at HRG ⊢;clear hD hown hrg0 hg0 hs0 hR7 hmm;obtain⟨MB,hMB⟩:∃B,B=w.heap.size:=⟨_,rfl⟩;rw[<-hMB]at HRG;have HMB:=Y hMB;clear hMB;go_loopw[1] (λ_ wr=>∃left cnt,J (wr.ranges prog 9 sW MB R7 (0+1+1+1+1+1+1) D left cnt/\(∀kl,left kl=true->Maps.has D kl=true)/\bK w wr)) (λ_ wr=>wr.rangeLeft MB R7);exact⟨_,_,Y ⟨HRG.out,λkl h=>h,kG.out⟩⟩
 obtain⟨left,cnt,HR⟩:=hrel;have hrg:=HR.out.1;go_wp2_with (at_next;refine wpList_next_ranges _ rfl _ rfl 9 uY sW A id (λkey kl hk=>by obtain⟨s,e,-⟩:=awx hk;exact⟨s,e⟩) (λv y _=>⟨v,rfl⟩) _ _ _ _ _ _ rfl hrg ?_ ?_);·intro _ _;go_wp2;go_ret;exact⟨rfl,HR.out.2.2⟩
 ·intro s c kl yd yp w1 cnt1 hkey hlk hv hat hrg1 hlt hg1 hs1 hen;obtain⟨s',es,hsz,ekl⟩:=awx hkey;cases es;have hc:six s=some c:=by
   obtain⟨h1,h2⟩:=eY (HR.out.2.1 kl hlk) (hat (.held (.bool false)));rw[ekl,(HD.out s hsz).1]at h1;rw[ekl,(HD.out s hsz).2]at h2;obtain⟨c',hc'⟩:=sF.1 h1;have h3:yd=.held c:=by have:some (DataW.held c,[])=some (yd,yp):=hv;cases this;rfl
   have h4:oQ (oQ (oQ (oQ (oQ (oQ (λ_=>none) Rd.u0 (.bool true)) Rd.u1 (.bool false)) Rd.u2 (.bool false)) Rd.u3 (.bool false)) Rd.u4 (.bool false)) Rd.u5 (.bool true) s=some c':=hc';rw[h4,h3]at h2;have h5:c'=c:=by simpa using h2
   rw[<-h5];exact hc'
  obtain⟨ok,x,rfl,hx⟩:=aAl hc;have HSY:=Y hx;have iO:J (bK w w1):=Y (HR.out.2.2.grown hg1 HR.out.2.2.size (λk hk=>by cases hk;exact Ar.out));have aAZ:=Y hrg1;have oL:J (cnt1<cnt):=Y hlt;have HLF:=Y HR.out.2.1;have wu:J (wr.rangeLeft MB R7=cnt):=Y hrg.left_eq;clear hc hkey hlk hv hat hrg1 hlt hg1 hs1 hx hsz ekl hrg;go_wp2_with fail;refine(xV.out w1 s ok x HSY.out iO.out).mono ?_;rintro e w2 ⟨a1,n1,c1,a2,n2,c2,a3,n3,c3,z,rfl,WL⟩;have HH2:=Y WL.out;clear WL hen;go_upto_region 5 with fail;obtain⟨HBA,HKA⟩:=sO w2 (aY #[A x.name,X a1 n1 c1,X a2 n2 c2,X a3 n3 c3] 47);obtain⟨B,hB⟩:∃B,B=w2.heap.size:=⟨_,rfl⟩;rw[<-hB]at HKA ⊢;have Cv:J (jl (w2.alloc (aY #[A x.name,X a1 n1 c1,X a2 n2 c2,X a3 n3 c3] 47)) 8196 (.agg #[A x.name,X a1 n1 c1,X a2 n2 c2,X a3 n3 c3]) x/\Hl (w2.alloc (aY #[A x.name,X a1 n1 c1,X a2 n2 c2,X a3 n3 c3] 47)) (X a1 n1 c1) (X a3 n3 c3)):=Y ⟨(HH2.out.1.sub (C9 _ _)).below HBA.out,(HH2.out.2.1.sub (C9 _ _)).below HBA.out⟩;have HB2:J (bK w (w2.alloc (aY #[A x.name,X a1 n1 c1,X a2 n2 c2,X a3 n3 c3] 47))):=Y (up (up iO.out HH2.out.2.2) HBA.out);have aA0:J ((w2.alloc (aY #[A x.name,X a1 n1 c1,X a2 n2 c2,X a3 n3 c3] 47)).ranges prog 9 sW MB R7 (0+1+1+1+1+1+1) D (λz=>left z&&!z.sameKey kl) cnt1):=Y (awH aAZ.out (up HH2.out.2.2 HBA.out));generalize w2.alloc (aY #[A x.name,X a1 n1 c1,X a2 n2 c2,X a3 n3 c3] 47)=W1 at *;clear hB;have Aw:J (bK W1 W1):=Y (bQ _ _);have xm:=HSY.out.name;have Vt:J (∀wx,J (bK W1 wx)->bJ wx B 0=some (A x.name)/\bJ wx B 1=some (X a1 n1 c1)/\bJ wx B 2=some (X a2 n2 c2)/\bJ wx B 3=some (X a3 n3 c3)):=Y (λwx h=>by have hk:=bH HKA.out h.out;exact⟨(aj hk 0).trans rfl,(aj hk 1).trans rfl,(aj hk 2).trans rfl,(aj hk 3).trans rfl⟩);have HAN:J (∀wx vn vl SB,J (bK W1 wx)->Strs wx vn nH->EX wx vl 2 (λ_=>2) qg->dR wx SB (aY #[A x.name,X a1 n1 c1,X a2 n2 c2,X a3 n3 c3] 47)->aD 7 #[.agg #[vn,vl],Tc SB 1 1,A ⟨#[109]⟩] wx λe w'=>azY wx ok w' e):=Y (λwx vn vl SB hb hs hr hk=>azr HSY.out wx vn vl _ hs hr (azU hk (Cv.out.1.below hb.out) (Cv.out.2.below hb.out)) ((HT.out.below HB2.out).below hb.out));clear xm;go_cut [6,7]from 11 to 48 (λp f x=>∃AB sa sn sc da dn dc,p=gK AB/\f=O 0/\J (dR x AB (aY #[X sa sn sc,X da dn dc] 40)/\(decide (dn=0)&&decide (0<sn))=ok/\bK W1 x));case first=>
   rename_i Q9 K9 h9 J9 L9 h8 h7;clear h9;refine dx [none,some true,none,none,none,none,none,none,none,none] 8 (λu=>bJ u B 0=some (A x.name)/\bJ u B 1=some (X a1 n1 c1)/\bJ u B 2=some (X a2 n2 c2)/\bJ u B 3=some (X a3 n3 c3)) 9 dw dw (λ_ _ d _ _ h=>(by cases d<;>exact h)) (Vt.out _ (eG Aw)) ?_;dsimp only[gB];repeat(first|(refine fO (v:=?_) dH ?_ ?_;rotate_left 1;(focus(intro w;go_simp;try(with_reducible rfl)));simp only[Act.put,dS,dY,eX])|(refine fP (v:=?_) dH ?_ ?_;rotate_left 1;(focus(intro w hSw;obtain⟨q0,q1,q2,q3⟩:=hSw;go_simp;try(with_reducible rfl)));simp only[Act.put,dS,dY,eX]))
   refine dW ?_;refine nG ?_;intro u hu;have HU:J (bK W1 u):=by rw[hu];exact(by repeat(first|with_reducible exact Aw|with_reducible refine eG ?_))
   clear hu;have H0:J (bK u u):=Y (bQ _ _)
   iterate 9 (
    all_goals rename World=>KE
    all_goals first
     | refine aT (i:=7) (by decide +kernel) dH (λK hK=>?_)
     | refine aT (i:=8) (by decide +kernel) dH (λK hK=>?_)
     | refine aT (i:=9) (by decide +kernel) dH (λK hK=>?_)
     | refine aT (i:=6) (by decide +kernel) dH (λK hK=>?_)
     | refine aT (i:=5) (by decide +kernel) dH (λK hK=>?_)
     | refine aT (i:=4) (by decide +kernel) dH (λK hK=>?_)
     | refine aT (i:=3) (by decide +kernel) dH (λK hK=>?_)
     | refine aT (i:=2) (by decide +kernel) dH (λK hK=>?_)
     | refine aT (i:=0) (by decide +kernel) dH (λK hK=>?_)
     | refine gG (i:=2) (k:=7) (by decide +kernel) dH dH (λK hK=>?_) (λK hK=>?_)
     | refine gG (i:=3) (k:=7) (by decide +kernel) dH dH (λK hK=>?_) (λK hK=>?_)
     | refine gG (i:=4) (k:=7) (by decide +kernel) dH dH (λK hK=>?_) (λK hK=>?_)
     | refine gG (i:=6) (k:=7) (by decide +kernel) dH dH (λK hK=>?_) (λK hK=>?_)
     | refine gG (i:=6) (k:=8) (by decide +kernel) dH dH (λK hK=>?_) (λK hK=>?_)
     | refine gG (i:=5) (k:=7) (by decide +kernel) dH dH (λK hK=>?_) (λK hK=>?_)
     | refine gG (i:=5) (k:=6) (by decide +kernel) dH dH (λK hK=>?_) (λK hK=>?_)
     | refine gG (i:=0) (k:=7) (by decide +kernel) dH dH (λK hK=>?_) (λK hK=>?_)
     | refine gG (i:=0) (k:=2) (by decide +kernel) dH dH (λK hK=>?_) (λK hK=>?_)
     | refine xC (i:=0) (j:=2) (k:=7) (by decide +kernel) dH dH dH (λK hK=>?_) (λK hK=>?_) (λK hK=>?_)
     | refine xC (i:=5) (j:=6) (k:=7) (by decide +kernel) dH dH dH (λK hK=>?_) (λK hK=>?_) (λK hK=>?_)
    all_goals try(have o0:=(aj HA.out 0).trans rfl;have o1:=(aj HA.out 1).trans rfl;have z0:=aF HA.out 0;have z1:=aF HA.out 1)
    all_goals go_simp
    all_goals first
     | (go_at_call 10;refine(ZQ _).mono ?_;rintro e u ⟨vn,vl,rfl,hs,hr,hb⟩;have HS:J (bK KE u):=Y (up (gT (by repeat(first|with_reducible exact H0|with_reducible refine eG ?_|with_reducible refine jU ?_))) hb);have HTS:=Y hs;have HTR:=Y hr;obtain⟨na,nc,rfl⟩:=jc hs;obtain⟨la,lb,lo,lc,lA,lRB,lRO,lC,rfl,-⟩:=hr;clear hs hb)
     | (go_at_call 7;refine(HAN.out _ _ _ _ (by repeat(first|with_reducible exact HU|with_reducible refine eG ?_|with_reducible refine jU ?_|with_reducible refine axd HGA ?_)) (HTS.out.below (gT (by repeat(first|with_reducible exact H0|with_reducible refine eG ?_|with_reducible refine jU ?_)))) (HTR.out.below (gT (by repeat(first|with_reducible exact H0|with_reducible refine eG ?_|with_reducible refine jU ?_)))) (bH Ns.out (gT (by repeat(first|with_reducible exact H0|with_reducible refine eG ?_|with_reducible refine jU ?_))))).mono ?_;rintro e u ⟨sa,sn,sc,da,dn,dc,rfl,hok,hb⟩;have HS:J (bK KE u):=Y (up (gT (by repeat(first|with_reducible exact H0|with_reducible refine eG ?_|with_reducible refine jU ?_))) hb);have OH:=Y hok;clear hok hb)
     | skip
    all_goals(
     try(replace HU:=Y (up HU.out HS.out);(try replace Ns:=Y (bH Ns.out HS.out));(try replace HA:=Y (bH HA.out HS.out));clear HS;replace H0:J (bK u u):=Y (bQ _ _);dsimp only)
     with_reducible refine hK.out _ _ (λ_=>Vt.out _ (by repeat(first|with_reducible exact HU|with_reducible refine eG ?_|with_reducible refine jU ?_|with_reducible refine axd HGA ?_))) ?_
     clear hK K
     have HGQ:=Y HU.out.size
     rename World=>KE
     refine nG ?_
     intro u hu
     first
      | (have HS:J (bK KE u):=?h1;(case h1=>(rw[hu];repeat(first|with_reducible exact H0|with_reducible refine eG ?_|with_reducible refine jU ?_)));replace HU:=Y (up HU.out HS.out);(try replace Ns:=Y (bH Ns.out HS.out));(try replace HA:=Y (bH HA.out HS.out));(try replace HF:=Y (bH HF.out HS.out));(try replace HTS:=Y (HTS.out.below HS.out));(try replace HTR:=Y (HTR.out.below HS.out));(first|(have Ns:J (dR u KE.heap.size (aY #[A x.name,X a1 n1 c1,X a2 n2 c2,X a3 n3 c3] 47)):=Y (by rw[hu];with_reducible(first|exact EK _ _ rfl|exact Ll (EK _ _ rfl))))|(have HA:J (dR u KE.heap.size (aY #[aU,aU] 40)):=Y (by rw[hu];with_reducible(first|exact EK _ _ rfl|exact Ll (EK _ _ rfl)));have HGA:=HGQ)|skip);clear HS)
      | (replace HU:J (bK W1 u):=(by rw[hu];exact(by repeat(first|with_reducible exact HU|with_reducible refine eG ?_|with_reducible refine jU ?_|with_reducible refine axd HGA ?_)));have HF:=Y (CJ HA.out (X sa sn sc) (X da dn dc));rw[<-hu]at HF;clear HA HTS HTR Ns o0 o1 z0 z1)
     clear hu
     try clear o0 o1 z0 z1
     replace H0:J (bK u u):=Y (bQ _ _)))
   all_goals(refine dP dw ?_ _;go_wp2;go_meet;exact⟨_,_,_,_,_,_,_,rfl,rfl,Y ⟨HF.out,OH.out,HU.out⟩⟩)
  case rest=>
   obtain⟨AB,sa,sn,sc,da,dn,dc,rfl,rfl,hcc⟩:=hcut;obtain⟨hF,hok,hbc⟩:=hcc.out;obtain⟨HF,OH,HBC,ayO⟩:=lD hF hok (up HB2.out hbc) (awH aA0.out hbc);clear hcc hF hok hbc;obtain⟨o0,o1⟩:=jv HF.out;by_cases hd:dn=0
   ·by_cases hs:sn=0
    ·have hk:ok=false:=by rw[<-OH.out,hs];simp
     subst hd hs hk;go_wp2;go_roundw;exact⟨_,_,Y ⟨ayO.out,λkl' h'=>HLF.out kl' (by simp only[dK]at h';exact h'.1),HBC.out⟩⟩;rw[ayO.out.left_eq,wu.out];exact oL.out
    ·have hk:ok=true:=by rw[<-OH.out,hd];simp;omega
     have hs0:(0:Int)<(sn:Int):=by omega
     have hs1:0<sn:=by omega
     subst hd hk;go_wp2;go_roundw;exact⟨_,_,Y ⟨ayO.out,λkl' h'=>HLF.out kl' (by simp only[dK]at h';exact h'.1),HBC.out⟩⟩;rw[ayO.out.left_eq,wu.out];exact oL.out
   ·have hk:ok=false:=by rw[<-OH.out];simp[hd]
    have hd0:((dn:Int)==0)=false:=by simp;omega
    have hd1:¬((dn:Int)=0):=by omega
    subst hk;go_wp2;go_roundw;exact⟨_,_,Y ⟨ayO.out,λkl' h'=>HLF.out kl' (by simp only[dK]at h';exact h'.1),HBC.out⟩⟩;rw[ayO.out.left_eq,wu.out];exact oL.out
