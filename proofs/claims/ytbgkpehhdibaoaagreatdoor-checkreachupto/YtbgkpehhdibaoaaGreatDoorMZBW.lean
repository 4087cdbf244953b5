/- part -/
import Derived.Test.YtbgkpehhdibaoaaGreatDoorMZBX
import Derived.Test.YtbgkpehhdibaoaaGreatDoorMZBS
import Derived.Test.YtbgkpehhdibaoaaGreatDoorMZCV
set_option maxHeartbeats 0
set_option maxRecDepth 99999
namespace Go.Proofs.YtbgkpehhdibaoaaGreatDoor
open Ck bO aO Rd Rn Sm
open Go.Proofs.Tryz
open Go.RowKit Go.Maps Go.WideMaps
namespace Sm
open Fl
def WO(x:Mo):List ByteArray:=(x.vars.flatMap λv=>[deed ⟨#[114,58]⟩ x.name v.name,deed ⟨#[119,58]⟩ x.name v.name])++mM.map λs=>(⟨#[112,58]⟩++s:ByteArray)
theorem YP{x:Mo}(h:(decide ((WO x).length<=1048576)&&(WO x).all (λt=>decide (t.size<=100)))=true):UOk (WO x) mM x []:=by
 rw[dS,gY]at h;refine⟨λl hl=>(by cases hl),λv hv=>⟨?_,?_⟩,λs hs=>?_,iQ h.1,λt ht=>bH (iQ (h.2 t ht)) bP⟩;·exact bV.2 (aR (iF.2 ⟨v,hv,by simp⟩))
 ·exact bV.2 (aR (iF.2 ⟨v,hv,by simp⟩))
 ·exact bV.2 (aT (jU.2 ⟨s,hs,rfl⟩))
end Sm
theorem F7.below{w w':World}{vi vf:Value}(h:F7 w vi vf)(hb:bG w w'):F7 w' vi vf:=h.sub (YX hb)
theorem YQ{w:World}{vn vl v1 v2 v3:Value}{x:Mo}(hs:Strs w vn mM)(hr:Fb w vl 2 (λ_=>2) pz)(hm:gT w 8196 (.agg #[A x.name,v1,v2,v3]) x)(hp:F7 w v1 v3)(ht:Tab w)(hw:qx 8196 x<=1048576):l9 w 8196 vn vl v1 v2 v3 (J) (J) (J) mM 2 (λ_=>2) pz x [] [] []:=
 ⟨hs,hr,hm,⟨hp.1,hp.2.1,hp.2.2⟩,⟨none,0,0,0,rfl,λh=>aN h cZ,by simp,λi y hy=>aN hy cZ⟩,⟨none,0,0,0,rfl,λh=>aN h cZ,by simp,λi y hy=>aN hy cZ⟩,⟨none,0,0,0,rfl,λh=>aN h cZ,by simp,λi y hy=>aN hy cZ⟩,hw,λy hy=>(by cases hy),ht,λl hl=>(by cases hl),λy hy=>(by cases hy)⟩
structure As1(w w':World)(b off:Nat)(ba:Option Addr)(bc:Nat):Prop where
 nE:w'.cell? ⟨b,off+2,none⟩=some (.int .i64 0)
 pc:w'.cell? ⟨b,off+4,none⟩=some (.int .i64 0)
 bd:w'.cell? ⟨b,off+3,none⟩=some (.slice ba 1 bc)
 ints:Ints w' (.slice ba 1 bc) [1]
 Qo:Below w.heap.size w w'
structure As2(w w':World)(v:Value):Prop where
 dg:iE w' v [⟨6,⟨#[102]⟩,⟨#[120]⟩⟩]
 Qo:Below w.heap.size w w'
theorem ask_inf1(w:World)(vn vl:Value)(a1 a2 a3:Option Addr)(n1 n2 n3 c1 c2 c3:Nat)(hs:Strs w vn mM)(hr:Fb w vl 2 (λ_=>2) pz)(hm:gT w 8196 (.agg #[A ⟨#[109]⟩,Y a1 n1 c1,Y a2 n2 c2,Y a3 n3 c3]) Rd.s1)(hp:F7 w (Y a1 n1 c1) (Y a3 n3 c3))(ht:Tab w):Calls prog 26 #[.agg #[vn,vl],.agg #[A ⟨#[109]⟩,Y a1 n1 c1,Y a2 n2 c2,Y a3 n3 c3],J,J] w λe w'=>∃b off c ua uc ba bc,e=cO (.tuple #[Y (some (X b off)) 1 c,Y ua 0 uc,O 0])/\Hid (As1 w w' b off ba bc):=by have hU:UOk (WO Rd.s1) mM Rd.s1 []:=YP bU;obtain⟨h,he⟩:=eD (EY 8196 w vn vl (Y a1 n1 c1) (Y a2 n2 c2) (Y a3 n3 c3) (J) (J) mM 2 (λ_=>2) pz Rd.s1 [] [] (WO Rd.s1) (YQ (x:=Rd.s1) hs hr hm hp ht (iQ bU)) hU) (Yw (G:=2) (L:=λ_=>2) (Z:=pz) (m:=8196) (known:=[]) hU);rw[ask1]at h he;refine h.mono ?_;rintro e w' ⟨v,u,rfl,hh⟩;obtain⟨h1,h2,h3⟩:=hh.out;have hy:=he Sm.y1 cZ;obtain⟨a,b,off,c,rfl,ha,-,hel⟩:=Kl h1 cZ (λy hy' t ht'=>hU.size t ((he y hy').1 t ht')) (λy hy'=>bH (he y hy').2 hU.len);obtain⟨ua,ub,uo,uc,rfl,-⟩:=h2;obtain⟨vb,ve,g0,g1,g2,g3,g4,g5,hb,-⟩:=hel 0 Sm.y1 rfl;rw[y1_is.1]at g2;rw[y1_is.2.1]at g4;rw[y1_is.2.2]at hb;obtain⟨ba,bc,rfl⟩:=hb.Dx;obtain rfl:=ha cZ;exact⟨b,off,c,ua,uc,ba,bc,rfl,I ⟨by simpa using g2,by simpa using g4,by simpa using g3,hb,h3⟩⟩
theorem ask_inf2(w:World)(vn vl:Value)(a1 a2 a3:Option Addr)(n1 n2 n3 c1 c2 c3:Nat)(hs:Strs w vn mM)(hr:Fb w vl 2 (λ_=>2) pz)(hm:gT w 8196 (.agg #[A ⟨#[109]⟩,Y a1 n1 c1,Y a2 n2 c2,Y a3 n3 c3]) Rd.sB)(hp:F7 w (Y a1 n1 c1) (Y a3 n3 c3))(ht:Tab w):Calls prog 26 #[.agg #[vn,vl],.agg #[A ⟨#[109]⟩,Y a1 n1 c1,Y a2 n2 c2,Y a3 n3 c3],J,J] w λe w'=>∃b off c ua uc ba bc,e=cO (.tuple #[Y b off c,Y (some (X ua uc)) ba bc,O 0])/\Hid (off=0/\ba=1/\As2 w w' (Y (some (X ua uc)) 1 bc)):=by have hU:UOk (WO Rd.sB) mM Rd.sB []:=YP bU;have h:=EY 8196 w vn vl (Y a1 n1 c1) (Y a2 n2 c2) (Y a3 n3 c3) (J) (J) mM 2 (λ_=>2) pz Rd.sB [] [] (WO Rd.sB) (YQ (x:=Rd.sB) hs hr hm hp ht (iQ bU)) hU;rw[ask2]at h;refine h.mono ?_;rintro e w' ⟨v,u,rfl,hh⟩;obtain⟨h1,h2,h3⟩:=hh.out;obtain⟨a,c,rfl⟩:=h1.form;have h2':=h2;obtain⟨ua,ub,uo,uc,rfl,hua,-⟩:=h2;obtain rfl:=hua cZ;exact⟨a,0,c,ub,uo,1,uc,rfl,I ⟨rfl,rfl,h2',h3⟩⟩
theorem DK(w:World)(t:aZ)(x:Mo)(hE:prE t=0)(hX:prX t=x)(hs:t.size<=maxLen)(ht:Tab w)(he:Pm w):Calls prog 25 #[A t] w λe w'=>∃a1 n1 c1 a2 n2 c2 a3 n3 c3 z,e=cO (.tuple #[.agg #[A x.name,Y a1 n1 c1,Y a2 n2 c2,Y a3 n3 c3],O z,O 0])/\Hid (gT (fr w w') 8196 (.agg #[A x.name,Y a1 n1 c1,Y a2 n2 c2,Y a3 n3 c3]) x/\F7 (fr w w') (Y a1 n1 c1) (Y a3 n3 c3)/\bG w w'):=by have h:=VO w t hs ht he;rw[hE,hX]at h;refine h.mono ?_;rintro e w' ⟨a1,n1,c1,a2,n2,c2,a3,n3,c3,rfl,hm,hb,-,hp⟩;exact⟨a1,n1,c1,a2,n2,c2,a3,n3,c3,_,rfl,I ⟨hm,hp,hb⟩⟩
theorem ints_lit1(w:World)(n:Int):Ints (w.alloc (aY #[O n] 3)) (Y (some (X w.heap.size 0)) 1 1) [n]:=by
 refine⟨_,w.heap.size,0,1,rfl,λ_=>rfl,by simp,λi x hx=>?_⟩;match i,hx with
 | 0,hx =>simp at hx;subst hx;simp[go_sem]
 | i+1,hx=>simp at hx
theorem dgs_lit1(w:World)(d:Dg):iE (w.alloc (aY #[O d.code,A d.fn,A d.name] 80)) (Y (some (X w.heap.size 0)) 1 1) [d]:=by
 refine⟨_,w.heap.size,0,1,rfl,λ_=>rfl,by simp,λi x hx=>?_⟩;match i,hx with
 | 0,hx =>simp at hx;subst hx;exact⟨by simp[go_sem],by simp[go_sem],by simp[go_sem]⟩
 | i+1,hx=>simp at hx
theorem setN4{W:World}{B:Nat}{t:TypeId}{r0 r1 r2 r3:Value}(h:W.heap[B]?=some (.cells #[r0,r1,r2,r3] t (0,0)))(c0 c1 c2 c3:Value):((((W.setCell (X B 0) c0).setCell (X B 1) c1).setCell (X B 2) c2).setCell (X B 3) c3).heap[B]?=some (.cells #[c0,c1,c2,c3] t (0,0)):=by rw[aP (aP (aP (aP h 0 c0) 1 c1) 2 c2) 3 c3];rfl
theorem TT{n B:Nat}{w W:World}(h:Below n w W)(hB:n<=B)(c0 c1 c2 c3:Value):Below n w ((((W.setCell (X B 0) c0).setCell (X B 1) c1).setCell (X B 2) c2).setCell (X B 3) c3):=
 (((h.setCell (p:=(X B 0)) hB c0).setCell (p:=(X B 1)) hB c1).setCell (p:=(X B 2)) hB c2).setCell (p:=(X B 3)) hB c3
theorem fr_setN4{w W:World}{B:Nat}(hB:B<w.heap.size)(c0 c1 c2 c3:Value):Sub (fr w W) ((((W.setCell (X B 0) c0).setCell (X B 1) c1).setCell (X B 2) c2).setCell (X B 3) c3):=
 ((((NP (a:=(X B 0)) hB c0).trans (NP (a:=(X B 1)) hB c1)).trans (NP (a:=(X B 2)) hB c2)).trans (NP (a:=(X B 3)) hB c3)).trans (Ce _ _)
theorem asked_any(w:World)(ht:Tab w)(he:Pm w):Calls prog 8 #[] w λe w'=>e=cO (.bool true)/\bG w w':=by
 have HP1:=I (DK w Rd.t1 Rd.s1 YN.1 YN.2 bP ht he);have HP2:Hid (∀wx,bG w wx->_):=I (λwx hb=>DK wx Rd.tB Rd.sB YO.1 YO.2 bP (ht.below hb) (he.below hb));have HT:=I ht;clear ht he;go_enter func8,ntmps8;go_wp2_with fail;refine HP1.mono ?_;rintro e w1 ⟨a1,n1,c1,a2,n2,c2,a3,n3,c3,z,rfl,Jq⟩;have HH1:=I Jq.out;clear Jq;go_upto_region 2 with fail;obtain⟨HBA,HKA⟩:=sS w1 (aY #[A Rd.s1.name,Y a1 n1 c1,Y a2 n2 c2,Y a3 n3 c3] 58);have Eb:=I HH1.out.2.2.size;obtain⟨B,hB⟩:=bC w1.heap.size;rw[<-hB]at Eb HKA ⊢;generalize w1.alloc (aY #[A Rd.s1.name,Y a1 n1 c1,Y a2 n2 c2,Y a3 n3 c3] 58)=W1 at *;have HB1:=I (up HH1.2.2 HBA);have Qm:Hid (gT W1 8196 (.agg #[A ⟨#[109]⟩,Y a1 n1 c1,Y a2 n2 c2,Y a3 n3 c3]) Rd.s1/\F7 W1 (Y a1 n1 c1) (Y a3 n3 c3)):=I ⟨(HH1.1.sub (Ce _ _)).below HBA,(HH1.2.1.sub (Ce _ _)).below HBA⟩;have jl:Hid (W1.heap[B]?=some (aY #[A ⟨#[109]⟩,Y a1 n1 c1,Y a2 n2 c2,Y a3 n3 c3] 58)):=I HKA.out;clear hB;have H01:Hid (bG W1 W1):=I (bN _ _);have HIN1:Hid (∀wx vn vl,Hid (bG W1 wx)->Strs wx vn mM->Fb wx vl 2 (λ_=>2) pz->Calls prog 26 #[.agg #[vn,vl],.agg #[A ⟨#[109]⟩,Y a1 n1 c1,Y a2 n2 c2,Y a3 n3 c3],J,J] wx λe w'=>∃b off c ua uc ba bc,e=cO (.tuple #[Y (some (X b off)) 1 c,Y ua 0 uc,O 0])/\Hid (As1 wx w' b off ba bc)):=I (λwx vn vl hb hs hr=>ask_inf1 wx vn vl a1 a2 a3 n1 n2 n3 c1 c2 c3 hs hr (Qm.1.below hb) (Qm.2.below hb) ((HT.below HB1).below hb));have HSF1:Hid (∀wx,Hid (bG W1 wx)->wx.cell? (X B 0)=some (A ⟨#[109]⟩)/\wx.cell? (X B 1)=some (Y a1 n1 c1)/\wx.cell? (X B 2)=some (Y a2 n2 c2)/\wx.cell? (X B 3)=some (Y a3 n3 c3)):=I (λwx h=>by have hk:=aU jl h;exact⟨(aj hk 0).trans rfl,(aj hk 1).trans rfl,(aj hk 2).trans rfl,(aj hk 3).trans rfl⟩);have xx1:=HSF1 W1 H01
 go_region_held3 (λwx=>wx.cell? (X B 0)=some (A ⟨#[109]⟩)/\wx.cell? (X B 1)=some (Y a1 n1 c1)/\wx.cell? (X B 2)=some (Y a2 n2 c2)/\wx.cell? (X B 3)=some (Y a3 n3 c3))
  ((refine HSF1 _ ?_;repeat(first|exact HWI1|exact HWT1|exact H01|apply fV)))
  (first
   | (go_at_call 27;refine(YL _).mono ?_;rintro e w2 ⟨vn,vl,rfl,hs2,hr2,hb2⟩;have HS2:=I hs2;have HR2:=I hr2;obtain⟨na,nc,rfl⟩:=iD hs2;obtain⟨la,lb,lo,lc,lA,lRB,lRO,lC,rfl,-⟩:=hr2;have HWT1:Hid (bG W1 w2):=I (up (w:=W1) (gM (by repeat(first|exact H01|apply fV))) hb2);have HRF1:Hid (bG w2 w2):=I (bN _ _);clear hs2 hb2)
   | (go_at_call 26;refine(HIN1 _ _ _ (by repeat(first|exact HWT1|apply fV)) (HS2.below (gM (by repeat(first|exact HRF1|apply fV)))) (HR2.below (gM (by repeat(first|exact HRF1|apply fV))))).mono ?_;rintro e w3 ⟨b,off,c,ua,uc,ba,bc,rfl,hh3⟩;have HH1:=I hh3.out;have HWI1:Hid (bG W1 w3):=I (up (w:=W1) (gM (by repeat(first|exact HWT1|apply fV))) hh3.Qo);clear hh3))
 all_goals
  obtain⟨HB3,UW,HIT⟩:=fq (up HB1 HWI1) (aU jl HWI1) HH1.out.ints;obtain⟨q2,q3,q4⟩:=lQ HH1.nE HH1.bd HH1.pc;clear xx1;have dO:=I (aH w3 (aY #[O 1] 3));have HEQ:=I (QK (w3.alloc (aY #[O 1] 3)) (Y ba 1 bc) (Y (some (X w3.heap.size 0)) 1 1) [1] (HIT.below dO) (ints_lit1 w3 1));go_wp2_with fail;refine HEQ.mono ?_;rintro e w4 ⟨rfl,hb4⟩;obtain⟨DT,HK4⟩:=bT (up (up HB3 dO) hb4) (aU (aU UW dO) hb4);clear hb4 q2 q3 q4;go_wp2_with fail;refine(HP2 w4 DT).mono ?_;rintro e w5 ⟨a1,n1,c1,a2,n2,c2,a3,n3,c3,z,rfl,kM⟩;have HH5:=I kM.out;clear kM;have wW:=I (aU HK4 HH5.2.2);obtain⟨r0,r1,r2,r3⟩:=Js wW;obtain⟨z0,z1,z2,z3⟩:=rG (aG wW 0) (aG wW 1) (aG wW 2) (aG wW 3);go_upto_region 6 with fail;clear r0 r1 r2 r3 z0 z1 z2 z3;have HB2:=I (TT (up DT HH5.2.2) Eb (A Rd.sB.name) (Y a1 n1 c1) (Y a2 n2 c2) (Y a3 n3 c3));have Kc:Hid (((((w5.setCell (X B 0) (A Rd.sB.name)).setCell (X B 1) (Y a1 n1 c1)).setCell (X B 2) (Y a2 n2 c2)).setCell (X B 3) (Y a3 n3 c3)).heap[B]?=some (aY #[A ⟨#[109]⟩,Y a1 n1 c1,Y a2 n2 c2,Y a3 n3 c3] 58)):=I (setN4 wW _ _ _ _);have DL:=I (fr_setN4 (w:=w4) (W:=w5) (bE HK4) (A Rd.sB.name) (Y a1 n1 c1) (Y a2 n2 c2) (Y a3 n3 c3));have HM2:Hid (gT ((((w5.setCell (X B 0) (A Rd.sB.name)).setCell (X B 1) (Y a1 n1 c1)).setCell (X B 2) (Y a2 n2 c2)).setCell (X B 3) (Y a3 n3 c3)) 8196 (.agg #[A ⟨#[109]⟩,Y a1 n1 c1,Y a2 n2 c2,Y a3 n3 c3]) Rd.sB/\F7 ((((w5.setCell (X B 0) (A Rd.sB.name)).setCell (X B 1) (Y a1 n1 c1)).setCell (X B 2) (Y a2 n2 c2)).setCell (X B 3) (Y a3 n3 c3)) (Y a1 n1 c1) (Y a3 n3 c3)):=I ⟨HH5.1.sub DL,HH5.2.1.sub DL⟩;generalize (((w5.setCell (X B 0) (A Rd.sB.name)).setCell (X B 1) (Y a1 n1 c1)).setCell (X B 2) (Y a2 n2 c2)).setCell (X B 3) (Y a3 n3 c3)=W2 at *;have H02:Hid (bG W2 W2):=I (bN _ _);have HIN2:Hid (∀wx vn vl,Hid (bG W2 wx)->Strs wx vn mM->Fb wx vl 2 (λ_=>2) pz->Calls prog 26 #[.agg #[vn,vl],.agg #[A ⟨#[109]⟩,Y a1 n1 c1,Y a2 n2 c2,Y a3 n3 c3],J,J] wx λe w'=>∃b off c ua uc ba bc,e=cO (.tuple #[Y b off c,Y (some (X ua uc)) ba bc,O 0])/\Hid (off=0/\ba=1/\As2 wx w' (Y (some (X ua uc)) 1 bc))):=I (λwx vn vl hb hs hr=>ask_inf2 wx vn vl a1 a2 a3 n1 n2 n3 c1 c2 c3 hs hr (HM2.1.below hb) (HM2.2.below hb) ((HT.below HB2).below hb));have HSF2:Hid (∀wx,Hid (bG W2 wx)->wx.cell? (X B 0)=some (A ⟨#[109]⟩)/\wx.cell? (X B 1)=some (Y a1 n1 c1)/\wx.cell? (X B 2)=some (Y a2 n2 c2)/\wx.cell? (X B 3)=some (Y a3 n3 c3)):=I (λwx h=>by have hk:=aU Kc h;exact⟨(aj hk 0).trans rfl,(aj hk 1).trans rfl,(aj hk 2).trans rfl,(aj hk 3).trans rfl⟩);have xx2:=HSF2 W2 H02
  go_region_held3 (λwx=>wx.cell? (X B 0)=some (A ⟨#[109]⟩)/\wx.cell? (X B 1)=some (Y a1 n1 c1)/\wx.cell? (X B 2)=some (Y a2 n2 c2)/\wx.cell? (X B 3)=some (Y a3 n3 c3))
   ((refine HSF2 _ ?_;repeat(first|exact HWI2|exact HWT2|exact H02|apply fV)))
   (first
    | (go_at_call 27;refine(YL _).mono ?_;rintro e w2 ⟨vn,vl,rfl,hs2,hr2,hb2⟩;have HSS:=I hs2;have HRR:=I hr2;obtain⟨na,nc,rfl⟩:=iD hs2;obtain⟨la,lb,lo,lc,lA,lRB,lRO,lC,rfl,-⟩:=hr2;have HWT2:Hid (bG W2 w2):=I (up (w:=W2) (gM (by repeat(first|exact H02|apply fV))) hb2);have HRF2:Hid (bG w2 w2):=I (bN _ _);clear hs2 hb2)
    | (go_at_call 26;refine(HIN2 _ _ _ (by repeat(first|exact HWT2|apply fV)) (HSS.below (gM (by repeat(first|exact HRF2|apply fV)))) (HRR.below (gM (by repeat(first|exact HRF2|apply fV))))).mono ?_;rintro e w3 ⟨b,off,c,ua,uc,ba,bc,rfl,hh3⟩;have HH2:=I hh3.out.2.2;obtain rfl:=hh3.1;obtain rfl:=hh3.2.1;have HWI2:Hid (bG W2 w3):=I (up (w:=W2) (gM (by repeat(first|exact HWT2|apply fV))) HH2.Qo);clear hh3))
 all_goals have HB3:=I (up HB2 HWI2);obtain⟨HDG,dO⟩:=bT HH2.out.dg (aH w3 (aY #[O 6,A ⟨#[102]⟩,A ⟨#[120]⟩] 80));have HEQ:=I (RU (w3.alloc (aY #[O 6,A ⟨#[102]⟩,A ⟨#[120]⟩] 80)) _ (Y (some (X w3.heap.size 0)) 1 1) [⟨6,⟨#[102]⟩,⟨#[120]⟩⟩] (HDG.below dO) (dgs_lit1 w3 ⟨6,⟨#[102]⟩,⟨#[120]⟩⟩));go_wp2_with fail;refine HEQ.mono ?_;rintro e w6 ⟨rfl,hb6⟩;have eF:=I (up (up HB3 dO) hb6);clear hb6;go_wp2_with fail;go_ret;exact⟨rfl,eF⟩
namespace Ck
def GN(o x:Mo):Mo:=⟨x.name,[],o.vars,o.bq⟩
open Classical in
noncomputable def tu1(R:List ByteArray)(name:ByteArray)(o x:Mo):Mo:=if x.name≠name/\x.name∉R then GN o x else x
noncomputable def tu(R:List ByteArray)(name:ByteArray)(o:Mo)(l:List Mo)(j:Nat):List Mo:=l.mapIdx λi x=>if i<j then tu1 R name o x else x
section
variable {R : List ByteArray} {name : ByteArray} {o : Mo} {l : List Mo} {j : Nat} {x : Mo}
theorem tu1_name:(tu1 R name o x).name=x.name:=by unfold tu1;split<;>rfl
theorem sQ(i:Nat):(tu R name o l j)[i]?=(l[i]?).map λx=>if i<j then tu1 R name o x else x:=by unfold tu;rw[List.getElem?_mapIdx]
theorem yX:(tu R name o l j).length=l.length:=by unfold tu;rw[List.length_mapIdx]
theorem tu_zero:tu R name o l 0=l:=by apply List.ext_getElem?;intro i;rw[sQ];cases l[i]?<;>simp
theorem tu_set(hx:l[j]?=some x)(hc:x.name≠name/\x.name∉R):(tu R name o l j).set j (GN o x)=tu R name o l (j+1):=by
 apply List.ext_getElem?;intro i;have hj:j<l.length:=(dz.1 hx).1;by_cases hij:j=i;·subst hij;rw[List.getElem?_set_self (by rw[yX];exact hj),sQ,hx];simp[tu1,hc]
 ·rw[List.getElem?_set_ne hij,sQ,sQ];cases l[i]? with
  | none=>rfl
  | some y=>
   simp only[jP];by_cases h:i<j;·rw[aL h,aL aV]
   ·rw[aJ h,aJ aV]
theorem YR(hx:l[j]?=some x)(hc:¬(x.name≠name/\x.name∉R)):tu R name o l (j+1)=tu R name o l j:=by
 apply List.ext_getElem?;intro i;rw[sQ,sQ];cases hi:l[i]? with
 | none=>rfl
 | some y=>
  simp only[jP];by_cases h:i<j;·rw[aL h,aL aV]
  ·rw[aJ h];by_cases h':i<j+1
   ·obtain rfl:i=j:=by omega
    rw[hx]at hi;cases hi;rw[aL h',tu1,aJ hc]
   ·rw[aJ h']
theorem Ky:∀(i:Nat) y y',l[i]?=some y->(tu R name o l j)[i]?=some y'->y'.name=y.name:=λi y y' h h'=>by
 rw[sQ,h]at h';simp only[jP,Bf]at h';subst h';split;·exact tu1_name
 ·rfl
theorem tu_mem{y:Mo}(hy:y∈tu R name o l j):∃x∈l,y=x\/y=GN o x:=by
 obtain⟨i,hi⟩:=List.mem_iff_getElem?.1 hy;rw[sQ]at hi;cases hx:l[i]? with
 | none=>rw[hx]at hi;cases hi
 | some x=>
  rw[hx]at hi;simp only[jP,Bf]at hi;refine⟨x,dN hx,?_⟩;subst hi;split
  ·unfold tu1;split;·exact aT rfl
   ·exact aR rfl
  ·exact aR rfl
theorem Nk{l l':List Mo}(hl:l'.length=l.length)(hn:∀(i:Nat) y y',l[i]?=some y->l'[i]?=some y'->y'.name=y.name):∀k,cnt l' k=cnt l k
 | 0=>rfl
 | k+1=>by
  rw[cnt,cnt,Nk hl hn k];congr 1;cases h:l[k]? with
  | none=>
   have h':l'[k]?=none:=by rw[List.getElem?_eq_none_iff]at h ⊢;omega
   rw[h']
  | some x=>
   have hk:k<l.length:=(dz.1 h).1;obtain⟨x',h'⟩:∃x',l'[k]?=some x':=⟨_,bg aV⟩;rw[h'];simp only;rw[hn k x x' h h',wL (l:=l.take k) (l':=l'.take k) (by simp[hl]) (λi y y' h1 h2=>by
    rw[List.getElem?_take]at h1 h2;split at h1;·rename_i hik;rw[aL hik]at h2;exact hn i y y' h1 h2
    ·cases h1)]
theorem tu_form{E:Int}{m:Nat}(hf:kN E m l=0)(hT:∀(i:Nat) x,l[i]?=some x->x.name≠name->x.name∉R->oM m (GN o x)=0):kN E m (tu R name o l l.length)=0:=by
 obtain⟨h1,h2,h3,h4⟩:=jI hf;unfold kN;rw[aJ (by simp[h1]),yX,aJ aV,aJ,aJ];·rw[Nk yX Ky];omega
 ·rw[yL];·simp
  ·intro y hy;obtain⟨i,hi⟩:=List.mem_iff_getElem?.1 hy;rw[sQ]at hi;cases hx:l[i]? with
   | none=>rw[hx]at hi;cases hi
   | some x=>
    rw[hx]at hi;simp only[jP,Bf]at hi;subst hi;rw[aL (dz.1 hx).1];unfold tu1;split;·rename_i hc;exact hT i x hx hc.1 hc.2
    ·exact h3 x (dN hx)
end
theorem an_err{c:Cx}{name:aZ}(h:(an c name).2.2≠0):(an c name).1=[]:=by
 unfold an at h ⊢;split;·rfl
 ·rename_i h1;rw[aJ h1]at h;split;·rfl
  ·rename_i h2;rw[aJ h2]at h;cases hi:aO.dw c.l name with
   | none=>rw[PY hi];rfl
   | some i=>
    obtain⟨x,hx,_⟩:=gD hi;rw[YE hi hx]at h ⊢;unfold Uj at h ⊢;split;·rfl
    ·rename_i h3;rw[aJ h3]at h;split;·rfl
     ·rename_i h4;rw[aJ h4]at h;split;·rfl
      ·rename_i h5;rw[aJ h5]at h;unfold Sm.ans at h ⊢;split;·rfl
       ·rename_i h6;rw[aJ h6]at h;split;·rfl
        ·rename_i h7;rw[aJ h7]at h;split;·rfl
         ·rename_i h8;rw[aJ h8]at h;split;·rfl
          ·rename_i h9;rw[aJ h9]at h;exact aN rfl h
theorem YS{c:Cx}{name:aZ}(h:(an c name).2.2=0):kN (dh c.ss c.G c.L c.Z) c.m c.l=0/\(aO.dw c.l name).isSome=true:=by
 unfold an at h;by_cases h1:kN (dh c.ss c.G c.L c.Z) c.m c.l≠0;·rw[aL h1]at h;exact aN h h1
 ·rw[aJ h1]at h;refine⟨by simpa using h1,?_⟩;by_cases h2:(aO.dw c.l name).isSome=false;·rw[aL h2]at h;cases h
  ·cases hq:(aO.dw c.l name).isSome with
   | false=>exact aN hq h2
   | true=>rfl
theorem an_tu{c:Cx}{name:aZ}{R:List aZ}{o:Mo}(hR:RcOk c.l name R)(h:(an c name).2.2=0)(hT:∀(i:Nat) x,c.l[i]?=some x->x.name≠name->x.name∉R->oM c.m (GN o x)=0):an ⟨c.m,c.ss,c.G,c.L,c.Z,tu R name o c.l c.l.length⟩ name=an c name:=by
 obtain⟨hf,hi⟩:=YS h;have hf':=tu_form hf hT;have hN:0<c.ss.length:=(qj (jI hf).1).pos;have hm:=wL (l:=c.l) (l':=tu R name o c.l c.l.length) yX Ky name;unfold an;rw[aJ (λh=>h hf'),aJ (λh=>by rw[show aO.dw (Cx.l ⟨c.m,c.ss,c.G,c.L,c.Z,tu R name o c.l c.l.length⟩) name=aO.dw c.l name from hm,hi]at h;cases h),aJ (λh=>h hf),aJ (λh=>by rw[hi]at h;cases h)];refine FD_reach yX Ky (λi y hy hk=>?_) hf hf' hN _ name (Nat.lt_succ_self _) (aR rfl);rw[sQ,hy];simp only[jP,Bf];rw[aL (dz.1 hy).1,tu1,aJ];rintro⟨h1,h2⟩;rcases hk with hk|hk;·exact h1 hk
 ·exact h2 ((hR.2 _).2 hk)
theorem an_efs{U:List aZ}{c:Cx}{name:aZ}(hU:UAll U c.ss c.l):∀y∈(an c name).1,Wi U y:=by
 intro y hy;unfold an at hy;split at hy;·cases hy
 ·split at hy;·cases hy
  ·exact Ww hU _ name y hy
end Ck
theorem Ck.an_len{c:Cx}{name:aZ}:(Ck.an c name).1.length<=8:=by
 unfold Ck.an;split;·simp
 ·rename_i h;split;·simp
  ·exact fd_len (jI (by simpa using h)).2.2.1 _ _
theorem an_scs{c:Cx}{name:aZ}{w:World}{v:Value}(h:d9 EU w 0 35 6 v (Ck.an c name).1):sF w v (Ck.an c name).1:=by
 by_cases hf:kN (dh c.ss c.G c.L c.Z) c.m c.l=0;·have hU:=WI hf;exact Kl h (bH an_len bP) (λy hy u hu=>hU.size u ((an_efs hU y hy).1 u hu)) (λy hy=>bH (an_efs hU y hy).2 hU.len)
 ·have e:(Ck.an c name).1=[]:=by unfold Ck.an;rw[aL hf]
  rw[e]at h ⊢;exact Kl h cZ (λy hy=>by cases hy) (λy hy=>by cases hy)
theorem uY.put{w0 w:World}{m g k:Nat}{l:List Mo}(h:uY w0 m w g l)(hk:k<l.length)(v0 v1 v2 v3:Value):∀W,W=((((w.setCell (X g (k*4)) v0).setCell (X g (k*4+1)) v1).setCell (X g (k*4+2)) v2).setCell (X g (k*4+3)) v3)->W.cell? (X g (k*4))=some v0/\W.cell? (X g (k*4+1))=some v1/\W.cell? (X g (k*4+2))=some v2/\W.cell? (X g (k*4+3))=some v3:=by intro W hW;obtain⟨cur,h1,h2,_⟩:=h;have hb:=aP (aP (aP (aP h1 (k*4) v0) (k*4+1) v1) (k*4+2) v2) (k*4+3) v3;rw[<-hW]at hb;refine⟨(aj hb _).trans ?_,(aj hb _).trans ?_,(aj hb _).trans ?_,(aj hb _).trans ?_⟩;all_goals simp only[Ow,Array.size_setIfInBounds];repeat(first|rw[aL trivial]|rw[aL aV]|rw[aJ aV])
theorem WQ{n g a b c d:Nat}{w W:World}(h:Below n w W)(hB:n<=g)(c0 c1 c2 c3:Value):Below n w ((((W.setCell (X g a) c0).setCell (X g b) c1).setCell (X g c) c2).setCell (X g d) c3):=
 (((h.setCell (p:=(X g a)) hB c0).setCell (p:=(X g b)) hB c1).setCell (p:=(X g c)) hB c2).setCell (p:=(X g d)) hB c3
theorem mo_tu{w:World}{m:Nat}{o x:Mo}{vi vv vf:Value}(h:gT w m (.agg #[A o.name,vi,vv,vf]) o)(hx:x.name.size<=maxLen):gT w m (.agg #[A x.name,J,vv,vf]) (GN o x):=
 ⟨_,_,_,rfl,hx,⟨none,0,0,0,rfl,λh=>aN h (by simp[GN]),by simp[GN],λs hs=>aN hs (by simp[GN]),λi hi=>aN hi (by simp[GN])⟩,h.split.2.1,h.split.2.2⟩
theorem cap_tu{w:World}{vi vf:Value}(h:nY w vi vf):nY w (J) vf:=⟨λa n c e=>(by injection e;omega),h.fus,h.par⟩
theorem GQ(m:Nat)(w:World)(vn vl vk vi vv vf:Value)(ss:List ByteArray)(G:Nat)(L:Nat->Nat)(Z:Nat->Nat->Bool)(l:List Mo)(name:ByteArray)(o:Mo)(hS:Strs w vn ss)(hR:Fb w vl G L Z)(hK:tQ w m vk l)(hsm:∀x∈l,qx m x<=1048576)(ht:Tab w)(he:Pm w)(hn:name.size<=maxLen)(hO:gT w m (.agg #[A o.name,vi,vv,vf]) o)(hOC:nY w vi vf)(hom:qx m o<=1048576)(htm:∀x∈l,qx m (GN o x)<=1048576):Calls prog 5 #[.agg #[vn,vl],vk,A name,.agg #[A o.name,vi,vv,vf]] w λe w'=>e=cO (.bool true)/\bG w w':=by
 obtain⟨c,hc⟩:∃c,c=(⟨m,ss,G,L,Z,l⟩:Cx):=⟨_,rfl⟩;obtain⟨aaj,hA⟩:=bC (Ck.an c name);obtain⟨SA,DA,EA⟩:=aaj;have HASK:=I (λwx (hb:bG w wx)=>asked_any wx (ht.below hb) (he.below hb));have HANS:Hid (∀wx,bG w wx->Calls prog 18 #[.agg #[vn,vl],vk,A name] wx λe w'=>∃vs vd,e=cO (.tuple #[.agg #[vs,vd],O EA])/\Hid (sF w' vs SA/\iE w' vd DA/\bG wx w')):=I (λwx hb=>by
  have h:=Kv m wx vn vl vk ss G L Z l name (Ck.uni ss l) (hS.below hb) (hR.below hb) (hK.below hb) hsm (ht.below hb) hn WI;rw[<-hc,<-hA]at h;refine h.mono ?_;rintro e w' ⟨vs,vd,rfl,hh⟩;have h1:=hh.1;refine⟨vs,vd,rfl,I ⟨?_,hh.2.1,hh.2.2⟩⟩;have h2:d9 EU w' 0 35 6 vs (Ck.an c name).1:=by rw[<-hA];exact h1
  have h3:=an_scs (c:=c) h2;rw[<-hA]at h3;exact h3)
 have HMOD:=I (λwx (hb:bG w wx)=>FY m wx _ o (hO.below hb) hom (ht.below hb));have HMT:Hid (∀wx (x:Mo),x∈l->bG w wx->Calls prog 19 #[.agg #[A x.name,J,vv,vf]] wx λe w'=>e=cO (O (oM m (GN o x)))/\bG wx w'):=I (λwx x hx hb=>by
  have hz:x.name.size<=maxLen:=by
   have h1:=htm x hx;unfold qx at h1;have h2:(GN o x).name.size=x.name.size:=rfl;rw[h2]at h1;have:(1048576:Nat)<=maxLen:=by decide
   omega
  exact FY m wx _ (GN o x) ((mo_tu hO hz).below hb) (htm x hx) (ht.below hb))
 have HRCH:Hid (EA=0->∀wx,bG w wx->Calls prog 20 #[vk,A name] wx λe w'=>∃u,e=cO u/\Hid (∃R,RcOk l name R/\Strs w' u R/\bG wx w')):=I (λh0 wx hb=>by have hok:=YS (c:=c) (name:=name) (by rw[<-hA];exact h0);rw[hc]at hok;exact Na m wx vk l name (hK.mos.below hb) (bH (jI hok.1).2.1 bP) hn hsm);have wV:Hid (EA=0->l.length<=6/\0<l.length):=I (λh0=>by
  have hok:=YS (c:=c) (name:=name) (by rw[<-hA];exact h0);rw[hc]at hok;refine⟨(jI hok.1).2.1,?_⟩;cases l with
  | nil=>have:=hok.2;simp[aO.dw]at this
  | cons y r=>simp)
 have HCLO:=I (λwx (hb:bG w wx) (h6:l.length<=6) (h0:0<l.length)=>WM m wx vk l (hK.below hb) (bH h6 bP) h0);have HAN2:Hid (EA=0->∀wb wx R g cap,RcOk l name R->bG w wb->bG wb wx->uY wb m wx g (tu R name o l l.length)->(∀(i:Nat) x,l[i]?=some x->x.name≠name->x.name∉R->oM m (GN o x)=0)->Calls prog 18 #[.agg #[vn,vl],Y (some (X g 0)) l.length cap,A name] wx λe w'=>∃vs vd,e=cO (.tuple #[.agg #[vs,vd],O 0])/\Hid (sF w' vs SA/\iE w' vd DA/\bG wx w')):=I (λh0 wb wx R g cap hrc hbb hbx hrow hT=>by
  obtain⟨hb,hok⟩:=eD (up hbb hbx) (YS (c:=c) (name:=name) (by rw[<-hA];exact h0));rw[hc]at hok;have h6:=(jI hok.1).2.1;have hall:∀y∈tu R name o l l.length,∃x∈l,y=x\/y=GN o x:=λy hy=>tu_mem hy;have hmk:=hrow.mks (cap:=cap) hbx (by rw[yX];exact bH h6 bP);have hw:∀y∈tu R name o l l.length,qx m y<=1048576:=λy hy=>by
   obtain⟨x,hx,rfl|rfl⟩:=hall y hy;·exact hsm _ hx
   ·exact htm _ hx
  obtain⟨h,htu⟩:=eD (Kv m wx vn vl _ ss G L Z _ name (Ck.uni ss (tu R name o l l.length)) (hS.below hb) (hR.below hb) hmk hw (ht.below hb) hn WI) (an_tu (c:=c) (name:=name) (R:=R) (o:=o) (by rw[hc];exact hrc) (by rw[<-hA];exact h0) (by rw[hc];exact hT));rw[<-hA,hc]at htu;have htu':Ck.an ⟨m,ss,G,L,Z,tu R name o l l.length⟩ name=(SA,DA,EA):=htu;rw[yX]at h;rw[htu',h0]at h;refine h.mono ?_;rintro e w' ⟨vs,vd,rfl,hh⟩;refine⟨vs,vd,rfl,I ⟨?_,hh.2.1,hh.2.2⟩⟩;have h2:d9 EU w' 0 35 6 vs (Ck.an ⟨m,ss,G,L,Z,tu R name o l l.length⟩ name).1:=by rw[htu'];exact hh.1
  have h3:=an_scs (c:=⟨m,ss,G,L,Z,tu R name o l l.length⟩) h2;rw[htu']at h3;exact h3)
 have DN:Hid (EA≠0->SA=[]):=I (λh0=>by have:=an_err (c:=c) (name:=name) (by rw[<-hA];exact h0);rw[<-hA]at this;exact this);obtain⟨HO,HOC,HKK⟩:=fq hO hOC hK;have HXZ:Hid (∀x∈l,x.name.size<=maxLen):=I (λx hx=>by
  have h1:=hsm x hx;unfold qx at h1;have:(1048576:Nat)<=maxLen:=by decide
  omega)
 obtain⟨a0,c0,e0⟩:=iD hS;obtain⟨a1,b1,o1,c1,lA,lRB,lRO,lC,e1,-⟩:=hR;obtain⟨h1,h2,h3⟩:=hO.split;obtain⟨a2,c2,e2⟩:=iD h1;obtain⟨a3,_,_,c3,e3,-⟩:=h2;obtain⟨a4,_,_,c4,e4,-⟩:=h3;obtain⟨a5,b5,f5,c5,e5,hk0,-,TF⟩:=hK;obtain⟨lD,HKEL⟩:=bT hk0 TF;generalize ss.length=n0 at e0;generalize o.imports.length=n2 at e2;generalize o.vars.length=n3 at e3;generalize o.bq.length=n4 at e4;obtain⟨n5,G5⟩:=bC l.length;rw[<-G5]at e5 lD wV HCLO HAN2;have kG:=I G5;subst e0 e1 e2 e3 e4 e5;clear h1 hS hsm ht he hn hO hOC hom htm hk0 TF G5 hc hA;obtain⟨W,hW,k0,k1,hsz,hBW⟩:=wG w (aY #[Y a0 n0 c0,Y a1 G c1] 25) (aY #[A o.name,Y a2 n2 c2,Y a3 n3 c3,Y a4 n4 c4] 58);obtain⟨iN,HKB0,HKB1⟩:=fq hBW k0 k1;obtain⟨LB,hLB⟩:=bC w.heap.size;obtain⟨OB,hOB⟩:=bC (w.heap.size+1);obtain⟨HOB,Qb⟩:=bT hOB hLB;clear k0 k1 hsz hBW;go_enter func5,ntmps5;go_upto_region 1 with fail;rw[<-hW,<-hOB,<-hLB];rw[<-hOB]at HKB1;rw[<-hLB]at HKB0;clear hW hOB hLB;go_wp2_with fail;refine(HASK W iN).mono ?_;rintro e w1 ⟨rfl,hb1⟩;obtain⟨HB1,HKA1,HKO1⟩:=fq (up iN hb1) (aU HKB0 hb1) (aU HKB1 hb1);clear hb1;obtain⟨x0,x1⟩:=jm HKA1;go_wp2_with fail;refine(HANS w1 HB1).mono ?_;rintro e w2 ⟨vs,vd,rfl,Vt⟩;obtain⟨HSC2,HDG2,HB2,HKA2,HKO2⟩:=tq Vt.out.1 Vt.out.2.1 (up HB1 Vt.2.2) (aU HKA1 Vt.2.2) (aU HKO1 Vt.2.2);obtain⟨sa,sb,so,sc,rfl,-⟩:=Vt.1;obtain⟨da,db,do',dc,rfl,-⟩:=Vt.2.1;obtain⟨ns,hns⟩:=bC SA.length;obtain⟨nd,hnd⟩:=bC DA.length;rw[<-hns]at HSC2 ⊢;rw[<-hnd]at HDG2 ⊢;have G8:=I hns;clear Vt x0 x1 hns hnd;go_upto_region 4 with fail;obtain⟨dO,HK9⟩:=sS w2 (aY #[Y sa ns sc,Y da nd dc] 61);obtain⟨HKA3,HKO3,HB3,HSC3,HDG3⟩:=tq (aU HKA2 dO) (aU HKO2 dO) (up HB2 dO) (HSC2.below dO) (HDG2.below dO);obtain⟨AB,hAB⟩:=bC w2.heap.size;rw[<-hAB]at HK9 ⊢;generalize w2.alloc (aY #[Y sa ns sc,Y da nd dc] 61)=W3 at *;clear hAB;have z0:=aj HK9 0;by_cases hE:EA=0
 ·subst hE;obtain⟨y0,y1,y2,y3⟩:=Js HKO3;obtain⟨HRC0,HOK0,HAN0⟩:=fq (HRCH rfl) (wV rfl) (HAN2 rfl);go_wp2_with fail;refine(HMOD W3 HB3).mono ?_;rintro e w4 ⟨rfl,hb4⟩;obtain⟨DT,HKA4,HKO4,HK94,HSC4,HDG4⟩:=vC (up HB3 hb4) (aU HKA3 hb4) (aU HKO3 hb4) (aU HK9 hb4) (HSC3.below hb4) (HDG3.below hb4);clear y0 y1 y2 y3 z0 hb4;by_cases hm:oM m o=0
  ·rw[hm];have HAN3:=I HAN0.out;clear hm;go_wp2_with fail;refine(HRC0 w4 DT).mono ?_;rintro e w5 ⟨u,rfl,kM⟩;obtain⟨R,hrc,hst,hb5⟩:=kM.out;obtain⟨ZM,HST,dW,HKA5,HKO5,HK95⟩:=vC hrc hst (up DT hb5) (aU HKA4 hb5) (aU HKO4 hb5) (aU HK94 hb5);obtain⟨HSC5,HDG5⟩:=bT (HSC4.below hb5) (HDG4.below hb5);obtain⟨ua,uc,rfl⟩:=iD hst;generalize R.length=nr at *;clear kM hrc hst hb5;go_wp2_with fail;refine(HCLO w5 dW HOK0.1 HOK0.2).mono ?_;rintro e w6 ⟨g,gc,rfl,Bl⟩;obtain⟨eF,HGB,HRM6⟩:=fq Bl.out.1 Bl.out.2.1 Bl.out.2.2;clear Bl;go_wp2_with fail;go_loopw[48] (λi wr=>∃j:Nat,j<=n5/\i=O j/\Hid (uY w5 m wr g (tu R name o l j)/\bG w5 wr/\∀(i:Nat) x,i<j->l[i]?=some x->x.name≠name->x.name∉R->oM m (GN o x)=0)) (λi _=>n5 - (intOf i).toNat);case atStart=>exact⟨0,bI _,rfl,I ⟨by rw[tu_zero];exact HRM6,eF,λi x h=>aN h aV⟩⟩
   case round=>
    obtain⟨j,hj,rfl,HR⟩:=hrel;have MH:n5<=6:=HOK0.1;by_cases hjl:j<n5
    ·obtain⟨x,hx⟩:∃x,l[j]?=some x:=⟨_,bg (by rw[<-kG];exact hjl)⟩;obtain⟨HX,HXM⟩:=bT hx (dN hx);obtain⟨pi,pv,pf,g0,g1,g2,g3,hmx,-⟩:=HKEL j x hx;obtain rfl:=lD aV;obtain⟨i1,i2,i3⟩:=hmx.split;obtain⟨d1,z1,rfl⟩:=iD i1;obtain⟨d2,_,_,z2,rfl,-⟩:=i2;obtain⟨d3,_,_,z3,rfl,-⟩:=i3;generalize x.imports.length=m1 at *;generalize x.vars.length=m2 at *;generalize x.bq.length=m3 at *;have nR:=I (up dW HR.2.1);replace g0:=aC g0 nR;replace g1:=aC g1 nR;replace g2:=aC g2 nR;replace g3:=aC g3 nR;clear hmx i1 hx;go_upto_region 11 with fail;obtain⟨oD,HKF⟩:=sS wr (aY #[A x.name,Y d1 m1 z1,Y d2 m2 z2,Y d3 m3 z3] 58);obtain⟨P9,jB,HTJ⟩:=fq (HR.1.below oD) (up HR.2.1 oD) HR.out.2.2;obtain⟨FK,hFK⟩:=bC wr.heap.size;rw[<-hFK]at HKF ⊢;generalize wr.alloc (aY #[A x.name,Y d1 m1 z1,Y d2 m2 z2,Y d3 m3 z3] 58)=W7 at *;clear hFK g0 g1 g2 g3;have f0:=aj HKF 0;cases hsm:dD x.name name with
     | true=>
      have hst:(x.name.toList==name.toList)=true:=hsm;have HEQ:Hid (x.name=name):=I (eO.1 hsm);clear hsm;go_wp2_with fail;go_roundw;case rel=>exact⟨j+1,by omega,by go_num,I ⟨by rw[YR HX (λh=>h.1 HEQ)];exact P9,jB,λi y hi hy h1 h2=>by
       rcases vI i j with h|h;·exact HTJ i y h hy h1 h2
       ·obtain rfl:i=j:=by omega
        rw[HX]at hy;cases hy;exact aN HEQ.out h1⟩⟩
      case measure=>simp[intOf];omega
     | false=>
      have hst:(x.name.toList==name.toList)=false:=hsm;have nZ:Hid (x.name≠name):=I (λe=>by rw[e]at hsm;simp[dD]at hsm);clear hsm;have HCON:=I (jA W7 _ R x.name (HST.below jB));by_cases hin:x.name∈R
      ·rw[show decide (0<=dF R x.name)=true from fQ (Fl.oV.2 hin)]at HCON;have XK:=I hin;clear hin;go_wp2_with fail;refine HCON.mono ?_;rintro e wq ⟨rfl,hwq⟩;subst hwq;go_wp2_with fail;go_roundw;case rel=>exact⟨j+1,by omega,by go_num,I ⟨by rw[YR HX (λh=>h.2 XK)];exact P9,jB,λi y hi hy h1 h2=>by
        rcases vI i j with h|h;·exact HTJ i y h hy h1 h2
        ·obtain rfl:i=j:=by omega
         rw[HX]at hy;cases hy;exact aN XK.out h2⟩⟩
       case measure=>simp[intOf];omega
      ·rw[show decide (0<=dF R x.name)=false from gN (λh=>hin (Fl.oV.1 h))]at HCON;have XK:=I hin;clear hin;go_wp2_with fail;refine HCON.mono ?_;rintro e wq ⟨rfl,hwq⟩;subst hwq;obtain⟨t1,t2,t3,q0,q1,q2,q3,-,-⟩:=P9.cell (i:=j) (x:=x) (by rw[sQ,HX];simp);have HKO7:=I (aU HKO5 jB);obtain⟨v0,v1,v2,v3⟩:=rG (P9.free (j*4)) (P9.free (j*4+1)) (P9.free (j*4+2)) (P9.free (j*4+3));obtain⟨-,-,y2,y3⟩:=Js HKO7;have mU:Hid (j<(tu R name o l j).length):=I (by rw[yX,<-kG];exact hjl);go_upto_region 13 with fail;clear q0 q1 q2 q3 v0 v1 v2 v3 y2 y3 f0;obtain⟨W8,hW8⟩:=bC (((((wq.setCell (X g (j*4)) (A x.name)).setCell (X g (j*4+1)) (J)).setCell (X g (j*4+2)) (Y a3 n3 c3)).setCell (X g (j*4+3)) (Y a4 n4 c4)));rw[<-hW8];obtain⟨q0,q1,q2,q3⟩:=P9.put mU _ _ _ _ W8 hW8;have vE:Hid (bG w5 W8):=I (by rw[hW8];exact WQ jB HGB _ _ _ _);have HRM8:Hid (uY w5 m W8 g (tu R name o l (j+1))):=I (by rw[hW8,<-tu_set HX ⟨nZ,XK⟩];exact P9.set (x:=GN o x) mU (mo_tu (HO.below dW) (HXZ x HXM)) (cap_tu (HOC.below dW)));clear hW8;go_wp2_with fail;refine(HMT W8 x HXM (up dW vE)).mono ?_;rintro e w9 ⟨rfl,tL⟩;obtain⟨xk,HRM9⟩:=bT (up vE tL) (HRM8.below tL);clear tL q0 q1 q2 q3;by_cases hmx:oM m (GN o x)=0
       ·rw[hmx];have HMX:=I hmx;clear hmx;go_wp2_with fail;go_roundw;case rel=>exact⟨j+1,by omega,by go_num,I ⟨HRM9,xk,λi y hi hy h1 h2=>by
         rcases vI i j with h|h;·exact HTJ i y h hy h1 h2
         ·obtain rfl:i=j:=by omega
          rw[HX]at hy;cases hy;exact HMX⟩⟩
        case measure=>simp[intOf];omega
       ·have hz:=dY hmx;go_wp2_with fail;go_ret;exact⟨rfl,up dW xk⟩
    ·obtain rfl:j=n5:=by omega
     have HRMN:Hid (uY w5 m wr g (tu R name o l l.length)):=I (by rw[<-kG];exact HR.1);have BQ:=I HR.out.2.1;have HTN:Hid (∀(i:Nat) x,l[i]?=some x->x.name≠name->x.name∉R->oM m (GN o x)=0):=I (λi x hx h1 h2=>HR.2.2 i x (by rw[kG];exact(dz.1 hx).1) hx h1 h2);obtain⟨HANF,HKAR⟩:=bT (HAN3 w5 wr R g gc ZM dW BQ (by rw[kG];exact HRMN) HTN) (aU HKA5 BQ);obtain⟨x0,x1⟩:=jm HKAR;go_wp2_with fail;refine HANF.mono ?_;rintro e wa ⟨us,ud,rfl,hha⟩;obtain⟨GU,HDA,HBA⟩:=fq hha.out.1 hha.out.2.1 (up BQ hha.2.2);obtain⟨ta,tb,to',tc,rfl,-⟩:=hha.1;obtain⟨ea,eb,eo,ec,rfl,-⟩:=hha.2.1;generalize SA.length=ns2 at *;generalize DA.length=nd2 at *;clear hha x0 x1;go_upto_region 17 with fail;obtain⟨vY,HKU⟩:=sS wa (aY #[Y ta ns2 tc,Y ea nd2 ec] 61);obtain⟨HBF,HSAF,HDAF⟩:=fq (up HBA vY) (GU.below vY) (HDA.below vY);obtain⟨UB,hUB⟩:=bC wa.heap.size;rw[<-hUB]at HKU ⊢;generalize wa.alloc (aY #[Y ta ns2 tc,Y ea nd2 ec] 61)=WF at *;clear hUB;have HK9F:=I (aU HK95 HBF);obtain⟨p0,p1⟩:=jm HK9F;obtain⟨p2,p3⟩:=jm HKU;have HSAME:=I (WL WF _ _ _ _ SA DA (HSC5.below HBF) (HDG5.below HBF) HSAF HDAF);go_wp2_with fail;refine HSAME.mono ?_;rintro e wz ⟨rfl,hbz⟩;have HBZ:=I (up (up dW HBF) hbz);clear hbz;go_wp2_with fail;go_ret;exact⟨rfl,HBZ⟩
  ·have hz:=dY hm;have r0:=aj HK94 0;by_cases hnz:ns=0;·subst hnz;go_wp2_with fail;go_ret;exact⟨rfl,DT⟩
   ·have hz2:((ns:Int)==0)=false:=by simp[hnz]
    go_wp2_with fail;go_ret;exact⟨rfl,DT⟩
 ·have hz:=dY hE;obtain rfl:ns=0:=by rw[G8,DN hE];rfl
  go_wp2_with fail;go_ret;exact⟨rfl,HB3⟩
open Go.ChangeShapes Go.WideShapes Go.ChangeAt Go.Deep Go.Joins
open Go.ChangeMaps (open_string shut_string)
theorem ownK:ownKnob prog.godebug=none:=by kernel_rfl
theorem Kz:laidOutB prog=true:=by kernel_rfl
noncomputable def gPow:Nat:=(prog.globalNamed "internal/strconv.uint64pow10").getD 0
noncomputable def g32:Nat:=(prog.globalNamed "math/bits.deBruijn32tab").getD 0
noncomputable def g64:Nat:=(prog.globalNamed "math/bits.deBruijn64tab").getD 0
theorem gTab:prog.globalNamed "internal/strconv.uint64pow10" = some gPow:=by kernel_rfl
theorem gTabType:(prog.globals[gPow]?).map (·.type)=some 362:=by kernel_rfl
theorem table{W:World}(h:laidMetH prog Rows.checkReachUptoRow.laid W):Tab W:=by have h1:laidMet prog Rows.checkReachUptoRow.laid W:=h;have h2:laidMet prog [("internal/strconv.uint64pow10",Lib.tabData .u64 Lib.pow10Tab),("strconv.ErrRange",Rows.laid_strconv_ErrRange),("strconv.ErrSyntax",Rows.laid_strconv_ErrSyntax)] W:=h1.tail.tail;exact Lib.tabIs_of_head gTab gTabType underlying362 underlying241 bU bU h2
noncomputable def gRng:Nat:=(prog.globalNamed "strconv.ErrRange").getD 0
noncomputable def gSyn:Nat:=(prog.globalNamed "strconv.ErrSyntax").getD 0
theorem gSynK:prog.globalNamed "strconv.ErrSyntax" = some gSyn:=by kernel_rfl
theorem gSynType:(prog.globals[gSyn]?).map (·.type)=some 355:=by kernel_rfl
theorem cellsES:prog.cellsOf 390=1:=by kernel_rfl
theorem cellsS:prog.cellsOf 9=1:=by kernel_rfl
theorem starES : "*" ++ "errors.errorString" = "*errors.errorString" := by decide
theorem rowES(u:TypeId)(h:prog.typeName? 3 u=some "*errors.errorString"):u=388:=
 typeName_ptr_named (nm := "errors.errorString") (by rw[starES];kernel_rfl) bU bP u (by rw[starES];exact h)
theorem errv{W:World}(h:laidMetH prog Rows.checkReachUptoRow.laid W):Pm W:=by
 have h0:laidMet prog Rows.checkReachUptoRow.laid W:=h;have h1:laidMet prog (("strconv.ErrSyntax",Rows.laid_strconv_ErrSyntax)::_) W:=h0.tail.tail.tail.tail;obtain⟨a,s,hv,_⟩:=laid_sentinel h1 gSynK gSynType underlying355 rowES underlying388 underlying390 rfl rfl underlying9 cellsES cellsS;unfold World.var? at hv;rw[gSynK]at hv;simp only[Option.bind_some]at hv;cases hh:W.heap[gSyn]? with
 | none=>rw[hh]at hv;cases hv
 | some o=>
  rw[hh]at hv;cases o with
  | cells cs t fz =>simp only[Bf]at hv;subst hv;exact⟨gSyn,_,_,t,fz,gSynK,hh⟩
  | _=>cases hv
theorem tu_weight(m:Nat)(o x:Mo):qx m (GN o x)<=qx m x+qx m o:=by
 unfold qx;have h1:iI (GN o x).imports<=iI o.imports:=by show iI []<=iI o.imports;unfold iI;simp
 have h2:(GN o x).name.size=x.name.size:=rfl;have h3:zF (GN o x).vars=zF o.vars:=rfl;have h4:vT m (GN o x).bq=vT m o.bq:=rfl;omega
theorem KA(H:Type)(enc:TypeId × Value->H)(W:World)(base:Nat)(args:Array Value)(ds gs:List (DataW H))(before:List MemPlace)(hval:∀(j:Nat) t v,Tryz.f5.params[j]?=some t->args[j]?=some v->Value.okWide prog W .any base t v)(hW:DataW.Whole enc prog Tryz.f5.params.toList Rows.checkReachSpec.vars false W args.toList ds gs before)(hk:Rows.uptoSmall H (ds++gs)=true)(hL:laidMetH prog Rows.checkReachUptoRow.laid W):Calls prog 5 args W λe W'=>∃v,e=cO v/\Rows.checkReachSpec.post enc prog Tryz.f5 false true false false W args v W':=by
 have hW':=hW;obtain⟨p,q,hA0,hV,rfl,_,_⟩:=hW;have hA:DataW.TrodAll enc prog W 0 (λ_=>true) true Tryz.f5.params.toList args.toList ds p:=hA0;rw[Tryz.params5]at hA hval;obtain⟨v0,vs0,d0,ds0,p0,q0,hargs,rfl,rfl,h0,r0⟩:=trodAll_cons hA;obtain⟨v1,vs1,d1,ds1,p1,q1,rfl,rfl,rfl,h1,r1⟩:=trodAll_cons r0;obtain⟨v2,vs2,d2,ds2,p2,q2,rfl,rfl,rfl,h2,r2⟩:=trodAll_cons r1;obtain⟨v3,vs3,d3,ds3,p3,q3,rfl,rfl,rfl,h3,r3⟩:=trodAll_cons r2;obtain⟨rfl,rfl,rfl⟩:=trodAll_nil r3;obtain rfl:args=#[v0,v1,v2,v3]:=by cases args;simp_all
 obtain⟨rfl,rfl⟩:=trodVars_none hV;have hb:Rows.uptoBulkAll ([d0,d1,d2,d3]++[])<=1048576:=iQ hk;simp only[gK,Rows.uptoBulkAll]at hb;obtain⟨k0,k1,k3⟩:=lQ h0 h1 h3;have lt0:∀x∈p0,x.block<W.heap.size:=by obtain⟨m,hm⟩:=k0;exact DataW.trod_lt m _ _ _ hm
 have lt1:∀x∈p1,x.block<W.heap.size:=by obtain⟨m,hm⟩:=k1;exact DataW.trod_lt m _ _ _ hm
 have lt3:∀x∈p3,x.block<W.heap.size:=by obtain⟨m,hm⟩:=k3;exact DataW.trod_lt m _ _ _ hm
 obtain⟨vn,vl,ss,G,L,Z,rfl,hS,hR⟩:=P8 (hval 0 25 v0 rfl rfl) h0;obtain⟨m1,l,hM,hmw⟩:=open_mks (hval 1 26 v1 rfl rfl) h1;obtain⟨s2,rfl,rfl,rfl,w2⟩:=open_string underlying9 (hval 2 9 v2 rfl rfl) h2;obtain⟨m2,o,vi,vv,vf,rfl,hO,how,hC⟩:=Ve (hval 3 58 v3 rfl rfl) h3;have hM':=hM.Fy (Nat.le_max_left m1 m2);have hO':=hO.Fy (Nat.le_max_right m1 m2);obtain⟨e1,e2⟩:=eD (UA hM.mos (Nat.le_max_left m1 m2)) (D8 hO (Nat.le_max_right m1 m2));clear hA0;refine(GQ (max m1 m2) W vn vl v1 vi vv vf ss G L Z l s2 o hS hR hM' (λy hy=>by have:=hmw y hy;have:=e1 y hy;omega) (table hL) (errv hL) w2 hO' hC aV (λy hy=>by have:=hmw y hy;have:=e1 y hy;have:=tu_weight (max m1 m2) o y;omega)).mono λe W' ⟨he,Qo⟩=>?_;subst he;exact⟨_,rfl,_,_,_,[],_,[],hW',trodAll_mk1 (shut_bool underlying4 _),trodAll_cons_mk (Below.trod Kz bU (iQ bU) k0 Qo lt0) (trodAll_cons_mk (Below.trod Kz bU (iQ bU) k1 Qo lt1) (trodAll_cons_mk (shut_string underlying9 w2) (trodAll_cons_mk (Below.trod Kz bU (iQ bU) k3 Qo lt3) trodAll_mk0))),rfl,Qo.frame _,λh=>by cases h⟩
def WR:DataW Unit->Array Value
 | .agg l=>(l.filterMap λd=>match d with|.lit (.int k z)=>some (Value.int k z)|_=>none).toArray
 | _=>#[]
def holds(a:Array Value):Obj->Obj
 | .cells _ t frozen=>.cells a t frozen
 | o=>o
noncomputable def low:Nat:=(World.holding prog default ⟨#[],#[],[]⟩).heap.size
def rngS:ByteArray:=⟨#[118,97,108,117,101,32,111,117,116,32,111,102,32,114,97,110,103,101]⟩
def synS:ByteArray:=⟨#[105,110,118,97,108,105,100,32,115,121,110,116,97,120]⟩
noncomputable def EZ(os:Os):World:=
 { World.holding prog os ⟨#[.cells #[.string rngS] 390,.cells #[.string synS] 390],#[],[]⟩with heap:=(((((World.holding prog os ⟨#[.cells #[.string rngS] 390,.cells #[.string synS] 390],#[],[]⟩).heap.modify gPow (holds (WR Rows.laid_internal_strconv_uint64pow10))).modify g32 (holds (WR Rows.laid_math_bits_deBruijn32tab))).modify g64 (holds (WR Rows.laid_math_bits_deBruijn64tab))).modify gRng (holds #[.iface 388 (.pointer (some ⟨low,0,none⟩))])).modify gSyn (holds #[.iface 388 (.pointer (some ⟨low+1,0,none⟩))]) }
def ws:Array Value:=#[.agg #[.slice none 0 0,.slice none 0 0],.slice none 0 0,.string ⟨#[]⟩,.agg #[.string ⟨#[]⟩,.slice none 0 0,.slice none 0 0,.slice none 0 0]]
theorem laid_met(os:Os):laidMet prog Rows.checkReachUptoRow.laid ((EZ os).forCall (λ_ _=>0) ⟨#[],ws,[]⟩).memory:=
 laidMet_of_run' 8 bU bU
theorem reads(os:Os){H:Type}(enc:TypeId × Value->H):∃x,DataW.whole enc prog ((EZ os).forCall (λ_ _=>0) ⟨#[],ws,[]⟩).memory Tryz.f5.params.toList Rows.checkReachSpec.vars false ws.toList 8=some ([.agg [.nil,.nil],.nil,.lit (.string []),.agg [.lit (.string []),.nil,.nil,.nil]],[],x):=
 ⟨[],by kernel_rfl⟩
theorem Qa(os:Os)(started:os.Started)(H:Type)(enc:TypeId × Value->H)(F:Stop.Interp):ReturnsInHanded {} Tryz.checked os 5 .any ((Rows.OpenSpec.upto Rows.checkReachSpec).preRow enc prog Tryz.f5 Rows.checkReachUptoRow.domain false Rows.checkReachUptoRow.laid) (((Rows.OpenSpec.upto Rows.checkReachSpec).at F).post enc prog Tryz.f5 false true false false):=by obtain⟨places,hx⟩:=reads os enc;refine returnsInHanded_of_row (C:=Tryz.checked) (s:=Rows.OpenSpec.upto Rows.checkReachSpec) ownK started bU func5 (witness_row_at (enc:=enc) (C:=Tryz.checked) false (EZ os) ws rfl bU bU bU (OpenSpec.preRow_of_cond 8 hx bU (λk hk=>by cases hk;kernel_rfl) bU (laid_met os))) ?_;intro W base args ds gs before hval hW _ hcond _ hL _ _;exact KA H enc W base args ds gs before hval hW (hcond _ rfl) hL
theorem WT:Rows.CheckReachUptoSaid:=
 OpenClaim.holds_of_cond 5 Tryz.f5 rfl rfl rfl rfl rfl rfl rfl ⟨rfl,rfl,rfl,rfl,rfl⟩ rfl rfl rfl rfl rfl reach_fn func5 Nq Uq Ur
  (λos started H enc _ F=>by rw[OpenClaim.pre_eq_preRow];exact Qa os started H enc F)
end Go.Proofs.YtbgkpehhdibaoaaGreatDoor
