/- part -/
import Derived.Test.YtbgkpehhdibaoaaGreatDoorBZBQ
import Derived.Test.YtbgkpehhdibaoaaGreatDoorBZBP
set_option maxHeartbeats 0
set_option maxRecDepth 99999
namespace Go.Proofs.YtbgkpehhdibaoaaGreatDoor
open Ck bN bJ Rn Sm
open Go.Proofs.Tryz
open Go.RowKit Go.Maps Go.WideMaps
variable{w w' w0 W aaf:World}{m fuel i p n b1 b2 j B b n' k':Nat}{v vn vl vk r0 r1 r2 z r3 r4:Value}{l:List Mo}{s:aY}{x y:Mo}{t k:TypeId}{fo o:aY->Option Value}{E e:Int}{U ss r:List aY}{cs:Array Value}
theorem yg(w:World)(c:Nat):jf w (Y none 0 c) []:=⟨none,0,0,c,rfl,λh=>aM h dx,by simp,λi d hd=>by simp at hd⟩
theorem fun_size{l:List Fu}(h:kW w m v l){f:Fu}(hf:f∈l):∀u∈f.params,u.size<=maxLen:=by obtain⟨i,hi,e⟩:=gZ.1 hf;obtain⟨_,_,_,_,_,_,_,hel⟩:=h;obtain⟨_,vp,vb,_,_,_,_,_,_,_,_,_,_,_,hpar,_,_⟩:=hel i f (by rw[bD hi,e]);obtain⟨_,_,_,_,_,_,_,hz,_⟩:=hpar;exact hz
theorem YG(m:Nat)(w:World)(vn vl vi vv vf vk vs:Value)(ss:List aY)(G:Nat)(L:Nat->Nat)(Z:Nat->Nat->Bool)(x:Mo)(known:List Mo)(bK:List (List Sc))(U:List aY)(hP:lZ w m vn vl vi vv vf vk vs (J) ss G L Z x known bK [])(hU:UOk U ss x bK):Calls prog 26 #[.agg #[vn,vl],.agg #[A x.name,vi,vv,vf],vk,vs] w λe w'=>∃v u,e=dz (.tuple #[v,u,O (Sm.ans ss G L Z m x known bK).2.2])/\Hid (dV Er w' w.heap.size 35 6 v (Sm.ans ss G L Z m x known bK).1/\jf w' u (Sm.ans ss G L Z m x known bK).2.1/\bG w w'):=by
 obtain⟨⟨a0,c0,e0⟩,⟨a1,n1,c1,e1⟩,⟨a2,n2,c2,e2⟩,⟨a3,n3,c3,e3⟩,⟨a4,c4,e4,hcap⟩,⟨a5,n5,c5,e5⟩,⟨a6,n6,c6,e6⟩,-⟩:=hP.forms;obtain⟨n0,hn0⟩:∃n,n=ss.length:=⟨_,rfl⟩;obtain⟨n4,rW⟩:∃n,n=x.bg.length:=⟨_,rfl⟩;have yF:=I rW;rw[<-hn0]at e0;rw[<-rW]at e4;subst e0 e1 e2 e3 e4 e5 e6;have HN4B:Hid (n4<=1048576):=I (by have:=FM m x.bg;have hw:=hP.small;unfold vF at hw;omega);obtain⟨HP,HU⟩:=bU hP hU;obtain⟨W,hW,k0,k1,hsz,hBW⟩:=wX w (aW #[Y a0 n0 c0,Y a1 n1 c1] 25) (aW #[A x.name,Y a2 n2 c2,Y a3 n3 c3,Y a4 n4 c4] 58);obtain⟨x0,x1⟩:=iV k0;obtain⟨y0,y1,y2,y3⟩:=Mq k1;obtain⟨lF,jh,iA,uI⟩:=lY k0 k1 hBW ((hP.below hBW).checkO);obtain⟨E,hEE⟩:∃E,E=yZ (bX ss G L Z) m x known:=⟨_,rfl⟩;obtain⟨aag,hA⟩:∃aag,aag=Sm.ans ss G L Z m x known bK:=⟨_,rfl⟩;obtain⟨Q6,HA⟩:=bU hEE hA;rw[<-hEE]at uI;rw[<-hA];clear k0 k1 hsz hBW hn0 rW hEE hA hP hU hcap;go_enter func26,ntmps26;go_upto_region 1 with fail;rw[<-hW];clear hW;go_wp2_with fail;refine uI.out.mono ?_;rintro e w1 ⟨u,rfl,hu,hnil,hb1⟩;obtain⟨HB1,nC,kV⟩:=fD (up iA.out hb1) (aU lF.out hb1) (aU jh.out hb1);clear x0 x1 y0 y1 y2 y3 hb1;by_cases hE:E=0
 ·subst hE;have HE0:Hid (yZ (bX ss G L Z) m x known=0):=I Q6.out.symm;have hpd:Db 0 ss x known m=bJ.once (Ei ss x known m):=by unfold Db;rw[aL rfl]
  rw[hpd]at hu hnil;by_cases hD:bJ.once (Ei ss x known m)=[]
  ·obtain rfl:=hnil hD;have HD:=I hD;clear hu hnil hpd hD;have y3:=aj kV.out 3;go_wp2_with fail;clear y3;go_loopw[11,13,38] (λd o i wr=>∃(dv ov:Value) (j:Nat),dv=d/\ov=o/\j<=n4/\i=O j/\Hid (rA ss G L Z m x known bK j=0/\dV Er wr w1.heap.size 35 6 ov (Sm.inf ss Z m x known bK j).1/\(j=0->ov=J)/\eF oW wr w1.heap.size 80 3 dv (Sm.inf ss Z m x known bK j).2/\bG w1 wr)) (λ_ _ i _=>n4 - (intOf i).toNat);case atStart=>exact⟨_,_,0,rfl,rfl,bL _,rfl,I ⟨rfl,dV.nil _ _ _ _,λ_=>rfl,eF.nil _ _ _ _,bP _ _⟩⟩
   case round=>
    obtain⟨d,o,j,rfl,rfl,hj,rfl,HR⟩:=hrel;have oQ:=I (up HB1.out HR.out.2.2.2.2);have HJL:Hid (j<=x.bg.length):=I (by rw[<-yF.out];exact hj);have HIE:=I (NA HU.out HJL.out HR.out.1);have HOL:Hid ((Sm.inf ss Z m x known bK j).1.length=j):=I (Nz HJL.out);obtain⟨HDL,HUL⟩:=bU (VW HP.out.small HJL.out HR.out.1) HU.out.len;by_cases hjl:j<n4
    ·obtain⟨f,hf⟩:∃f,x.bg[j]?=some f:=⟨_,bD (by rw[<-yF.out];exact hjl)⟩;obtain⟨HF,HFM⟩:=bU hf (eT hf);have HFZ:=I (fun_size HP.out.mo.split.2.2 HFM.out);obtain⟨fa,fb,fo,fc,hfe,hfa,hfl,xu⟩:=HP.out.mo.split.2.2;obtain⟨hfz,vp,vb,e0',e1',e2',e3',g0,g1,g2,g3,g4,g5,g6,hpar,Nr,hres⟩:=xu j f hf;have hfa':=hfa (by rw[<-yF.out];omega);injection hfe with ee1 ee2 ee3;rw[hfa']at ee1;subst ee1;obtain⟨pa,pb,po,pc,rfl,-⟩:=hpar;obtain⟨ba,bc,rfl⟩:=fB.rT Nr;obtain⟨ra,rc,rfl,rfl,rfl,rfl⟩:=hres.shape;obtain⟨np,hnp⟩:∃n,n=f.params.length:=⟨_,rfl⟩;obtain⟨nb,hnb⟩:∃n,n=f.body.length:=⟨_,rfl⟩;obtain⟨nr,hnr⟩:∃n,n=f.result.args.length:=⟨_,rfl⟩;have Je:=I hnp;rw[<-hnp]at g1;rw[<-hnb]at g2;rw[<-hnr]at g6;replace g0:=aD g0 oQ.out;replace g1:=aD g1 oQ.out;replace g2:=aD g2 oQ.out;replace g3:=aD g3 oQ.out;replace g4:=aD g4 oQ.out;replace g5:=aD g5 oQ.out;replace g6:=aD g6 oQ.out;clear xu hfa hfl ee2 ee3 hfz Nr hres hnp hnb hnr hf hfa';obtain⟨oa,oc,ho⟩:=HR.out.2.1.form;rw[HOL.out]at ho;subst ho;go_upto_region 8 with fail;obtain⟨oP,HKF⟩:=rZ wr (aW #[A f.name,Y pa np pc,Y ba nb bc,O f.result.kind,O f.result.n,A f.result.name,Y ra nr rc] 109);obtain⟨JJ,HDW7,jG⟩:=fD (HR.out.2.1.below oP.out (λ_ _ h=>h.below oP.out)) (HR.out.2.2.2.1.below oP.out) (up HR.out.2.2.2.2 oP.out);generalize wr.alloc (aW #[A f.name,Y pa np pc,Y ba nb bc,O f.result.kind,O f.result.n,A f.result.name,Y ra nr rc] 109)=W7 at *;obtain⟨HIE0,HON⟩:=bU HR.out.1 HR.out.2.2.1;generalize wr.heap.size=FK at *;clear g0 g1 g2 g3 g4 g5 g6;obtain⟨HWW7,HK07,IJ⟩:=fD (up HB1.out jG.out) (aU nC.out jG.out) (aU kV.out jG.out);obtain⟨x0,x1⟩:=iV HK07.out;obtain⟨y0,y1,y2,y3⟩:=Mq IJ.out;have HPW:Hid (lZ W7 m (Y a0 n0 c0) (Y a1 n1 c1) (Y a2 n2 c2) (Y a3 n3 c3) (Y (some (X fb fo)) n4 c4) (Y a5 n5 c5) (Y a6 n6 c6) (Y oa j oc) ss G L Z x known bK (Sm.inf ss Z m x known bK j).1):=I (by have h:=HP.out.below HWW7.out;exact⟨h.strs,h.NS,h.mo,h.cap,h.kn,h.sc,NC JJ.out (by have:=HOL.out;have:=HN4B.out;omega) (λy hy u hu=>HU.out.size u ((HIE.out y hy).1 u hu)) (λy hy=>bF (HIE.out y hy).2 HUL.out),h.small,h.smalls,h.tab,h.kT,λy hy=>bF (HIE.out y hy).2 HUL.out⟩);have SE:=I (TG m W7 _ _ _ _ _ _ _ _ ss G L Z x known bK _ (j:Int) 40 1000 HPW.out);obtain⟨Ej,hEj⟩:∃E,E=Fl.TF ss G L Z m x j known bK (Sm.inf ss Z m x known bK j).1 40 1000:=⟨_,rfl⟩;have HEJ:Hid (rA ss G L Z m x known bK (j+1)=Ej):=I (by rw[KV HIE0.out,hEj]);have HEW:=I hEj;rw[<-hEj]at SE;clear hEj;go_wp2_with fail;refine SE.out.mono ?_;intro e w8 hh;rcases hh.out with⟨hne,rfl,nK⟩|⟨h0,kn,f',hk,hf',dS,vc,vs',vf',ve,rfl,hpb,nK⟩
     ·have hz:=eP hne;have PL:Hid (aag=([],[],Ej)):=I (by
       have h1:rA ss G L Z m x known bK x.bg.length=Ej:=by have h2:=KU (ss:=ss) (G:=G) (L:=L) (Z:=Z) (m:=m) (x:=x) (known:=known) (bK:=bK) (k:=j+1) (by rw[HEJ.out];exact hne) (x.bg.length - (j+1));rw[show j+1+(x.bg.length - (j+1))=x.bg.length by have:=yF.out;omega]at h2;rw[h2,HEJ.out]
       rw[HA.out];unfold Sm.ans;rw[aJ (by rw[HE0.out];simp),aJ (by rw[HD.out];simp),h1,aL hne])
      have vJ:=I (up HWW7.out nK);clear hh nK hne x0 x1 y0 y1 y2 y3;go_wp2_with fail;refine bV (v:=.tuple #[J,J,O Ej]) (by simp[results,results26,go_sem]) rfl ?_;rw[PL.out];exact⟨_,_,rfl,I ⟨dV.nil _ _ _ _,yg _ _,up vJ.out (aH _ _)⟩⟩
     ·obtain rfl:kn=j:=by omega
      rw[HF.out]at hf';obtain rfl:f=f':=Option.some.inj hf';have Ad:=I (FR HF.out (by rw[<-HEW.out];exact h0));have HPE:=I (Qv HU.out (λy hy=>(HIE.out y hy).1) Ad.out);obtain⟨P,hPP⟩:∃P,P=(Fl.gH ss Z x kn known bK (Sm.inf ss Z m x known bK kn).1 f).jq m f:=⟨_,rfl⟩;have HPV:Hid (PbV w8 dS vc vs' vf' ve P):=I (by rw[hPP];exact vN.ofRd Ad.out HFM.out HP.out.small HFZ.out HPE.out.1 HPE.out.2 HUL.out HU.out.size hpb);have HPBV:Hid (∀wx,vN wx W7.heap.size dS vc vs' vf' ve P->PbV wx dS vc vs' vf' ve P):=I (λwx h=>by rw[hPP]at h ⊢;exact vN.ofRd Ad.out HFM.out HP.out.small HFZ.out HPE.out.1 HPE.out.2 HUL.out HU.out.size h);have HPO:Hid (TH ss.length P):=I (by rw[hPP];exact Ad.out.pb);have AQ:Hid (P.names.length<=40/\P.cons.length<=1000/\P.sinks.length<=2097148):=I (by rw[hPP];exact⟨Ad.out.nm,Ad.out.cn,Ad.out.sinks HFM.out HP.out.small⟩);have YH:=I (xH (ss:=ss) (Z:=Z) (m:=m) (known:=known) (bK:=bK) HF.out);rw[<-hPP]at YH HPE hpb;obtain⟨HPB,HEF,HCH,Yc⟩:=lY hpb hpb.gY Ad.out.chk Ad.out.par;have HLV:Hid (P.mask=0):=I (by rw[hPP];rfl);obtain⟨na0,nc0,q0⟩:=jF HPV.out.names;obtain⟨na1,nc1,q1⟩:=HPV.out.cons.form;obtain⟨na2,nc2,q2⟩:=HPV.out.sinks.form;obtain⟨na3,nc3,q3⟩:=HPV.out.fr.IB;obtain⟨na4,nc4,q4⟩:=jF HPV.out.gY;generalize P.names.length=nn0 at q0;generalize P.cons.length=nn1 at q1;generalize P.sinks.length=nn2 at q2;generalize P.fr.length=nn3 at q3;generalize P.gY.length=nn4 at q4;subst q0 q1 q2 q3 q4;rw[<-hPP];obtain⟨lvl,hlvl⟩:∃n,n=P.level:=⟨_,rfl⟩;rw[<-hlvl];obtain⟨Q0,P7,HDW8,vJ,HKF8⟩:=rO hlvl (JJ.out.below nK (λ_ _ h=>h.below nK)) (HDW7.out.below nK) (up jG.out nK) (aU HKF.out nK);have hEz:Ej=0:=h0;subst hEz;clear hh nK hk hf' hpb hPP hlvl x0 x1 y0 y1 y2 y3;go_upto_region 11 with fail;obtain⟨oP,HKP⟩:=rZ w8 (aW #[Y na0 nn0 nc0,Y na1 nn1 nc1,Y na2 nn2 nc2,Y na3 nn3 nc3,O 0,O lvl,Y na4 nn4 nc4] 128);obtain⟨X3,HDW9,xX,HKF9,HPV9,HEF9⟩:=vP (P7.out.below oP.out (λ_ _ h=>h.below oP.out)) (HDW8.out.below oP.out) (up vJ.out oP.out) (aU HKF8.out oP.out) (HPV.out.below oP.out) (HEF.out.below oP.out);have HPB9:=I (HPB.out.IG oP.out);generalize w8.alloc (aW #[Y na0 nn0 nc0,Y na1 nn1 nc1,Y na2 nn2 nc2,Y na3 nn3 nc3,O 0,O lvl,Y na4 nn4 nc4] 128)=W9 at *;generalize w8.heap.size=PK at *;have HK09:=I (aU nC.out xX.out);obtain⟨x0,x1⟩:=iV HK09.out;obtain⟨p0,p1,p2,p3,p4,p5,p6⟩:=Ap HKP.out;have Fy:Hid (lT W9 (Y a0 n0 c0) (Y a1 n1 c1) ss G L Z):=I ⟨HP.out.strs.below (up HB1.out xX.out),HP.out.NS.below (up HB1.out xX.out),HCH.out⟩;have HSO:=I (TL W9 _ _ _ _ _ _ _ 0 lvl ss G L Z P Fy.out HPV9.out HPO.out AQ.out.1 AQ.out.2.1 (by have:=AQ.out.2.2;omega));simp only[So.cs]at HSO;go_wp2_with fail;refine HSO.out.mono ?_;rintro e w10 ⟨V,vL,vK,rfl,hh10⟩;obtain⟨Yu,Yv,hsnk,ru,hl0,hk0⟩:=hh10.out;have J6:=I (And.intro hl0 hk0);clear hl0 hk0;have HPB10:=I (HPB9.out.IG ru);have HSA:Hid (Nw w10 ⟨Y a0 n0 c0,Y a1 n1 c1,Y na0 nn0 nc0,Y na1 nn1 nc1,Y na2 nn2 nc2,Y na3 nn3 nc3,0,lvl,Y na4 nn4 nc4,vL,vK⟩ ss G L Z P V):=I ⟨Fy.out.below ru,HPV9.out.below ru,HPO.out,Yu,Yv.ok,hsnk⟩;have HVE:Hid (∀v,v<P.names.length->V v=Sm.least Z ss.length P.names.length P.cons v):=I (Qn Fy.out.joins Yv);obtain⟨la,ln,lc,rfl⟩:=BS Yu;obtain⟨ka,kn',kc,rfl⟩:=BS hsnk;obtain⟨HOW10,HDW10,HB10,HKF10,HEF10⟩:=rO (X3.out.below ru (λ_ _ h=>h.below ru)) (HDW9.out.below ru) (up xX.out ru) (aU HKF9.out ru) (HEF9.out.below ru);clear hh10 Yu Yv hsnk ru x0 x1 p0 p1 p2 p3 p4 p5 p6;go_upto_region 12 with fail;obtain⟨oP,HKS⟩:=rZ w10 (aW #[Y a0 n0 c0,Y a1 n1 c1,Y na0 nn0 nc0,Y na1 nn1 nc1,Y na2 nn2 nc2,Y na3 nn3 nc3,O 0,O lvl,Y na4 nn4 nc4,Y la ln lc,Y ka kn' kc] 133);obtain⟨HOW11,HDW11,HB11,HKF11,HSA11,HEF11⟩:=vP (HOW10.out.below oP.out (λ_ _ h=>h.below oP.out)) (HDW10.out.below oP.out) (up HB10.out oP.out) (aU HKF10.out oP.out) (HSA.out.below oP.out) (HEF10.out.below oP.out);have HPB11:=I (HPB10.out.IG oP.out);generalize w10.alloc (aW #[Y a0 n0 c0,Y a1 n1 c1,Y na0 nn0 nc0,Y na1 nn1 nc1,Y na2 nn2 nc2,Y na3 nn3 nc3,O 0,O lvl,Y na4 nn4 nc4,Y la ln lc,Y ka kn' kc] 133)=W11 at *;generalize w10.heap.size=SK at *;obtain⟨s0,s1,s2,s3,s4,s5,s6,s7,s8,s9,s10⟩:=ZC11 HKS.out;obtain⟨t0,t1,t2,t3,t4,t5,t6⟩:=Ap HKF11.out;have vC:=I (QA W11 _ ss G L Z P V f pa ba ra pc nb bc nr rc f.result.kind f.result.n f.result.name HSA11.out HLV.out.symm Q0.out Yc.out (by have:=AQ.out.2.2;omega));simp only[So.cs]at vC;rw[<-Je.out]at vC;go_wp2_with fail;refine vC.out.mono ?_;rintro e w12 ⟨B,rfl,hh12⟩;obtain⟨hrow,QB⟩:=hh12.out;obtain⟨sc,hsc⟩:∃y,y=Sm.dW Z ss.length V P f:=⟨_,rfl⟩;have HSCE:Hid (sc=Sm.dW Z ss.length (Sm.least Z ss.length P.names.length P.cons) P f):=I (by rw[hsc];exact Qp HPO.out HVE.out f);have HDGE:Hid (Sm.F6 Z ss.length V P f.name=Sm.F6 Z ss.length (Sm.least Z ss.length P.names.length P.cons) P f.name):=I (Qq HPO.out HVE.out f.name);obtain⟨i1,hi1⟩:∃n,n=(Sm.tell Z ss.length V P.fr (Sm.lab P.mask P.level)).1:=⟨_,rfl⟩;obtain⟨i2,hi2⟩:∃n,n=(Sm.tell Z ss.length V P.fr (Sm.lab P.mask P.level)).2:=⟨_,rfl⟩;obtain⟨i3,hi3⟩:∃n,n=Sm.pc Z ss.length P.sinks:=⟨_,rfl⟩;rw[<-hi1,<-hi2,<-hi3];have HSCC:Hid (Er w12 [A f.name,O (i1:Nat),O (i2:Nat),Y (some (X B 0)) np np,O (i3:Nat),Y na4 nn4 nc4] sc):=I ⟨Y (some (X B 0)) np np,Y na4 nn4 nc4,by rw[hsc,hi1,hi2,hi3];rfl,by
       rw[hsc];have h1:=hrow.Pn (by rw[VP];have:=Yc.out;have:=Je.out;omega);rw[VP]at h1;show cO w12 _ (bds Z ss.length V P.sinks f.params.length);rw[<-Je.out];exact h1,by
       rw[hsc];exact(HEF11.out.below QB).oldF (bL _)⟩
      obtain⟨HOW12,HDW12,HB12,HB1112,HPB12⟩:=rO (HOW11.out.below QB (λ_ _ h=>h.below QB)) (HDW11.out.below QB) (up HB11.out QB) QB (HPB11.out.IG QB);clear hh12 hrow QB hsc hi1 hi2 hi3 s0 s1 s2 s3 s4 s5 s6 s7 s8 s9 s10 t0 t1 t2 t3 t4 t5 t6;obtain⟨dQ,Aq⟩:=rZ w12 (aW #[A f.name,O (i1:Nat),O (i2:Nat),Y (some (X B 0)) np np,O (i3:Nat),Y na4 nn4 nc4] 35);obtain⟨KZ,HDW13,HB13,HC13,HPB13,Uc⟩:=vP (HOW12.out.below dQ.out (λ_ _ h=>h.below dQ.out)) (HDW12.out.below dQ.out) (up HB12.out dQ.out) (HSCC.out.below dQ.out) (HPB12.out.IG dQ.out) (up HB1112.out dQ.out)
      go_upto_region 13 with(first
       | (at_builtin;refine lI (At:=Er) rfl _ _ 30 35 6 88 _ rfl underlying30 infoSc bO bO bO w1.heap.size (Y oa kn oc) (Sm.inf ss Z m x known bK kn).1 rfl KZ.out w12.heap.size [A f.name,O (i1:Nat),O (i2:Nat),Y (some (X B 0)) np np,O (i3:Nat),Y na4 nn4 nc4] sc rfl (λq u hu=>(by rw[aj Aq.out q];simpa only [wm]using hu)) rfl (by simp[Value.oneCell']) HC13.out (by rw[HOL.out];have:=HN4B.out;omega) HB13.out.size (λw' c y hg hc=>hc.st (lJ.grown hg KZ.out.typ) bO bO) ?_;intro g14 cap14 w14 hown14 VZ;have HO14:=I hown14;have HG14:=I VZ;clear hown14 VZ)
       | fail)
      obtain⟨HST,HSTR⟩:=bU (lJ.grown HG14.out KZ.out.typ) (YE KZ.out (λh=>HON.out (by rw[<-HOL.out,h];rfl)));have HB14:Hid (bG w1 w14):=I (Below.grown HB13.out HG14.out HB13.out.size (λk e=>(KZ.out.lt k e).1));obtain⟨HKS14,HKF14⟩:=bU (HST.out _ _ _ (aU HKS.out Uc.out) bO) (HST.out _ _ _ (aU HKF11.out Uc.out) bO);have HSA14:Hid (Nw w14 ⟨Y a0 n0 c0,Y a1 n1 c1,Y na0 nn0 nc0,Y na1 nn1 nc1,Y na2 nn2 nc2,Y na3 nn3 nc3,0,lvl,Y na4 nn4 nc4,Y la ln lc,Y ka kn' kc⟩ ss G L Z P V):=I (by have h:=HSA11.out.below Uc.out;exact⟨⟨HP.out.strs.below (up HB1.out HB14.out),HP.out.NS.below (up HB1.out HB14.out),HCH.out⟩,HPBV.out _ (HPB13.out.st HST.out),h.ok,h.las.grown0 J6.out.1 HG14.out HSTR.out,h.oks,h.snk.grown0 J6.out.2 HG14.out HSTR.out⟩);obtain⟨HDW14,HDC⟩:=bU (HDW13.out.grown HG14.out (λg hg e=>by obtain⟨c1',h1'⟩:=HDW13.out.typ hg;obtain⟨c2',h2'⟩:=KZ.out.typ g e;rw[h1']at h2';simp at h2')) (TM w14 _ ss G L Z P V f.name HSA14.out (by have:=AQ.out.2.2;omega));simp only[So.cs]at HDC;obtain⟨s0,s1,s2,s3,s4,s5,s6,s7,s8,s9,s10⟩:=ZC11 HKS14.out;have t0:=aj HKF14.out 0;go_wp2_with fail;refine HDC.out.mono ?_;rintro e w15 ⟨u15,rfl,hh15⟩;obtain⟨hu15,OL⟩:=hh15.out;have HU15:=I hu15;obtain⟨ua15,uc15,rfl⟩:=hu15.form;obtain⟨HO15,HDW15,HB15⟩:=fD (HO14.out.below OL (λ_ _ h=>h.below OL)) (HDW14.out.below OL) (up HB14.out OL);have HDS:Hid ((Sm.F6 Z ss.length V P f.name).length<=2097148):=I (by unfold Sm.F6;rw[dO];exact bF (GZ _ _) AQ.out.2.2);have HSUM:Hid ((Sm.inf ss Z m x known bK kn).2.length+(Sm.F6 Z ss.length V P f.name).length<=16777216):=I (by have h8:=(yc (T9 HE0.out).2).1;have h1:=HDL.out;have h2:=HDS.out;have h3:=yF.out;omega);have hnb4:=HN4B.out;obtain⟨dl,hdl⟩:∃n,n=(Sm.F6 Z ss.length V P f.name).length:=⟨_,rfl⟩;rw[<-hdl]at HU15 ⊢;clear hh15 hu15 OL s0 s1 s2 s3 s4 s5 s6 s7 s8 s9 s10 t0 hdl
      go_wp2_with (first
       | (at_builtin;refine fZ (At:=oW) rfl _ _ 59 80 3 40 _ rfl underlying59 oZ bO bO bO w1.heap.size d (Sm.inf ss Z m x known bK kn).2 rfl HDW15.out w14.heap.size (Y ua15 dl uc15) (Sm.F6 Z ss.length V P f.name) rfl HU15.out HSUM.out HB15.out.size ?_;intro v16 w16 hown16 V3;have HO16:=I hown16;have HG16:=I V3;clear hown16 V3)
       | fail)
      have HST:=I (lJ.grown (t:=80) HG16.out (λk hk=>HDW15.out.typ hk));have HB16:Hid (bG w1 w16):=I (Below.grown HB15.out HG16.out HB15.out.size (λk e=>(HDW15.out.lt k e).1));have HOW16:=I (HO15.out.keep (λj cur _ hj=>HST.out j cur _ hj bO) (λc y hc=>hc.st HST.out bO bO));go_roundw;case rel=>
       refine⟨_,_,kn+1,rfl,rfl,by omega,by go_num,I ⟨HEJ.out,?_,λh=>aM h (Nat.succ_ne_zero _),?_,HB16.out⟩⟩;·rw[YH.out];show dV Er w16 _ _ 6 _ ((Sm.inf ss Z m x known bK kn).1++[Sm.dW Z ss.length (Sm.least Z ss.length P.names.length P.cons) P f]);rw[<-HSCE.out];exact HOW16.out
       ·rw[YH.out];show eF oW w16 _ _ 3 _ ((Sm.inf ss Z m x known bK kn).2++Sm.F6 Z ss.length (Sm.least Z ss.length P.names.length P.cons) P f.name);rw[<-HDGE.out];exact HO16.out
      case measure=>simp[intOf];omega
    ·obtain rfl:j=n4:=by omega
     have HIF:Hid (rA ss G L Z m x known bK x.bg.length=0):=I (by rw[<-yF.out];exact HR.out.1);have h8:=(yc (T9 HE0.out).2).1;rcases HR.out.2.2.2.1.shape with⟨hd,hz⟩|⟨g,cap,hd,hcp,hgn,hgl,hne⟩;·subst hd;have PL:Hid (aag=((Sm.inf ss Z m x known bK j).1,[],0)):=I (by rw[HA.out];unfold Sm.ans;rw[aJ (by rw[HE0.out];simp),aJ (by rw[HD.out];simp),aJ (by rw[HIF.out];simp),<-yF.out,aJ (by rw[hz];simp)]);have HSA:Hid (dV Er wr w.heap.size 35 6 o (Sm.inf ss Z m x known bK j).1):=I (HR.out.2.1.old HB1.out.size);clear hz h8;go_wp2_with fail;refine bV (v:=.tuple #[o,J,O 0]) (by simp[results,results26,go_sem]) rfl ?_;rw[PL.out];exact⟨_,_,rfl,I ⟨HSA.out,yg _ _,oQ.out⟩⟩
     ·have I8:Hid ((Sm.inf ss Z m x known bK j).2.length<=16777216):=I (by have:=HDL.out;have:=yF.out;omega);have HDG:=I (HR.out.2.2.2.1.F6 (by have:=I8.out;omega));rw[hd]at HDG;have PL:Hid (aag=([],bJ.once (Sm.inf ss Z m x known bK j).2,0)):=I (by rw[HA.out];unfold Sm.ans;rw[aJ (by rw[HE0.out];simp),aJ (by rw[HD.out];simp),aJ (by rw[HIF.out];simp),<-yF.out,aL hne]);have HIC:=I (wO wr _ (Sm.inf ss Z m x known bK j).2 HDG.out I8.out);obtain⟨nd,hnd⟩:∃n,n=(Sm.inf ss Z m x known bK j).2.length:=⟨_,rfl⟩;have hpos:0<nd:=by rw[hnd];exact sQ.2 hne
      rw[<-hnd]at hd HIC;rw[hd];clear hd hcp hgn hgl hne hnd h8;go_wp2_with fail;refine HIC.out.mono ?_;rintro e w9 ⟨u9,rfl,RZ,uh⟩;have HU9:=I RZ;obtain⟨a9,b9,o9,c9,rfl,-⟩:=RZ;generalize hnl:(bJ.once (Sm.inf ss Z m x known bK j).2).length=n9 at *;have xX:=I (up oQ.out uh);clear uh hnl;go_wp2_with fail;refine bV (v:=.tuple #[J,Y a9 n9 c9,O 0]) (by simp[results,results26,go_sem]) rfl ?_;rw[PL.out];exact⟨_,_,rfl,I ⟨dV.nil _ _ _ _,HU9.out,xX.out⟩⟩
  ·have PL:Hid (aag=([],bJ.once (Ei ss x known m),0)):=I (by rw[HA.out];unfold Sm.ans;rw[aJ (by rw[HE0.out];simp),aL hD]);have HU1:=I hu;obtain⟨a9,b9,o9,c9,rfl,-⟩:=hu;obtain⟨nd,hnd⟩:∃n,n=(bJ.once (Ei ss x known m)).length:=⟨_,rfl⟩;have hpos:0<nd:=by rw[hnd];exact sQ.2 hD
   rw[<-hnd]at HU1 ⊢;clear hnil hpd hD hnd;go_wp2_with fail;refine bV (v:=.tuple #[J,Y a9 nd c9,O 0]) (by simp[results,results26,go_sem]) rfl ?_;rw[PL.out];exact⟨_,_,rfl,I ⟨dV.nil _ _ _ _,HU1.out,HB1.out⟩⟩
 ·have hpd:Db E ss x known m=[]:=by unfold Db;rw[aJ hE]
  obtain rfl:=hnil hpd;have PL:Hid (aag=([],[],E)):=I (by rw[HA.out];unfold Sm.ans;rw[<-Q6.out,aL hE]);have hz:=eP hE;clear hu hnil hpd hE;go_wp2_with fail;refine bV (v:=.tuple #[J,J,O E]) (by simp[results,results26,go_sem]) rfl ?_;rw[PL.out];exact⟨_,_,rfl,I ⟨dV.nil _ _ _ _,yg _ _,HB1.out⟩⟩
theorem YI(n:Nat)(hn:n<=1048576)(w:World):(Instr.makeSlice 27 (O (n:Int)) (O (n:Int))).run prog w=.ok (Y (some (X w.heap.size 0)) n n) (w.alloc (.cells (madeCells #[O 0] n) 3)):=by obtain⟨i,hi,hzz⟩:=vX.1 xO;simp only[pq]at hzz;obtain⟨hz,hs,hb⟩:=hzz;have hr:=run_make (P:=prog) w 27 3 i _ underlying27 hi hz .i64 .i64 n n aX (Int.le_refl _) (by rw[hb];omega) aX;rw[hs,show(O 0).cells=#[O 0]from rfl]at hr;simpa using hr
theorem YJ(n:Nat):madeCells #[O 0] n=((List.replicate n (0:Int)).map (Value.int .i64)).toArray:=by
 apply Array.ext;·simp[madeCells]
 ·intro i h1 h2;simp[madeCells,Nat.mod_one]
theorem Es{P:Program}{ops:Array Oper}{Q:Exit->Act->World->Prop}{md:Region.Mode}{S:World->Prop}{st:Nat}{listed:Array Bool}{a:Act}(h:∀x,x=w->iR P md ops Q S st fuel listed a x):iR P md ops Q S st fuel listed a w:=h w rfl
theorem Ud(m:Nat)(w:World)(v:Value)(l:List Fu)(h:kW w m v l)(hl:l.length<=8)(hp:∀f∈l,f.params.length<=4):Calls prog 190 #[v] w λe w'=>∃u,e=dz u/\Hid (dV Er w' w.heap.size 35 6 u (l.map Ck.un)/\bG w w'):=by
 have HP:=I hp;obtain⟨fa,fb,fo,fc,rfl,hfa,hfl,xu⟩:=h;obtain⟨Nq,lK⟩:=bU hfa xu;obtain⟨nf,hnf⟩:=bC l.length;have wB:=I hnf;rw[<-hnf]at hl Nq ⊢;clear hfa xu hfl hnf hp;go_enter func190,ntmps190;go_wp2_with fail;go_loopw[3,8] (λo i wr=>∃(ov:Value) (j:Nat),ov=o/\j<=nf/\i=O j/\Hid (dV Er wr w.heap.size 35 6 ov ((l.take j).map Ck.un)/\bG w wr)) (λ_ i _=>nf - (intOf i).toNat);case atStart=>exact⟨_,0,rfl,bL _,rfl,I ⟨dV.nil _ _ _ _,bP _ _⟩⟩
 case round=>
  obtain⟨o,j,rfl,hj,rfl,HR⟩:=hrel;by_cases hjl:j<nf
  ·obtain⟨f,hf⟩:∃f,l[j]?=some f:=⟨_,bD (by rw[<-wB];exact hjl)⟩;obtain⟨HF,Yc⟩:=bU hf (HP f (eT hf));obtain⟨hfz,vp,vb,e0',e1',e2',e3',g0,g1,g2,g3,g4,g5,g6,hpar,Nr,hres⟩:=lK j f hf;obtain rfl:=Nq aX;obtain⟨pa,pb,po,pc,rfl,-⟩:=hpar;obtain⟨ba,bc,rfl⟩:=fB.rT Nr;obtain⟨ra,rc,rfl,rfl,rfl,rfl⟩:=hres.shape;obtain⟨np,hnp⟩:=bC f.params.length;obtain⟨nb,hnb⟩:=bC f.body.length;obtain⟨nr,hnr⟩:=bC f.result.args.length;have Je:=I hnp;rw[<-hnp]at g1 Yc;rw[<-hnb]at g2;rw[<-hnr]at g6;replace g0:=aD g0 HR.2;replace g1:=aD g1 HR.2;replace g2:=aD g2 HR.2;replace g3:=aD g3 HR.2;replace g4:=aD g4 HR.2;replace g5:=aD g5 HR.2;replace g6:=aD g6 HR.2;have EJ:Hid (((l.take j).map Ck.un).length=j):=I (by rw[dO,jB];have:=wB.out;omega);have fO:Hid ((l.take (j+1)).map Ck.un=(l.take j).map Ck.un++[Ck.un f]):=I (by rw[gy,hf,kU,fQ];rfl);obtain⟨oa,oc,ho⟩:=HR.1.form;rw[EJ]at ho;subst ho;clear hf hfz Nr hres hnp hnb hnr;go_upto_region 5 with fail;obtain⟨oP,HKF⟩:=rZ wr (aW #[A f.name,Y pa np pc,Y ba nb bc,O f.result.kind,O f.result.n,A f.result.name,Y ra nr rc] 109);obtain⟨JJ,jG⟩:=bU (HR.1.below oP (λ_ _ h=>h.below oP)) (up HR.2 oP);generalize wr.alloc (aW #[A f.name,Y pa np pc,Y ba nb bc,O f.result.kind,O f.result.n,A f.result.name,Y ra nr rc] 109)=W7 at *;generalize wr.heap.size=FK at *;clear g0 g1 g2 g3 g4 g5 g6;have Rh:Hid (∀x:World,x.heap[FK]?=some (aW #[A f.name,Y pa np pc,Y ba nb bc,O f.result.kind,O f.result.n,A f.result.name,Y ra nr rc] 109)->x.cell? (X FK 0)=some (A f.name)/\x.cell? (X FK 1)=some (Y pa np pc)):=I (λx g=>⟨(aj g 0).trans rfl,(aj g 1).trans rfl⟩);have MK:=YI np (by have:=Yc.out;omega);refine bW [some false,some false,some true,some false,some true,some false,none,none,none,none,none] 10 (λx=>x.cell? (X FK 0)=some (A f.name)/\x.cell? (X FK 1)=some (Y pa np pc)) 5 bR bR (λ_ _ d _ _ h=>(by cases d<;>exact h)) (Rh _ HKF) ?_;dsimp only[fE];repeat(first|(refine fq (v:=?_) cZ ?_ ?_;rotate_left 1;(focus(intro w;go_simp;try(with_reducible rfl)));simp only[Act.put,dG,dM,dU])|(refine fA (v:=?_) cZ ?_ ?_;rotate_left 1;(focus(intro w hSw;obtain⟨q0,q1⟩:=hSw;go_simp;try(with_reducible rfl)));simp only[Act.put,dG,dM,dU]))
   refine dH ?_;refine aN (i:=6) bR cZ (λK hK=>?_);go_simp;refine hK _ _ (λ_=>Rh _ (dw HKF _)) ?_;clear hK K;refine Es ?_;intro x1 hx1;have HB1:Hid (bG W7 x1):=I (by rw[hx1];exact(aH _ _).drew);have HRB:Hid (oM x1 W7.heap.size (List.replicate np 0)):=I (by rw[hx1];unfold oM;rw[<-YJ];exact aZ _ _);obtain⟨B1,hB1⟩:=bC W7.heap.size;rw[<-hB1]at HRB ⊢;have HKF1:=I (aU HKF HB1);clear hx1 hB1;refine aN (i:=7) bR cZ (λK hK=>?_);go_simp;refine hK _ _ (λ_=>Rh _ HKF1) ?_;clear hK K;refine aN (i:=8) bR cZ (λK hK=>?_);go_simp;refine hK _ _ (λ_=>Rh _ (dw HKF1 _)) ?_;clear hK K;refine Es ?_;intro x2 hx2;have HB2:Hid (bG x1 x2):=I (by rw[hx2];exact aH x1 _);have Aq:Hid (x2.heap[x1.heap.size]?=some (aW #[A f.name,O 0,O 0,Y (some (X B1 0)) np np,O 0,J] 35)):=I (by rw[hx2];exact aZ x1 _);obtain⟨B2,hB2⟩:=bC x1.heap.size;rw[<-hB2]at Aq ⊢;obtain⟨HKF2,HB72⟩:=bU (aU HKF1 HB2) (up HB1 HB2);have HOW2:=I (JJ.below HB72 (λ_ _ h=>h.below HB72));have Xt:Hid (Er x2 [A f.name,O 0,O 0,Y (some (X B1 0)) np np,O 0,J] (Ck.un f)):=I ⟨_,_,rfl,by have h:=(show oM x2 B1 (List.replicate np 0)from aU HRB HB2).Pn (by rw[xG];have:=Yc.out;omega);rw[xG]at h;show cO x2 _ (List.replicate f.params.length 0);rw[<-Je];exact h,aR ⟨rfl,rfl⟩⟩;have HB2W:Hid (bG w x2):=I (up jG HB72);clear hx2 hB2;refine aN (i:=9) bR cZ (λK hK=>?_);refine lG (At:=Er) cZ _ _ 30 35 6 88 _ cZ underlying30 infoSc bO bO bO w.heap.size (Y oa j oc) ((l.take j).map Ck.un) cZ HOW2 B2 [A f.name,O 0,O 0,Y (some (X B1 0)) np np,O 0,J] (Ck.un f) cZ (λq u hu=>(by rw[aj Aq q];simpa only [wm]using hu)) rfl (by simp[Value.oneCell']) Xt.out (by rw[EJ.out];omega) HB2W.size (λw' c y hg hc=>hc.st (lJ.grown hg HOW2.typ) bO bO) ?_;intro g cap w9 hown hgrow hlie;obtain⟨HO9,HST⟩:=bU hown (lJ.grown hgrow HOW2.typ);have xX:Hid (bG w w9):=I (Below.grown HB2W hgrow HB2W.size (λk e=>(HOW2.lt k e).1));rw[EJ]at HO9 ⊢;clear hown hgrow hlie;simp only[Act.put,dG];refine hK _ _ (λ_=>Rh _ (HST _ _ _ HKF2 bO)) ?_;clear hK K;refine aN (i:=10) bR cZ (λK hK=>?_);go_simp;refine hK _ _ (λh=>aM (h.symm.trans bR) gN) ?_;clear hK K;refine dB bR ?_ _;go_wp2_with fail;go_roundw;case rel=>exact⟨_,j+1,rfl,by omega,by go_num,I ⟨by rw[fO];exact HO9,xX⟩⟩
   case measure=>simp[intOf];omega
  ·obtain rfl:j=nf:=by omega
   have EJ:Hid (l.take j=l):=I (by rw[wB,jC]);have HRR:=I HR.out.1;rw[EJ]at HRR;go_wp2_with fail;go_ret;exact⟨o,rfl,I ⟨HRR,HR.2⟩⟩
namespace Ck
structure Cx where
 m:Nat
 ss:List ByteArray
 G:Nat
 L:Nat->Nat
 Z:Nat->Nat->Bool
 l:List Mo
abbrev Fi:=List Sc × List Dg × Int
def fi0:Fi:=([],[],0)
def bl(l:List Mo)(F:ByteArray->Fi):List ByteArray->List Dg->List Dg × Int
 | [],acc=>(acc,0)
 | s::r,acc=>if (dI l s).isSome=false then bl l F r acc else if (F s).2.2≠0 then ([],(F s).2.2)else bl l F r (if (F s).2.1≠[]then acc++[⟨7,⟨#[]⟩,s⟩]else acc)
def Jg(l:List Mo)(x:Mo):List Mo:=l.filter λy=>!dA y.name x.name
def sc1(F:ByteArray->Fi)(x y:Mo):List Sc:=if bJ.Ce x.imports y.name then (F y.name).1 else y.bg.map un
def Cj(l:List Mo)(F:ByteArray->Fi)(x:Mo):List (List Sc):=(Jg l x).map (sc1 F x)
open Classical in
noncomputable def QC(c:Cx)(F:ByteArray->Fi)(x:Mo):Fi:=
 if sH c.l x.name x.name then ([],[⟨8,⟨#[]⟩,x.name⟩],0)
 else if (bl c.l F x.imports []).2≠0 then ([],[],(bl c.l F x.imports []).2)
 else if bJ.once (bl c.l F x.imports []).1≠[]then ([],bJ.once (bl c.l F x.imports []).1,0)
 else Sm.ans c.ss c.G c.L c.Z c.m x (Jg c.l x) (Cj c.l F x)
noncomputable def fd(c:Cx):Nat->ByteArray->Fi
 | 0,_=>fi0
 | g+1,s=>match dI c.l s with
  | none=>fi0
  | some i=>match c.l[i]? with
   | none=>fi0
   | some x=>QC c (fd c g) x
open Classical in
noncomputable def rk(l:List Mo)(s:ByteArray):Nat:=if sH l s s then 0 else (l.filter λy=>decide (sH l s y.name)).length
section
variable {c : Cx} {F F' : ByteArray → Fi} {x : Mo} {l : List Mo}
theorem bl_cong{r:List aY}(h:∀b∈r,(dI l b).isSome=true->F b=F' b):∀acc,bl l F r acc=bl l F' r acc:=by
 induction r with
 | nil=>intro acc;rfl
 | cons s r ih=>
  intro acc;unfold bl;by_cases hs:(dI l s).isSome=false;·rw[aL hs,aL hs];exact ih (λb hb=>h b (pR _ hb)) acc
  ·rw[aJ hs,aJ hs,h s List.mem_cons_self (by cases hq:(dI l s).isSome with|true=>rfl|false=>exact aM hq hs)];split;·rfl
   ·exact ih (λb hb=>h b (pR _ hb)) _
theorem QD{y:Mo}(hy:y∈l):(dI l y.name).isSome=true:=by unfold dI;rw[List.find?_isSome];obtain⟨i,hi,e⟩:=gZ.1 hy;refine⟨i,jr.2 hi,?_⟩;rw[bD hi,e];simp[dA]
theorem V4{l:List aY}{s:aY}:bJ.Ce l s=true↔s∈l:=by unfold bJ.Ce;rw[gP];exact Fl.tN
theorem QE(h:∀b∈x.imports,(dI c.l b).isSome=true->F b=F' b):¬sH c.l x.name x.name->QC c F x=QC c F' x:=by
 intro hr;unfold QC;rw[aJ hr,aJ hr,bl_cong h];have hs:Cj c.l F x=Cj c.l F' x:=by
  unfold Cj;refine JY λy hy=>?_;unfold sc1;cases hi:bJ.Ce x.imports y.name with
  | false=>rfl
  | true =>rw[aL rfl,aL rfl,h y.name (V4.1 hi) (QD ((List.mem_filter.1 hy).1))]
 rw[hs]
theorem V5(F F':aY->Fi)(hr:sH c.l x.name x.name):QC c F x=QC c F' x:=by unfold QC;rw[aL hr,aL hr]
theorem YK{a b d:aY}(h:sH l a b)(k:sH l b d):sH l a d:=by
 induction k with
 | one k=>exact sH.more h k
 | more _ k ih=>exact sH.more ih k
theorem rk_le(l:List Mo)(s:aY):rk l s<=l.length:=by
 unfold rk;split;·exact bL _
 ·exact GZ _ _
theorem V6{α:Type}{p q:α->Bool}{l:List α}(h:∀x∈l,p x=true->q x=true){y:α}(hy:y∈l)(h1:p y=false)(h2:q y=true):(l.filter p).length<(l.filter q).length:=by
 induction l with
 | nil=>cases hy
 | cons z l ih=>
  have mono:(l.filter p).length<=(l.filter q).length:=by
   have h':∀x∈l,p x=true->q x=true:=λx hx=>h x (pR _ hx);clear ih hy h;induction l with
   | nil=>exact bE _
   | cons t l ih=>
    have:=ih λx hx=>h' x (pR _ hx);simp only[List.filter_cons];cases hp:p t with
    | false=>cases q t<;>simp<;>omega
    | true=>rw[h' t List.mem_cons_self hp];simp;omega
  rcases fK.1 hy with rfl|hy;·simp only[List.filter_cons,h1,h2,if_true];simp;omega
  ·have:=ih (λx hx=>h x (pR _ hx)) hy;simp only[List.filter_cons];cases hp:p z with
   | false=>cases q z<;>simp<;>omega
   | true=>rw[h z List.mem_cons_self hp];simp;omega
open Classical in
theorem NG{s b:aY}(hs:¬sH l s s)(h:imp l s b):rk l b<rk l s:=by
 have hb:sH l s b:=sH.one h;obtain⟨i,hi⟩:=rR.1 (ND hb);obtain⟨y,hy,e⟩:=iM hi;have hm:=eT hy;unfold rk;rw[aJ hs];split;·refine sQ.2 λh0=>?_;have:y∈l.filter λy=>decide (sH l s y.name):=List.mem_filter.2 ⟨hm,by rw[e];simpa using hb⟩;rw[h0]at this;cases this
 ·rename_i hbb;refine V6 (λz _ hz=>?_) hm ?_ ?_;·simp only[gP]at hz ⊢;exact YK hb hz
  ·rw[e];simpa using hbb
  ·rw[e];simpa using hb
theorem YL:∀(g g':Nat) (s:aY),rk c.l s<g->rk c.l s<g'->fd c g s=fd c g' s:=by
 intro g;induction g with
 | zero=>intro g' s h;omega
 | succ g ih=>
  intro g' s h h';cases g' with
  | zero=>omega
  | succ g'=>
   rw[fd,fd];cases hi:dI c.l s with
   | none=>rfl
   | some i=>
    obtain⟨x,hx,e⟩:=iM hi;simp only[hx];by_cases hr:sH c.l x.name x.name;·exact V5 _ _ hr
    ·refine QE (λb hb hs=>?_) hr;have himp:imp c.l s b:=⟨i,x,hi,hx,hb,hs⟩;rw[e]at hr;have hlt:=NG hr himp;exact ih g' b aX aX
end
noncomputable def FD(c:Cx)(s:ByteArray):Fi:=fd c (c.l.length+1) s
theorem V7{c:Cx}(hi:dI c.l s=some i)(hx:c.l[i]?=some x):FD c s=QC c (FD c) x:=by
 have e0:x.name=s:=by obtain⟨y,hy,e⟩:=iM hi;rw[hx]at hy;cases hy;exact e
 have h1:FD c s=QC c (fd c c.l.length) x:=by unfold FD;rw[fd,hi];simp only[hx]
 rw[h1];by_cases hr:sH c.l x.name x.name;·exact V5 _ _ hr
 ·refine QE (λb hb hs=>?_) hr;rw[e0]at hr;obtain⟨hlt,h2⟩:=eY (NG hr ⟨i,x,hi,hx,hb,hs⟩) (rk_le c.l s);exact YL _ _ b aX aX
end Ck
theorem lJ.but(h:But p w w')(hp:∃es cl,w.heap[p]?=some (.map es cl)):lJ t w w':=λj cs u hj _=>h.at (λe=>by subst e;obtain⟨es,cl,h1⟩:=hp;rw[hj]at h1;cases h1) hj
theorem oN{l:List Sc}(h:dV Er w n 35 6 v l)(hs:lJ t w w')(h1:35≠t)(h2:9≠t)(h3:3≠t):dV Er w' n 35 6 v l:=
 h.keep (λj cur _ hj=>hs j cur _ hj h1) λ_ _ hc=>hc.st hs h2 h3
def FiW(w:World)(v:Value)(y:Ck.Fi):Prop:=∃vs a c,v=.agg #[vs,.slice a y.2.1.length c,.int .i64 y.2.2]/\dV Er w 0 35 6 vs y.1
def FiD(w:World)(v:Value)(y:Ck.Fi):Prop:=∃vs vd,v=.agg #[vs,vd,.int .i64 y.2.2]/\jf w vd y.2.1
theorem FiW.st{y:Ck.Fi}(h:FiW w v y)(hs:lJ t w w')(h1:35≠t)(h2:9≠t)(h3:3≠t):FiW w' v y:=by obtain⟨vs,a,c,e,h⟩:=h;exact⟨vs,a,c,e,oN h hs h1 h2 h3⟩
theorem FiW.below{y:Ck.Fi}(h:FiW w v y)(hb:bG w w'):FiW w' v y:=h.st (t:=4) (lJ.below hb) bO bO bO
def zFi:Value:=.agg #[.slice none 0 0,.slice none 0 0,.int .i64 0]
theorem zeroFi(w:World):(zeroValue 102).run prog w=.ok zFi w:=by kernel_rfl
def vD(w:World)(m:Nat)(v:Value)(l:List Mo):Prop:=
 ∃(a:Option Addr) (b off cap:Nat),v=.slice a l.length cap/\(0<l.length->a=some ⟨b,off,none⟩)/\l.length<=9223372036854775807/\
  ∀i x,l[i]?=some x->∃vi vv vf,w.cell? ⟨b,off+i*4,none⟩=some (.string x.name)/\w.cell? ⟨b,off+i*4+1,none⟩=some vi/\w.cell? ⟨b,off+i*4+2,none⟩=some vv/\w.cell? ⟨b,off+i*4+3,none⟩=some vf/\iY w m (.agg #[.string x.name,vi,vv,vf]) x/\yR w vi vf
theorem vD.mos(h:vD w m v l):nD w m v l:=by obtain⟨a,b,off,cap,e,h0,hl,h1⟩:=h;refine⟨a,b,off,cap,e,h0,hl,λi x hx=>?_⟩;obtain⟨vi,vv,vf,g0,g1,g2,g3,hm,_⟩:=h1 i x hx;exact⟨vi,vv,vf,g0,g1,g2,g3,hm⟩
theorem vD.below(h:vD w m v l)(hb:bG w w'):vD w' m v l:=by obtain⟨a,b,off,cap,e,h0,hl,h1⟩:=h;refine⟨a,b,off,cap,e,h0,hl,λi x hx=>?_⟩;obtain⟨vi,vv,vf,g0,g1,g2,g3,hm,hc⟩:=h1 i x hx;exact⟨vi,vv,vf,aD g0 hb,aD g1 hb,aD g2 hb,aD g3 hb,hm.below hb,hc.below hb⟩
namespace Ck
def cntF(l:List Mo)(fo:ByteArray->Option Value):Nat:=(l.filter λx=>(fo x.name).isSome).length
theorem cntF_put(hx:x∈l)(hn:fo x.name=none)(v:Value):cntF l fo+1<=cntF l (jk fo x.name v):=by
 refine V6 (p:=λy=>(fo y.name).isSome) (q:=λy=>(jk fo x.name v y.name).isSome) (λy _ hy=>?_) hx (by rw[hn];rfl) (by simp[jk,dA]);simp only[jk];split;·rfl
 ·exact hy
theorem cntF_le(l:List Mo)(fo:aY->Option Value):cntF l fo<=l.length:=GZ _ _
theorem oh(h:jU E m l=0):E=0/\l.length<=6/\(∀x∈l,sI m x=0)/\cnt l l.length=l.length:=by
 unfold jU at h;by_cases h0:E=0
 ·rw[aJ (by simp[h0])]at h;by_cases h1:6<l.length;·rw[aL h1]at h;cases h
  ·rw[aJ h1]at h;by_cases h2:BF m l=0
   ·rw[aJ (by simp[h2])]at h;by_cases h3:cnt l l.length<l.length;·rw[aL h3]at h;cases h
    ·have:=M0 l l.length;refine⟨h0,by omega,λx hx=>?_,by omega⟩;clear h h1 h3 this;induction l with
     | nil=>cases hx
     | cons y r ih=>
      unfold BF at h2;by_cases hy:sI m y=0
      ·rw[aL hy]at h2;rcases fK.1 hx with rfl|hx;·exact hy
       ·exact ih h2 hx
      ·rw[aJ hy]at h2;exact aM h2 hy
   ·rw[aL h2]at h;exact aM h h2
 ·rw[aL h0]at h;exact aM h h0
structure YM(U ss:List ByteArray)(l:List Mo):Prop where
 var:∀x∈l,∀v∈x.vars,Fl.deed ⟨#[114,58]⟩ x.name v.name∈U/\Fl.deed ⟨#[119,58]⟩ x.name v.name∈U
 mX:∀s∈ss,(⟨#[112,58]⟩++s:ByteArray)∈U
 len:U.length<=1048576
 size:∀t∈U,t.size<=maxLen
theorem NH{F:aY->Fi}(hU:YM U ss l)(hx:x∈l)(hF:∀s,∀y∈(F s).1,TT U y):UOk U ss x (Cj l F x) where
 dW:=λr hr y hy t ht=>by
  unfold Cj at hr
  obtain⟨z,_,rfl⟩:=jP.1 hr
  unfold sc1 at hy
  split at hy
  ·exact(hF _ y hy).1 t ht
  ·obtain⟨f,_,rfl⟩:=jP.1 hy
   simp[un]at ht
 var:=hU.var x hx
 mX:=hU.mX
 len:=hU.len
 size:=hU.size
theorem V8{F:aY->Fi}(hl:U.length<=1048576)(hF:∀s,∀y∈(F s).1,TT U y):∀r∈Cj l F x,∀y∈r,y.gY.length<=1048576:=λr hr y hy=>by
 unfold Cj at hr;obtain⟨z,_,rfl⟩:=jP.1 hr;unfold sc1 at hy;split at hy;·exact bF (hF _ y hy).2 hl
 ·obtain⟨f,_,rfl⟩:=jP.1 hy;simp[un]
theorem Ue{c:Cx}(hU:YM U c.ss c.l):∀(g:Nat) (s:aY),∀y∈(fd c g s).1,TT U y
 | 0,_,_,hy=>by cases hy
 | g+1,s,y,hy=>by
  rw[fd]at hy;cases hi:dI c.l s with
  | none=>rw[hi]at hy;cases hy
  | some i=>
   obtain⟨x,hx,_⟩:=iM hi;rw[hi]at hy;simp only[hx]at hy;unfold QC at hy;split at hy;·cases hy
   ·split at hy;·cases hy
    ·split at hy;·cases hy
     ·exact ans_efs (NH hU (eT hx) (Ue hU g)) y hy
end Ck
structure QIn(w0:World)(c:Cx)(vn vl vk:Value)(b1 b2:Nat)(U:List ByteArray):Prop where
 strs:Strs w0 vn c.ss
 NS:Fg w0 vl c.G c.L c.Z
 mks:vD w0 c.m vk c.l
 form:jU (bX c.ss c.G c.L c.Z) c.m c.l=0
 small:∀x∈c.l,vF c.m x<=1048576
 tab:Tab w0
 q1:w0.heap.size<=b1
 q2:w0.heap.size<=b2
 ne:b1≠b2
 uni:YM U c.ss c.l
structure IK(w0:World)(c:Cx)(b1 b2:Nat)(w:World)(fo:ByteArray->Option Value):Prop where
 base:Below w0.heap.size w0 w
 fst:mV w b1 1048576 (.int .i64 0) (Ck.fi c.l)
 AA:mV w b2 (Ck.cntF c.l fo) zFi fo
 fin:∀s v,fo s=some v->FiW w v (FD c s)
section
variable {w0 w w' : World} {c : Ck.Cx} {b1 b2 : Nat} {fo : ByteArray → Option Value}
theorem IK.below(h:IK w0 c b1 b2 w fo)(hb:bG w w'):IK w0 c b1 b2 w' fo:=
 ⟨up h.base hb,h.fst.zZ hb,h.AA.zZ hb,λs v hs=>(h.fin s v hs).below hb⟩
theorem IK.lt(h:IK w0 c b1 b2 w fo):b2<w.heap.size:=h.AA.lt
theorem IK.grown{t:TypeId}{r:Option Nat}(h:IK w0 c b1 b2 w fo)(hg:w.grownBy w' r)(hr:∀k,r=some k->w0.heap.size<=k/\∃cur,w.heap[k]?=some (.cells cur t (0,0)))(h1:35≠t)(h2:9≠t)(h3:3≠t):IK w0 c b1 b2 w' fo:=by
 have hm:∀b n z o,mV w b n z o->some b≠r:=λb n z o hb e=>by obtain⟨es,cl,q⟩:=hb.isMap;obtain⟨_,cur,q'⟩:=hr b e.symm;rw[q]at q';cases q'
 exact⟨Below.grown h.base hg h.base.size (λk e=>(hr k e).1),h.fst.kept hg (hm _ _ _ _ h.fst),h.AA.kept hg (hm _ _ _ _ h.AA),λs v hs=>(h.fin s v hs).st (lJ.grown hg λk e=>(hr k e).2) h1 h2 h3⟩
end
def Ck.blD(B:List Dg × Int):List Dg:=if B.2≠0 then []else bJ.once B.1
def V9(w0:World)(c:Cx)(b1 b2:Nat)(w w':World):Prop:=∃Fe,IK w0 c b1 b2 w' Fe/\But b2 w w'
theorem imp8(h:sI m y=0):y.imports.length<=8:=by
 unfold sI at h;by_cases h8:8<y.imports.length\/8<y.vars.length\/8<y.bg.length;·rw[aL h8]at h;cases h
 ·omega
def YN(w0:World)(c:Cx)(vn vl vk:Value)(b1 b2:Nat)(g:Nat):Prop:=∀(w:World) (fo:ByteArray->Option Value) (s:ByteArray),IK w0 c b1 b2 w fo->(dI c.l s).isSome=true->Ck.rk c.l s<g->s.size<=maxLen->
 Calls prog 41 #[.agg #[vn,vl,vk,.map (some b1),.map (some b2)],.string s] w λe w'=>∃v,e=.returned v/\Hid (V9 w0 c b1 b2 w w'/\FiW w' v (FD c s)/\(fo s=none->FiD w' v (FD c s)))
theorem QIn.forms{c:Cx}(h:QIn w0 c vn vl vk b1 b2 U):(∃a n c,vn=Y a n c)/\(∃a n c,vl=Y a n c)/\∃a n c,vk=Y a n c:=by obtain⟨a0,_,_,c0,e0,_⟩:=h.strs;obtain⟨a1,_,_,c1,_,_,_,_,e1,_⟩:=h.NS;obtain⟨a2,_,_,c2,e2,_⟩:=h.mks;exact⟨⟨_,_,_,e0⟩,⟨_,_,_,e1⟩,⟨_,_,_,e2⟩⟩
theorem Ck.bl_step{F:aY->Ck.Fi}(hs:r[j]?=some s)(acc:List Dg):Ck.bl l F (r.drop j) acc=if (dI l s).isSome=false then Ck.bl l F (r.drop (j+1)) acc else if (F s).2.2≠0 then ([],(F s).2.2)else Ck.bl l F (r.drop (j+1)) (if (F s).2.1≠[]then acc++[⟨7,⟨#[]⟩,s⟩]else acc):=by obtain⟨hj,e⟩:=dK.1 hs;rw[U5 hj,e,Ck.bl]
theorem YO(w0 w:World)(c:Cx)(vn vl vk:Value)(b1 b2:Nat)(U:List aY)(fo:aY->Option Value)(g i:Nat)(x:Mo)(vi vv vf:Value)(hQ:QIn w0 c vn vl vk b1 b2 U)(hA:IK w0 c b1 b2 w fo)(hO:YN w0 c vn vl vk b1 b2 g)(hi:dI c.l x.name=some i)(hx:c.l[i]?=some x)(hM:iY w0 c.m (.agg #[A x.name,vi,vv,vf]) x)(hr:¬Ck.sH c.l x.name x.name)(hg:Ck.rk c.l x.name<=g):Calls prog 128 #[.agg #[vn,vl,vk,.map (some b1),.map (some b2)],.agg #[A x.name,vi,vv,vf]] w λe w'=>∃u,e=dz (.tuple #[u,O (Ck.bl c.l (FD c) x.imports []).2])/\Hid (V9 w0 c b1 b2 w w'/\jf w' u (blD (Ck.bl c.l (FD c) x.imports []))):=by
 obtain⟨⟨a0,n0,c0,rfl⟩,⟨a1,n1,c1,rfl⟩,⟨a2,n2,c2,rfl⟩⟩:=hQ.forms;have HO:=I hO;have HIMP:Hid (∀b,b∈x.imports->(dI c.l b).isSome=true->Ck.rk c.l b<g):=I (λb hb hs=>uj (NG hr ⟨i,x,hi,hx,hb,hs⟩) hg);have HIL:Hid (x.imports.length<=8):=I (imp8 ((oh hQ.form).2.2.1 x (eT hx)));obtain⟨hI,hV,hF⟩:=hM.split;obtain⟨ia,ib,io,ic,rfl,hia,-,hiz,hic⟩:=hI;obtain⟨a3,b3,o3,c3,rfl,-⟩:=hV;obtain⟨a4,b4,o4,c4,rfl,-⟩:=hF;obtain⟨HIA,HIZ,HIC⟩:=fD hia hiz hic;obtain⟨ni,hni⟩:∃n,n=x.imports.length:=⟨_,rfl⟩;have I4:=I hni;rw[<-hni]at HIA HIC HIL ⊢;generalize x.vars.length=n3 at *;generalize x.bg.length=n4 at *;obtain⟨BL,hBL⟩:∃B,B=Ck.bl c.l (FD c) x.imports []:=⟨_,rfl⟩;have Fv:=I hBL;rw[<-hBL];have lX:=I hA.lt;obtain⟨W,hW,k0,k1,hsz,hBW⟩:=wX w (aW #[Y a0 n0 c0,Y a1 n1 c1,Y a2 n2 c2,.map (some b1),.map (some b2)] 99) (aW #[A x.name,Y ia ni ic,Y a3 n3 c3,Y a4 n4 c4] 58);obtain⟨lF,jh,iA,Ri⟩:=lY k0 k1 hBW (hA.below hBW);have zS:Hid (w.heap.size<=W.heap.size):=I hBW.size;obtain⟨-,q1⟩:=iV k1;clear k0 k1 hsz hBW hA hQ hO hM hi hx hr hg hia hiz hic hni hBL;go_enter func128,ntmps128;go_upto_region 2 with fail;rw[<-hW];clear hW;go_wp2_with fail;clear q1;go_loopw[6,15] (λd i wr=>∃(dv:Value) (j:Nat) (acc:List Dg) (Fe:aY->Option Value),dv=d/\j<=ni/\i=O j/\Hid (Ck.bl c.l (FD c) (x.imports.drop j) acc=BL/\acc.length<=j/\eF oW wr W.heap.size 80 3 dv acc/\IK w0 c b1 b2 wr Fe/\But b2 W wr)) (λ_ i _=>ni - (intOf i).toNat);case atStart=>exact⟨_,0,[],fo,rfl,bL _,rfl,I ⟨Fv.out.symm,bE _,eF.nil _ _ _ _,Ri.out,But.refl _ _⟩⟩
 case round=>
  obtain⟨d,j,acc,Fe,rfl,hj,rfl,HR⟩:=hrel;have HKQ:=I (HR.out.2.2.2.2.at (show w.heap.size≠b2 from λe=>by have:=lX.out;omega) lF.out);have hni8:=HIL.out;by_cases hjl:j<ni
  ·obtain⟨s,hs⟩:∃y',x.imports[j]?=some y':=⟨_,bD (by rw[<-I4.out];exact hjl)⟩;have gc:=aD (HIC.out j hjl) HR.out.2.2.2.1.base;rw[List.getD,hs,iw]at gc;obtain rfl:=HIA.out aX;obtain⟨HSZZ,HST,Sd⟩:=fD (HIZ.out s (eT hs)) (bl_step (l:=c.l) (F:=FD c) hs acc) (eT hs);have q3:=aj HKQ.out 3;have LK:=HR.out.2.2.2.1.fst.sw underlying95 AP HSZZ.out;clear hs;cases hmb:dI c.l s with
   | none=>
    have e1:Ck.fi c.l s=none:=by unfold Ck.fi;rw[hmb];rfl
    rw[e1]at LK;simp only[mJ,nQ]at LK;have HST2:Hid (Ck.bl c.l (FD c) (x.imports.drop (j+1)) acc=BL):=I (by have h:=HST.out;rw[aL (by rw[hmb];rfl)]at h;rw[<-h];exact HR.out.1);clear hmb e1;go_wp2_with fail;go_roundw;case rel=>exact⟨_,j+1,acc,Fe,rfl,by omega,by go_num,I ⟨HST2.out,Nat.le_succ_of_le HR.out.2.1,HR.out.2.2.1,HR.out.2.2.2.1,HR.out.2.2.2.2⟩⟩
    case measure=>simp[intOf];omega
   | some k=>
    have e1:Ck.fi c.l s=some (O (k:Nat)):=by unfold Ck.fi;rw[hmb];rfl
    rw[e1]at LK;simp only[iw,nP]at LK;have hsome:(dI c.l s).isSome=true:=by rw[hmb];rfl
    obtain⟨HSO,HOC,QF⟩:=fD hsome (HO.out wr Fe s HR.out.2.2.2.1 hsome (HIMP.out s Sd.out hsome) HSZZ.out) HST.out;rw[aJ (by rw[hsome];simp)]at QF;obtain⟨q0,q1,q2,-,q4⟩:=ZC5 HKQ.out;clear hmb e1 hsome;go_upto_region 7 with fail;go_wp2_with fail;refine HOC.out.mono ?_;rintro e w5 ⟨v5,rfl,kR⟩;obtain⟨⟨fo5,hq5,K3⟩,hfi5,-⟩:=kR.out;obtain⟨vs5,d5a,d5c,rfl,hos5⟩:=hfi5;obtain⟨s5a,s5c,hvs5⟩:=hos5.form;generalize (FD c s).1.length=s5n at hvs5;subst hvs5;obtain⟨E5,hE5⟩:∃e,e=(FD c s).2.2:=⟨_,rfl⟩;obtain⟨n5,Kg⟩:∃n,n=(FD c s).2.1.length:=⟨_,rfl⟩;obtain⟨Td,Cg⟩:=bU hE5 Kg;rw[<-hE5,<-Kg];obtain⟨HQ5,Bv⟩:=bU hq5 (HR.out.2.2.2.2.trans K3);have HD5:Hid (eF oW w5 W.heap.size 80 3 d acc):=I (by
     have hm:=HR.out.2.2.2.1.AA.isMap;obtain⟨cs,⟨h0,h1⟩,h2⟩:=HR.out.2.2.1;refine⟨cs,⟨h0,?_⟩,h2⟩;rcases h1 with h1|⟨g',cap',cur',hv',hg',hh',r'⟩;·exact aR h1
     ·exact aV ⟨g',cap',cur',hv',hg',lJ.but (t:=4) K3 hm g' cur' _ hh' bO,r'⟩)
    clear kR hq5 K3 hos5 hE5 Kg q0 q1 q2 q3 q4 gc LK;obtain⟨dQ,Aq⟩:=rZ w5 (aW #[Y s5a s5n s5c,Y d5a n5 d5c,O E5] 102);go_upto_region 8 with fail;generalize w5.alloc (aW #[Y s5a s5n s5c,Y d5a n5 d5c,O E5] 102)=W6 at *;obtain⟨HQ6,xg,HD6⟩:=fD (HQ5.out.below dQ.out) (Bv.out.trans (But.of_below dQ.out)) (HD5.out.below dQ.out);generalize w5.heap.size=FB at *;obtain⟨-,f1,f2⟩:=NY Aq.out;by_cases hE:E5=0
    ·subst hE;rw[aJ (by rw[<-Td.out];simp)]at QF;by_cases hn0:n5=0
     ·subst hn0;have hnil:(FD c s).2.1=[]:=om.1 Cg.out.symm;rw[aJ (by rw[hnil];simp)]at QF;have HST2:Hid (Ck.bl c.l (FD c) (x.imports.drop (j+1)) acc=BL):=I (by rw[<-QF.out];exact HR.out.1);clear hnil;go_wp2_with fail;go_roundw;case rel=>exact⟨_,j+1,acc,fo5,rfl,by omega,by go_num,I ⟨HST2.out,Nat.le_succ_of_le HR.out.2.1,HD6.out,HQ6.out,xg.out⟩⟩
      case measure=>simp[intOf];omega
     ·have hne:(FD c s).2.1≠[]:=λh=>hn0 (by rw[Cg.out,h];rfl);rw[aL hne]at QF;have HST2:Hid (Ck.bl c.l (FD c) (x.imports.drop (j+1)) (acc++[⟨7,⟨#[]⟩,s⟩])=BL):=I (by rw[<-QF.out];exact HR.out.1);have hpos:0<n5:=by omega
      have jG:=I (aH W6 (aW #[O 7,A ⟨#[]⟩,A s] 80));have Ca:Hid (eF oW (W6.alloc (aW #[O 7,A ⟨#[]⟩,A s] 80)) W6.heap.size 80 3 (Y (some (X W6.heap.size 0)) 1 1) [⟨7,⟨#[]⟩,s⟩]):=I (eF.one (c:=[O 7,A ⟨#[]⟩,A s]) W6 80 rfl (by simp[Value.oneCell']) rfl);obtain⟨HD7,HQ7,jm⟩:=fD (HD6.out.below jG.out) (HQ6.out.below jG.out) (xg.out.trans (But.of_below jG.out));clear hne hn0
      go_wp2_with (first
       | (at_builtin;refine fZ (At:=oW) rfl _ _ 59 80 3 40 _ rfl underlying59 oZ bO bO bO W.heap.size d acc rfl HD7.out W6.heap.size (Y (some (X W6.heap.size 0)) 1 1) [⟨7,⟨#[]⟩,s⟩] rfl Ca.out (by have:=HR.out.2.1;simp only[iF];omega) jm.out.size ?_;intro v8 w8 oL iT;have HO8:=I oL;have HG8:=I iT;clear oL iT)
       | fail)
      obtain⟨HQ8,uS⟩:=bU (HQ7.out.grown (t:=80) HG8.out (λk e=>⟨bF (bF Ri.out.base.size (bE _)) (HD7.out.lt k e).1,HD7.out.typ e⟩) bO bO bO) (jm.out.grown HG8.out (λk e=>(HD7.out.lt k e).1));go_roundw;case rel=>exact⟨_,j+1,acc++[⟨7,⟨#[]⟩,s⟩],fo5,rfl,by omega,by go_num,I ⟨HST2.out,by rw[aT,iF];have:=HR.out.2.1;omega,HO8.out,HQ8.out,uS.out⟩⟩
      case measure=>simp[intOf];omega
    ·have hz:=eP hE;rw[aL (by rw[<-Td.out];exact hE),<-Td.out]at QF;have HBE:Hid (BL=([],E5)):=I (by rw[<-HR.out.1];exact QF.out);have HE0:=I hE;clear hE;go_upto_region 9 with fail;clear f1 f2;have f2:=aS ((aj Aq.out 2).trans rfl);refine bS bR bR ?_;repeat(quiet_step (fail))
     refine wpQuiet_nil ?_;intro w7 hw';obtain⟨⟨nq,osq⟩,hw''⟩:=hw';have jG:Hid (bG W6 w7):=I (by rw[hw''];exact bQ W6 nq osq);clear hw'' f2;go_wp2_with fail;refine bV (v:=.tuple #[J,O E5]) (by simp[results,results128,go_sem]) rfl ?_;rw[HBE.out];exact⟨_,rfl,I ⟨⟨fo5,HQ6.out.below jG.out,(But.of_below iA.out).trans (xg.out.trans (But.of_below jG.out))⟩,by rw[show blD ([],E5)=[]from aL HE0.out];exact yg _ _⟩⟩
  ·obtain rfl:j=ni:=by omega
   have HBE:Hid (BL=(acc,0)):=I (by rw[<-HR.out.1,I4.out,List.drop_length];rfl);have HDG:=I (HR.out.2.2.1.F6 (by have:=HR.out.2.1;omega));have HIC':=I (wO wr d acc HDG.out (by have:=HR.out.2.1;omega));obtain⟨da,dc,hdf⟩:=HR.out.2.2.1.form;obtain⟨nd,hnd⟩:∃n,n=acc.length:=⟨_,rfl⟩;rw[<-hnd]at hdf;subst hdf;clear hnd;go_wp2_with fail;refine HIC'.out.mono ?_;rintro e w9 ⟨u9,rfl,RZ,uh⟩;have HU9:=I RZ;obtain⟨a9,b9,o9,c9,rfl,-⟩:=RZ;obtain⟨n9,hn9⟩:∃n,n=(bJ.once acc).length:=⟨_,rfl⟩;rw[<-hn9]at HU9 ⊢;have xX:=I uh;clear uh hn9;go_wp2_with fail;refine bV (v:=.tuple #[Y a9 n9 c9,O 0]) (by simp[results,results128,go_sem]) rfl ?_;rw[HBE.out];exact⟨_,rfl,I ⟨⟨Fe,HR.out.2.2.2.1.below xX.out,(But.of_below iA.out).trans (HR.out.2.2.2.2.trans (But.of_below xX.out))⟩,by rw[show blD (acc,0)=bJ.once acc from aJ dx];exact HU9.out⟩⟩
def KnC(w0:World)(m:Nat)(_:World)(c:List Value)(y:Mo):Prop:=∃vi vv vf,c=[.string y.name,vi,vv,vf]/\iY w0 m (.agg #[.string y.name,vi,vv,vf]) y
def SsC(w:World)(c:List Value)(y:List Sc):Prop:=∃u,c=[u]/\dV Er w 0 35 6 u y
theorem SsC.st{c:List Value}{y:List Sc}(h:SsC w c y)(hs:lJ t w w')(h1:35≠t)(h2:9≠t)(h3:3≠t):SsC w' c y:=by obtain⟨u,e,h⟩:=h;exact⟨u,e,oN h hs h1 h2 h3⟩
theorem infoMoC:(prog.info? 58).map (λi=>(i.zero,i.size,i.bytes))=some (some (.agg #[A ⟨#[]⟩,J,J,J]),4,88):=by kernel_rfl
theorem infoSs:(prog.info? 30).map (λi=>(i.zero,i.size,i.bytes))=some (some (J),1,24):=by kernel_rfl
theorem mos_of(h:dV (KnC w0 m) w n 58 4 v l)(hl:l.length<=9223372036854775807)(hb:bG w0 w):nD w m v l:=by
 cases l with
 | nil =>obtain⟨a,c,e⟩:=h.form;exact⟨a,0,0,c,e,λh0=>aM h0 dx,hl,λi y hy=>aM hy dx⟩
 | cons y0 r =>obtain⟨g,cap,e,_⟩:=h.get (i:=0) (y:=y0) rfl;refine⟨_,g,0,cap,e,λ_=>rfl,hl,λi y hy=>?_⟩;obtain⟨g',cap',e',c,_,hcl,vi,vv,vf,hc,hm⟩:=h.get hy;rw[e]at e';injection e' with e1 e2 e3;injection e1 with e1;injection e1 with e1;subst e1;have q:=λj hj=>hcl j hj;rw[hc]at q;rw[eD];exact⟨vi,vv,vf,q 0 bO,q 1 bO,q 2 bO,q 3 bO,hm.below hb⟩
theorem scss_of{l:List (List Sc)}(h:dV SsC w n 30 1 v l)(hl:l.length<=9223372036854775807)(hz:∀r∈l,r.length<=1048576/\∀y∈r,y.gY.length<=1048576/\∀u∈y.gY,u.size<=maxLen):zR w v l:=by
 cases l with
 | nil =>obtain⟨a,c,e⟩:=h.form;exact⟨a,0,0,c,e,λh0=>aM h0 dx,hl,λi y hy=>aM hy dx⟩
 | cons y0 r =>obtain⟨g,cap,e,_⟩:=h.get (i:=0) (y:=y0) rfl;refine⟨_,g,0,cap,e,λ_=>rfl,hl,λi y hy=>?_⟩;obtain⟨g',cap',e',c,_,hcl,u,hc,hm⟩:=h.get hy;rw[e]at e';injection e' with e1 e2 e3;injection e1 with e1;injection e1 with e1;subst e1;have q:=hcl 0 bO;rw[hc,Nat.mul_one,rY]at q;rw[eD];obtain⟨h1,h2⟩:=hz y (eT hy);exact⟨u,q,NC hm aX (λz hz=>(h2 z hz).2) (λz hz=>(h2 z hz).1)⟩
theorem fieldFi(w:World)(a b:Option Addr)(n n' c c':Nat)(e:Int):(Instr.field 102 (.agg #[Y a n c,Y b n' c',O e]) 0).run prog w=.ok (.agg #[Y a n c,Y b n' c']) w:=by kernel_rfl
theorem fieldAn(w:World)(a b:Option Addr)(n n' c c':Nat):(Instr.field 61 (.agg #[Y a n c,Y b n' c']) 0).run prog w=.ok (Y a n c) w:=by kernel_rfl
namespace Ck
theorem QG(hy:l[j]?=some y)(x:Mo):Jg (l.take (j+1)) x=if dA y.name x.name then Jg (l.take j) x else Jg (l.take j) x++[y]:=by
 unfold Jg;rw[gy,hy,kU,List.filter_append];cases hq:dA y.name x.name with
 | true=>simp[hq]
 | false=>simp[hq]
theorem scs_take(hy:l[j]?=some y)(F:aY->Fi)(x:Mo):Cj (l.take (j+1)) F x=if dA y.name x.name then Cj (l.take j) F x else Cj (l.take j) F x++[sc1 F x y]:=by
 unfold Cj;rw[QG hy];split;·rfl
 ·rw[fQ];rfl
theorem NI(l:List Mo)(x:Mo):(Jg l x).length<=l.length:=GZ _ _
theorem IL(l:List Mo)(F:aY->Fi)(x:Mo):(Cj l F x).length=(Jg l x).length:=dO _
end Ck
theorem oO(h:dV (KnC w0 m) w n 58 4 v l)(hs:lJ t w w')(ht:58≠t):dV (KnC w0 m) w' n 58 4 v l:=
 h.keep (λj cur _ hj=>hs j cur _ hj ht) λ_ _ hc=>hc
theorem qX{l:List (List Sc)}(h:dV SsC w n 30 1 v l)(hs:lJ t w w')(ht:30≠t)(h1:35≠t)(h2:9≠t)(h3:3≠t):dV SsC w' n 30 1 v l:=
 h.keep (λj cur _ hj=>hs j cur _ hj ht) λ_ _ hc=>hc.st hs h1 h2 h3
theorem Uf(w0 w:World)(c:Cx)(vn vl vk:Value)(b1 b2:Nat)(U:List aY)(fo:aY->Option Value)(g i:Nat)(x:Mo)(vi vv vf:Value)(hQ:QIn w0 c vn vl vk b1 b2 U)(hA:IK w0 c b1 b2 w fo)(hO:YN w0 c vn vl vk b1 b2 g)(hi:dI c.l x.name=some i)(hx:c.l[i]?=some x)(hM:iY w0 c.m (.agg #[A x.name,vi,vv,vf]) x)(hr:¬Ck.sH c.l x.name x.name)(hg:Ck.rk c.l x.name<=g):Calls prog 129 #[.agg #[vn,vl,vk,.map (some b1),.map (some b2)],.agg #[A x.name,vi,vv,vf]] w λe w'=>∃ku su,e=dz (.tuple #[ku,su])/\Hid (V9 w0 c b1 b2 w w'/\dV (KnC w0 c.m) w' w.heap.size 58 4 ku (Jg c.l x)/\dV SsC w' w.heap.size 30 1 su (Cj c.l (FD c) x)):=by
 obtain⟨⟨a0,n0,c0,rfl⟩,⟨a1,n1,c1,rfl⟩,-⟩:=hQ.forms;obtain⟨HO,NU⟩:=bU hO (oh hQ.form);have HIMP:Hid (∀b,b∈x.imports->(dI c.l b).isSome=true->Ck.rk c.l b<g):=I (λb hb hs=>uj (NG hr ⟨i,x,hi,hx,hb,hs⟩) hg);obtain⟨hI,hV,hF⟩:=hM.split;have HI:=I hI;obtain⟨ia,ib,io,ic,rfl,-⟩:=hI;obtain⟨a3,b3,o3,c3,rfl,-⟩:=hV;obtain⟨a4,b4,o4,c4,rfl,-⟩:=hF;obtain⟨ni,hni⟩:∃n,n=x.imports.length:=⟨_,rfl⟩;rw[<-hni]at HI ⊢;generalize x.vars.length=n3 at *;generalize x.bg.length=n4 at *;obtain⟨ka,kb,ko,kc,rfl,hka,hkl,hkel⟩:=hQ.mks;obtain⟨HKA,HKEL⟩:=bU hka hkel;obtain⟨nk,hnk⟩:∃n,n=c.l.length:=⟨_,rfl⟩;have I5:=I hnk;rw[<-hnk]at HKA HO ⊢;have sj:Hid (nk<=6):=I (by rw[hnk];exact(oh hQ.form).2.1);have lX:=I hA.lt;obtain⟨W,hW,k0,k1,hsz,hBW⟩:=wX w (aW #[Y a0 n0 c0,Y a1 n1 c1,Y ka nk kc,.map (some b1),.map (some b2)] 99) (aW #[A x.name,Y ia ni ic,Y a3 n3 c3,Y a4 n4 c4] 58);obtain⟨lF,jh,iA,Ri⟩:=lY k0 k1 hBW (hA.below hBW);have NT:Hid (w.heap.size<=W.heap.size):=I hBW.size;have q2:=aj k0 2;clear k0 k1 hsz hBW hA hQ hO hM hi hx hr hg hni hka hkel hkl hnk;go_enter func129,ntmps129;go_upto_region 3 with fail;rw[<-hW];clear hW;go_wp2_with fail;clear q2;go_loopw[6,7,13] (λk s i wr=>∃(kv sv:Value) (j:Nat) (Fe:aY->Option Value),kv=k/\sv=s/\j<=nk/\i=O j/\Hid (dV (KnC w0 c.m) wr W.heap.size 58 4 kv (Jg (c.l.take j) x)/\dV SsC wr W.heap.size 30 1 sv (Cj (c.l.take j) (FD c) x)/\IK w0 c b1 b2 wr Fe/\But b2 W wr)) (λ_ _ i _=>nk - (intOf i).toNat);case atStart=>exact⟨_,_,0,fo,rfl,rfl,bL _,rfl,I ⟨dV.nil _ _ _ _,dV.nil _ _ _ _,Ri.out,But.refl _ _⟩⟩
 case round=>
  obtain⟨kv,sv,j,Fe,rfl,rfl,hj,rfl,HR⟩:=hrel;have hnk6:=sj.out;by_cases hjl:j<nk
  ·obtain⟨y,hy⟩:∃y,c.l[j]?=some y:=⟨_,bD (by rw[<-I5.out];exact hjl)⟩;obtain⟨HYM,HOT,Ug⟩:=fD (eT hy) (QG hy x) (scs_take hy (FD c) x);obtain⟨yi,yv,yf,g0,g1,g2,g3,I6,-⟩:=HKEL.out j y hy;obtain rfl:=HKA.out aX;obtain⟨HMY,HYZ⟩:=bU I6 (M4 I6);obtain⟨hyI,hyV,Y3⟩:=I6.split;have HYF:=I Y3;obtain⟨d1,e1,p1,z1,rfl,-⟩:=hyI;obtain⟨d2,e2,p2,z2,rfl,-⟩:=hyV;obtain⟨d3,e3,p3,z3,rfl,-⟩:=Y3;obtain⟨m1,hm1⟩:∃n,n=y.imports.length:=⟨_,rfl⟩;obtain⟨m2,hm2⟩:∃n,n=y.vars.length:=⟨_,rfl⟩;obtain⟨m3,hm3⟩:∃n,n=y.bg.length:=⟨_,rfl⟩;rw[<-hm1]at g1 HMY;rw[<-hm2]at g2 HMY;rw[<-hm3]at g3 HMY HYF;have hbase:=HR.out.2.2.1.base;replace g0:=aD g0 hbase;replace g1:=aD g1 hbase;replace g2:=aD g2 hbase;replace g3:=aD g3 hbase;have HU8:=I (yc (NU.out.2.2.1 y HYM.out));clear hy I6 hm1 hm2 hm3 hbase;go_upto_region 6 with fail;obtain⟨oP,HKB⟩:=rZ wr (aW #[A y.name,Y d1 m1 z1,Y d2 m2 z2,Y d3 m3 z3] 58);generalize wr.alloc (aW #[A y.name,Y d1 m1 z1,Y d2 m2 z2,Y d3 m3 z3] 58)=W5 at *;obtain⟨HKN5,HSS5,HQ5,Bv⟩:=lY (oO HR.out.1 (lJ.below (t:=4) oP.out) bO) (qX HR.out.2.1 (lJ.below (t:=4) oP.out) bO bO bO bO) (HR.out.2.2.1.below oP.out) (HR.out.2.2.2.trans (But.of_below oP.out));have HMX5:=I (Bv.out.at (show w.heap.size+1≠b2 from λe=>by have:=lX.out;omega) jh.out);have HLTK:Hid (∀k,kv.ownBlock=some k->k<wr.heap.size):=I (λk e=>(HR.out.1.lt k e).2);obtain⟨YB,hYB⟩:∃n,n=wr.heap.size:=⟨_,rfl⟩;rw[<-hYB]at HKB HLTK ⊢;clear hYB g0 g1 g2 g3;have y0:=aj HKB.out 0;have x0:=aj HMX5.out 0;cases hsm:dA y.name x.name with
   | true=>
    have hst:(y.name.toList==x.name.toList)=true:=hsm;rw[hsm,aL rfl]at HOT Ug;clear hsm;go_wp2_with fail;go_roundw;case rel=>exact⟨_,_,j+1,Fe,rfl,rfl,by omega,by go_num,I ⟨by rw[HOT.out];exact HKN5.out,by rw[Ug.out];exact HSS5.out,HQ5.out,Bv.out⟩⟩
    case measure=>simp[intOf];omega
   | false=>
    have hst:(y.name.toList==x.name.toList)=false:=hsm;rw[hsm,aJ dx]at HOT Ug;obtain⟨dQ,Aq⟩:=rZ W5 (aW #[A y.name,Y d1 m1 z1,Y d2 m2 z2,Y d3 m3 z3] 58);obtain⟨-,y1,y2,y3⟩:=Mq HKB.out;obtain⟨YP,HSS6,HQ6,xg,HKB6,HMX6⟩:=vP (oO HKN5.out (lJ.below (t:=4) dQ.out) bO) (qX HSS5.out (lJ.below (t:=4) dQ.out) bO bO bO bO) (HQ5.out.below dQ.out) (Bv.out.trans (But.of_below dQ.out)) (aU HKB.out dQ.out) (aU HMX5.out dQ.out);have HOL:Hid ((Jg (c.l.take j) x).length<=6):=I (bF (NI _ _) (by rw[jB];have:=I5.out;omega));obtain⟨ka6,kc6,hkv⟩:=HKN5.out.form;obtain⟨kn6,hkn6⟩:∃n,n=(Jg (c.l.take j) x).length:=⟨_,rfl⟩;rw[<-hkn6]at hkv;subst hkv;obtain⟨sa6,sc6,hsv⟩:=HSS5.out.form;obtain⟨sn6,hsn6⟩:∃n,n=(Cj (c.l.take j) (FD c) x).length:=⟨_,rfl⟩;rw[<-hsn6]at hsv;subst hsv;have HSL:Hid ((Cj (c.l.take j) (FD c) x).length<=6):=I (by rw[IL];exact HOL.out);clear hsm hkn6 hsn6
    go_upto_region 8 with(first
     | (at_builtin;refine lI (At:=KnC w0 c.m) rfl _ _ 26 58 4 88 _ rfl underlying26 infoMoC bO bO bO W.heap.size (Y ka6 kn6 kc6) (Jg (c.l.take j) x) rfl YP.out W5.heap.size [A y.name,Y d1 m1 z1,Y d2 m2 z2,Y d3 m3 z3] y rfl (λq u hu=>(by rw[aj Aq.out q];simpa only [wm]using hu)) rfl (by simp[Value.oneCell']) ⟨_,_,_,rfl,HMY.out⟩ (by have:=HOL.out;omega) xg.out.size (λ_ _ _ _ h=>h) ?_;intro g7 Yh w7 jg dL;have HK7:=I jg;have HG7:=I dL;clear jg dL)
     | fail)
    have HST7:=I (lJ.grown HG7.out YP.out.typ);obtain⟨HSS7,HQ7,jm⟩:=fD (qX HSS6.out HST7.out bO bO bO bO) (HQ6.out.grown HG7.out (λk e=>⟨bF Ri.out.base.size (YP.out.lt k e).1,YP.out.typ k e⟩) bO bO bO) (xg.out.grown HG7.out (λk e=>(YP.out.lt k e).1));have HKB7:Hid (w7.heap[YB]?=some (aW #[A y.name,Y d1 m1 z1,Y d2 m2 z2,Y d3 m3 z3] 58)):=I (by rw[HG7.out.block YB (bq HKB6.out) (λe=>aM (HLTK.out YB e.symm) (Nat.lt_irrefl _))];exact HKB6.out);have HMX7:Hid (w7.heap[w.heap.size+1]?=some (aW #[A x.name,Y ia ni ic,Y a3 n3 c3,Y a4 n4 c4] 58)):=I (by rw[HG7.out.block (w.heap.size+1) (bq HMX6.out) (λe=>aM (YP.out.lt _ e.symm).1 (by have:=bq jh.out;omega))];exact HMX6.out);have HOTL:Hid ((Jg (c.l.take (j+1)) x)=Jg (c.l.take j) x++[y]):=I HOT.out;rw[<-HOTL.out]at HK7;have HBS7:=I HQ7.out.base;obtain⟨-,i1⟩:=iV HMX7.out;have j0:=aj HKB7.out 0;have KF:=I (jV w7 _ x.imports y.name (HI.out.below HBS7.out));clear x0 y0 y1 y2 y3 hst;go_wp2_with fail;refine KF.out.mono ?_;rintro e w8 ⟨rfl,hw8⟩;subst hw8;cases hin:bJ.Ce x.imports y.name with
    | true=>
     have hdec:decide (0<=dR x.imports y.name)=true:=hin;rw[hdec];have qI:Hid (sc1 (FD c) x y=(FD c y.name).1):=I (by unfold sc1;rw[hin];rfl);rw[qI.out]at Ug;have hsome:=QD HYM.out;obtain⟨HOC,HKQ⟩:=bU (HO.out w8 Fe y.name HQ7.out hsome (HIMP.out _ (V4.1 hin) hsome) HYZ.out) (jm.out.at (show w.heap.size≠b2 from λe=>by have:=lX.out;omega) lF.out);obtain⟨r0,r1,r2,r3,r4⟩:=ZC5 HKQ.out;clear hin hdec hsome;go_wp2_with fail;refine HOC.out.mono ?_;rintro e w9 ⟨v9,rfl,H7⟩;obtain⟨⟨fo9,hq9,Wd⟩,hfi9,-⟩:=H7.out;obtain⟨vs9,d9a,d9c,rfl,Uh⟩:=hfi9;have HOS9:=I Uh;obtain⟨s9a,s9c,hvs9⟩:=Uh.form;obtain⟨s9n,hs9n⟩:∃n,n=(FD c y.name).1.length:=⟨_,rfl⟩;rw[<-hs9n]at hvs9;subst hvs9;obtain⟨E9,hE9⟩:∃e,e=(FD c y.name).2.2:=⟨_,rfl⟩;obtain⟨n9,hn9⟩:∃n,n=(FD c y.name).2.1.length:=⟨_,rfl⟩;rw[<-hE9,<-hn9];have hmap:=HQ7.out.AA.isMap;obtain⟨HKN9,HSS9,HQ9,zU⟩:=lY (oO HK7.out (lJ.but (t:=4) Wd hmap) bO) (qX HSS7.out (lJ.but (t:=4) Wd hmap) bO bO bO bO) hq9 (jm.out.trans Wd);obtain⟨hf1,hf2⟩:=eY fieldFi fieldAn;clear H7 hq9 Wd Uh hE9 hn9 hs9n hmap r0 r1 r2 r3 r4 i1 j0;obtain⟨dQ,Aq⟩:=rZ w9 (aW #[Y s9a s9n s9c] 30);obtain⟨HKN10,tT,HQ10,QH,HOS10⟩:=rO (oO HKN9.out (lJ.below (t:=4) dQ.out) bO) (qX HSS9.out (lJ.below (t:=4) dQ.out) bO bO bO bO) (HQ9.out.below dQ.out) (zU.out.trans (But.of_below dQ.out)) (oN HOS9.out (lJ.below (t:=4) dQ.out) bO bO bO)
     go_wp2_with (first
      | (at_builtin;refine lI (At:=SsC) rfl _ _ 122 30 1 24 _ rfl underlying122 infoSs bO bO bO W.heap.size (Y sa6 sn6 sc6) (Cj (c.l.take j) (FD c) x) rfl tT.out w9.heap.size [Y s9a s9n s9c] (FD c y.name).1 rfl (λq u hu=>(by rw[aj Aq.out q];simpa only [wm]using hu)) rfl (by simp[Value.oneCell']) ⟨_,rfl,HOS10.out⟩ (by have:=HSL.out;omega) QH.out.size (λw' cc yy hg hc=>hc.st (lJ.grown hg tT.out.typ) bO bO bO) ?_;intro g11 cap11 w11 IQ BX;have HS11:=I IQ;have Ui:=I BX;clear IQ BX)
      | fail)
     have HST11:=I (lJ.grown Ui.out tT.out.typ);obtain⟨kV,HQ11,HBU11⟩:=fD (oO HKN10.out HST11.out bO) (HQ10.out.grown Ui.out (λk e=>⟨bF Ri.out.base.size (tT.out.lt k e).1,tT.out.typ k e⟩) bO bO bO) (QH.out.grown Ui.out (λk e=>(tT.out.lt k e).1));go_roundw;case rel=>exact⟨_,_,j+1,fo9,rfl,rfl,by omega,by go_num,I ⟨kV.out,by rw[Ug.out];exact HS11.out,HQ11.out,HBU11.out⟩⟩
     case measure=>simp[intOf];omega
    | false=>
     have hdec:decide (0<=dR x.imports y.name)=false:=hin;rw[hdec];have qI:Hid (sc1 (FD c) x y=y.bg.map Ck.un):=I (by unfold sc1;rw[hin];rfl);rw[qI.out]at Ug;have j3:=aj HKB7.out 3;have HUC:=I (Ud c.m w8 _ y.bg (HYF.out.below HBS7.out) HU8.out.1 HU8.out.2);clear hin hdec;go_wp2_with fail;refine HUC.out.mono ?_;rintro e w9 ⟨u9,rfl,H7⟩;obtain⟨Uh,uh⟩:=H7.out;have HOS9:=I (Uh.old (bL _));obtain⟨s9a,s9c,hvs9⟩:=Uh.form;obtain⟨s9n,hs9n⟩:∃n,n=(y.bg.map Ck.un).length:=⟨_,rfl⟩;rw[<-hs9n]at hvs9;subst hvs9;obtain⟨HKN9,HSS9,HQ9,zU⟩:=lY (oO HK7.out (lJ.below (t:=4) uh) bO) (qX HSS7.out (lJ.below (t:=4) uh) bO bO bO bO) (HQ7.out.below uh) (jm.out.trans (But.of_below uh));clear H7 uh Uh hs9n i1 j0 j3;obtain⟨dQ,Aq⟩:=rZ w9 (aW #[Y s9a s9n s9c] 30);obtain⟨HKN10,tT,HQ10,QH,HOS10⟩:=rO (oO HKN9.out (lJ.below (t:=4) dQ.out) bO) (qX HSS9.out (lJ.below (t:=4) dQ.out) bO bO bO bO) (HQ9.out.below dQ.out) (zU.out.trans (But.of_below dQ.out)) (oN HOS9.out (lJ.below (t:=4) dQ.out) bO bO bO)
     go_wp2_with (first
      | (at_builtin;refine lI (At:=SsC) rfl _ _ 122 30 1 24 _ rfl underlying122 infoSs bO bO bO W.heap.size (Y sa6 sn6 sc6) (Cj (c.l.take j) (FD c) x) rfl tT.out w9.heap.size [Y s9a s9n s9c] (y.bg.map Ck.un) rfl (λq u hu=>(by rw[aj Aq.out q];simpa only [wm]using hu)) rfl (by simp[Value.oneCell']) ⟨_,rfl,HOS10.out⟩ (by have:=HSL.out;omega) QH.out.size (λw' cc yy hg hc=>hc.st (lJ.grown hg tT.out.typ) bO bO bO) ?_;intro g11 cap11 w11 IQ BX;have HS11:=I IQ;have Ui:=I BX;clear IQ BX)
      | fail)
     have HST11:=I (lJ.grown Ui.out tT.out.typ);obtain⟨kV,HQ11,HBU11⟩:=fD (oO HKN10.out HST11.out bO) (HQ10.out.grown Ui.out (λk e=>⟨bF Ri.out.base.size (tT.out.lt k e).1,tT.out.typ k e⟩) bO bO bO) (QH.out.grown Ui.out (λk e=>(tT.out.lt k e).1));go_roundw;case rel=>exact⟨_,_,j+1,Fe,rfl,rfl,by omega,by go_num,I ⟨kV.out,by rw[Ug.out];exact HS11.out,HQ11.out,HBU11.out⟩⟩
     case measure=>simp[intOf];omega
  ·obtain rfl:j=nk:=by omega
   have EJ:Hid (c.l.take j=c.l):=I (by rw[I5.out,jC]);have HRR:=I HR.out;rw[EJ.out]at HRR;go_wp2_with fail;refine bV (v:=.tuple #[kv,sv]) (by simp[results,results129,go_sem]) rfl ?_;exact⟨_,_,rfl,I ⟨⟨Fe,HRR.out.2.2.1,(But.of_below iA.out).trans HRR.out.2.2.2⟩,HRR.out.1.old NT.out,HRR.out.2.1.old NT.out⟩⟩
theorem IU(h:W.heap[B]?=some (.cells #[r0,r1,r2] t (0,0)))(c0 c1 c2:Value):(((W.setCell (X B 0) c0).setCell (X B 1) c1).setCell (X B 2) c2).heap[B]?=some (.cells #[c0,c1,c2] t (0,0)):=by rw[aO (aO (aO h 0 c0) 1 c1) 2 c2];rfl
theorem QI(h:Below n w W)(hB:n<=B)(c0 c1 c2:Value):Below n w (((W.setCell (X B 0) c0).setCell (X B 1) c1).setCell (X B 2) c2):=
 ((h.setCell (p:=(X B 0)) hB c0).setCell (p:=(X B 1)) hB c1).setCell (p:=(X B 2)) hB c2
theorem nW(h:But p w W)(hB:w.heap.size<=B)(c0 c1 c2:Value):But p w (((W.setCell (X B 0) c0).setCell (X B 1) c1).setCell (X B 2) c2):=
 ((h.set (a:=(X B 0)) (aV hB) c0).set (a:=(X B 1)) (aV hB) c1).set (a:=(X B 2)) (aV hB) c2
theorem lJ.set(h:W.heap[B]?=some (.cells cs t (0,0)))(v:Value):lJ t W (W.setCell (X B i) v):=λj cs' u hj hu=>bI hj (λe=>by subst e;rw[h]at hj;simp at hj;exact hu hj.2.symm) v
theorem lJ.trans{a b c:World}(h:lJ t a b)(k:lJ t b c):lJ t a c:=λj cs u hj hu=>k j cs u (h j cs u hj hu) hu
theorem xI(h:W.heap[B]?=some (.cells #[r0,r1,r2] t (0,0)))(c0 c1 c2:Value):lJ t W (((W.setCell (X B 0) c0).setCell (X B 1) c1).setCell (X B 2) c2):=
 (lJ.set h c0).trans ((lJ.set (aO h 0 c0) c1).trans (lJ.set (aO (aO h 0 c0) 1 c1) c2))
theorem IK.Uj{c:Cx}(h:IK w0 c b1 b2 W fo)(hk:W.heap[B]?=some (aW #[r0,r1,r2] 102))(hB:w0.heap.size<=B)(c0 c1 c2:Value):IK w0 c b1 b2 (((W.setCell (X B 0) c0).setCell (X B 1) c1).setCell (X B 2) c2) fo:=by
 have hm:∀b n z o,mV W b n z o->(((W.setCell (X B 0) c0).setCell (X B 1) c1).setCell (X B 2) c2).heap[b]?=W.heap[b]?:=λb n z o hb=>by
  obtain⟨es,cl,q⟩:=hb.isMap;have hne:b≠B:=λe=>by subst e;rw[hk]at q;cases q
  rw[q];exact bI (bI (bI q hne _) hne _) hne _
 exact⟨QI h.base hB c0 c1 c2,h.fst.same (hm _ _ _ _ h.fst),h.AA.same (hm _ _ _ _ h.AA),λs v hs=>(h.fin s v hs).st (xI hk c0 c1 c2) bO bO bO⟩
theorem jf.cells{l:List Dg}(h:jf w v l)(hs:Sub w w'):jf w' v l:=by obtain⟨a,b,off,cap,e,h0,hl,h1⟩:=h;refine⟨a,b,off,cap,e,h0,hl,λi d hd=>?_⟩;obtain⟨g0,g1,g2⟩:=h1 i d hd;exact⟨hs _ _ g0,hs _ _ g1,hs _ _ g2⟩
theorem tV{l:List Dg}{a b:Option Addr}{k:Nat}(h:jf W v l)(hk:W.heap[B]?=some (aW #[Y a n k,Y b n' k',O e] 102))(c0 c1 c2:Value):jf (((W.setCell (X B 0) c0).setCell (X B 1) c1).setCell (X B 2) c2) v l:=by
 obtain⟨a',b',off,cap,e',h0,hl,h1⟩:=h;refine⟨a',b',off,cap,e',h0,hl,λi d hd=>?_⟩;obtain⟨g0,g1,g2⟩:=h1 i d hd;have hne:b'≠B:=λe=>by
  subst e;rw[aj hk]at g1;have hlt:off+i*3+1<3:=(Array.getElem?_eq_some_iff.1 g1).1;have:off+i*3+1=1\/off+i*3+1=2:=by omega
  rcases this with h2|h2<;>rw[h2]at g1<;>simp at g1
 have hsub:∀q,W.cell? (X b' q)=(((W.setCell (X B 0) c0).setCell (X B 1) c1).setCell (X B 2) c2).cell? (X b' q):=λq=>by obtain⟨o,ho⟩:∃o,W.heap[b']?=some o:=⟨_,Array.getElem?_eq_getElem (eX _ _ g0)⟩;exact(jJ ((bI (bI (bI ho hne c0) hne c1) hne c2).trans ho.symm)).symm
 rw[<-hsub,<-hsub,<-hsub];exact⟨g0,g1,g2⟩
theorem Ck.fd_len{c:Cx}(h:∀x∈c.l,sI c.m x=0):∀(g:Nat) (s:aY),(Ck.fd c g s).1.length<=8
 | 0,_=>bL _
 | g+1,s=>by
  rw[Ck.fd];cases hi:dI c.l s with
  | none=>exact bL _
  | some i=>
   obtain⟨x,hx,_⟩:=iM hi;simp only[hx];unfold QC;split;·exact bL _
   ·split;·exact bL _
    ·split;·exact bL _
     ·unfold Sm.ans;split;·exact bL _
      ·split;·exact bL _
       ·split;·exact bL _
        ·split;·exact bL _
         ·show(Sm.inf _ _ _ _ _ _ _).1.length<=8;rw[Nz (bE _)];exact(yc (h x (eT hx))).1
theorem Ck.scs_rlen{c:Cx}(h:∀x∈c.l,sI c.m x=0):∀r∈Cj c.l (FD c) x,r.length<=1048576:=λr hr=>by
 unfold Cj at hr;obtain⟨y,hy,rfl⟩:=jP.1 hr;unfold sc1;split;·exact bF (fd_len h _ _) bO
 ·rw[dO];exact bF (yc (h y (List.mem_filter.1 hy).1)).1 bO
theorem YQ{l:List aY}(h:Strs w v l):Strs w.drew v l:=h.below (bP _ _).drew
theorem YR(w0 w:World)(c:Cx)(vn vl vk:Value)(b1 b2:Nat)(U:List aY)(fo:aY->Option Value)(g i:Nat)(x:Mo)(vi vv vf:Value)(hQ:QIn w0 c vn vl vk b1 b2 U)(hA:IK w0 c b1 b2 w fo)(hO:YN w0 c vn vl vk b1 b2 g)(hi:dI c.l x.name=some i)(hx:c.l[i]?=some x)(hM:iY w0 c.m (.agg #[A x.name,vi,vv,vf]) x)(hC:yR w0 vi vf)(hg:Ck.rk c.l x.name<=g):Calls prog 71 #[.agg #[vn,vl,vk,.map (some b1),.map (some b2)],.agg #[A x.name,vi,vv,vf]] w λe w'=>∃v,e=dz v/\Hid (V9 w0 c b1 b2 w w'/\FiW w' v (FD c x.name)/\FiD w' v (FD c x.name)):=by
 obtain⟨HFD,HQ,NU,HMX,HCX,HXM⟩:=vP (V7 hi hx) hQ (oh hQ.form) hM hC (eT hx);have Y4:Hid (∀wx Fe,IK w0 c b1 b2 wx Fe->¬Ck.sH c.l x.name x.name->_):=I (λwx Fe h hr=>YO w0 wx c vn vl vk b1 b2 U Fe g i x vi vv vf hQ h hO hi hx hM hr hg);have HOC:Hid (∀wx Fe,IK w0 c b1 b2 wx Fe->¬Ck.sH c.l x.name x.name->_):=I (λwx Fe h hr=>Uf w0 wx c vn vl vk b1 b2 U Fe g i x vi vv vf hQ h hO hi hx hM hr hg);have Xy:=I (λwx (hb:bG w0 wx)=>KX c.m wx vk c.l x.name (hQ.mks.mos.below hb) (by have:=(oh hQ.form).2.1;omega) (M4 hM) hQ.small);obtain⟨⟨a0,n0,c0,rfl⟩,⟨a1,n1,c1,rfl⟩,⟨a2,n2,c2,rfl⟩⟩:=hQ.forms;obtain⟨hI,hV,hF⟩:=hM.split;obtain⟨ia,ib,io,ic,rfl,-⟩:=hI;obtain⟨a3,b3,o3,c3,rfl,-⟩:=hV;obtain⟨a4,b4,o4,c4,rfl,-⟩:=hF;obtain⟨n3,hn3⟩:=bC x.imports.length;obtain⟨n4,rW⟩:=bC x.vars.length;obtain⟨n5,Kg⟩:=bC x.bg.length;rw[<-hn3]at HMX HCX Y4 HOC ⊢;rw[<-rW]at HMX Y4 HOC ⊢;rw[<-Kg]at HMX HCX Y4 HOC ⊢;obtain⟨aad,hY⟩:=bC (FD c x.name);have HY:=I hY;rw[<-hY];obtain⟨lX,HB0⟩:=bU hA.lt hA.base;obtain⟨W,hW,k0,k1,k2,hsz,hBW⟩:=Za w (aW #[Y a0 n0 c0,Y a1 n1 c1,Y a2 n2 c2,.map (some b1),.map (some b2)] 99) (aW #[A x.name,Y ia n3 ic,Y a3 n4 c3,Y a4 n5 c4] 58) (aW #[J,J,O 0] 102);obtain⟨lF,jh,Fa,iA,Ri⟩:=rO k0 k1 k2 hBW (hA.below hBW);clear k0 k1 k2 hsz hBW hA hO hM hC hi hx hg hn3 rW Kg hY hQ;have HRW:=I (Xy W Ri.base);go_enter func71,ntmps71;go_upto_region 1 with fail;rw[<-hW];clear hW;obtain⟨B,hB⟩:∃B:Bool,(B=true↔Ck.sH c.l x.name x.name):=by
  rcases Classical.em (Ck.sH c.l x.name x.name)with h|h;·exact⟨true,⟨λ_=>h,λ_=>rfl⟩⟩
  ·exact⟨false,⟨λe=>(by cases e),λe=>aM e h⟩⟩
 have HB:=I hB;have yA:Hid (bG W W):=I (bP _ _);have HF:Hid (∀wx,Hid (bG W wx)->wx.cell? (X w.heap.size 2)=some (Y a2 n2 c2)/\wx.cell? (X (w.heap.size+1) 0)=some (A x.name)):=I (λwx h=>⟨(aj (aU lF h) 2).trans rfl,(aj (aU jh h) 0).trans rfl⟩);clear hB;go_cut [17]from 10 (λt wx=>t=.bool B/\Hid (bG W wx));case first=>
  have x2:=HF W yA
  go_region_held3 (λwx=>wx.cell? (X w.heap.size 2)=some (Y a2 n2 c2)/\wx.cell? (X (w.heap.size+1) 0)=some (A x.name))
   ((refine HF _ ?_;repeat(first|exact HW5|exact yA|apply gX|apply qO)))
   (first
    | (go_at_call 20;refine(Xy _ (up Ri.base (gV (by repeat(first|exact yA|apply gX))))).mono ?_;rintro e w5 ⟨u5,rfl,kR⟩;obtain⟨R5,Z9,hst5,hb5⟩:=kR.out;have HRC5:=I Z9;have HST5:=I hst5;obtain⟨s5,t5,q5,r5,rfl,-⟩:=hst5;have HW5:Hid (bG W w5):=I (up (w:=W) (gV (by repeat(first|exact yA|apply gX))) hb5);clear kR Z9 hb5)
    | (go_at_call 14;refine(jV _ _ R5 x.name (by repeat(first|exact HST5|apply YQ))).mono ?_;rintro e w6 ⟨rfl,hw6⟩;subst hw6))
  all_goals
   have hdec:decide (0<=dR R5 x.name)=B:=by
    have h1:(0<=dR R5 x.name)↔B=true:=Fl.tN.trans ((HRC5.2 x.name).trans HB.symm);cases hb:B with
    | true=>exact gq (h1.2 hb)
    | false=>exact gG (λh=>by rw[h1.1 h]at hb;cases hb)
   rw[hdec];clear hdec;go_wp2_with fail;go_meet;exact⟨rfl,by repeat(first|exact HW5|exact yA|apply gX|apply qO)⟩
 case rest=>
  obtain⟨rfl,hcc⟩:=hcut;have HBC1:=I hcc.out;obtain⟨HA1,nC,kV,HK21,HW1⟩:=rO (Ri.below HBC1) (aU lF HBC1) (aU jh HBC1) (aU Fa HBC1) (up iA HBC1);have HWB:Hid (w0.heap.size<=w.heap.size+1+1):=I (by have:=HB0.size;omega);clear hcc;cases hb:B with
  | true =>have HR:=I (HB.1 hb);have HYE:Hid (aad=([],[⟨8,⟨#[]⟩,x.name⟩],0)):=I (by rw[HY,HFD];unfold QC;rw[aL HR.out]);have m0:=aj kV 0;have dQ:=I (aH wc (aW #[O 8,A ⟨#[]⟩,A x.name] 80));have HD:Hid (jf (wc.alloc (aW #[O 8,A ⟨#[]⟩,A x.name] 80)) (Y (some (X wc.heap.size 0)) 1 1) [⟨8,⟨#[]⟩,x.name⟩]):=I ((eF.one (At:=oW) (c:=[O 8,A ⟨#[]⟩,A x.name]) (y:=⟨8,⟨#[]⟩,x.name⟩) wc 80 rfl (by simp[Value.oneCell']) rfl).F6 dx);obtain⟨Uk,HA2,HW2⟩:=fD (aU HK21 dQ) (HA1.below dQ) (up HW1 dQ);obtain⟨r0,r1,r2⟩:=NY Uk;obtain⟨z0,z1,z2⟩:=l9 (aG Uk 0) (aG Uk 1) (aG Uk 2);clear hb;go_wp2_with fail;generalize wc.alloc (aW #[O 8,A ⟨#[]⟩,A x.name] 80)=W2 at *;have hs:=IU Uk (J) (Y (some (X wc.heap.size 0)) 1 1) (O 0);obtain⟨f0,f1,f2⟩:=NY hs;refine bV (v:=.agg #[J,Y (some (X wc.heap.size 0)) 1 1,O 0]) (by simp[results,results71,go_sem,f0,f1,f2]) rfl ?_;rw[HYE];exact⟨_,rfl,I ⟨⟨fo,HA2.Uj Uk HWB _ _ _,nW (But.of_below HW2) (bF (dF _) (dF _)) _ _ _⟩,⟨_,_,_,rfl,dV.nil _ _ _ _⟩,⟨_,_,rfl,tV HD Uk _ _ _⟩⟩⟩
  | false=>
   have HNR:Hid (¬Ck.sH c.l x.name x.name):=I (λh=>by rw[HB.2 h]at hb;cases hb);have HYF:Hid (aad=if (Ck.bl c.l (FD c) x.imports []).2≠0 then ([],[],(Ck.bl c.l (FD c) x.imports []).2)else if bJ.once (Ck.bl c.l (FD c) x.imports []).1≠[]then ([],bJ.once (Ck.bl c.l (FD c) x.imports []).1,0)else Sm.ans c.ss c.G c.L c.Z c.m x (Jg c.l x) (Cj c.l (FD c) x)):=I (by rw[HY,HFD];unfold QC;rw[aJ HNR.out]);have HBW1:=I (Y4 wc fo HA1 HNR);obtain⟨BL,hBL⟩:=bC (Ck.bl c.l (FD c) x.imports []);rw[<-hBL]at HYF HBW1;obtain⟨p0,p1,p2,p3,p4⟩:=ZC5 nC;obtain⟨m0,m1,m2,m3⟩:=Mq kV;clear hb hBL;go_wp2_with fail;refine HBW1.mono ?_;rintro e w3 ⟨u3,rfl,hh3⟩;obtain⟨⟨fo3,hq3,QJ⟩,hd3⟩:=hh3.out;obtain⟨HQ3,HBU3⟩:=bU hq3 ((But.of_below HW1).trans QJ);have hne0:w.heap.size≠b2:=λe=>by have:=lX.out;omega
   have hne1:w.heap.size+1≠b2:=λe=>by have:=lX.out;omega
   have hne2:w.heap.size+1+1≠b2:=λe=>by have:=lX.out;omega
   obtain⟨Yp,HK13,Ai,og,HD3⟩:=rO (QJ.at hne0 nC) (QJ.at hne1 kV) (QJ.at hne2 HK21) (And.intro hne0 (And.intro hne1 hne2)) hd3;obtain⟨ua,ub,uo,uc,rfl,-⟩:=hd3;obtain⟨un,hun⟩:=bC ((blD BL).length);rw[<-hun]at HD3 ⊢;have HUN:=I hun;clear hh3 hq3 QJ hne0 hne1 hne2 hun p0 p1 p2 p3 p4 m0 m1 m2 m3;obtain⟨E3,hE3⟩:=bC BL.2;have WI:=I hE3;rw[<-hE3];clear hE3;by_cases hE:E3=0
   ·subst hE;have PI:Hid (blD BL=bJ.once BL.1):=I (aJ (by rw[<-WI];simp));rw[aJ (by rw[<-WI];simp)]at HYF;by_cases hn0:un=0;·subst hn0;have hnil:bJ.once BL.1=[]:=om.1 (by rw[<-PI];exact HUN.symm);rw[aJ (by rw[hnil];simp)]at HYF;obtain⟨p0,p1,p2,p3,p4⟩:=ZC5 Yp;obtain⟨m0,m1,m2,m3⟩:=Mq HK13;have HOW3:=I (HOC w3 fo3 HQ3 HNR);clear hnil;go_wp2_with fail;refine HOW3.mono ?_;rintro e w4 ⟨ku,su,rfl,hh4⟩;obtain⟨⟨fo4,hq4,QK⟩,hk4,hs4⟩:=hh4.out;obtain⟨HQ4,HBU4,HK04,Yq,HK24⟩:=rO hq4 (HBU3.trans QK) (QK.at og.1 Yp) (QK.at og.2.1 HK13) (QK.at og.2.2 Ai);have HEF:Hid (∀s,∀y∈(FD c s).1,TT U y):=I (λs y hy=>Ue HQ.uni _ s y hy);have HOM:Hid (∀y∈Jg c.l x,y∈c.l):=I (λy hy=>(List.mem_filter.1 hy).1);have HSL:Hid (∀r∈Cj c.l (FD c) x,r.length<=1048576/\∀y∈r,y.gY.length<=1048576/\∀u∈y.gY,u.size<=maxLen):=I (λr hr=>⟨scs_rlen NU.2.2.1 r hr,λy hy=>⟨V8 HQ.uni.len HEF r hr y hy,λu hu=>HQ.uni.size u ((NH HQ.uni HXM HEF).dW r hr y hy u hu)⟩⟩);have HPRE:Hid (lZ w4 c.m (Y a0 n0 c0) (Y a1 n1 c1) (Y ia n3 ic) (Y a3 n4 c3) (Y a4 n5 c4) ku su (J) c.ss c.G c.L c.Z x (Jg c.l x) (Cj c.l (FD c) x) []):=I (by have hb:=hq4.base;exact⟨HQ.strs.below hb,HQ.NS.below hb,HMX.below hb,HCX.below hb,mos_of hk4 (by have h1:=NI c.l x;have h2:=NU.2.1;omega) hb,scss_of hs4 (by rw[IL];have h1:=NI c.l x;have h2:=NU.2.1;omega) HSL,⟨none,0,0,0,rfl,λh=>aM h dx,by simp,λi y hy=>by simp at hy⟩,HQ.small x HXM,λy hy=>HQ.small y (HOM y hy),HQ.tab.below hb,V8 HQ.uni.len HEF,λy hy=>by cases hy⟩);have YH:=I (YG c.m w4 _ _ _ _ _ _ _ c.ss c.G c.L c.Z x (Jg c.l x) (Cj c.l (FD c) x) U HPRE (NH HQ.uni HXM HEF));rw[<-HYF]at YH;obtain⟨ka4,kc4,hkf⟩:=hk4.form;obtain⟨sa4,sc4,hsf⟩:=hs4.form;generalize (Jg c.l x).length=kn4 at hkf;generalize (Cj c.l (FD c) x).length=sn4 at hsf;subst hkf hsf;clear hh4 hq4 QK hk4 hs4 p0 p1 p2 p3 p4 m0 m1 m2 m3;obtain⟨l0,l1⟩:=iV HK04;obtain⟨m0,m1,m2,m3⟩:=Mq Yq;go_wp2_with fail;refine YH.mono ?_;rintro e w5 ⟨v5,u5,rfl,kR⟩;obtain⟨hs5,hd5,hb5⟩:=kR.out;obtain⟨HS5,HD5⟩:=bU (hs5.old (bL _)) hd5;obtain⟨sa5,sc5,hsf⟩:=hs5.form;obtain⟨da5,db5,do5,dc5,rfl,-⟩:=hd5;obtain⟨sn5,hsn5⟩:=bC aad.1.length;obtain⟨dn5,hdn5⟩:=bC aad.2.1.length;obtain⟨E5,hE5⟩:=bC aad.2.2;rw[<-hsn5]at hsf;subst hsf;rw[<-hdn5]at HD5 ⊢;rw[<-hE5];obtain⟨HDN,Q6,HQ5,Bv,QL⟩:=rO hdn5 hE5 (HQ4.below hb5) (HBU4.trans (But.of_below hb5)) (aU HK24 hb5);obtain⟨r0,r1,r2⟩:=NY QL;obtain⟨z0,z1,z2⟩:=l9 (aG QL 0) (aG QL 1) (aG QL 2);clear kR hs5 hb5 hsn5 hdn5 hE5 l0 l1 m0 m1 m2 m3;go_wp2_with fail;have hs:=IU QL (Y sa5 sn5 sc5) (Y da5 dn5 dc5) (O E5);obtain⟨f0,f1,f2⟩:=NY hs;refine bV (v:=.agg #[Y sa5 sn5 sc5,Y da5 dn5 dc5,O E5]) (by simp[results,results71,go_sem,f0,f1,f2]) rfl ?_;exact⟨_,rfl,I ⟨⟨fo4,HQ5.Uj QL HWB _ _ _,nW Bv (bF (dF _) (dF _)) _ _ _⟩,⟨_,da5,dc5,by rw[<-HDN,<-Q6],oN HS5 (xI QL _ _ _) bO bO bO⟩,⟨_,_,by rw[<-Q6],tV HD5 QL _ _ _⟩⟩⟩
    ·have hne:bJ.once BL.1≠[]:=λh=>hn0 (by rw[HUN,PI,h];rfl);rw[aL hne]at HYF;have hpos:0<un:=by omega
     obtain⟨r0,r1,r2⟩:=NY Ai;obtain⟨z0,z1,z2⟩:=l9 (aG Ai 0) (aG Ai 1) (aG Ai 2);rw[PI]at HD3 HUN;clear hne hn0;go_wp2_with fail;have hs:=IU Ai (J) (Y ua un uc) (O 0);obtain⟨f0,f1,f2⟩:=NY hs;refine bV (v:=.agg #[J,Y ua un uc,O 0]) (by simp[results,results71,go_sem,f0,f1,f2]) rfl ?_;rw[HYF];exact⟨_,rfl,I ⟨⟨fo3,HQ3.Uj Ai HWB _ _ _,nW HBU3 (bF (dF _) (dF _)) _ _ _⟩,⟨_,ua,uc,by rw[<-HUN],dV.nil _ _ _ _⟩,⟨_,_,rfl,tV HD3 Ai _ _ _⟩⟩⟩
   ·have hz:=eP hE;rw[aL (by rw[<-WI];exact hE),<-WI]at HYF;have PI:Hid (blD BL=[]):=I (aL (by rw[<-WI];exact hE));rw[PI]at HD3 HUN;have hu0:un=0:=HUN.out;obtain⟨r0,r1,r2⟩:=NY Ai;obtain⟨z0,z1,z2⟩:=l9 (aG Ai 0) (aG Ai 1) (aG Ai 2);clear hE;subst hu0;go_wp2_with fail;have hs:=IU Ai (J) (Y ua 0 uc) (O E3);obtain⟨f0,f1,f2⟩:=NY hs;refine bV (v:=.agg #[J,Y ua 0 uc,O E3]) (by simp[results,results71,go_sem,f0,f1,f2]) rfl ?_;rw[HYF];exact⟨_,rfl,I ⟨⟨fo3,HQ3.Uj Ai HWB _ _ _,nW HBU3 (bF (dF _) (dF _)) _ _ _⟩,⟨_,ua,uc,rfl,dV.nil _ _ _ _⟩,⟨_,_,rfl,tV HD3 Ai _ _ _⟩⟩⟩
theorem JM{H:Type}{P:Program}{R:Value->Option (DataW H × List MemPlace)}{D:DataW H}(h:w.ownsMap P k R b n D):w.ownsMap P k R b (Maps.size D) D:=by obtain⟨es,clock,hb,F,hs,rfl⟩:=h;exact⟨es,clock,hb,F,by simp[Maps.size,length_sorted],rfl⟩
theorem mV.putB{o:ByteArray->Option Value}{e:TypeId}(ht:prog.underlying t=some (.map 9 e))(h:mV w b n z o)(hn:n<maxLen){s:ByteArray}(hs:s.size<=maxLen)(v:Value)(h1:o s=none->n+1<=n')(h2:n<=n'):∃w',(Instr.mapUpdate t (.map (some b)) (.string s) v).run prog w=.ok () w'/\mV w' b n' z (jk o s v)/\w.grownBy w' (some b):=by
 obtain⟨D,k1,k2⟩:=h;obtain⟨w',e,h3,h4⟩:=k1.update pJ ht hn (keyOf_string_mk underlying9 hs) (show jD v=some (.held v,[])from rfl);refine⟨w',e,mV.mono (n:=Maps.size (D.put (.string s.data.toList) (.held v))) ⟨_,JM h3,λt ht=>?_⟩ ?_,h4⟩
 ·cases hst:dA t s with
  | true =>have:=key_eq hst;subst this;rw[has_put_same k1.isMap (show WideAt.IsKeyLit (.string t.data.toList)from trivial),atKey_put_same k1.isMap (show WideAt.IsKeyLit (.string t.data.toList)from trivial)];simp[jk,hst]
  | false =>rw[has_put_other (wL hst),atKey_put_other (wL hst)];simpa[jk,hst]using k2 t ht
 ·have h5:=k1.size_le;rw[size_put (k1.tidy pJ),(k2 s hs).1];cases ho:o s with
  | none=>have:=h1 ho;simp;omega
  | some u=>simp;omega
theorem But.of_grown(hg:w.grownBy w' (some p)):But p w w':=⟨hg.os,hg.tape,hg.output,hg.size,λk hk hne=>hg.block k hk (λe=>hne (by injection e))⟩
theorem Ck.YS(l:List Mo)(fo:aY->Option Value)(s:aY)(v:Value):Ck.cntF l fo<=Ck.cntF l (jk fo s v):=by
 unfold Ck.cntF;induction l with
 | nil=>exact bE _
 | cons x l ih=>
  simp only[List.filter_cons];cases hp:(fo x.name).isSome with
  | true=>
   have:(jk fo s v x.name).isSome=true:=by
    unfold jk;split;·rfl
    ·exact hp
   rw[this];simp;exact ih
  | false=>
   cases(jk fo s v x.name).isSome with
   | true=>simp;omega
   | false=>simpa using ih
theorem FiW.form{y:Ck.Fi}(h:FiW w v y):∃a n c b k,v=.agg #[Y a n c,Y b y.2.1.length k,O y.2.2]:=by obtain⟨vs,b,k,e,ho⟩:=h;obtain⟨a,c,hs⟩:=ho.form;exact⟨a,_,c,b,k,by rw[e,hs]⟩
theorem qof_step(w0:World)(c:Cx)(vn vl vk:Value)(b1 b2:Nat)(U:List aY)(g:Nat)(hQ:QIn w0 c vn vl vk b1 b2 U)(hO:YN w0 c vn vl vk b1 b2 g):YN w0 c vn vl vk b1 b2 (g+1):=by
 intro w fo s hA hsome hrk hsz;obtain⟨i,hi⟩:=rR.1 hsome;obtain⟨x,hx,hxn⟩:=iM hi;subst hxn;have hxm:=eT hx;obtain⟨HXM,HLTI⟩:=bU hxm (Ck.uH hi);obtain⟨ka,kb,ko,kc,hke,hka,hkl,hkel⟩:=hQ.mks;obtain⟨vi,vv,vf,g0,g1,g2,g3,hM,hC⟩:=hkel i x hx;have Lm:=I (λwx Fe (h:IK w0 c b1 b2 wx Fe)=>YR w0 wx c vn vl vk b1 b2 U Fe g i x vi vv vf hQ h hO hi hx hM hC aX);obtain⟨⟨a0,n0,c0,rfl⟩,⟨a1,n1,c1,rfl⟩,-⟩:=hQ.forms;obtain⟨nk,hnk⟩:∃n,n=c.l.length:=⟨_,rfl⟩;rw[<-hnk]at hke hka HLTI;subst hke;have hka':=hka (by have:=HLTI.out;omega);subst hka';have hs:=hM.split;obtain⟨hI,hV,hF⟩:=hs;obtain⟨ia,ib,io,ic,rfl,-⟩:=hI;obtain⟨a3,b3,o3,c3,rfl,-⟩:=hV;obtain⟨a4,b4,o4,c4,rfl,-⟩:=hF;obtain⟨n3,hn3⟩:∃n,n=x.imports.length:=⟨_,rfl⟩;obtain⟨n4,rW⟩:∃n,n=x.vars.length:=⟨_,rfl⟩;obtain⟨n5,Kg⟩:∃n,n=x.bg.length:=⟨_,rfl⟩;rw[<-hn3]at g1 Lm;rw[<-rW]at g2 Lm;rw[<-Kg]at g3 Lm;obtain⟨HG,zS,HQ2,og,lX,HB0⟩:=vP (And.intro g0 (And.intro g1 (And.intro g2 g3))) hsz hQ.q2 hQ.ne hA.lt hA.base;have HQA:=I hA;obtain⟨aad,hY⟩:∃y,y=FD c x.name:=⟨_,rfl⟩;have HY:=I hY;rw[<-hY]at Lm ⊢;have KM:Hid (Ck.fi c.l x.name=some (O (i:Nat))):=I (by unfold Ck.fi;rw[hi];rfl);have HC6:Hid (c.l.length<=6):=I (oh hQ.form).2.1;obtain⟨W,hW,k0,k1,hsz',hBW⟩:=wX w (aW #[Y a0 n0 c0,Y a1 n1 c1,Y (some (X kb ko)) nk kc,.map (some b1),.map (some b2)] 99) (aW #[J,J,O 0] 102);obtain⟨lF,jh,iA,Ri,NT⟩:=rO k0 k1 hBW (hA.below hBW) hsz';clear k0 k1 hsz' hBW hA hM hC hi hx hxm hrk hsz hQ hO hsome g0 g1 g2 g3 hka hkl hkel hn3 rW Kg hnk hY;have q3:=aj lF.out 4;have LK:=Ri.out.AA.sw underlying97 zeroFi zS.out;go_enter func41,ntmps41;go_upto_region 1 with fail;rw[<-hW];clear hW;cases hfo:fo x.name with
 | some v0 =>have HFW:=I (Ri.out.fin x.name v0 hfo);obtain⟨sa,sn,sc,db,dk,hv0⟩:=HFW.out.form;rw[<-HY.out]at hv0;obtain⟨dn,hdn⟩:∃n,n=aad.2.1.length:=⟨_,rfl⟩;obtain⟨E0,hE0⟩:∃e,e=aad.2.2:=⟨_,rfl⟩;rw[<-hdn,<-hE0]at hv0;subst hv0;rw[hfo]at LK;simp only[iw,nP]at LK;obtain⟨dQ,Aq⟩:=rZ W (aW #[Y sa sn sc,Y db dn dk,O E0] 102);have HNN:Hid (¬fo x.name=none):=I (by rw[hfo];simp);clear hdn hE0 hfo;go_upto_region 2 with fail;obtain⟨xq,HA2,HW2,HFW2⟩:=lY (aU jh.out dQ.out) (Ri.out.below dQ.out) (up iA.out dQ.out) (HFW.out.below dQ.out);rw[<-HY.out]at HFW2;generalize W.alloc (aW #[Y sa sn sc,Y db dn dk,O E0] 102)=W2 at *;generalize W.heap.size=FB at *;clear LK q3;obtain⟨y0,y1,y2⟩:=NY Aq.out;obtain⟨r0,r1,r2⟩:=NY xq.out;obtain⟨z0,z1,z2⟩:=l9 (aG xq.out 0) (aG xq.out 1) (aG xq.out 2);go_wp2_with fail;have hs:=IU xq.out (Y sa sn sc) (Y db dn dk) (O E0);obtain⟨f0,f1,f2⟩:=NY hs;refine bV (v:=.agg #[Y sa sn sc,Y db dn dk,O E0]) (by simp[results,results41,go_sem,f0,f1,f2]) rfl ?_;exact⟨_,rfl,I ⟨⟨fo,HA2.out.Uj xq.out (by have:=HB0.out.size;omega) _ _ _,nW (But.of_below HW2.out) (dF _) _ _ _⟩,HFW2.out.st (xI xq.out _ _ _) bO bO bO,λh=>aM h HNN.out⟩⟩
 | none=>
  rw[hfo]at LK;simp only[mJ,nQ,zFi]at LK;obtain⟨dQ,Aq⟩:=rZ W (aW #[J,J,O 0] 102);have NU:=I hfo;clear hfo;go_upto_region 3 with fail;obtain⟨Qk,xq,HA2,HW2⟩:=lY (aU lF.out dQ.out) (aU jh.out dQ.out) (Ri.out.below dQ.out) (up iA.out dQ.out);generalize W.alloc (aW #[J,J,O 0] 102)=W2 at *;obtain⟨FB,hFB⟩:∃n,n=W.heap.size:=⟨_,rfl⟩;rw[<-hFB]at Aq ⊢;have HFB:Hid (w.heap.size+1<FB/\w.heap.size<=FB):=I (by have:=NT.out;omega);clear LK q3 hFB;have LK2:∀k os,(Instr.lookup 95 (.map (some b1)) (A x.name) false).run prog (gn W2 k os)=.ok (O (i:Nat)) (gn W2 k os):=λk os=>by have h:=(HA2.out.fst.zZ (bQ W2 k os)).look underlying95 AP zS.out;rw[KM.out]at h;exact h
  obtain⟨p0,p1,p2,p3,p4,g0,g1⟩:=J5 (aS ((aj Qk.out 0).trans rfl)) (aS ((aj Qk.out 1).trans rfl)) (aS ((aj Qk.out 2).trans rfl)) (aS ((aj Qk.out 3).trans rfl)) (aS ((aj Qk.out 4).trans rfl)) (aS (aD HG.out.1 HA2.out.base)) (aS (aD HG.out.2.1 HA2.out.base));obtain⟨g2,g3⟩:=eY (aS (aD HG.out.2.2.1 HA2.out.base)) (aS (aD HG.out.2.2.2 HA2.out.base));have hi0:(0:Int)<=(i:Int):=by omega
  have hi1:(i:Int)<(nk:Int):=by have:=HLTI.out;omega
  refine eU 9 bR bR ?_;dsimp only[List.take,List.drop];repeat(quiet_step (fail))
  refine wpQuiet_nil ?_;intro w6 hw';obtain⟨⟨nq,osq⟩,hw''⟩:=hw';have dX:Hid (bG W2 w6):=I (by rw[hw''];exact bQ W2 nq osq);clear hw'' p0 p1 p2 p3 p4 g0 g1 g2 g3 hi0 hi1 LK2;have HQ6:=I (HA2.out.below dX.out);obtain⟨HFC6,HK06,HK16,HKX6,HW6⟩:=rO (Lm.out w6 fo HQ6.out) (aU Qk.out dX.out) (aU xq.out dX.out) (aU Aq.out dX.out) (up HW2.out dX.out);go_wp2_with fail;refine HFC6.out.mono ?_;rintro e w7 ⟨v7,rfl,Ho⟩;obtain⟨⟨fo7,hq7,QM⟩,hfw7,hfd7⟩:=Ho.out;obtain⟨HFW7,HFD7⟩:=bU hfw7 hfd7;obtain⟨sa,sn,sc,db,dk,hv7⟩:=hfw7.form;obtain⟨dn,hdn⟩:∃n,n=aad.2.1.length:=⟨_,rfl⟩;obtain⟨E0,hE0⟩:∃e,e=aad.2.2:=⟨_,rfl⟩;rw[<-hdn,<-hE0]at hv7;subst hv7;obtain⟨jm,HK07,IJ,zT⟩:=lY ((But.of_below HW6.out).trans QM) (QM.at (show w.heap.size≠b2 from λe=>by have:=lX.out;omega) HK06.out) (QM.at (show w.heap.size+1≠b2 from λe=>by have:=lX.out;omega) HK16.out) (QM.at (show FB≠b2 from λe=>by have:=lX.out;have:=HFB.out;omega) HKX6.out);obtain⟨y0,y1,y2⟩:=NY zT.out;obtain⟨Q6,HQ8,uS,Bu,HFW8⟩:=rO hE0 (hq7.Uj zT.out (by have:=HB0.out.size;have:=HFB.out;omega) (Y sa sn sc) (Y db dn dk) (O E0)) (nW jm.out HFB.out.2 (Y sa sn sc) (Y db dn dk) (O E0)) (IU zT.out (Y sa sn sc) (Y db dn dk) (O E0)) (HFW7.out.st (xI zT.out (Y sa sn sc) (Y db dn dk) (O E0)) bO bO bO);obtain⟨z0,z1,z2⟩:=l9 (aG zT.out 0) (aG zT.out 1) (aG zT.out 2);have HDG8:Hid (jf (((w7.setCell (X FB 0) (Y sa sn sc)).setCell (X FB 1) (Y db dn dk)).setCell (X FB 2) (O E0)) (Y db dn dk) aad.2.1):=I (by
   obtain⟨vs,vd,e,h⟩:=HFD7.out;injection e with e;have e2:Y db dn dk=vd:=by have:=congrArg (λa:Array Value=>a[1]?) e;simpa using this
   rw[e2];exact tV h zT.out _ _ _)
  have hbx:∀(q:Nat) o,q≠FB->w7.heap[q]?=some o->(((w7.setCell (X FB 0) (Y sa sn sc)).setCell (X FB 1) (Y db dn dk)).setCell (X FB 2) (O E0)).heap[q]?=some o:=λq o hq ho=>bI (bI (bI ho hq _) hq _) hq _;obtain⟨HK08,HK18⟩:=bU (hbx w.heap.size _ (by have:=HFB.out;omega) HK07.out) (hbx (w.heap.size+1) _ (by have:=HFB.out;omega) IJ.out);clear Ho hq7 QM hfw7 hfd7 hdn hE0 hbx;go_upto_region 4 with fail;clear y0 y1 y2 z0 z1 z2;generalize (((w7.setCell (X FB 0) (Y sa sn sc)).setCell (X FB 1) (Y db dn dk)).setCell (X FB 2) (O E0))=W8 at *;have q4:=aj HK08.out 4;obtain⟨y0,y1,y2⟩:=NY Bu.out;obtain⟨w9,UP,hm9,hg9⟩:=HQ8.out.AA.putB (n':=Ck.cntF c.l (jk fo7 x.name (.agg #[Y sa sn sc,Y db dn dk,O E0]))) underlying97 (by have h1:=cntF_le c.l fo7;have h2:=HC6.out;unfold maxLen;omega) zS.out (.agg #[Y sa sn sc,Y db dn dk,O E0]) (λh=>cntF_put HXM.out h _) (YS _ _ _ _);have hbg:=But.of_grown hg9;have hst9:lJ 4 W8 w9:=lJ.but hbg HQ8.out.AA.isMap;have HFW9:=I (HFW8.out.st hst9 bO bO bO);have HQ9:Hid (IK w0 c b1 b2 w9 (jk fo7 x.name (.agg #[Y sa sn sc,Y db dn dk,O E0]))):=I ⟨Below.grown HQ8.out.base hg9 HQ8.out.base.size (λk e=>by injection e with e;rw[<-e];exact HQ2.out),HQ8.out.fst.kept hg9 (λe=>by injection e with e;exact og.out e),hm9,λt v ht=>by
   unfold jk at ht;cases hts:dA t x.name with
   | true =>rw[hts]at ht;simp only[if_true]at ht;cases ht;have:=eu.1 hts;subst this;rw[<-HY.out];exact HFW9.out
   | false =>rw[hts]at ht;exact(HQ8.out.fin t v ht).st hst9 bO bO bO⟩
  obtain⟨zU,HKX9,QN⟩:=fD (uS.out.trans hbg) (hbg.at (show FB≠b2 from λe=>by have:=lX.out;have:=HFB.out;omega) Bu.out) (hbg.at (show w.heap.size+1≠b2 from λe=>by have:=lX.out;omega) HK18.out);have HDG9:Hid (jf w9 (Y db dn dk) aad.2.1):=I (HDG8.out.cells (λa v ha=>by
   have hne:a.block≠b2:=λe=>by obtain⟨es,cl,hq⟩:=HQ8.out.AA.isMap;rw[<-e]at hq;simp[World.cell?,hq]at ha
   have hb:=hbg.block a.block (eX _ _ ha) hne;exact(jJ hb).trans ha))
  clear hm9 hg9 hbg hst9;go_upto_region 5 with fail;clear q4 y0 y1 y2;obtain⟨y0,y1,y2⟩:=NY HKX9.out;obtain⟨r0,r1,r2⟩:=NY QN.out;obtain⟨z0,z1,z2⟩:=l9 (aG QN.out 0) (aG QN.out 1) (aG QN.out 2);go_wp2_with fail;have hs:=IU QN.out (Y sa sn sc) (Y db dn dk) (O E0);obtain⟨f0,f1,f2⟩:=NY hs;refine bV (v:=.agg #[Y sa sn sc,Y db dn dk,O E0]) (by simp[results,results41,go_sem,f0,f1,f2]) rfl ?_;exact⟨_,rfl,I ⟨⟨_,HQ9.out.Uj QN.out (by have:=HB0.out.size;omega) _ _ _,nW zU.out (dF _) _ _ _⟩,HFW9.out.st (xI QN.out _ _ _) bO bO bO,λ_=>⟨_,_,by rw[<-Q6.out],tV HDG9.out QN.out _ _ _⟩⟩⟩
theorem Wh(w0:World)(c:Cx)(vn vl vk:Value)(b1 b2:Nat)(U:List aY)(hQ:QIn w0 c vn vl vk b1 b2 U):∀g,YN w0 c vn vl vk b1 b2 g
 | 0=>λ_ _ _ _ _ h=>aM h (fT _)
 | g+1=>qof_step w0 c vn vl vk b1 b2 U g hQ (Wh w0 c vn vl vk b1 b2 U hQ g)
noncomputable def Ck.an(c:Cx)(name:ByteArray):Ck.Fi:=
 if jU (bX c.ss c.G c.L c.Z) c.m c.l≠0 then ([],[],jU (bX c.ss c.G c.L c.Z) c.m c.l)
 else if (dI c.l name).isSome=false then ([],[],4)else FD c name
theorem set5(h:W.heap[B]?=some (.cells #[r0,r1,r2,r3,r4] t (0,0)))(c0 c1 c2 c3 c4:Value):(((((W.setCell (X B 0) c0).setCell (X B 1) c1).setCell (X B 2) c2).setCell (X B 3) c3).setCell (X B 4) c4).heap[B]?=some (.cells #[c0,c1,c2,c3,c4] t (0,0)):=by rw[aO (aO (aO (aO (aO h 0 c0) 1 c1) 2 c2) 3 c3) 4 c4];rfl
theorem Ul(h:Below n w W)(hB:n<=B)(c0 c1 c2 c3 c4:Value):Below n w (((((W.setCell (X B 0) c0).setCell (X B 1) c1).setCell (X B 2) c2).setCell (X B 3) c3).setCell (X B 4) c4):=
 ((((h.setCell (p:=(X B 0)) hB c0).setCell (p:=(X B 1)) hB c1).setCell (p:=(X B 2)) hB c2).setCell (p:=(X B 3)) hB c3).setCell (p:=(X B 4)) hB c4
theorem QO(h:mV W b n z o)(hk:W.heap[B]?=some (.cells cs t (0,0)))(c0 c1 c2 c3 c4:Value):mV (((((W.setCell (X B 0) c0).setCell (X B 1) c1).setCell (X B 2) c2).setCell (X B 3) c3).setCell (X B 4) c4) b n z o:=by
 obtain⟨es,cl,q⟩:=h.isMap;have hne:b≠B:=λe=>by subst e;rw[hk]at q;cases q
 refine h.same ?_;rw[q];exact bI (bI (bI (bI (bI q hne _) hne _) hne _) hne _) hne _
theorem Wi(h:W.heap[B]?=some (.cells #[r0,r1] t (0,0)))(c0 c1:Value):((W.setCell (X B 0) c0).setCell (X B 1) c1).heap[B]?=some (.cells #[c0,c1] t (0,0)):=by rw[aO (aO h 0 c0) 1 c1];rfl
theorem xJ(h:Below n w W)(hB:n<=B)(c0 c1:Value):Below n w ((W.setCell (X B 0) c0).setCell (X B 1) c1):=(h.setCell (p:=(X B 0)) hB c0).setCell (p:=(X B 1)) hB c1
theorem stT_set2(h:W.heap[B]?=some (.cells #[r0,r1] t (0,0)))(c0 c1:Value):lJ t W ((W.setCell (X B 0) c0).setCell (X B 1) c1):=(lJ.set h c0).trans (lJ.set (aO h 0 c0) c1)
theorem dgs_set2{l:List Dg}{a b:Option Addr}{k:Nat}(h:jf W v l)(hk:W.heap[B]?=some (aW #[Y a n k,Y b n' k'] 61))(c0 c1:Value):jf ((W.setCell (X B 0) c0).setCell (X B 1) c1) v l:=by
 obtain⟨a',b',off,cap,e',h0,hl,h1⟩:=h;refine⟨a',b',off,cap,e',h0,hl,λi d hd=>?_⟩;obtain⟨g0,g1,g2⟩:=h1 i d hd;have hne:b'≠B:=λe=>by
  subst e;rw[aj hk]at g1;have hlt:off+i*3+1<2:=(Array.getElem?_eq_some_iff.1 g1).1;have h2:off+i*3+1=1:=by omega
  rw[h2]at g1;simp at g1
 have hsub:∀q,W.cell? (X b' q)=((W.setCell (X B 0) c0).setCell (X B 1) c1).cell? (X b' q):=λq=>by obtain⟨o,ho⟩:∃o,W.heap[b']?=some o:=⟨_,Array.getElem?_eq_getElem (eX _ _ g0)⟩;exact(jJ ((bI (bI ho hne c0) hne c1).trans ho.symm)).symm
 rw[<-hsub,<-hsub,<-hsub];exact⟨g0,g1,g2⟩
theorem ne_lt{a:Nat}(h:a<n)(k:n<=b):b≠a:=by omega
theorem tX(aaf:World)(o:Obj)(h:b=aaf.heap.size):(aaf.alloc o).heap[b]?=some o:=by subst h;exact aZ aaf o
theorem fP{x:World}(h:Hid (bG W x)):Hid (bG W x.drew):=I (h.drew)
theorem gL{x:World}{o:Obj}(h:Hid (bG W x)):Hid (bG W (x.alloc o)):=I (up h (aH _ _))
theorem caM_drew(h:mV aaf b n z o):mV aaf.drew b n z o:=h.zZ (bP _ _).drew
theorem Aj(m:Nat)(w:World)(vn vl vk:Value)(ss:List aY)(G:Nat)(L:Nat->Nat)(Z:Nat->Nat->Bool)(l:List Mo)(name:aY)(U:List aY)(hS:Strs w vn ss)(hR:Fg w vl G L Z)(hK:vD w m vk l)(hsm:∀x∈l,vF m x<=1048576)(ht:Tab w)(hn:name.size<=maxLen)(hU:jU (bX ss G L Z) m l=0->YM U ss l):Calls prog 18 #[.agg #[vn,vl],vk,A name] w λe w'=>∃vs vd,e=dz (.tuple #[.agg #[vs,vd],O (Ck.an ⟨m,ss,G,L,Z,l⟩ name).2.2])/\Hid (dV Er w' 0 35 6 vs (Ck.an ⟨m,ss,G,L,Z,l⟩ name).1/\jf w' vd (Ck.an ⟨m,ss,G,L,Z,l⟩ name).2.1/\bG w w'):=by
 obtain⟨c,hc⟩:∃c,c=(⟨m,ss,G,L,Z,l⟩:Cx):=⟨_,rfl⟩;have HQI:Hid (∀b1 b2,jU (bX c.ss c.G c.L c.Z) c.m c.l=0->w.heap.size<=b1->w.heap.size<=b2->b1≠b2->QIn w c vn vl vk b1 b2 U):=I (λb1 b2 hf h1 h2 h3=>by rw[hc]at hf ⊢;exact⟨hS,hR,hK,hf,hsm,ht,h1,h2,h3,hU hf⟩);have Lm:=I (λwx (hb:bG w wx)=>form_any m wx vn vl vk ss G L Z l (hS.below hb) (hR.below hb) (hK.mos.below hb) hsm (ht.below hb));have KM:=I (λwx (hb:bG w wx) hl=>Aa m wx vk l (hK.mos.below hb) hl);have HVL:Hid (∃a n c,vl=Y a n c):=I (by obtain⟨a,b,o,c,aag,RB,RO,C,rfl,-⟩:=hR;exact⟨_,_,_,rfl⟩);have HVN:Hid (∃a n c,vn=Y a n c):=I (by obtain⟨a,b,o,c,rfl,-⟩:=hS;exact⟨_,_,_,rfl⟩);have HVK:Hid (∃a n c,vk=Y a n c):=I (by obtain⟨a,b,o,c,rfl,-⟩:=hK;exact⟨_,_,_,rfl⟩);have HNM:=I hn;obtain⟨a0,n0,c0,e0⟩:=HVN.out;obtain⟨a1,n1,c1,e1⟩:=HVL.out;obtain⟨a2,n2,c2,e2⟩:=HVK.out;obtain⟨aag,hA⟩:∃aag,aag=Ck.an c name:=⟨_,rfl⟩;have HA:=I hA;have hce:bX ss G L Z=bX c.ss c.G c.L c.Z/\m=c.m/\l=c.l:=by rw[hc];exact⟨rfl,rfl,rfl⟩
 rw[<-hc,<-hA];rw[hce.1,hce.2.1,hce.2.2]at Lm;rw[hce.2.2]at KM;obtain⟨E,hE⟩:∃E,E=jU (bX c.ss c.G c.L c.Z) c.m c.l:=⟨_,rfl⟩;have HE:=I hE;rw[<-hE]at Lm;subst e0 e1 e2;clear hc hS hR hK hsm ht hU hA hE hce hn;obtain⟨W,hW,k0,k1,hsz,hBW⟩:=wX w (aW #[Y a0 n0 c0,Y a1 n1 c1] 25) (aW #[J,J] 61);obtain⟨x0,x1⟩:=iV k0;obtain⟨lF,jh,iA,HFW⟩:=lY k0 k1 hBW (Lm.out W hBW);clear k0 k1 hsz hBW;go_enter func18,ntmps18;go_upto_region 1 with fail;rw[<-hW];clear hW;go_wp2_with fail;refine HFW.out.mono ?_;rintro e w1 ⟨rfl,hb1⟩;obtain⟨HB1,nC,kV⟩:=fD (up iA.out hb1) (aU lF.out hb1) (aU jh.out hb1);clear hb1 x0 x1;by_cases hE0:E=0
 ·subst hE0;have HFM:Hid (jU (bX c.ss c.G c.L c.Z) c.m c.l=0):=I HE.out.symm;have HSIX:=I (oh HFM.out).2.1;have yA:Hid (bG w1 w1):=I (bP _ _);have hmm:=@run_makeMap prog;go_upto_region 4 with fail;go_cut [9]from 13 (λp x=>∃aae b1 b2,p=iO aae/\Hid (b1≠b2/\w1.heap.size<=aae/\w1.heap.size<=b1/\w1.heap.size<=b2/\x.heap[aae]?=some (aW #[Y a0 n0 c0,Y a1 n1 c1,Y a2 n2 c2,.map (some b1),.map (some b2)] 99)/\mV x b1 1048576 (O 0) (Ck.fi c.l)/\mV x b2 0 zFi (λ_=>none)/\bG w1 x));case first=>
   rename_i Q9 K9 h9 J9 L9 h8 h7;clear h9;have Rh:Hid (∀x,Hid (bG w1 x)->x.cell? (X w.heap.size 0)=some (Y a0 n0 c0)/\x.cell? (X w.heap.size 1)=some (Y a1 n1 c1)):=I (λx hx=>⟨(aj (aU nC.out hx.out) 0).trans rfl,(aj (aU nC.out hx.out) 1).trans rfl⟩);refine bW [some true,some false,some false,none,none,none,none,none] 7 (λx=>x.cell? (X w.heap.size 0)=some (Y a0 n0 c0)/\x.cell? (X w.heap.size 1)=some (Y a1 n1 c1)) 5 bR bR (λ_ _ d _ _ h=>(by cases d<;>exact h)) (Rh.out _ (fP yA)) ?_;dsimp only[fE];repeat(first|(refine fq (v:=?_) cZ ?_ ?_;rotate_left 1;(focus(intro w;go_simp;try(with_reducible rfl)));simp only[Act.put,dG,dM,dU])|(refine fA (v:=?_) cZ ?_ ?_;rotate_left 1;(focus(intro w hSw;obtain⟨q0,q1⟩:=hSw;go_simp;try(with_reducible rfl)));simp only[Act.put,dG,dM,dU]))
   refine dH ?_;refine lU ?_;intro x hx;have HX:Hid (bG w1 x):=by rw[hx];exact(by repeat(first|with_reducible exact yA|with_reducible refine fP ?_))
   clear hx;have H0:Hid (bG x x):=I (bP _ _)
   iterate 4 (
    all_goals rename World=>aaf
    all_goals first
     | refine aN (i:=6) (by decide +kernel) cZ (λK hK=>?_)
     | refine aN (i:=5) (by decide +kernel) cZ (λK hK=>?_)
     | refine aN (i:=4) (by decide +kernel) cZ (λK hK=>?_)
     | refine aN (i:=3) (by decide +kernel) cZ (λK hK=>?_)
     | refine eH (i:=5) (k:=6) (by decide +kernel) cZ cZ (λK hK=>?_) (λK hK=>?_)
     | refine eH (i:=3) (k:=4) (by decide +kernel) cZ cZ (λK hK=>?_) (λK hK=>?_)
     | refine eH (i:=3) (k:=6) (by decide +kernel) cZ cZ (λK hK=>?_) (λK hK=>?_)
     | refine eH (i:=4) (k:=6) (by decide +kernel) cZ cZ (λK hK=>?_) (λK hK=>?_)
     | refine ql (i:=3) (j:=4) (k:=6) (by decide +kernel) cZ cZ cZ (λK hK=>?_) (λK hK=>?_) (λK hK=>?_)
    all_goals go_simp
    all_goals try(go_at_call 40;refine(KM.out _ (up HB1.out (gV (by repeat(first|with_reducible exact HX|with_reducible refine fP ?_|with_reducible refine gL ?_)))) (by have:=HSIX.out;omega)).mono ?_;rintro e x ⟨b1,rfl,hh⟩;obtain⟨hm,hg,hb⟩:=hh.out;have HS:Hid (bG aaf x):=I (up (gV (by repeat(first|with_reducible exact H0|with_reducible refine fP ?_|with_reducible refine gL ?_))) hb);have HL:=I hm;replace hg:aaf.heap.size<=b1:=bF (gV (by repeat(first|with_reducible exact H0|with_reducible refine fP ?_|with_reducible refine gL ?_)):bG aaf _).size hg;have HG1:Hid (w1.heap.size<=b1):=I (bF HX.out.size hg);(try have og:=I (ne_lt HM.out.lt hg));replace HX:=I (up HX.out HS.out);(try replace HM:=I (HM.out.zZ HS.out));(try replace HO:=I (aU HO.out HS.out));replace H0:Hid (bG x x):=I (bP _ _);clear hh hm hg hb HS;dsimp only)
    all_goals(
     with_reducible refine hK.out _ _ (λ_=>Rh.out _ (by repeat(first|with_reducible exact HX|with_reducible refine fP ?_|with_reducible refine gL ?_))) ?_
     clear hK K
     have HGQ:=I HX.out.size
     rename World=>aaf
     refine lU ?_
     intro x hx
     have HS:Hid (bG aaf x):=by rw[hx];repeat(first|with_reducible exact H0|with_reducible refine fP ?_|with_reducible refine gL ?_)
     first
      | (have HM:Hid (mV x aaf.heap.size 0 zFi (λ_=>none)):=I (by rw[hx];with_reducible(first|exact mV.new _ _|exact caM_drew (mV.new _ _)));have HG2:=HGQ;try have og:=I (Nat.ne_of_lt HL.out.lt))
      | (have HO:Hid (x.heap[aaf.heap.size]?=some (aW #[J,J,J,.map none,.map none] 99)):=I (by rw[hx];with_reducible(first|exact tX _ _ rfl|exact BU (tX _ _ rfl)));have HGO:=HGQ;try replace HM:=I (HM.out.zZ HS.out))
      | ((try replace HM:=I (HM.out.zZ HS.out));(try replace HO:=I (aU HO.out HS.out)))
     try replace HL:=I (HL.out.below HS.out)
     try replace HO:=I (aU (w:=aaf) HO.out HS.out)
     replace HX:=I (up HX.out HS.out)
     clear hx
     replace H0:Hid (bG x x):=I (bP _ _)))
   all_goals(
    refine aN (i:=7) bR cZ (λK hK=>?_)
    have o0:=aj HO.out 0
    have z0:=aG HO.out 0
    obtain⟨-,o1⟩:=iV HO.out
    have z1:=aG HO.out 1
    have o2:=aj HO.out 2
    have z2:=aG HO.out 2
    have o3:=aj HO.out 3
    have z3:=aG HO.out 3
    have o4:=aj HO.out 4
    have z4:=aG HO.out 4
    go_simp
    with_reducible refine hK.out _ _ (λh=>aM (h.symm.trans bR) gN) ?_
    clear hK K
    clear o0 o1 o2 o3 o4 z0 z1 z2 z3 z4
    refine dB bR ?_ _
    go_wp2_with fail
    go_meet
    exact⟨_,b1,_,rfl,I ⟨og.out,HGO.out,HG1.out,HG2.out,set5 HO.out _ _ _ _ _,QO (HL.out.caM.mono (show Ck.cnt c.l c.l.length<=1048576 from bF (M0 _ _) (by have:=HSIX.out;omega))) HO.out _ _ _ _ _,QO HM.out HO.out _ _ _ _ _,Ul HX.out HGO.out _ _ _ _ _⟩⟩)
  case rest=>
   obtain⟨aae,b1,b2,rfl,hcc⟩:=hcut;obtain⟨hne,hgo,hg1,hg2,ho,hm1,hm2,hbel⟩:=hcc.out;have qI:Hid (w.heap.size<=w1.heap.size):=I HB1.out.size;have HQI':=I (HQI.out b1 b2 HFM.out (bF qI.out hg1) (bF qI.out hg2) hne);obtain⟨HO,SE⟩:=bU ho (up HB1.out hbel);have HQA:Hid (IK w c b1 b2 wc (λ_=>none)):=I ⟨SE.out,hm1,hm2.mono (bL _),λs v hs=>by cases hs⟩;obtain⟨HGO,HK1C⟩:=bU hgo (aU kV.out hbel);have HB2:Hid (b2<wc.heap.size):=I hm2.lt;have HOB:Hid (aae≠b2):=I (λe=>by obtain⟨es,cl,q⟩:=hm2.isMap;rw[<-e,ho]at q;cases q);have HKB:Hid (w.heap.size+1≠b2):=I (λe=>by have h1:=bq kV.out;omega);have q3:=aj ho 3;have LK:=hm1.sw underlying95 AP HNM.out;clear hcc hne hgo hg1 hg2 ho hm1 hm2 hbel hmm;cases hmo:dI c.l name with
   | none=>
    have e1:Ck.fi c.l name=none:=by unfold Ck.fi;rw[hmo];rfl
    rw[e1]at LK;simp only[mJ,nQ]at LK;have PL:Hid (aag=([],[],4)):=I (by rw[HA.out];unfold Ck.an;rw[aJ (by rw[HFM.out];simp),aL (by rw[hmo];rfl)]);obtain⟨r0,r1⟩:=iV HK1C.out;obtain⟨z0,z1⟩:=eY (aG HK1C.out 0) (aG HK1C.out 1);clear hmo e1;go_wp2_with fail;have hs:=Wi HK1C.out (J) (J);obtain⟨f0,f1⟩:=iV hs;refine bV (v:=.tuple #[.agg #[J,J],O 4]) (by simp[results,results18,go_sem,f0,f1]) rfl ?_;rw[PL.out];exact⟨_,_,rfl,I ⟨dV.nil _ _ _ _,yg _ _,xJ SE.out (dF _) _ _⟩⟩
   | some i=>
    have e1:Ck.fi c.l name=some (O (i:Nat)):=by unfold Ck.fi;rw[hmo];rfl
    rw[e1]at LK;simp only[iw,nP]at LK;have hsome:(dI c.l name).isSome=true:=by rw[hmo];rfl
    have PL:Hid (aag=FD c name):=I (by rw[HA.out];unfold Ck.an;rw[aJ (by rw[HFM.out];simp),aJ (by rw[hsome];simp)]);have HOC:=I (Wh w c _ _ _ b1 b2 U HQI'.out (Ck.rk c.l name+1) wc (λ_=>none) name HQA.out hsome (Nat.lt_succ_self _) HNM.out);rw[<-PL.out]at HOC;obtain⟨p0,p1,p2,-,p4⟩:=ZC5 HO.out;clear hmo e1 hsome;go_wp2_with fail;refine HOC.out.mono ?_;rintro e w5 ⟨v5,rfl,kR⟩;obtain⟨⟨fo5,hq5,K3⟩,hfw5,hfd5⟩:=kR.out;obtain⟨HFD5,HFW5⟩:=bU (hfd5 dx) hfw5;obtain⟨sa,sn,sc,db,dk,hv5⟩:=hfw5.form;obtain⟨dn,hdn⟩:∃n,n=aag.2.1.length:=⟨_,rfl⟩;obtain⟨E5,hE5⟩:∃e,e=aag.2.2:=⟨_,rfl⟩;rw[<-hdn,<-hE5]at hv5;subst hv5;obtain⟨Td,HK15,d9⟩:=fD hE5 (K3.at HKB.out HK1C.out) hq5.base;have qb:Hid (dV Er w5 0 35 6 (Y sa sn sc) aag.1):=I (by
     obtain⟨vs,a,k,e,h⟩:=HFW5.out;injection e with e;have e2:Y sa sn sc=vs:=by have:=congrArg (λa:Array Value=>a[0]?) e;simpa using this
     rw[e2];exact h)
    have HDG5:Hid (jf w5 (Y db dn dk) aag.2.1):=I (by
     obtain⟨vs,vd,e,h⟩:=HFD5.out;injection e with e;have e2:Y db dn dk=vd:=by have:=congrArg (λa:Array Value=>a[1]?) e;simpa using this
     rw[e2];exact h)
    clear kR hq5 K3 hfw5 hfd5 hdn hE5 p0 p1 p2 p4 q3 LK;obtain⟨dQ,Aq⟩:=rZ w5 (aW #[Y sa sn sc,Y db dn dk,O E5] 102);go_upto_region 9 with fail;obtain⟨HK16,dX,nJ,HDG6⟩:=lY (aU HK15.out dQ.out) (up d9.out dQ.out) (oN qb.out (lJ.below (t:=4) dQ.out) bO bO bO) (HDG5.out.below dQ.out);generalize w5.alloc (aW #[Y sa sn sc,Y db dn dk,O E5] 102)=W6 at *;generalize w5.heap.size=FB at *;have Rh:Hid (∀x:World,x.heap[FB]?=some (aW #[Y sa sn sc,Y db dn dk,O E5] 102)->x.cell? (X FB 0)=some (Y sa sn sc)/\x.cell? (X FB 1)=some (Y db dn dk)/\x.cell? (X FB 2)=some (O E5)):=I (λx g=>⟨(aj g 0).trans rfl,(aj g 1).trans rfl,(aj g 2).trans rfl⟩);refine bW [some false,some true,some false,some true,none,none] 5 (λx=>x.cell? (X FB 0)=some (Y sa sn sc)/\x.cell? (X FB 1)=some (Y db dn dk)/\x.cell? (X FB 2)=some (O E5)) 2 bR bR (λ_ _ d _ _ h=>(by cases d<;>exact h)) (Rh.out _ Aq.out) ?_;dsimp only[fE];repeat(first|(refine fq (v:=?_) cZ ?_ ?_;rotate_left 1;(focus(intro w;go_simp;try(with_reducible rfl)));simp only[Act.put,dG,dM,dU])|(refine fA (v:=?_) cZ ?_ ?_;rotate_left 1;(focus(intro w hSw;obtain⟨q0,q1,q2⟩:=hSw;go_simp;try(with_reducible rfl)));simp only[Act.put,dG,dM,dU]))
    refine dH ?_;refine lU ?_;intro w7 hw7;have Ig:Hid (bG W6 w7):=I (by rw[hw7];exact(bP _ _).drew);clear hw7;obtain⟨zT,IJ,jG,JJ,HDG7⟩:=rO (aU Aq.out Ig.out) (aU HK16.out Ig.out) (up dX.out Ig.out) (oN nJ.out (lJ.below (t:=4) Ig.out) bO bO bO) (HDG6.out.below Ig.out);have wB:Hid (FB≠w.heap.size+1):=I (λe=>by have h1:=zT.out;rw[e,IJ.out]at h1;simp at h1);obtain⟨r0,r1⟩:=iV IJ.out;obtain⟨z0,z1⟩:=eY (aG IJ.out 0) (aG IJ.out 1);refine aN (i:=4) bR cZ (λK hK=>?_);go_simp;refine hK.out _ _ (λ_=>Rh.out _ (bI (bI zT.out wB.out _) wB.out _)) ?_;clear hK K;refine aN (i:=5) bR cZ (λK hK=>?_);go_simp;refine hK.out _ _ (λh=>aM (h.symm.trans bR) gN) ?_;clear hK K;refine dB bR ?_ _;go_wp2_with fail;have hs:=Wi IJ.out (Y sa sn sc) (Y db dn dk);obtain⟨f0,f1⟩:=iV hs;refine bV (v:=.tuple #[.agg #[Y sa sn sc,Y db dn dk],O E5]) (by simp[results,results18,go_sem,f0,f1]) rfl ?_;exact⟨_,_,by rw[<-Td.out],I ⟨oN JJ.out (stT_set2 IJ.out _ _) bO bO bO,dgs_set2 HDG7.out IJ.out _ _,xJ jG.out (dF _) _ _⟩⟩
 ·have hz:=eP hE0;have PL:Hid (aag=([],[],E)):=I (by rw[HA.out];unfold Ck.an;rw[<-HE.out,aL hE0]);obtain⟨r0,r1⟩:=iV kV.out;obtain⟨z0,z1⟩:=eY (aG kV.out 0) (aG kV.out 1);clear hE0;go_wp2_with fail;have hs:=Wi kV.out (J) (J);obtain⟨f0,f1⟩:=iV hs;refine bV (v:=.tuple #[.agg #[J,J],O E]) (by simp[results,results18,go_sem,f0,f1]) rfl ?_;rw[PL.out];exact⟨_,_,rfl,I ⟨dV.nil _ _ _ _,yg _ _,xJ HB1.out (dF _) _ _⟩⟩
end Go.Proofs.YtbgkpehhdibaoaaGreatDoor
