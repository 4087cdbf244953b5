/- part -/
import Derived.Test.YtbgkpehhdibaoaaGreatDoorMZBQ
import Derived.Test.YtbgkpehhdibaoaaGreatDoorMZBP
set_option maxHeartbeats 0
set_option maxRecDepth 99999
namespace Go.Proofs.YtbgkpehhdibaoaaGreatDoor
open Ck bO aO Rn Sm
open Go.Proofs.Tryz
open Go.RowKit Go.Maps Go.WideMaps
variable{w w' w0 W aai:World}{m fuel i p n b1 b2 j B b n' k':Nat}{v vn vl vk r0 r1 r2 z r3 r4:Value}{l:List Mo}{s:aZ}{x y:Mo}{t k:TypeId}{fo o:aZ->Option Value}{E e:Int}{U ss r:List aZ}{cs:Array Value}
theorem zC(w:World)(c:Nat):iE w (Y none 0 c) []:=⟨none,0,0,c,rfl,λh=>aN h cZ,by simp,λi d hd=>by simp at hd⟩
theorem fun_size{l:List Fu}(h:lS w m v l){f:Fu}(hf:f∈l):∀u∈f.params,u.size<=maxLen:=by obtain⟨i,hi,e⟩:=gP.1 hf;obtain⟨_,_,_,_,_,_,_,hel⟩:=h;obtain⟨_,vp,vb,_,_,_,_,_,_,_,_,_,_,_,hpar,_,_⟩:=hel i f (by rw[bg hi,e]);obtain⟨_,_,_,_,_,_,_,hz,_⟩:=hpar;exact hz
theorem EY(m:Nat)(w:World)(vn vl vi vv vf vk vs:Value)(ss:List aZ)(G:Nat)(L:Nat->Nat)(Z:Nat->Nat->Bool)(x:Mo)(known:List Mo)(bJ:List (List Sc))(U:List aZ)(hP:l9 w m vn vl vi vv vf vk vs (J) ss G L Z x known bJ [])(hU:UOk U ss x bJ):Calls prog 26 #[.agg #[vn,vl],.agg #[A x.name,vi,vv,vf],vk,vs] w λe w'=>∃v u,e=cO (.tuple #[v,u,O (Sm.ans ss G L Z m x known bJ).2.2])/\Hid (d9 EU w' w.heap.size 35 6 v (Sm.ans ss G L Z m x known bJ).1/\iE w' u (Sm.ans ss G L Z m x known bJ).2.1/\bG w w'):=by
 obtain⟨⟨a0,c0,e0⟩,⟨a1,n1,c1,e1⟩,⟨a2,n2,c2,e2⟩,⟨a3,n3,c3,e3⟩,⟨a4,c4,e4,hcap⟩,⟨a5,n5,c5,e5⟩,⟨a6,n6,c6,e6⟩,-⟩:=hP.forms;obtain⟨n0,hn0⟩:∃n,n=ss.length:=⟨_,rfl⟩;obtain⟨n4,tZ⟩:∃n,n=x.bq.length:=⟨_,rfl⟩;have zQ:=I tZ;rw[<-hn0]at e0;rw[<-tZ]at e4;subst e0 e1 e2 e3 e4 e5 e6;have HN4B:Hid (n4<=1048576):=I (by have:=Hr m x.bq;have hw:=hP.small;unfold qx at hw;omega);obtain⟨HP,HU⟩:=bT hP hU;obtain⟨W,hW,k0,k1,hsz,hBW⟩:=wG w (aY #[Y a0 n0 c0,Y a1 n1 c1] 25) (aY #[A x.name,Y a2 n2 c2,Y a3 n3 c3,Y a4 n4 c4] 58);obtain⟨x0,x1⟩:=jm k0;obtain⟨y0,y1,y2,y3⟩:=Js k1;obtain⟨lD,jl,iN,vW⟩:=mg k0 k1 hBW ((hP.below hBW).checkO);obtain⟨E,hEE⟩:∃E,E=yK (dh ss G L Z) m x known:=⟨_,rfl⟩;obtain⟨aaj,hA⟩:∃aaj,aaj=Sm.ans ss G L Z m x known bJ:=⟨_,rfl⟩;obtain⟨Ua,HA⟩:=bT hEE hA;rw[<-hEE]at vW;rw[<-hA];clear k0 k1 hsz hBW hn0 tZ hEE hA hP hU hcap;go_enter func26,ntmps26;go_upto_region 1 with fail;rw[<-hW];clear hW;go_wp2_with fail;refine vW.out.mono ?_;rintro e w1 ⟨u,rfl,hu,hnil,hb1⟩;obtain⟨HB1,nV,lN⟩:=fq (up iN.out hb1) (aU lD.out hb1) (aU jl.out hb1);clear x0 x1 y0 y1 y2 y3 hb1;by_cases hE:E=0
 ·subst hE;have HE0:Hid (yK (dh ss G L Z) m x known=0):=I Ua.out.symm;have hpd:EC 0 ss x known m=aO.once (aO.Aj ss x known m):=by unfold EC;rw[aL rfl]
  rw[hpd]at hu hnil;by_cases hD:aO.once (aO.Aj ss x known m)=[]
  ·obtain rfl:=hnil hD;have HD:=I hD;clear hu hnil hpd hD;have y3:=aj lN.out 3;go_wp2_with fail;clear y3;go_loopw[11,13,38] (λd o i wr=>∃(dv ov:Value) (j:Nat),dv=d/\ov=o/\j<=n4/\i=O j/\Hid (qm ss G L Z m x known bJ j=0/\d9 EU wr w1.heap.size 35 6 ov (Sm.inf ss Z m x known bJ j).1/\(j=0->ov=J)/\eT qz wr w1.heap.size 80 3 dv (Sm.inf ss Z m x known bJ j).2/\bG w1 wr)) (λ_ _ i _=>n4 - (intOf i).toNat);case atStart=>exact⟨_,_,0,rfl,rfl,bI _,rfl,I ⟨rfl,d9.nil _ _ _ _,λ_=>rfl,eT.nil _ _ _ _,bN _ _⟩⟩
   case round=>
    obtain⟨d,o,j,rfl,rfl,hj,rfl,HR⟩:=hrel;have nR:=I (up HB1.out HR.out.2.2.2.2);have HJL:Hid (j<=x.bq.length):=I (by rw[<-zQ.out];exact hj);have HIE:=I (PX HU.out HJL.out HR.out.1);have HOL:Hid ((Sm.inf ss Z m x known bJ j).1.length=j):=I (PV HJL.out);obtain⟨HDL,HUL⟩:=bT (Yv HP.out.small HJL.out HR.out.1) HU.out.len;by_cases hjl:j<n4
    ·obtain⟨f,hf⟩:∃f,x.bq[j]?=some f:=⟨_,bg (by rw[<-zQ.out];exact hjl)⟩;obtain⟨HF,HFM⟩:=bT hf (dN hf);have HFZ:=I (fun_size HP.out.mo.split.2.2 HFM.out);obtain⟨fa,fb,fo,fc,hfe,hfa,hfl,yI⟩:=HP.out.mo.split.2.2;obtain⟨hfz,vp,vb,e0',e1',e2',e3',g0,g1,g2,g3,g4,g5,g6,hpar,PG,hres⟩:=yI j f hf;have hfa':=hfa (by rw[<-zQ.out];omega);injection hfe with ee1 ee2 ee3;rw[hfa']at ee1;subst ee1;obtain⟨pa,pb,po,pc,rfl,-⟩:=hpar;obtain⟨ba,bc,rfl⟩:=eU.tV PG;obtain⟨ra,rc,rfl,rfl,rfl,rfl⟩:=hres.shape;obtain⟨np,hnp⟩:∃n,n=f.params.length:=⟨_,rfl⟩;obtain⟨nb,hnb⟩:∃n,n=f.body.length:=⟨_,rfl⟩;obtain⟨nr,hnr⟩:∃n,n=f.result.args.length:=⟨_,rfl⟩;have FQ:=I hnp;rw[<-hnp]at g1;rw[<-hnb]at g2;rw[<-hnr]at g6;replace g0:=aC g0 nR.out;replace g1:=aC g1 nR.out;replace g2:=aC g2 nR.out;replace g3:=aC g3 nR.out;replace g4:=aC g4 nR.out;replace g5:=aC g5 nR.out;replace g6:=aC g6 nR.out;clear yI hfa hfl ee2 ee3 hfz PG hres hnp hnb hnr hf hfa';obtain⟨oa,oc,ho⟩:=HR.out.2.1.form;rw[HOL.out]at ho;subst ho;go_upto_region 8 with fail;obtain⟨oD,HKF⟩:=sS wr (aY #[A f.name,Y pa np pc,Y ba nb bc,O f.result.kind,O f.result.n,A f.result.name,Y ra nr rc] 109);obtain⟨LA,HDW7,jB⟩:=fq (HR.out.2.1.below oD.out (λ_ _ h=>h.below oD.out)) (HR.out.2.2.2.1.below oD.out) (up HR.out.2.2.2.2 oD.out);generalize wr.alloc (aY #[A f.name,Y pa np pc,Y ba nb bc,O f.result.kind,O f.result.n,A f.result.name,Y ra nr rc] 109)=W7 at *;obtain⟨HIE0,HON⟩:=bT HR.out.1 HR.out.2.2.1;generalize wr.heap.size=FK at *;clear g0 g1 g2 g3 g4 g5 g6;obtain⟨HWW7,HK07,Kn⟩:=fq (up HB1.out jB.out) (aU nV.out jB.out) (aU lN.out jB.out);obtain⟨x0,x1⟩:=jm HK07.out;obtain⟨y0,y1,y2,y3⟩:=Js Kn.out;have HPW:Hid (l9 W7 m (Y a0 n0 c0) (Y a1 n1 c1) (Y a2 n2 c2) (Y a3 n3 c3) (Y (some (X fb fo)) n4 c4) (Y a5 n5 c5) (Y a6 n6 c6) (Y oa j oc) ss G L Z x known bJ (Sm.inf ss Z m x known bJ j).1):=I (by have h:=HP.out.below HWW7.out;exact⟨h.strs,h.Qg,h.mo,h.cap,h.kn,h.sc,Kl LA.out (by have:=HOL.out;have:=HN4B.out;omega) (λy hy u hu=>HU.out.size u ((HIE.out y hy).1 u hu)) (λy hy=>bH (HIE.out y hy).2 HUL.out),h.small,h.smalls,h.tab,h.lK,λy hy=>bH (HIE.out y hy).2 HUL.out⟩);have Vl:=I (VX m W7 _ _ _ _ _ _ _ _ ss G L Z x known bJ _ (j:Int) 40 1000 HPW.out);obtain⟨Ej,hEj⟩:∃E,E=Fl.Qn ss G L Z m x j known bJ (Sm.inf ss Z m x known bJ j).1 40 1000:=⟨_,rfl⟩;have HEJ:Hid (qm ss G L Z m x known bJ (j+1)=Ej):=I (by rw[M8 HIE0.out,hEj]);have HEW:=I hEj;rw[<-hEj]at Vl;clear hEj;go_wp2_with fail;refine Vl.out.mono ?_;intro e w8 hh;rcases hh.out with⟨hne,rfl,oH⟩|⟨h0,kn,f',hk,hf',dZ,vc,vs',vf',ve,rfl,hpb,oH⟩
     ·have hz:=dY hne;have R9:Hid (aaj=([],[],Ej)):=I (by
       have h1:qm ss G L Z m x known bJ x.bq.length=Ej:=by have h2:=M7 (ss:=ss) (G:=G) (L:=L) (Z:=Z) (m:=m) (x:=x) (known:=known) (bJ:=bJ) (k:=j+1) (by rw[HEJ.out];exact hne) (x.bq.length - (j+1));rw[show j+1+(x.bq.length - (j+1))=x.bq.length by have:=zQ.out;omega]at h2;rw[h2,HEJ.out]
       rw[HA.out];unfold Sm.ans;rw[aJ (by rw[HE0.out];simp),aJ (by rw[HD.out];simp),h1,aL hne])
      have vE:=I (up HWW7.out oH);clear hh oH hne x0 x1 y0 y1 y2 y3;go_wp2_with fail;refine bW (v:=.tuple #[J,J,O Ej]) (by simp[results,results26,go_sem]) rfl ?_;rw[R9.out];exact⟨_,_,rfl,I ⟨d9.nil _ _ _ _,zC _ _,up vE.out (aH _ _)⟩⟩
     ·obtain rfl:kn=j:=by omega
      rw[HF.out]at hf';obtain rfl:f=f':=H9 hf';have BG:=I (Hy HF.out (by rw[<-HEW.out];exact h0));have HPE:=I (Tm HU.out (λy hy=>(HIE.out y hy).1) BG.out);obtain⟨P,hPP⟩:∃P,P=(Fl.fP ss Z x kn known bJ (Sm.inf ss Z m x known bJ kn).1 f).jq m f:=⟨_,rfl⟩;have HPV:Hid (PbV w8 dZ vc vs' vf' ve P):=I (by rw[hPP];exact xu.ofRd BG.out HFM.out HP.out.small HFZ.out HPE.out.1 HPE.out.2 HUL.out HU.out.size hpb);have HPBV:Hid (∀wx,xu wx W7.heap.size dZ vc vs' vf' ve P->PbV wx dZ vc vs' vf' ve P):=I (λwx h=>by rw[hPP]at h ⊢;exact xu.ofRd BG.out HFM.out HP.out.small HFZ.out HPE.out.1 HPE.out.2 HUL.out HU.out.size h);have HPO:Hid (VY ss.length P):=I (by rw[hPP];exact BG.out.pb);have Cw:Hid (P.names.length<=40/\P.cons.length<=1000/\P.sinks.length<=2097148):=I (by rw[hPP];exact⟨BG.out.nm,BG.out.cn,BG.out.sinks HFM.out HP.out.small⟩);have HINF:=I (yS (ss:=ss) (Z:=Z) (m:=m) (known:=known) (bJ:=bJ) HF.out);rw[<-hPP]at HINF HPE hpb;obtain⟨HPB,HEF,HCH,HP4⟩:=mg hpb hpb.gU BG.out.chk BG.out.par;have HLV:Hid (P.mask=0):=I (by rw[hPP];rfl);obtain⟨na0,nc0,q0⟩:=iD HPV.out.names;obtain⟨na1,nc1,q1⟩:=HPV.out.cons.form;obtain⟨na2,nc2,q2⟩:=HPV.out.sinks.form;obtain⟨na3,nc3,q3⟩:=HPV.out.fr.Dx;obtain⟨na4,nc4,q4⟩:=iD HPV.out.gU;generalize P.names.length=nn0 at q0;generalize P.cons.length=nn1 at q1;generalize P.sinks.length=nn2 at q2;generalize P.fr.length=nn3 at q3;generalize P.gU.length=nn4 at q4;subst q0 q1 q2 q3 q4;rw[<-hPP];obtain⟨lvl,hlvl⟩:∃n,n=P.level:=⟨_,rfl⟩;rw[<-hlvl];obtain⟨TY,SC,HDW8,vE,HKF8⟩:=tq hlvl (LA.out.below oH (λ_ _ h=>h.below oH)) (HDW7.out.below oH) (up jB.out oH) (aU HKF.out oH);have hEz:Ej=0:=h0;subst hEz;clear hh oH hk hf' hpb hPP hlvl x0 x1 y0 y1 y2 y3;go_upto_region 11 with fail;obtain⟨oD,HKP⟩:=sS w8 (aY #[Y na0 nn0 nc0,Y na1 nn1 nc1,Y na2 nn2 nc2,Y na3 nn3 nc3,O 0,O lvl,Y na4 nn4 nc4] 128);obtain⟨HOW9,HDW9,xk,HKF9,HPV9,HEF9⟩:=vC (SC.out.below oD.out (λ_ _ h=>h.below oD.out)) (HDW8.out.below oD.out) (up vE.out oD.out) (aU HKF8.out oD.out) (HPV.out.below oD.out) (HEF.out.below oD.out);have HPB9:=I (HPB.out.Kk oD.out);generalize w8.alloc (aY #[Y na0 nn0 nc0,Y na1 nn1 nc1,Y na2 nn2 nc2,Y na3 nn3 nc3,O 0,O lvl,Y na4 nn4 nc4] 128)=W9 at *;generalize w8.heap.size=PK at *;have HK09:=I (aU nV.out xk.out);obtain⟨x0,x1⟩:=jm HK09.out;obtain⟨p0,p1,p2,p3,p4,p5,p6⟩:=BX HKP.out;have Cg:Hid (mK W9 (Y a0 n0 c0) (Y a1 n1 c1) ss G L Z):=I ⟨HP.out.strs.below (up HB1.out xk.out),HP.out.Qg.below (up HB1.out xk.out),HCH.out⟩;have HSO:=I (V5 W9 _ _ _ _ _ _ _ 0 lvl ss G L Z P Cg.out HPV9.out HPO.out Cw.out.1 Cw.out.2.1 (by have:=Cw.out.2.2;omega));simp only[So.cs]at HSO;go_wp2_with fail;refine HSO.out.mono ?_;rintro e w10 ⟨V,vL,vK,rfl,hh10⟩;obtain⟨hlas,hlst,hsnk,sW,hl0,hk0⟩:=hh10.out;have vH:=I (And.intro hl0 hk0);clear hl0 hk0;have HPB10:=I (HPB9.out.Kk sW);have GU:Hid (PS w10 ⟨Y a0 n0 c0,Y a1 n1 c1,Y na0 nn0 nc0,Y na1 nn1 nc1,Y na2 nn2 nc2,Y na3 nn3 nc3,0,lvl,Y na4 nn4 nc4,vL,vK⟩ ss G L Z P V):=I ⟨Cg.out.below sW,HPV9.out.below sW,HPO.out,hlas,hlst.ok,hsnk⟩;have HVE:Hid (∀v,v<P.names.length->V v=Sm.least Z ss.length P.names.length P.cons v):=I (Tc Cg.out.joins hlst);obtain⟨la,ln,lc,rfl⟩:=Dz hlas;obtain⟨ka,kn',kc,rfl⟩:=Dz hsnk;obtain⟨HOW10,HDW10,HB10,HKF10,HEF10⟩:=tq (HOW9.out.below sW (λ_ _ h=>h.below sW)) (HDW9.out.below sW) (up xk.out sW) (aU HKF9.out sW) (HEF9.out.below sW);clear hh10 hlas hlst hsnk sW x0 x1 p0 p1 p2 p3 p4 p5 p6;go_upto_region 12 with fail;obtain⟨oD,HKS⟩:=sS w10 (aY #[Y a0 n0 c0,Y a1 n1 c1,Y na0 nn0 nc0,Y na1 nn1 nc1,Y na2 nn2 nc2,Y na3 nn3 nc3,O 0,O lvl,Y na4 nn4 nc4,Y la ln lc,Y ka kn' kc] 133);obtain⟨HOW11,HDW11,HB11,HKF11,HSA11,HEF11⟩:=vC (HOW10.out.below oD.out (λ_ _ h=>h.below oD.out)) (HDW10.out.below oD.out) (up HB10.out oD.out) (aU HKF10.out oD.out) (GU.out.below oD.out) (HEF10.out.below oD.out);have HPB11:=I (HPB10.out.Kk oD.out);generalize w10.alloc (aY #[Y a0 n0 c0,Y a1 n1 c1,Y na0 nn0 nc0,Y na1 nn1 nc1,Y na2 nn2 nc2,Y na3 nn3 nc3,O 0,O lvl,Y na4 nn4 nc4,Y la ln lc,Y ka kn' kc] 133)=W11 at *;generalize w10.heap.size=SK at *;obtain⟨s0,s1,s2,s3,s4,s5,s6,s7,s8,s9,s10⟩:=ZC11 HKS.out;obtain⟨t0,t1,t2,t3,t4,t5,t6⟩:=BX HKF11.out;have xC:=I (Tw W11 _ ss G L Z P V f pa ba ra pc nb bc nr rc f.result.kind f.result.n f.result.name HSA11.out HLV.out.symm TY.out HP4.out (by have:=Cw.out.2.2;omega));simp only[So.cs]at xC;rw[<-FQ.out]at xC;go_wp2_with fail;refine xC.out.mono ?_;rintro e w12 ⟨B,rfl,hh12⟩;obtain⟨hrow,Tx⟩:=hh12.out;obtain⟨sc,hsc⟩:∃y,y=Sm.eB Z ss.length V P f:=⟨_,rfl⟩;have HSCE:Hid (sc=Sm.eB Z ss.length (Sm.least Z ss.length P.names.length P.cons) P f):=I (by rw[hsc];exact Te HPO.out HVE.out f);have HDGE:Hid (Sm.Gf Z ss.length V P f.name=Sm.Gf Z ss.length (Sm.least Z ss.length P.names.length P.cons) P f.name):=I (Tf HPO.out HVE.out f.name);obtain⟨i1,hi1⟩:∃n,n=(Sm.tell Z ss.length V P.fr (Sm.lab P.mask P.level)).1:=⟨_,rfl⟩;obtain⟨i2,hi2⟩:∃n,n=(Sm.tell Z ss.length V P.fr (Sm.lab P.mask P.level)).2:=⟨_,rfl⟩;obtain⟨i3,hi3⟩:∃n,n=Sm.pc Z ss.length P.sinks:=⟨_,rfl⟩;rw[<-hi1,<-hi2,<-hi3];have HSCC:Hid (EU w12 [A f.name,O (i1:Nat),O (i2:Nat),Y (some (X B 0)) np np,O (i3:Nat),Y na4 nn4 nc4] sc):=I ⟨Y (some (X B 0)) np np,Y na4 nn4 nc4,by rw[hsc,hi1,hi2,hi3];rfl,by
       rw[hsc];have h1:=hrow.RP (by rw[Yp];have:=HP4.out;have:=FQ.out;omega);rw[Yp]at h1;show cK w12 _ (bds Z ss.length V P.sinks f.params.length);rw[<-FQ.out];exact h1,by
       rw[hsc];exact(HEF11.out.below Tx).oldF (bI _)⟩
      obtain⟨HOW12,HDW12,HB12,HB1112,HPB12⟩:=tq (HOW11.out.below Tx (λ_ _ h=>h.below Tx)) (HDW11.out.below Tx) (up HB11.out Tx) Tx (HPB11.out.Kk Tx);clear hh12 hrow Tx hsc hi1 hi2 hi3 s0 s1 s2 s3 s4 s5 s6 s7 s8 s9 s10 t0 t1 t2 t3 t4 t5 t6;obtain⟨dO,DV⟩:=sS w12 (aY #[A f.name,O (i1:Nat),O (i2:Nat),Y (some (X B 0)) np np,O (i3:Nat),Y na4 nn4 nc4] 35);obtain⟨Nc,HDW13,HB13,HC13,HPB13,Wu⟩:=vC (HOW12.out.below dO.out (λ_ _ h=>h.below dO.out)) (HDW12.out.below dO.out) (up HB12.out dO.out) (HSCC.out.below dO.out) (HPB12.out.Kk dO.out) (up HB1112.out dO.out)
      go_upto_region 13 with(first
       | (at_builtin;refine mq (At:=EU) rfl _ _ 30 35 6 88 _ rfl underlying30 infoSc bP bP bP w1.heap.size (Y oa kn oc) (Sm.inf ss Z m x known bJ kn).1 rfl Nc.out w12.heap.size [A f.name,O (i1:Nat),O (i2:Nat),Y (some (X B 0)) np np,O (i3:Nat),Y na4 nn4 nc4] sc rfl (λq u hu=>(by rw[aj DV.out q];simpa only [xP]using hu)) rfl (by simp[Value.oneCell']) HC13.out (by rw[HOL.out];have:=HN4B.out;omega) HB13.out.size (λw' c y hg hc=>hc.st (mD.grown hg Nc.out.typ) bP bP) ?_;intro g14 cap14 w14 hown14 Yz;have HO14:=I hown14;have HG14:=I Yz;clear hown14 Yz)
       | fail)
      obtain⟨HST,HSTR⟩:=bT (mD.grown HG14.out Nc.out.typ) (ownSc_str Nc.out (λh=>HON.out (by rw[<-HOL.out,h];rfl)));have HB14:Hid (bG w1 w14):=I (Below.grown HB13.out HG14.out HB13.out.size (λk e=>(Nc.out.lt k e).1));obtain⟨HKS14,HKF14⟩:=bT (HST.out _ _ _ (aU HKS.out Wu.out) bP) (HST.out _ _ _ (aU HKF11.out Wu.out) bP);have HSA14:Hid (PS w14 ⟨Y a0 n0 c0,Y a1 n1 c1,Y na0 nn0 nc0,Y na1 nn1 nc1,Y na2 nn2 nc2,Y na3 nn3 nc3,0,lvl,Y na4 nn4 nc4,Y la ln lc,Y ka kn' kc⟩ ss G L Z P V):=I (by have h:=HSA11.out.below Wu.out;exact⟨⟨HP.out.strs.below (up HB1.out HB14.out),HP.out.Qg.below (up HB1.out HB14.out),HCH.out⟩,HPBV.out _ (HPB13.out.st HST.out),h.ok,h.las.grown0 vH.out.1 HG14.out HSTR.out,h.oks,h.snk.grown0 vH.out.2 HG14.out HSTR.out⟩);obtain⟨HDW14,HDC⟩:=bT (HDW13.out.grown HG14.out (λg hg e=>by obtain⟨c1',h1'⟩:=HDW13.out.typ hg;obtain⟨c2',h2'⟩:=Nc.out.typ g e;rw[h1']at h2';simp at h2')) (V6 w14 _ ss G L Z P V f.name HSA14.out (by have:=Cw.out.2.2;omega));simp only[So.cs]at HDC;obtain⟨s0,s1,s2,s3,s4,s5,s6,s7,s8,s9,s10⟩:=ZC11 HKS14.out;have t0:=aj HKF14.out 0;go_wp2_with fail;refine HDC.out.mono ?_;rintro e w15 ⟨u15,rfl,hh15⟩;obtain⟨hu15,Rh⟩:=hh15.out;have HU15:=I hu15;obtain⟨ua15,uc15,rfl⟩:=hu15.form;obtain⟨HO15,HDW15,HB15⟩:=fq (HO14.out.below Rh (λ_ _ h=>h.below Rh)) (HDW14.out.below Rh) (up HB14.out Rh);have HDS:Hid ((Sm.Gf Z ss.length V P f.name).length<=2097148):=I (by unfold Sm.Gf;rw[dR];exact bH (Ju _ _) Cw.out.2.2);have HSUM:Hid ((Sm.inf ss Z m x known bJ kn).2.length+(Sm.Gf Z ss.length V P f.name).length<=16777216):=I (by have h8:=(zB (Wp HE0.out).2).1;have h1:=HDL.out;have h2:=HDS.out;have h3:=zQ.out;omega);have hnb4:=HN4B.out;obtain⟨dl,hdl⟩:∃n,n=(Sm.Gf Z ss.length V P f.name).length:=⟨_,rfl⟩;rw[<-hdl]at HU15 ⊢;clear hh15 hu15 Rh s0 s1 s2 s3 s4 s5 s6 s7 s8 s9 s10 t0 hdl
      go_wp2_with (first
       | (at_builtin;refine gG (At:=qz) rfl _ _ 59 80 3 40 _ rfl underlying59 qA bP bP bP w1.heap.size d (Sm.inf ss Z m x known bJ kn).2 rfl HDW15.out w14.heap.size (Y ua15 dl uc15) (Sm.Gf Z ss.length V P f.name) rfl HU15.out HSUM.out HB15.out.size ?_;intro v16 w16 hown16 YA;have HO16:=I hown16;have HG16:=I YA;clear hown16 YA)
       | fail)
      have HST:=I (mD.grown (t:=80) HG16.out (λk hk=>HDW15.out.typ hk));have HB16:Hid (bG w1 w16):=I (Below.grown HB15.out HG16.out HB15.out.size (λk e=>(HDW15.out.lt k e).1));have HOW16:=I (HO15.out.keep (λj cur _ hj=>HST.out j cur _ hj bP) (λc y hc=>hc.st HST.out bP bP));go_roundw;case rel=>
       refine⟨_,_,kn+1,rfl,rfl,by omega,by go_num,I ⟨HEJ.out,?_,λh=>aN h (Nat.succ_ne_zero _),?_,HB16.out⟩⟩;·rw[HINF.out];show d9 EU w16 _ _ 6 _ ((Sm.inf ss Z m x known bJ kn).1++[Sm.eB Z ss.length (Sm.least Z ss.length P.names.length P.cons) P f]);rw[<-HSCE.out];exact HOW16.out
       ·rw[HINF.out];show eT qz w16 _ _ 3 _ ((Sm.inf ss Z m x known bJ kn).2++Sm.Gf Z ss.length (Sm.least Z ss.length P.names.length P.cons) P f.name);rw[<-HDGE.out];exact HO16.out
      case measure=>simp[intOf];omega
    ·obtain rfl:j=n4:=by omega
     have HIF:Hid (qm ss G L Z m x known bJ x.bq.length=0):=I (by rw[<-zQ.out];exact HR.out.1);have h8:=(zB (Wp HE0.out).2).1;rcases HR.out.2.2.2.1.shape with⟨hd,hz⟩|⟨g,cap,hd,hcp,hgn,hgl,hne⟩;·subst hd;have R9:Hid (aaj=((Sm.inf ss Z m x known bJ j).1,[],0)):=I (by rw[HA.out];unfold Sm.ans;rw[aJ (by rw[HE0.out];simp),aJ (by rw[HD.out];simp),aJ (by rw[HIF.out];simp),<-zQ.out,aJ (by rw[hz];simp)]);have GU:Hid (d9 EU wr w.heap.size 35 6 o (Sm.inf ss Z m x known bJ j).1):=I (HR.out.2.1.old HB1.out.size);clear hz h8;go_wp2_with fail;refine bW (v:=.tuple #[o,J,O 0]) (by simp[results,results26,go_sem]) rfl ?_;rw[R9.out];exact⟨_,_,rfl,I ⟨GU.out,zC _ _,nR.out⟩⟩
     ·have KL:Hid ((Sm.inf ss Z m x known bJ j).2.length<=16777216):=I (by have:=HDL.out;have:=zQ.out;omega);have HDG:=I (HR.out.2.2.2.1.Gf (by have:=KL.out;omega));rw[hd]at HDG;have R9:Hid (aaj=([],aO.once (Sm.inf ss Z m x known bJ j).2,0)):=I (by rw[HA.out];unfold Sm.ans;rw[aJ (by rw[HE0.out];simp),aJ (by rw[HD.out];simp),aJ (by rw[HIF.out];simp),<-zQ.out,aL hne]);have HIC:=I (yj wr _ (Sm.inf ss Z m x known bJ j).2 HDG.out KL.out);obtain⟨nd,hnd⟩:∃n,n=(Sm.inf ss Z m x known bJ j).2.length:=⟨_,rfl⟩;have hpos:0<nd:=by rw[hnd];exact uF.2 hne
      rw[<-hnd]at hd HIC;rw[hd];clear hd hcp hgn hgl hne hnd h8;go_wp2_with fail;refine HIC.out.mono ?_;rintro e w9 ⟨u9,rfl,U1,tL⟩;have HU9:=I U1;obtain⟨a9,b9,o9,c9,rfl,-⟩:=U1;generalize hnl:(aO.once (Sm.inf ss Z m x known bJ j).2).length=n9 at *;have xk:=I (up nR.out tL);clear tL hnl;go_wp2_with fail;refine bW (v:=.tuple #[J,Y a9 n9 c9,O 0]) (by simp[results,results26,go_sem]) rfl ?_;rw[R9.out];exact⟨_,_,rfl,I ⟨d9.nil _ _ _ _,HU9.out,xk.out⟩⟩
  ·have R9:Hid (aaj=([],aO.once (aO.Aj ss x known m),0)):=I (by rw[HA.out];unfold Sm.ans;rw[aJ (by rw[HE0.out];simp),aL hD]);have HU1:=I hu;obtain⟨a9,b9,o9,c9,rfl,-⟩:=hu;obtain⟨nd,hnd⟩:∃n,n=(aO.once (aO.Aj ss x known m)).length:=⟨_,rfl⟩;have hpos:0<nd:=by rw[hnd];exact uF.2 hD
   rw[<-hnd]at HU1 ⊢;clear hnil hpd hD hnd;go_wp2_with fail;refine bW (v:=.tuple #[J,Y a9 nd c9,O 0]) (by simp[results,results26,go_sem]) rfl ?_;rw[R9.out];exact⟨_,_,rfl,I ⟨d9.nil _ _ _ _,HU1.out,HB1.out⟩⟩
 ·have hpd:EC E ss x known m=[]:=by unfold EC;rw[aJ hE]
  obtain rfl:=hnil hpd;have R9:Hid (aaj=([],[],E)):=I (by rw[HA.out];unfold Sm.ans;rw[<-Ua.out,aL hE]);have hz:=dY hE;clear hu hnil hpd hE;go_wp2_with fail;refine bW (v:=.tuple #[J,J,O E]) (by simp[results,results26,go_sem]) rfl ?_;rw[R9.out];exact⟨_,_,rfl,I ⟨d9.nil _ _ _ _,zC _ _,HB1.out⟩⟩
theorem make_ints(n:Nat)(hn:n<=1048576)(w:World):(Instr.makeSlice 27 (O (n:Int)) (O (n:Int))).run prog w=.ok (Y (some (X w.heap.size 0)) n n) (w.alloc (.cells (madeCells #[O 0] n) 3)):=by obtain⟨i,hi,hzz⟩:=xJ.1 y8;simp only[qC]at hzz;obtain⟨hz,hs,hb⟩:=hzz;have hr:=run_make (P:=prog) w 27 3 i _ underlying27 hi hz .i64 .i64 n n aV (Int.le_refl _) (by rw[hb];omega) aV;rw[hs,show(O 0).cells=#[O 0]from rfl]at hr;simpa using hr
theorem made_ints(n:Nat):madeCells #[O 0] n=((List.replicate n (0:Int)).map (Value.int .i64)).toArray:=by
 apply Array.ext;·simp[madeCells]
 ·intro i h1 h2;simp[madeCells,Nat.mod_one]
theorem Ga{P:Program}{ops:Array Oper}{Q:Exit->Act->World->Prop}{md:Region.Mode}{S:World->Prop}{st:Nat}{listed:Array Bool}{a:Act}(h:∀x,x=w->jf P md ops Q S st fuel listed a x):jf P md ops Q S st fuel listed a w:=h w rfl
theorem Wv(m:Nat)(w:World)(v:Value)(l:List Fu)(h:lS w m v l)(hl:l.length<=8)(hp:∀f∈l,f.params.length<=4):Calls prog 190 #[v] w λe w'=>∃u,e=cO u/\Hid (d9 EU w' w.heap.size 35 6 u (l.map Ck.un)/\bG w w'):=by
 have HP:=I hp;obtain⟨fa,fb,fo,fc,rfl,hfa,hfl,yI⟩:=h;obtain⟨PE,kg⟩:=bT hfa yI;obtain⟨nf,hnf⟩:=bC l.length;have uH:=I hnf;rw[<-hnf]at hl PE ⊢;clear hfa yI hfl hnf hp;go_enter func190,ntmps190;go_wp2_with fail;go_loopw[3,8] (λo i wr=>∃(ov:Value) (j:Nat),ov=o/\j<=nf/\i=O j/\Hid (d9 EU wr w.heap.size 35 6 ov ((l.take j).map Ck.un)/\bG w wr)) (λ_ i _=>nf - (intOf i).toNat);case atStart=>exact⟨_,0,rfl,bI _,rfl,I ⟨d9.nil _ _ _ _,bN _ _⟩⟩
 case round=>
  obtain⟨o,j,rfl,hj,rfl,HR⟩:=hrel;by_cases hjl:j<nf
  ·obtain⟨f,hf⟩:∃f,l[j]?=some f:=⟨_,bg (by rw[<-uH];exact hjl)⟩;obtain⟨HF,HP4⟩:=bT hf (HP f (dN hf));obtain⟨hfz,vp,vb,e0',e1',e2',e3',g0,g1,g2,g3,g4,g5,g6,hpar,PG,hres⟩:=kg j f hf;obtain rfl:=PE aV;obtain⟨pa,pb,po,pc,rfl,-⟩:=hpar;obtain⟨ba,bc,rfl⟩:=eU.tV PG;obtain⟨ra,rc,rfl,rfl,rfl,rfl⟩:=hres.shape;obtain⟨np,hnp⟩:=bC f.params.length;obtain⟨nb,hnb⟩:=bC f.body.length;obtain⟨nr,hnr⟩:=bC f.result.args.length;have FQ:=I hnp;rw[<-hnp]at g1 HP4;rw[<-hnb]at g2;rw[<-hnr]at g6;replace g0:=aC g0 HR.2;replace g1:=aC g1 HR.2;replace g2:=aC g2 HR.2;replace g3:=aC g3 HR.2;replace g4:=aC g4 HR.2;replace g5:=aC g5 HR.2;replace g6:=aC g6 HR.2;have Gq:Hid (((l.take j).map Ck.un).length=j):=I (by rw[dR,jO];have:=uH.out;omega);have dM:Hid ((l.take (j+1)).map Ck.un=(l.take j).map Ck.un++[Ck.un f]):=I (by rw[gH,hf,lM,fH];rfl);obtain⟨oa,oc,ho⟩:=HR.1.form;rw[Gq]at ho;subst ho;clear hf hfz PG hres hnp hnb hnr;go_upto_region 5 with fail;obtain⟨oD,HKF⟩:=sS wr (aY #[A f.name,Y pa np pc,Y ba nb bc,O f.result.kind,O f.result.n,A f.result.name,Y ra nr rc] 109);obtain⟨LA,jB⟩:=bT (HR.1.below oD (λ_ _ h=>h.below oD)) (up HR.2 oD);generalize wr.alloc (aY #[A f.name,Y pa np pc,Y ba nb bc,O f.result.kind,O f.result.n,A f.result.name,Y ra nr rc] 109)=W7 at *;generalize wr.heap.size=FK at *;clear g0 g1 g2 g3 g4 g5 g6;have HSF:Hid (∀x:World,x.heap[FK]?=some (aY #[A f.name,Y pa np pc,Y ba nb bc,O f.result.kind,O f.result.n,A f.result.name,Y ra nr rc] 109)->x.cell? (X FK 0)=some (A f.name)/\x.cell? (X FK 1)=some (Y pa np pc)):=I (λx g=>⟨(aj g 0).trans rfl,(aj g 1).trans rfl⟩);have MK:=make_ints np (by have:=HP4.out;omega);refine bX [some false,some false,some true,some false,some true,some false,none,none,none,none,none] 10 (λx=>x.cell? (X FK 0)=some (A f.name)/\x.cell? (X FK 1)=some (Y pa np pc)) 5 bU bU (λ_ _ d _ _ h=>(by cases d<;>exact h)) (HSF _ HKF) ?_;dsimp only[fT];repeat(first|(refine fE (v:=?_) dH ?_ ?_;rotate_left 1;(focus(intro w;go_simp;try(with_reducible rfl)));simp only[Act.put,dL,dX,eH])|(refine fF (v:=?_) dH ?_ ?_;rotate_left 1;(focus(intro w hSw;obtain⟨q0,q1⟩:=hSw;go_simp;try(with_reducible rfl)));simp only[Act.put,dL,dX,eH]))
   refine dP ?_;refine aQ (i:=6) bU dH (λK hK=>?_);go_simp;refine hK _ _ (λ_=>HSF _ (dB HKF _)) ?_;clear hK K;refine Ga ?_;intro x1 hx1;have HB1:Hid (bG W7 x1):=I (by rw[hx1];exact(aH _ _).drew);have HRB:Hid (qo x1 W7.heap.size (List.replicate np 0)):=I (by rw[hx1];unfold qo;rw[<-made_ints];exact bD _ _);obtain⟨B1,hB1⟩:=bC W7.heap.size;rw[<-hB1]at HRB ⊢;have HKF1:=I (aU HKF HB1);clear hx1 hB1;refine aQ (i:=7) bU dH (λK hK=>?_);go_simp;refine hK _ _ (λ_=>HSF _ HKF1) ?_;clear hK K;refine aQ (i:=8) bU dH (λK hK=>?_);go_simp;refine hK _ _ (λ_=>HSF _ (dB HKF1 _)) ?_;clear hK K;refine Ga ?_;intro x2 hx2;have HB2:Hid (bG x1 x2):=I (by rw[hx2];exact aH x1 _);have DV:Hid (x2.heap[x1.heap.size]?=some (aY #[A f.name,O 0,O 0,Y (some (X B1 0)) np np,O 0,J] 35)):=I (by rw[hx2];exact bD x1 _);obtain⟨B2,hB2⟩:=bC x1.heap.size;rw[<-hB2]at DV ⊢;obtain⟨HKF2,HB72⟩:=bT (aU HKF1 HB2) (up HB1 HB2);have HOW2:=I (LA.below HB72 (λ_ _ h=>h.below HB72));have QJ:Hid (EU x2 [A f.name,O 0,O 0,Y (some (X B1 0)) np np,O 0,J] (Ck.un f)):=I ⟨_,_,rfl,by have h:=(show qo x2 B1 (List.replicate np 0)from aU HRB HB2).RP (by rw[yR];have:=HP4.out;omega);rw[yR]at h;show cK x2 _ (List.replicate f.params.length 0);rw[<-FQ];exact h,aR ⟨rfl,rfl⟩⟩;have HB2W:Hid (bG w x2):=I (up jB HB72);clear hx2 hB2;refine aQ (i:=9) bU dH (λK hK=>?_);refine l8 (At:=EU) dH _ _ 30 35 6 88 _ dH underlying30 infoSc bP bP bP w.heap.size (Y oa j oc) ((l.take j).map Ck.un) dH HOW2 B2 [A f.name,O 0,O 0,Y (some (X B1 0)) np np,O 0,J] (Ck.un f) dH (λq u hu=>(by rw[aj DV q];simpa only [xP]using hu)) rfl (by simp[Value.oneCell']) QJ.out (by rw[Gq.out];omega) HB2W.size (λw' c y hg hc=>hc.st (mD.grown hg HOW2.typ) bP bP) ?_;intro g cap w9 hown hgrow hlie;obtain⟨HO9,HST⟩:=bT hown (mD.grown hgrow HOW2.typ);have xk:Hid (bG w w9):=I (Below.grown HB2W hgrow HB2W.size (λk e=>(HOW2.lt k e).1));rw[Gq]at HO9 ⊢;clear hown hgrow hlie;simp only[Act.put,dL];refine hK _ _ (λ_=>HSF _ (HST _ _ _ HKF2 bP)) ?_;clear hK K;refine aQ (i:=10) bU dH (λK hK=>?_);go_simp;refine hK _ _ (λh=>aN (h.symm.trans bU) gZ) ?_;clear hK K;refine dI bU ?_ _;go_wp2_with fail;go_roundw;case rel=>exact⟨_,j+1,rfl,by omega,by go_num,I ⟨by rw[dM];exact HO9,xk⟩⟩
   case measure=>simp[intOf];omega
  ·obtain rfl:j=nf:=by omega
   have Gq:Hid (l.take j=l):=I (by rw[uH,iL]);have HRR:=I HR.out.1;rw[Gq]at HRR;go_wp2_with fail;go_ret;exact⟨o,rfl,I ⟨HRR,HR.2⟩⟩
namespace Ck
structure Cx where
 m:Nat
 ss:List ByteArray
 G:Nat
 L:Nat->Nat
 Z:Nat->Nat->Bool
 l:List Mo
abbrev Fi:=List Sc × List Dg × Int
def fi0:Fi:=([],[],0)
def bl(l:List Mo)(F:ByteArray->Fi):List ByteArray->List Dg->List Dg × Int
 | [],acc=>(acc,0)
 | s::r,acc=>if (aO.dw l s).isSome=false then bl l F r acc else if (F s).2.2≠0 then ([],(F s).2.2)else bl l F r (if (F s).2.1≠[]then acc++[⟨7,⟨#[]⟩,s⟩]else acc)
def zR(l:List Mo)(x:Mo):List Mo:=l.filter λy=>!dD y.name x.name
def Tz(F:ByteArray->Fi)(x y:Mo):List Sc:=if aO.BR x.imports y.name then (F y.name).1 else y.bq.map un
def Ao(l:List Mo)(F:ByteArray->Fi)(x:Mo):List (List Sc):=(zR l x).map (Tz F x)
open Classical in
noncomputable def Uj(c:Cx)(F:ByteArray->Fi)(x:Mo):Fi:=
 if qG c.l x.name x.name then ([],[⟨8,⟨#[]⟩,x.name⟩],0)
 else if (bl c.l F x.imports []).2≠0 then ([],[],(bl c.l F x.imports []).2)
 else if aO.once (bl c.l F x.imports []).1≠[]then ([],aO.once (bl c.l F x.imports []).1,0)
 else Sm.ans c.ss c.G c.L c.Z c.m x (zR c.l x) (Ao c.l F x)
noncomputable def fd(c:Cx):Nat->ByteArray->Fi
 | 0,_=>fi0
 | g+1,s=>match aO.dw c.l s with
  | none=>fi0
  | some i=>match c.l[i]? with
   | none=>fi0
   | some x=>Uj c (fd c g) x
open Classical in
noncomputable def rk(l:List Mo)(s:ByteArray):Nat:=if qG l s s then 0 else (l.filter λy=>decide (qG l s y.name)).length
section
variable {c : Cx} {F F' : ByteArray → Fi} {x : Mo} {l : List Mo}
theorem bl_cong{r:List aZ}(h:∀b∈r,(aO.dw l b).isSome=true->F b=F' b):∀acc,bl l F r acc=bl l F' r acc:=by
 induction r with
 | nil=>intro acc;rfl
 | cons s r ih=>
  intro acc;unfold bl;by_cases hs:(aO.dw l s).isSome=false;·rw[aL hs,aL hs];exact ih (λb hb=>h b (nW _ hb)) acc
  ·rw[aJ hs,aJ hs,h s List.mem_cons_self (by cases hq:(aO.dw l s).isSome with|true=>rfl|false=>exact aN hq hs)];split;·rfl
   ·exact ih (λb hb=>h b (nW _ hb)) _
theorem yT{y:Mo}(hy:y∈l):(aO.dw l y.name).isSome=true:=by unfold aO.dw;rw[List.find?_isSome];obtain⟨i,hi,e⟩:=gP.1 hy;refine⟨i,jG.2 hi,?_⟩;rw[bg hi,e];simp[dD]
theorem zD{l:List aZ}{s:aZ}:aO.BR l s=true↔s∈l:=by unfold aO.BR;rw[iA];exact Fl.oV
theorem TA(h:∀b∈x.imports,(aO.dw c.l b).isSome=true->F b=F' b):¬qG c.l x.name x.name->Uj c F x=Uj c F' x:=by
 intro hr;unfold Uj;rw[aJ hr,aJ hr,bl_cong h];have hs:Ao c.l F x=Ao c.l F' x:=by
  unfold Ao;refine LW λy hy=>?_;unfold Tz;cases hi:aO.BR x.imports y.name with
  | false=>rfl
  | true =>rw[aL rfl,aL rfl,h y.name (zD.1 hi) (yT ((List.mem_filter.1 hy).1))]
 rw[hs]
theorem YC(F F':aZ->Fi)(hr:qG c.l x.name x.name):Uj c F x=Uj c F' x:=by unfold Uj;rw[aL hr,aL hr]
theorem Nf{a b d:aZ}(h:qG l a b)(k:qG l b d):qG l a d:=by
 induction k with
 | one k=>exact qG.more h k
 | more _ k ih=>exact qG.more ih k
theorem rk_le(l:List Mo)(s:aZ):rk l s<=l.length:=by
 unfold rk;split;·exact bI _
 ·exact Ju _ _
theorem YD{α:Type}{p q:α->Bool}{l:List α}(h:∀x∈l,p x=true->q x=true){y:α}(hy:y∈l)(h1:p y=false)(h2:q y=true):(l.filter p).length<(l.filter q).length:=by
 induction l with
 | nil=>cases hy
 | cons z l ih=>
  have mono:(l.filter p).length<=(l.filter q).length:=by
   have h':∀x∈l,p x=true->q x=true:=λx hx=>h x (nW _ hx);clear ih hy h;induction l with
   | nil=>exact bF _
   | cons t l ih=>
    have:=ih λx hx=>h' x (nW _ hx);simp only[List.filter_cons];cases hp:p t with
    | false=>cases q t<;>simp<;>omega
    | true=>rw[h' t List.mem_cons_self hp];simp;omega
  rcases gy.1 hy with rfl|hy;·simp only[List.filter_cons,h1,h2,if_true];simp;omega
  ·have:=ih (λx hx=>h x (nW _ hx)) hy;simp only[List.filter_cons];cases hp:p z with
   | false=>cases q z<;>simp<;>omega
   | true=>rw[h z List.mem_cons_self hp];simp;omega
open Classical in
theorem Ko{s b:aZ}(hs:¬qG l s s)(h:imp l s b):rk l b<rk l s:=by
 have hb:qG l s b:=qG.one h;obtain⟨i,hi⟩:=xM.1 (Wq hb);obtain⟨y,hy,e⟩:=gD hi;have hm:=dN hy;unfold rk;rw[aJ hs];split;·refine uF.2 λh0=>?_;have:y∈l.filter λy=>decide (qG l s y.name):=List.mem_filter.2 ⟨hm,by rw[e];simpa using hb⟩;rw[h0]at this;cases this
 ·rename_i hbb;refine YD (λz _ hz=>?_) hm ?_ ?_;·simp only[iA]at hz ⊢;exact Nf hb hz
  ·rw[e];simpa using hbb
  ·rw[e];simpa using hb
theorem fd_stable:∀(g g':Nat) (s:aZ),rk c.l s<g->rk c.l s<g'->fd c g s=fd c g' s:=by
 intro g;induction g with
 | zero=>intro g' s h;omega
 | succ g ih=>
  intro g' s h h';cases g' with
  | zero=>omega
  | succ g'=>
   rw[fd,fd];cases hi:aO.dw c.l s with
   | none=>rfl
   | some i=>
    obtain⟨x,hx,e⟩:=gD hi;simp only[hx];by_cases hr:qG c.l x.name x.name;·exact YC _ _ hr
    ·refine TA (λb hb hs=>?_) hr;have himp:imp c.l s b:=⟨i,x,hi,hx,hb,hs⟩;rw[e]at hr;have hlt:=Ko hr himp;exact ih g' b aV aV
end
noncomputable def FD(c:Cx)(s:ByteArray):Fi:=fd c (c.l.length+1) s
theorem PY{c:Cx}(h:aO.dw c.l s=none):FD c s=fi0:=by unfold FD;rw[fd,h]
theorem YE{c:Cx}(hi:aO.dw c.l s=some i)(hx:c.l[i]?=some x):FD c s=Uj c (FD c) x:=by
 have e0:x.name=s:=by obtain⟨y,hy,e⟩:=gD hi;rw[hx]at hy;cases hy;exact e
 have h1:FD c s=Uj c (fd c c.l.length) x:=by unfold FD;rw[fd,hi];simp only[hx]
 rw[h1];by_cases hr:qG c.l x.name x.name;·exact YC _ _ hr
 ·refine TA (λb hb hs=>?_) hr;rw[e0]at hr;obtain⟨hlt,h2⟩:=eD (Ko hr ⟨i,x,hi,hx,hb,hs⟩) (rk_le c.l s);exact fd_stable _ _ b aV aV
end Ck
theorem mD.but(h:But p w w')(hp:∃es cl,w.heap[p]?=some (.map es cl)):mD t w w':=λj cs u hj _=>h.at (λe=>by subst e;obtain⟨es,cl,h1⟩:=hp;rw[hj]at h1;cases h1) hj
theorem qp{l:List Sc}(h:d9 EU w n 35 6 v l)(hs:mD t w w')(h1:35≠t)(h2:9≠t)(h3:3≠t):d9 EU w' n 35 6 v l:=
 h.keep (λj cur _ hj=>hs j cur _ hj h1) λ_ _ hc=>hc.st hs h2 h3
def FiW(w:World)(v:Value)(y:Ck.Fi):Prop:=∃vs a c,v=.agg #[vs,.slice a y.2.1.length c,.int .i64 y.2.2]/\d9 EU w 0 35 6 vs y.1
def FiD(w:World)(v:Value)(y:Ck.Fi):Prop:=∃vs vd,v=.agg #[vs,vd,.int .i64 y.2.2]/\iE w vd y.2.1
theorem FiW.st{y:Ck.Fi}(h:FiW w v y)(hs:mD t w w')(h1:35≠t)(h2:9≠t)(h3:3≠t):FiW w' v y:=by obtain⟨vs,a,c,e,h⟩:=h;exact⟨vs,a,c,e,qp h hs h1 h2 h3⟩
theorem FiW.below{y:Ck.Fi}(h:FiW w v y)(hb:bG w w'):FiW w' v y:=h.st (t:=4) (mD.below hb) bP bP bP
def zFi:Value:=.agg #[.slice none 0 0,.slice none 0 0,.int .i64 0]
theorem zeroFi(w:World):(zeroValue 102).run prog w=.ok zFi w:=by kernel_rfl
def tQ(w:World)(m:Nat)(v:Value)(l:List Mo):Prop:=
 ∃(a:Option Addr) (b off cap:Nat),v=.slice a l.length cap/\(0<l.length->a=some ⟨b,off,none⟩)/\l.length<=9223372036854775807/\
  ∀i x,l[i]?=some x->∃vi vv vf,w.cell? ⟨b,off+i*4,none⟩=some (.string x.name)/\w.cell? ⟨b,off+i*4+1,none⟩=some vi/\w.cell? ⟨b,off+i*4+2,none⟩=some vv/\w.cell? ⟨b,off+i*4+3,none⟩=some vf/\gT w m (.agg #[.string x.name,vi,vv,vf]) x/\nY w vi vf
theorem tQ.mos(h:tQ w m v l):nC w m v l:=by obtain⟨a,b,off,cap,e,h0,hl,h1⟩:=h;refine⟨a,b,off,cap,e,h0,hl,λi x hx=>?_⟩;obtain⟨vi,vv,vf,g0,g1,g2,g3,hm,_⟩:=h1 i x hx;exact⟨vi,vv,vf,g0,g1,g2,g3,hm⟩
theorem tQ.below(h:tQ w m v l)(hb:bG w w'):tQ w' m v l:=by obtain⟨a,b,off,cap,e,h0,hl,h1⟩:=h;refine⟨a,b,off,cap,e,h0,hl,λi x hx=>?_⟩;obtain⟨vi,vv,vf,g0,g1,g2,g3,hm,hc⟩:=h1 i x hx;exact⟨vi,vv,vf,aC g0 hb,aC g1 hb,aC g2 hb,aC g3 hb,hm.below hb,hc.below hb⟩
namespace Ck
def cntF(l:List Mo)(fo:ByteArray->Option Value):Nat:=(l.filter λx=>(fo x.name).isSome).length
theorem cntF_put(hx:x∈l)(hn:fo x.name=none)(v:Value):cntF l fo+1<=cntF l (nQ fo x.name v):=by
 refine YD (p:=λy=>(fo y.name).isSome) (q:=λy=>(nQ fo x.name v y.name).isSome) (λy _ hy=>?_) hx (by rw[hn];rfl) (by simp[nQ,dD]);simp only[nQ];split;·rfl
 ·exact hy
theorem cntF_le(l:List Mo)(fo:aZ->Option Value):cntF l fo<=l.length:=Ju _ _
theorem jI(h:kN E m l=0):E=0/\l.length<=6/\(∀x∈l,oM m x=0)/\cnt l l.length=l.length:=by
 unfold kN at h;by_cases h0:E=0
 ·rw[aJ (by simp[h0])]at h;by_cases h1:6<l.length;·rw[aL h1]at h;cases h
  ·rw[aJ h1]at h;by_cases h2:zN m l=0
   ·rw[aJ (by simp[h2])]at h;by_cases h3:cnt l l.length<l.length;·rw[aL h3]at h;cases h
    ·have:=Pe l l.length;refine⟨h0,by omega,λx hx=>?_,by omega⟩;clear h h1 h3 this;induction l with
     | nil=>cases hx
     | cons y r ih=>
      unfold zN at h2;by_cases hy:oM m y=0
      ·rw[aL hy]at h2;rcases gy.1 hx with rfl|hx;·exact hy
       ·exact ih h2 hx
      ·rw[aJ hy]at h2;exact aN h2 hy
   ·rw[aL h2]at h;exact aN h h2
 ·rw[aL h0]at h;exact aN h h0
structure UAll(U ss:List ByteArray)(l:List Mo):Prop where
 var:∀x∈l,∀v∈x.vars,Fl.deed ⟨#[114,58]⟩ x.name v.name∈U/\Fl.deed ⟨#[119,58]⟩ x.name v.name∈U
 nE:∀s∈ss,(⟨#[112,58]⟩++s:ByteArray)∈U
 len:U.length<=1048576
 size:∀t∈U,t.size<=maxLen
theorem PZ{F:aZ->Fi}(hU:UAll U ss l)(hx:x∈l)(hF:∀s,∀y∈(F s).1,Wi U y):UOk U ss x (Ao l F x) where
 eB:=λr hr y hy t ht=>by
  unfold Ao at hr
  obtain⟨z,_,rfl⟩:=jU.1 hr
  unfold Tz at hy
  split at hy
  ·exact(hF _ y hy).1 t ht
  ·obtain⟨f,_,rfl⟩:=jU.1 hy
   simp[un]at ht
 var:=hU.var x hx
 nE:=hU.nE
 len:=hU.len
 size:=hU.size
theorem YF{F:aZ->Fi}(hl:U.length<=1048576)(hF:∀s,∀y∈(F s).1,Wi U y):∀r∈Ao l F x,∀y∈r,y.gU.length<=1048576:=λr hr y hy=>by
 unfold Ao at hr;obtain⟨z,_,rfl⟩:=jU.1 hr;unfold Tz at hy;split at hy;·exact bH (hF _ y hy).2 hl
 ·obtain⟨f,_,rfl⟩:=jU.1 hy;simp[un]
theorem Ww{c:Cx}(hU:UAll U c.ss c.l):∀(g:Nat) (s:aZ),∀y∈(fd c g s).1,Wi U y
 | 0,_,_,hy=>by cases hy
 | g+1,s,y,hy=>by
  rw[fd]at hy;cases hi:aO.dw c.l s with
  | none=>rw[hi]at hy;cases hy
  | some i=>
   obtain⟨x,hx,_⟩:=gD hi;rw[hi]at hy;simp only[hx]at hy;unfold Uj at hy;split at hy;·cases hy
   ·split at hy;·cases hy
    ·split at hy;·cases hy
     ·exact Yw (PZ hU (dN hx) (Ww hU g)) y hy
end Ck
structure QIn(w0:World)(c:Cx)(vn vl vk:Value)(b1 b2:Nat)(U:List ByteArray):Prop where
 strs:Strs w0 vn c.ss
 Qg:Fb w0 vl c.G c.L c.Z
 mks:tQ w0 c.m vk c.l
 form:kN (dh c.ss c.G c.L c.Z) c.m c.l=0
 small:∀x∈c.l,qx c.m x<=1048576
 tab:Tab w0
 q1:w0.heap.size<=b1
 q2:w0.heap.size<=b2
 ne:b1≠b2
 uni:UAll U c.ss c.l
structure Kq(w0:World)(c:Cx)(b1 b2:Nat)(w:World)(fo:ByteArray->Option Value):Prop where
 base:Below w0.heap.size w0 w
 fst:pK w b1 1048576 (.int .i64 0) (Ck.fi c.l)
 AQ:pK w b2 (Ck.cntF c.l fo) zFi fo
 fin:∀s v,fo s=some v->FiW w v (FD c s)
section
variable {w0 w w' : World} {c : Ck.Cx} {b1 b2 : Nat} {fo : ByteArray → Option Value}
theorem Kq.below(h:Kq w0 c b1 b2 w fo)(hb:bG w w'):Kq w0 c b1 b2 w' fo:=
 ⟨up h.base hb,h.fst.Bz hb,h.AQ.Bz hb,λs v hs=>(h.fin s v hs).below hb⟩
theorem Kq.lt(h:Kq w0 c b1 b2 w fo):b2<w.heap.size:=h.AQ.lt
theorem Kq.grown{t:TypeId}{r:Option Nat}(h:Kq w0 c b1 b2 w fo)(hg:w.grownBy w' r)(hr:∀k,r=some k->w0.heap.size<=k/\∃cur,w.heap[k]?=some (.cells cur t (0,0)))(h1:35≠t)(h2:9≠t)(h3:3≠t):Kq w0 c b1 b2 w' fo:=by
 have hm:∀b n z o,pK w b n z o->some b≠r:=λb n z o hb e=>by obtain⟨es,cl,q⟩:=hb.isMap;obtain⟨_,cur,q'⟩:=hr b e.symm;rw[q]at q';cases q'
 exact⟨Below.grown h.base hg h.base.size (λk e=>(hr k e).1),h.fst.kept hg (hm _ _ _ _ h.fst),h.AQ.kept hg (hm _ _ _ _ h.AQ),λs v hs=>(h.fin s v hs).st (mD.grown hg λk e=>(hr k e).2) h1 h2 h3⟩
end
def Ck.blD(B:List Dg × Int):List Dg:=if B.2≠0 then []else aO.once B.1
def YG(w0:World)(c:Cx)(b1 b2:Nat)(w w':World):Prop:=∃GL,Kq w0 c b1 b2 w' GL/\But b2 w w'
theorem imp8(h:oM m y=0):y.imports.length<=8:=by
 unfold oM at h;by_cases h8:8<y.imports.length\/8<y.vars.length\/8<y.bq.length;·rw[aL h8]at h;cases h
 ·omega
def OfOk(w0:World)(c:Cx)(vn vl vk:Value)(b1 b2:Nat)(g:Nat):Prop:=∀(w:World) (fo:ByteArray->Option Value) (s:ByteArray),Kq w0 c b1 b2 w fo->(aO.dw c.l s).isSome=true->Ck.rk c.l s<g->s.size<=maxLen->
 Calls prog 41 #[.agg #[vn,vl,vk,.map (some b1),.map (some b2)],.string s] w λe w'=>∃v,e=.returned v/\Hid (YG w0 c b1 b2 w w'/\FiW w' v (FD c s)/\(fo s=none->FiD w' v (FD c s)))
theorem QIn.forms{c:Cx}(h:QIn w0 c vn vl vk b1 b2 U):(∃a n c,vn=Y a n c)/\(∃a n c,vl=Y a n c)/\∃a n c,vk=Y a n c:=by obtain⟨a0,_,_,c0,e0,_⟩:=h.strs;obtain⟨a1,_,_,c1,_,_,_,_,e1,_⟩:=h.Qg;obtain⟨a2,_,_,c2,e2,_⟩:=h.mks;exact⟨⟨_,_,_,e0⟩,⟨_,_,_,e1⟩,⟨_,_,_,e2⟩⟩
theorem Ck.bl_step{F:aZ->Ck.Fi}(hs:r[j]?=some s)(acc:List Dg):Ck.bl l F (r.drop j) acc=if (aO.dw l s).isSome=false then Ck.bl l F (r.drop (j+1)) acc else if (F s).2.2≠0 then ([],(F s).2.2)else Ck.bl l F (r.drop (j+1)) (if (F s).2.1≠[]then acc++[⟨7,⟨#[]⟩,s⟩]else acc):=by obtain⟨hj,e⟩:=dz.1 hs;rw[XC hj,e,Ck.bl]
theorem below_any(w0 w:World)(c:Cx)(vn vl vk:Value)(b1 b2:Nat)(U:List aZ)(fo:aZ->Option Value)(g i:Nat)(x:Mo)(vi vv vf:Value)(hQ:QIn w0 c vn vl vk b1 b2 U)(hA:Kq w0 c b1 b2 w fo)(hO:OfOk w0 c vn vl vk b1 b2 g)(hi:aO.dw c.l x.name=some i)(hx:c.l[i]?=some x)(hM:gT w0 c.m (.agg #[A x.name,vi,vv,vf]) x)(hr:¬Ck.qG c.l x.name x.name)(hg:Ck.rk c.l x.name<=g):Calls prog 128 #[.agg #[vn,vl,vk,.map (some b1),.map (some b2)],.agg #[A x.name,vi,vv,vf]] w λe w'=>∃u,e=cO (.tuple #[u,O (Ck.bl c.l (FD c) x.imports []).2])/\Hid (YG w0 c b1 b2 w w'/\iE w' u (blD (Ck.bl c.l (FD c) x.imports []))):=by
 obtain⟨⟨a0,n0,c0,rfl⟩,⟨a1,n1,c1,rfl⟩,⟨a2,n2,c2,rfl⟩⟩:=hQ.forms;have HO:=I hO;have HIMP:Hid (∀b,b∈x.imports->(aO.dw c.l b).isSome=true->Ck.rk c.l b<g):=I (λb hb hs=>vG (Ko hr ⟨i,x,hi,hx,hb,hs⟩) hg);have HIL:Hid (x.imports.length<=8):=I (imp8 ((jI hQ.form).2.2.1 x (dN hx)));obtain⟨hI,hV,hF⟩:=hM.split;obtain⟨ia,ib,io,ic,rfl,hia,-,hiz,hic⟩:=hI;obtain⟨a3,b3,o3,c3,rfl,-⟩:=hV;obtain⟨a4,b4,o4,c4,rfl,-⟩:=hF;obtain⟨HIA,HIZ,HIC⟩:=fq hia hiz hic;obtain⟨ni,hni⟩:∃n,n=x.imports.length:=⟨_,rfl⟩;have DR:=I hni;rw[<-hni]at HIA HIC HIL ⊢;generalize x.vars.length=n3 at *;generalize x.bq.length=n4 at *;obtain⟨BL,hBL⟩:∃B,B=Ck.bl c.l (FD c) x.imports []:=⟨_,rfl⟩;have Eb:=I hBL;rw[<-hBL];have mU:=I hA.lt;obtain⟨W,hW,k0,k1,hsz,hBW⟩:=wG w (aY #[Y a0 n0 c0,Y a1 n1 c1,Y a2 n2 c2,.map (some b1),.map (some b2)] 99) (aY #[A x.name,Y ia ni ic,Y a3 n3 c3,Y a4 n4 c4] 58);obtain⟨lD,jl,iN,Uk⟩:=mg k0 k1 hBW (hA.below hBW);have zh:Hid (w.heap.size<=W.heap.size):=I hBW.size;obtain⟨-,q1⟩:=jm k1;clear k0 k1 hsz hBW hA hQ hO hM hi hx hr hg hia hiz hic hni hBL;go_enter func128,ntmps128;go_upto_region 2 with fail;rw[<-hW];clear hW;go_wp2_with fail;clear q1;go_loopw[6,15] (λd i wr=>∃(dv:Value) (j:Nat) (acc:List Dg) (GL:aZ->Option Value),dv=d/\j<=ni/\i=O j/\Hid (Ck.bl c.l (FD c) (x.imports.drop j) acc=BL/\acc.length<=j/\eT qz wr W.heap.size 80 3 dv acc/\Kq w0 c b1 b2 wr GL/\But b2 W wr)) (λ_ i _=>ni - (intOf i).toNat);case atStart=>exact⟨_,0,[],fo,rfl,bI _,rfl,I ⟨Eb.out.symm,bF _,eT.nil _ _ _ _,Uk.out,But.refl _ _⟩⟩
 case round=>
  obtain⟨d,j,acc,GL,rfl,hj,rfl,HR⟩:=hrel;have HKQ:=I (HR.out.2.2.2.2.at (show w.heap.size≠b2 from λe=>by have:=mU.out;omega) lD.out);have hni8:=HIL.out;by_cases hjl:j<ni
  ·obtain⟨s,hs⟩:∃y',x.imports[j]?=some y':=⟨_,bg (by rw[<-DR.out];exact hjl)⟩;have gc:=aC (HIC.out j hjl) HR.out.2.2.2.1.base;rw[List.getD,hs,iK]at gc;obtain rfl:=HIA.out aV;obtain⟨HSZZ,HST,U7⟩:=fq (HIZ.out s (dN hs)) (bl_step (l:=c.l) (F:=FD c) hs acc) (dN hs);have q3:=aj HKQ.out 3;have LK:=HR.out.2.2.2.1.fst.uh underlying95 Cu HSZZ.out;clear hs;cases hmb:aO.dw c.l s with
   | none=>
    have e1:Ck.fi c.l s=none:=by unfold Ck.fi;rw[hmb];rfl
    rw[e1]at LK;simp only[nG,oP]at LK;have HST2:Hid (Ck.bl c.l (FD c) (x.imports.drop (j+1)) acc=BL):=I (by have h:=HST.out;rw[aL (by rw[hmb];rfl)]at h;rw[<-h];exact HR.out.1);clear hmb e1;go_wp2_with fail;go_roundw;case rel=>exact⟨_,j+1,acc,GL,rfl,by omega,by go_num,I ⟨HST2.out,Nat.le_succ_of_le HR.out.2.1,HR.out.2.2.1,HR.out.2.2.2.1,HR.out.2.2.2.2⟩⟩
    case measure=>simp[intOf];omega
   | some k=>
    have e1:Ck.fi c.l s=some (O (k:Nat)):=by unfold Ck.fi;rw[hmb];rfl
    rw[e1]at LK;simp only[iK,oO]at LK;have hsome:(aO.dw c.l s).isSome=true:=by rw[hmb];rfl
    obtain⟨HSO,HOC,TB⟩:=fq hsome (HO.out wr GL s HR.out.2.2.2.1 hsome (HIMP.out s U7.out hsome) HSZZ.out) HST.out;rw[aJ (by rw[hsome];simp)]at TB;obtain⟨q0,q1,q2,-,q4⟩:=ZC5 HKQ.out;clear hmb e1 hsome;go_upto_region 7 with fail;go_wp2_with fail;refine HOC.out.mono ?_;rintro e w5 ⟨v5,rfl,kM⟩;obtain⟨⟨fo5,hq5,Ng⟩,hfi5,-⟩:=kM.out;obtain⟨vs5,d5a,d5c,rfl,hos5⟩:=hfi5;obtain⟨s5a,s5c,hvs5⟩:=hos5.form;generalize (FD c s).1.length=s5n at hvs5;subst hvs5;obtain⟨E5,hE5⟩:∃e,e=(FD c s).2.2:=⟨_,rfl⟩;obtain⟨n5,G5⟩:∃n,n=(FD c s).2.1.length:=⟨_,rfl⟩;obtain⟨RG,kG⟩:=bT hE5 G5;rw[<-hE5,<-G5];obtain⟨HQ5,Dc⟩:=bT hq5 (HR.out.2.2.2.2.trans Ng);have HD5:Hid (eT qz w5 W.heap.size 80 3 d acc):=I (by
     have hm:=HR.out.2.2.2.1.AQ.isMap;obtain⟨cs,⟨h0,h1⟩,h2⟩:=HR.out.2.2.1;refine⟨cs,⟨h0,?_⟩,h2⟩;rcases h1 with h1|⟨g',cap',cur',hv',hg',hh',r'⟩;·exact aR h1
     ·exact aT ⟨g',cap',cur',hv',hg',mD.but (t:=4) Ng hm g' cur' _ hh' bP,r'⟩)
    clear kM hq5 Ng hos5 hE5 G5 q0 q1 q2 q3 q4 gc LK;obtain⟨dO,DV⟩:=sS w5 (aY #[Y s5a s5n s5c,Y d5a n5 d5c,O E5] 102);go_upto_region 8 with fail;generalize w5.alloc (aY #[Y s5a s5n s5c,Y d5a n5 d5c,O E5] 102)=W6 at *;obtain⟨HQ6,yF,HD6⟩:=fq (HQ5.out.below dO.out) (Dc.out.trans (But.of_below dO.out)) (HD5.out.below dO.out);generalize w5.heap.size=FB at *;obtain⟨-,f1,f2⟩:=Ql DV.out;by_cases hE:E5=0
    ·subst hE;rw[aJ (by rw[<-RG.out];simp)]at TB;by_cases hn0:n5=0
     ·subst hn0;have hnil:(FD c s).2.1=[]:=pQ.1 kG.out.symm;rw[aJ (by rw[hnil];simp)]at TB;have HST2:Hid (Ck.bl c.l (FD c) (x.imports.drop (j+1)) acc=BL):=I (by rw[<-TB.out];exact HR.out.1);clear hnil;go_wp2_with fail;go_roundw;case rel=>exact⟨_,j+1,acc,fo5,rfl,by omega,by go_num,I ⟨HST2.out,Nat.le_succ_of_le HR.out.2.1,HD6.out,HQ6.out,yF.out⟩⟩
      case measure=>simp[intOf];omega
     ·have hne:(FD c s).2.1≠[]:=λh=>hn0 (by rw[kG.out,h];rfl);rw[aL hne]at TB;have HST2:Hid (Ck.bl c.l (FD c) (x.imports.drop (j+1)) (acc++[⟨7,⟨#[]⟩,s⟩])=BL):=I (by rw[<-TB.out];exact HR.out.1);have hpos:0<n5:=by omega
      have jB:=I (aH W6 (aY #[O 7,A ⟨#[]⟩,A s] 80));have BP:Hid (eT qz (W6.alloc (aY #[O 7,A ⟨#[]⟩,A s] 80)) W6.heap.size 80 3 (Y (some (X W6.heap.size 0)) 1 1) [⟨7,⟨#[]⟩,s⟩]):=I (eT.one (c:=[O 7,A ⟨#[]⟩,A s]) W6 80 rfl (by simp[Value.oneCell']) rfl);obtain⟨HD7,HQ7,jE⟩:=fq (HD6.out.below jB.out) (HQ6.out.below jB.out) (yF.out.trans (But.of_below jB.out));clear hne hn0
      go_wp2_with (first
       | (at_builtin;refine gG (At:=qz) rfl _ _ 59 80 3 40 _ rfl underlying59 qA bP bP bP W.heap.size d acc rfl HD7.out W6.heap.size (Y (some (X W6.heap.size 0)) 1 1) [⟨7,⟨#[]⟩,s⟩] rfl BP.out (by have:=HR.out.2.1;simp only[iT];omega) jE.out.size ?_;intro v8 w8 ql jh;have HO8:=I ql;have HG8:=I jh;clear ql jh)
       | fail)
      obtain⟨HQ8,wH⟩:=bT (HQ7.out.grown (t:=80) HG8.out (λk e=>⟨bH (bH Uk.out.base.size (bF _)) (HD7.out.lt k e).1,HD7.out.typ e⟩) bP bP bP) (jE.out.grown HG8.out (λk e=>(HD7.out.lt k e).1));go_roundw;case rel=>exact⟨_,j+1,acc++[⟨7,⟨#[]⟩,s⟩],fo5,rfl,by omega,by go_num,I ⟨HST2.out,by rw[aW,iT];have:=HR.out.2.1;omega,HO8.out,HQ8.out,wH.out⟩⟩
      case measure=>simp[intOf];omega
    ·have hz:=dY hE;rw[aL (by rw[<-RG.out];exact hE),<-RG.out]at TB;have HBE:Hid (BL=([],E5)):=I (by rw[<-HR.out.1];exact TB.out);have HE0:=I hE;clear hE;go_upto_region 9 with fail;clear f1 f2;have f2:=aX ((aj DV.out 2).trans rfl);refine bS bU bU ?_;repeat(quiet_step (fail))
     refine wpQuiet_nil ?_;intro w7 hw';obtain⟨⟨nq,osq⟩,hw''⟩:=hw';have jB:Hid (bG W6 w7):=I (by rw[hw''];exact bR W6 nq osq);clear hw'' f2;go_wp2_with fail;refine bW (v:=.tuple #[J,O E5]) (by simp[results,results128,go_sem]) rfl ?_;rw[HBE.out];exact⟨_,rfl,I ⟨⟨fo5,HQ6.out.below jB.out,(But.of_below iN.out).trans (yF.out.trans (But.of_below jB.out))⟩,by rw[show blD ([],E5)=[]from aL HE0.out];exact zC _ _⟩⟩
  ·obtain rfl:j=ni:=by omega
   have HBE:Hid (BL=(acc,0)):=I (by rw[<-HR.out.1,DR.out,List.drop_length];rfl);have HDG:=I (HR.out.2.2.1.Gf (by have:=HR.out.2.1;omega));have HIC':=I (yj wr d acc HDG.out (by have:=HR.out.2.1;omega));obtain⟨da,dc,hdf⟩:=HR.out.2.2.1.form;obtain⟨nd,hnd⟩:∃n,n=acc.length:=⟨_,rfl⟩;rw[<-hnd]at hdf;subst hdf;clear hnd;go_wp2_with fail;refine HIC'.out.mono ?_;rintro e w9 ⟨u9,rfl,U1,tL⟩;have HU9:=I U1;obtain⟨a9,b9,o9,c9,rfl,-⟩:=U1;obtain⟨n9,hn9⟩:∃n,n=(aO.once acc).length:=⟨_,rfl⟩;rw[<-hn9]at HU9 ⊢;have xk:=I tL;clear tL hn9;go_wp2_with fail;refine bW (v:=.tuple #[Y a9 n9 c9,O 0]) (by simp[results,results128,go_sem]) rfl ?_;rw[HBE.out];exact⟨_,rfl,I ⟨⟨GL,HR.out.2.2.2.1.below xk.out,(But.of_below iN.out).trans (HR.out.2.2.2.2.trans (But.of_below xk.out))⟩,by rw[show blD (acc,0)=aO.once acc from aJ cZ];exact HU9.out⟩⟩
def KnC(w0:World)(m:Nat)(_:World)(c:List Value)(y:Mo):Prop:=∃vi vv vf,c=[.string y.name,vi,vv,vf]/\gT w0 m (.agg #[.string y.name,vi,vv,vf]) y
def SsC(w:World)(c:List Value)(y:List Sc):Prop:=∃u,c=[u]/\d9 EU w 0 35 6 u y
theorem SsC.st{c:List Value}{y:List Sc}(h:SsC w c y)(hs:mD t w w')(h1:35≠t)(h2:9≠t)(h3:3≠t):SsC w' c y:=by obtain⟨u,e,h⟩:=h;exact⟨u,e,qp h hs h1 h2 h3⟩
theorem YH:(prog.info? 58).map (λi=>(i.zero,i.size,i.bytes))=some (some (.agg #[A ⟨#[]⟩,J,J,J]),4,88):=by kernel_rfl
theorem infoSs:(prog.info? 30).map (λi=>(i.zero,i.size,i.bytes))=some (some (J),1,24):=by kernel_rfl
theorem mos_of(h:d9 (KnC w0 m) w n 58 4 v l)(hl:l.length<=9223372036854775807)(hb:bG w0 w):nC w m v l:=by
 cases l with
 | nil =>obtain⟨a,c,e⟩:=h.form;exact⟨a,0,0,c,e,λh0=>aN h0 cZ,hl,λi y hy=>aN hy cZ⟩
 | cons y0 r =>obtain⟨g,cap,e,_⟩:=h.get (i:=0) (y:=y0) rfl;refine⟨_,g,0,cap,e,λ_=>rfl,hl,λi y hy=>?_⟩;obtain⟨g',cap',e',c,_,hcl,vi,vv,vf,hc,hm⟩:=h.get hy;rw[e]at e';injection e' with e1 e2 e3;injection e1 with e1;injection e1 with e1;subst e1;have q:=λj hj=>hcl j hj;rw[hc]at q;rw[eu];exact⟨vi,vv,vf,q 0 bP,q 1 bP,q 2 bP,q 3 bP,hm.below hb⟩
theorem scss_of{l:List (List Sc)}(h:d9 SsC w n 30 1 v l)(hl:l.length<=9223372036854775807)(hz:∀r∈l,r.length<=1048576/\∀y∈r,y.gU.length<=1048576/\∀u∈y.gU,u.size<=maxLen):Bj w v l:=by
 cases l with
 | nil =>obtain⟨a,c,e⟩:=h.form;exact⟨a,0,0,c,e,λh0=>aN h0 cZ,hl,λi y hy=>aN hy cZ⟩
 | cons y0 r =>obtain⟨g,cap,e,_⟩:=h.get (i:=0) (y:=y0) rfl;refine⟨_,g,0,cap,e,λ_=>rfl,hl,λi y hy=>?_⟩;obtain⟨g',cap',e',c,_,hcl,u,hc,hm⟩:=h.get hy;rw[e]at e';injection e' with e1 e2 e3;injection e1 with e1;injection e1 with e1;subst e1;have q:=hcl 0 bP;rw[hc,Nat.mul_one,uf]at q;rw[eu];obtain⟨h1,h2⟩:=hz y (dN hy);exact⟨u,q,Kl hm aV (λz hz=>(h2 z hz).2) (λz hz=>(h2 z hz).1)⟩
theorem fieldFi(w:World)(a b:Option Addr)(n n' c c':Nat)(e:Int):(Instr.field 102 (.agg #[Y a n c,Y b n' c',O e]) 0).run prog w=.ok (.agg #[Y a n c,Y b n' c']) w:=by kernel_rfl
theorem fieldAn(w:World)(a b:Option Addr)(n n' c c':Nat):(Instr.field 61 (.agg #[Y a n c,Y b n' c']) 0).run prog w=.ok (Y a n c) w:=by kernel_rfl
namespace Ck
theorem TD(hy:l[j]?=some y)(x:Mo):zR (l.take (j+1)) x=if dD y.name x.name then zR (l.take j) x else zR (l.take j) x++[y]:=by
 unfold zR;rw[gH,hy,lM,List.filter_append];cases hq:dD y.name x.name with
 | true=>simp[hq]
 | false=>simp[hq]
theorem scs_take(hy:l[j]?=some y)(F:aZ->Fi)(x:Mo):Ao (l.take (j+1)) F x=if dD y.name x.name then Ao (l.take j) F x else Ao (l.take j) F x++[Tz F x y]:=by
 unfold Ao;rw[TD hy];split;·rfl
 ·rw[fH];rfl
theorem P5(l:List Mo)(x:Mo):(zR l x).length<=l.length:=Ju _ _
theorem Kr(l:List Mo)(F:aZ->Fi)(x:Mo):(Ao l F x).length=(zR l x).length:=dR _
end Ck
theorem qw(h:d9 (KnC w0 m) w n 58 4 v l)(hs:mD t w w')(ht:58≠t):d9 (KnC w0 m) w' n 58 4 v l:=
 h.keep (λj cur _ hj=>hs j cur _ hj ht) λ_ _ hc=>hc
theorem sO{l:List (List Sc)}(h:d9 SsC w n 30 1 v l)(hs:mD t w w')(ht:30≠t)(h1:35≠t)(h2:9≠t)(h3:3≠t):d9 SsC w' n 30 1 v l:=
 h.keep (λj cur _ hj=>hs j cur _ hj ht) λ_ _ hc=>hc.st hs h1 h2 h3
theorem Wx(w0 w:World)(c:Cx)(vn vl vk:Value)(b1 b2:Nat)(U:List aZ)(fo:aZ->Option Value)(g i:Nat)(x:Mo)(vi vv vf:Value)(hQ:QIn w0 c vn vl vk b1 b2 U)(hA:Kq w0 c b1 b2 w fo)(hO:OfOk w0 c vn vl vk b1 b2 g)(hi:aO.dw c.l x.name=some i)(hx:c.l[i]?=some x)(hM:gT w0 c.m (.agg #[A x.name,vi,vv,vf]) x)(hr:¬Ck.qG c.l x.name x.name)(hg:Ck.rk c.l x.name<=g):Calls prog 129 #[.agg #[vn,vl,vk,.map (some b1),.map (some b2)],.agg #[A x.name,vi,vv,vf]] w λe w'=>∃ku su,e=cO (.tuple #[ku,su])/\Hid (YG w0 c b1 b2 w w'/\d9 (KnC w0 c.m) w' w.heap.size 58 4 ku (zR c.l x)/\d9 SsC w' w.heap.size 30 1 su (Ao c.l (FD c) x)):=by
 obtain⟨⟨a0,n0,c0,rfl⟩,⟨a1,n1,c1,rfl⟩,-⟩:=hQ.forms;obtain⟨HO,Qi⟩:=bT hO (jI hQ.form);have HIMP:Hid (∀b,b∈x.imports->(aO.dw c.l b).isSome=true->Ck.rk c.l b<g):=I (λb hb hs=>vG (Ko hr ⟨i,x,hi,hx,hb,hs⟩) hg);obtain⟨hI,hV,hF⟩:=hM.split;have HI:=I hI;obtain⟨ia,ib,io,ic,rfl,-⟩:=hI;obtain⟨a3,b3,o3,c3,rfl,-⟩:=hV;obtain⟨a4,b4,o4,c4,rfl,-⟩:=hF;obtain⟨ni,hni⟩:∃n,n=x.imports.length:=⟨_,rfl⟩;rw[<-hni]at HI ⊢;generalize x.vars.length=n3 at *;generalize x.bq.length=n4 at *;obtain⟨ka,kb,ko,kc,rfl,hka,hkl,TF⟩:=hQ.mks;obtain⟨HKA,HKEL⟩:=bT hka TF;obtain⟨nk,hnk⟩:∃n,n=c.l.length:=⟨_,rfl⟩;have KH:=I hnk;rw[<-hnk]at HKA HO ⊢;have lI:Hid (nk<=6):=I (by rw[hnk];exact(jI hQ.form).2.1);have mU:=I hA.lt;obtain⟨W,hW,k0,k1,hsz,hBW⟩:=wG w (aY #[Y a0 n0 c0,Y a1 n1 c1,Y ka nk kc,.map (some b1),.map (some b2)] 99) (aY #[A x.name,Y ia ni ic,Y a3 n3 c3,Y a4 n4 c4] 58);obtain⟨lD,jl,iN,Uk⟩:=mg k0 k1 hBW (hA.below hBW);have Qh:Hid (w.heap.size<=W.heap.size):=I hBW.size;have q2:=aj k0 2;clear k0 k1 hsz hBW hA hQ hO hM hi hx hr hg hni hka TF hkl hnk;go_enter func129,ntmps129;go_upto_region 3 with fail;rw[<-hW];clear hW;go_wp2_with fail;clear q2;go_loopw[6,7,13] (λk s i wr=>∃(kv sv:Value) (j:Nat) (GL:aZ->Option Value),kv=k/\sv=s/\j<=nk/\i=O j/\Hid (d9 (KnC w0 c.m) wr W.heap.size 58 4 kv (zR (c.l.take j) x)/\d9 SsC wr W.heap.size 30 1 sv (Ao (c.l.take j) (FD c) x)/\Kq w0 c b1 b2 wr GL/\But b2 W wr)) (λ_ _ i _=>nk - (intOf i).toNat);case atStart=>exact⟨_,_,0,fo,rfl,rfl,bI _,rfl,I ⟨d9.nil _ _ _ _,d9.nil _ _ _ _,Uk.out,But.refl _ _⟩⟩
 case round=>
  obtain⟨kv,sv,j,GL,rfl,rfl,hj,rfl,HR⟩:=hrel;have hnk6:=lI.out;by_cases hjl:j<nk
  ·obtain⟨y,hy⟩:∃y,c.l[j]?=some y:=⟨_,bg (by rw[<-KH.out];exact hjl)⟩;obtain⟨HYM,HOT,Wy⟩:=fq (dN hy) (TD hy x) (scs_take hy (FD c) x);obtain⟨yi,yv,yf,g0,g1,g2,g3,KI,-⟩:=HKEL.out j y hy;obtain rfl:=HKA.out aV;obtain⟨HMY,HYZ⟩:=bT KI (Pf KI);obtain⟨hyI,hyV,hyF⟩:=KI.split;have HYF:=I hyF;obtain⟨d1,e1,p1,z1,rfl,-⟩:=hyI;obtain⟨d2,e2,p2,z2,rfl,-⟩:=hyV;obtain⟨d3,e3,p3,z3,rfl,-⟩:=hyF;obtain⟨m1,hm1⟩:∃n,n=y.imports.length:=⟨_,rfl⟩;obtain⟨m2,hm2⟩:∃n,n=y.vars.length:=⟨_,rfl⟩;obtain⟨m3,hm3⟩:∃n,n=y.bq.length:=⟨_,rfl⟩;rw[<-hm1]at g1 HMY;rw[<-hm2]at g2 HMY;rw[<-hm3]at g3 HMY HYF;have hbase:=HR.out.2.2.1.base;replace g0:=aC g0 hbase;replace g1:=aC g1 hbase;replace g2:=aC g2 hbase;replace g3:=aC g3 hbase;have HU8:=I (zB (Qi.out.2.2.1 y HYM.out));clear hy KI hm1 hm2 hm3 hbase;go_upto_region 6 with fail;obtain⟨oD,HKB⟩:=sS wr (aY #[A y.name,Y d1 m1 z1,Y d2 m2 z2,Y d3 m3 z3] 58);generalize wr.alloc (aY #[A y.name,Y d1 m1 z1,Y d2 m2 z2,Y d3 m3 z3] 58)=W5 at *;obtain⟨HKN5,HSS5,HQ5,Dc⟩:=mg (qw HR.out.1 (mD.below (t:=4) oD.out) bP) (sO HR.out.2.1 (mD.below (t:=4) oD.out) bP bP bP bP) (HR.out.2.2.1.below oD.out) (HR.out.2.2.2.trans (But.of_below oD.out));have HMX5:=I (Dc.out.at (show w.heap.size+1≠b2 from λe=>by have:=mU.out;omega) jl.out);have HLTK:Hid (∀k,kv.ownBlock=some k->k<wr.heap.size):=I (λk e=>(HR.out.1.lt k e).2);obtain⟨YB,hYB⟩:∃n,n=wr.heap.size:=⟨_,rfl⟩;rw[<-hYB]at HKB HLTK ⊢;clear hYB g0 g1 g2 g3;have y0:=aj HKB.out 0;have x0:=aj HMX5.out 0;cases hsm:dD y.name x.name with
   | true=>
    have hst:(y.name.toList==x.name.toList)=true:=hsm;rw[hsm,aL rfl]at HOT Wy;clear hsm;go_wp2_with fail;go_roundw;case rel=>exact⟨_,_,j+1,GL,rfl,rfl,by omega,by go_num,I ⟨by rw[HOT.out];exact HKN5.out,by rw[Wy.out];exact HSS5.out,HQ5.out,Dc.out⟩⟩
    case measure=>simp[intOf];omega
   | false=>
    have hst:(y.name.toList==x.name.toList)=false:=hsm;rw[hsm,aJ cZ]at HOT Wy;obtain⟨dO,DV⟩:=sS W5 (aY #[A y.name,Y d1 m1 z1,Y d2 m2 z2,Y d3 m3 z3] 58);obtain⟨-,y1,y2,y3⟩:=Js HKB.out;obtain⟨HKN6,HSS6,HQ6,yF,HKB6,HMX6⟩:=vC (qw HKN5.out (mD.below (t:=4) dO.out) bP) (sO HSS5.out (mD.below (t:=4) dO.out) bP bP bP bP) (HQ5.out.below dO.out) (Dc.out.trans (But.of_below dO.out)) (aU HKB.out dO.out) (aU HMX5.out dO.out);have HOL:Hid ((zR (c.l.take j) x).length<=6):=I (bH (P5 _ _) (by rw[jO];have:=KH.out;omega));obtain⟨ka6,kc6,hkv⟩:=HKN5.out.form;obtain⟨kn6,hkn6⟩:∃n,n=(zR (c.l.take j) x).length:=⟨_,rfl⟩;rw[<-hkn6]at hkv;subst hkv;obtain⟨sa6,sc6,hsv⟩:=HSS5.out.form;obtain⟨sn6,hsn6⟩:∃n,n=(Ao (c.l.take j) (FD c) x).length:=⟨_,rfl⟩;rw[<-hsn6]at hsv;subst hsv;have HSL:Hid ((Ao (c.l.take j) (FD c) x).length<=6):=I (by rw[Kr];exact HOL.out);clear hsm hkn6 hsn6
    go_upto_region 8 with(first
     | (at_builtin;refine mq (At:=KnC w0 c.m) rfl _ _ 26 58 4 88 _ rfl underlying26 YH bP bP bP W.heap.size (Y ka6 kn6 kc6) (zR (c.l.take j) x) rfl HKN6.out W5.heap.size [A y.name,Y d1 m1 z1,Y d2 m2 z2,Y d3 m3 z3] y rfl (λq u hu=>(by rw[aj DV.out q];simpa only [xP]using hu)) rfl (by simp[Value.oneCell']) ⟨_,_,_,rfl,HMY.out⟩ (by have:=HOL.out;omega) yF.out.size (λ_ _ _ _ h=>h) ?_;intro g7 cap7 w7 iY dK;have HK7:=I iY;have HG7:=I dK;clear iY dK)
     | fail)
    have HST7:=I (mD.grown HG7.out HKN6.out.typ);obtain⟨HSS7,HQ7,jE⟩:=fq (sO HSS6.out HST7.out bP bP bP bP) (HQ6.out.grown HG7.out (λk e=>⟨bH Uk.out.base.size (HKN6.out.lt k e).1,HKN6.out.typ k e⟩) bP bP bP) (yF.out.grown HG7.out (λk e=>(HKN6.out.lt k e).1));have HKB7:Hid (w7.heap[YB]?=some (aY #[A y.name,Y d1 m1 z1,Y d2 m2 z2,Y d3 m3 z3] 58)):=I (by rw[HG7.out.block YB (bE HKB6.out) (λe=>aN (HLTK.out YB e.symm) (Nat.lt_irrefl _))];exact HKB6.out);have HMX7:Hid (w7.heap[w.heap.size+1]?=some (aY #[A x.name,Y ia ni ic,Y a3 n3 c3,Y a4 n4 c4] 58)):=I (by rw[HG7.out.block (w.heap.size+1) (bE HMX6.out) (λe=>aN (HKN6.out.lt _ e.symm).1 (by have:=bE jl.out;omega))];exact HMX6.out);have HOTL:Hid ((zR (c.l.take (j+1)) x)=zR (c.l.take j) x++[y]):=I HOT.out;rw[<-HOTL.out]at HK7;have HBS7:=I HQ7.out.base;obtain⟨-,i1⟩:=jm HMX7.out;have j0:=aj HKB7.out 0;have Ug:=I (jA w7 _ x.imports y.name (HI.out.below HBS7.out));clear x0 y0 y1 y2 y3 hst;go_wp2_with fail;refine Ug.out.mono ?_;rintro e w8 ⟨rfl,hw8⟩;subst hw8;cases hin:aO.BR x.imports y.name with
    | true=>
     have hdec:decide (0<=dF x.imports y.name)=true:=hin;rw[hdec];have rU:Hid (Tz (FD c) x y=(FD c y.name).1):=I (by unfold Tz;rw[hin];rfl);rw[rU.out]at Wy;have hsome:=yT HYM.out;obtain⟨HOC,HKQ⟩:=bT (HO.out w8 GL y.name HQ7.out hsome (HIMP.out _ (zD.1 hin) hsome) HYZ.out) (jE.out.at (show w.heap.size≠b2 from λe=>by have:=mU.out;omega) lD.out);obtain⟨r0,r1,r2,r3,r4⟩:=ZC5 HKQ.out;clear hin hdec hsome;go_wp2_with fail;refine HOC.out.mono ?_;rintro e w9 ⟨v9,rfl,JL⟩;obtain⟨⟨fo9,hq9,YI⟩,hfi9,-⟩:=JL.out;obtain⟨vs9,d9a,d9c,rfl,Wz⟩:=hfi9;have HOS9:=I Wz;obtain⟨s9a,s9c,hvs9⟩:=Wz.form;obtain⟨s9n,hs9n⟩:∃n,n=(FD c y.name).1.length:=⟨_,rfl⟩;rw[<-hs9n]at hvs9;subst hvs9;obtain⟨E9,hE9⟩:∃e,e=(FD c y.name).2.2:=⟨_,rfl⟩;obtain⟨n9,hn9⟩:∃n,n=(FD c y.name).2.1.length:=⟨_,rfl⟩;rw[<-hE9,<-hn9];have hmap:=HQ7.out.AQ.isMap;obtain⟨HKN9,HSS9,HQ9,Bp⟩:=mg (qw HK7.out (mD.but (t:=4) YI hmap) bP) (sO HSS7.out (mD.but (t:=4) YI hmap) bP bP bP bP) hq9 (jE.out.trans YI);obtain⟨hf1,hf2⟩:=eD fieldFi fieldAn;clear JL hq9 YI Wz hE9 hn9 hs9n hmap r0 r1 r2 r3 r4 i1 j0;obtain⟨dO,DV⟩:=sS w9 (aY #[Y s9a s9n s9c] 30);obtain⟨HKN10,uW,HQ10,TG,HOS10⟩:=tq (qw HKN9.out (mD.below (t:=4) dO.out) bP) (sO HSS9.out (mD.below (t:=4) dO.out) bP bP bP bP) (HQ9.out.below dO.out) (Bp.out.trans (But.of_below dO.out)) (qp HOS9.out (mD.below (t:=4) dO.out) bP bP bP)
     go_wp2_with (first
      | (at_builtin;refine mq (At:=SsC) rfl _ _ 122 30 1 24 _ rfl underlying122 infoSs bP bP bP W.heap.size (Y sa6 sn6 sc6) (Ao (c.l.take j) (FD c) x) rfl uW.out w9.heap.size [Y s9a s9n s9c] (FD c y.name).1 rfl (λq u hu=>(by rw[aj DV.out q];simpa only [xP]using hu)) rfl (by simp[Value.oneCell']) ⟨_,rfl,HOS10.out⟩ (by have:=HSL.out;omega) TG.out.size (λw' cc yy hg hc=>hc.st (mD.grown hg uW.out.typ) bP bP bP) ?_;intro g11 cap11 w11 Kt DF;have HS11:=I Kt;have WC:=I DF;clear Kt DF)
      | fail)
     have HST11:=I (mD.grown WC.out uW.out.typ);obtain⟨lN,HQ11,HBU11⟩:=fq (qw HKN10.out HST11.out bP) (HQ10.out.grown WC.out (λk e=>⟨bH Uk.out.base.size (uW.out.lt k e).1,uW.out.typ k e⟩) bP bP bP) (TG.out.grown WC.out (λk e=>(uW.out.lt k e).1));go_roundw;case rel=>exact⟨_,_,j+1,fo9,rfl,rfl,by omega,by go_num,I ⟨lN.out,by rw[Wy.out];exact HS11.out,HQ11.out,HBU11.out⟩⟩
     case measure=>simp[intOf];omega
    | false=>
     have hdec:decide (0<=dF x.imports y.name)=false:=hin;rw[hdec];have rU:Hid (Tz (FD c) x y=y.bq.map Ck.un):=I (by unfold Tz;rw[hin];rfl);rw[rU.out]at Wy;have j3:=aj HKB7.out 3;have HUC:=I (Wv c.m w8 _ y.bq (HYF.out.below HBS7.out) HU8.out.1 HU8.out.2);clear hin hdec;go_wp2_with fail;refine HUC.out.mono ?_;rintro e w9 ⟨u9,rfl,JL⟩;obtain⟨Wz,tL⟩:=JL.out;have HOS9:=I (Wz.old (bI _));obtain⟨s9a,s9c,hvs9⟩:=Wz.form;obtain⟨s9n,hs9n⟩:∃n,n=(y.bq.map Ck.un).length:=⟨_,rfl⟩;rw[<-hs9n]at hvs9;subst hvs9;obtain⟨HKN9,HSS9,HQ9,Bp⟩:=mg (qw HK7.out (mD.below (t:=4) tL) bP) (sO HSS7.out (mD.below (t:=4) tL) bP bP bP bP) (HQ7.out.below tL) (jE.out.trans (But.of_below tL));clear JL tL Wz hs9n i1 j0 j3;obtain⟨dO,DV⟩:=sS w9 (aY #[Y s9a s9n s9c] 30);obtain⟨HKN10,uW,HQ10,TG,HOS10⟩:=tq (qw HKN9.out (mD.below (t:=4) dO.out) bP) (sO HSS9.out (mD.below (t:=4) dO.out) bP bP bP bP) (HQ9.out.below dO.out) (Bp.out.trans (But.of_below dO.out)) (qp HOS9.out (mD.below (t:=4) dO.out) bP bP bP)
     go_wp2_with (first
      | (at_builtin;refine mq (At:=SsC) rfl _ _ 122 30 1 24 _ rfl underlying122 infoSs bP bP bP W.heap.size (Y sa6 sn6 sc6) (Ao (c.l.take j) (FD c) x) rfl uW.out w9.heap.size [Y s9a s9n s9c] (y.bq.map Ck.un) rfl (λq u hu=>(by rw[aj DV.out q];simpa only [xP]using hu)) rfl (by simp[Value.oneCell']) ⟨_,rfl,HOS10.out⟩ (by have:=HSL.out;omega) TG.out.size (λw' cc yy hg hc=>hc.st (mD.grown hg uW.out.typ) bP bP bP) ?_;intro g11 cap11 w11 Kt DF;have HS11:=I Kt;have WC:=I DF;clear Kt DF)
      | fail)
     have HST11:=I (mD.grown WC.out uW.out.typ);obtain⟨lN,HQ11,HBU11⟩:=fq (qw HKN10.out HST11.out bP) (HQ10.out.grown WC.out (λk e=>⟨bH Uk.out.base.size (uW.out.lt k e).1,uW.out.typ k e⟩) bP bP bP) (TG.out.grown WC.out (λk e=>(uW.out.lt k e).1));go_roundw;case rel=>exact⟨_,_,j+1,GL,rfl,rfl,by omega,by go_num,I ⟨lN.out,by rw[Wy.out];exact HS11.out,HQ11.out,HBU11.out⟩⟩
     case measure=>simp[intOf];omega
  ·obtain rfl:j=nk:=by omega
   have Gq:Hid (c.l.take j=c.l):=I (by rw[KH.out,iL]);have HRR:=I HR.out;rw[Gq.out]at HRR;go_wp2_with fail;refine bW (v:=.tuple #[kv,sv]) (by simp[results,results129,go_sem]) rfl ?_;exact⟨_,_,rfl,I ⟨⟨GL,HRR.out.2.2.1,(But.of_below iN.out).trans HRR.out.2.2.2⟩,HRR.out.1.old Qh.out,HRR.out.2.1.old Qh.out⟩⟩
theorem Ku(h:W.heap[B]?=some (.cells #[r0,r1,r2] t (0,0)))(c0 c1 c2:Value):(((W.setCell (X B 0) c0).setCell (X B 1) c1).setCell (X B 2) c2).heap[B]?=some (.cells #[c0,c1,c2] t (0,0)):=by rw[aP (aP (aP h 0 c0) 1 c1) 2 c2];rfl
theorem TH(h:Below n w W)(hB:n<=B)(c0 c1 c2:Value):Below n w (((W.setCell (X B 0) c0).setCell (X B 1) c1).setCell (X B 2) c2):=
 ((h.setCell (p:=(X B 0)) hB c0).setCell (p:=(X B 1)) hB c1).setCell (p:=(X B 2)) hB c2
theorem pq(h:But p w W)(hB:w.heap.size<=B)(c0 c1 c2:Value):But p w (((W.setCell (X B 0) c0).setCell (X B 1) c1).setCell (X B 2) c2):=
 ((h.set (a:=(X B 0)) (aT hB) c0).set (a:=(X B 1)) (aT hB) c1).set (a:=(X B 2)) (aT hB) c2
theorem mD.set(h:W.heap[B]?=some (.cells cs t (0,0)))(v:Value):mD t W (W.setCell (X B i) v):=λj cs' u hj hu=>bL hj (λe=>by subst e;rw[h]at hj;simp at hj;exact hu hj.2.symm) v
theorem mD.trans{a b c:World}(h:mD t a b)(k:mD t b c):mD t a c:=λj cs u hj hu=>k j cs u (h j cs u hj hu) hu
theorem yU(h:W.heap[B]?=some (.cells #[r0,r1,r2] t (0,0)))(c0 c1 c2:Value):mD t W (((W.setCell (X B 0) c0).setCell (X B 1) c1).setCell (X B 2) c2):=
 (mD.set h c0).trans ((mD.set (aP h 0 c0) c1).trans (mD.set (aP (aP h 0 c0) 1 c1) c2))
theorem Kq.WE{c:Cx}(h:Kq w0 c b1 b2 W fo)(hk:W.heap[B]?=some (aY #[r0,r1,r2] 102))(hB:w0.heap.size<=B)(c0 c1 c2:Value):Kq w0 c b1 b2 (((W.setCell (X B 0) c0).setCell (X B 1) c1).setCell (X B 2) c2) fo:=by
 have hm:∀b n z o,pK W b n z o->(((W.setCell (X B 0) c0).setCell (X B 1) c1).setCell (X B 2) c2).heap[b]?=W.heap[b]?:=λb n z o hb=>by
  obtain⟨es,cl,q⟩:=hb.isMap;have hne:b≠B:=λe=>by subst e;rw[hk]at q;cases q
  rw[q];exact bL (bL (bL q hne _) hne _) hne _
 exact⟨TH h.base hB c0 c1 c2,h.fst.same (hm _ _ _ _ h.fst),h.AQ.same (hm _ _ _ _ h.AQ),λs v hs=>(h.fin s v hs).st (yU hk c0 c1 c2) bP bP bP⟩
theorem iE.cells{l:List Dg}(h:iE w v l)(hs:Sub w w'):iE w' v l:=by obtain⟨a,b,off,cap,e,h0,hl,h1⟩:=h;refine⟨a,b,off,cap,e,h0,hl,λi d hd=>?_⟩;obtain⟨g0,g1,g2⟩:=h1 i d hd;exact⟨hs _ _ g0,hs _ _ g1,hs _ _ g2⟩
theorem uX{l:List Dg}{a b:Option Addr}{k:Nat}(h:iE W v l)(hk:W.heap[B]?=some (aY #[Y a n k,Y b n' k',O e] 102))(c0 c1 c2:Value):iE (((W.setCell (X B 0) c0).setCell (X B 1) c1).setCell (X B 2) c2) v l:=by
 obtain⟨a',b',off,cap,e',h0,hl,h1⟩:=h;refine⟨a',b',off,cap,e',h0,hl,λi d hd=>?_⟩;obtain⟨g0,g1,g2⟩:=h1 i d hd;have hne:b'≠B:=λe=>by
  subst e;rw[aj hk]at g1;have hlt:off+i*3+1<3:=(Array.getElem?_eq_some_iff.1 g1).1;have:off+i*3+1=1\/off+i*3+1=2:=by omega
  rcases this with h2|h2<;>rw[h2]at g1<;>simp at g1
 have hsub:∀q,W.cell? (X b' q)=(((W.setCell (X B 0) c0).setCell (X B 1) c1).setCell (X B 2) c2).cell? (X b' q):=λq=>by obtain⟨o,ho⟩:∃o,W.heap[b']?=some o:=⟨_,Array.getElem?_eq_getElem (eZ _ _ g0)⟩;exact(jL ((bL (bL (bL ho hne c0) hne c1) hne c2).trans ho.symm)).symm
 rw[<-hsub,<-hsub,<-hsub];exact⟨g0,g1,g2⟩
theorem Ck.fd_len{c:Cx}(h:∀x∈c.l,oM c.m x=0):∀(g:Nat) (s:aZ),(Ck.fd c g s).1.length<=8
 | 0,_=>bI _
 | g+1,s=>by
  rw[Ck.fd];cases hi:aO.dw c.l s with
  | none=>exact bI _
  | some i=>
   obtain⟨x,hx,_⟩:=gD hi;simp only[hx];unfold Uj;split;·exact bI _
   ·split;·exact bI _
    ·split;·exact bI _
     ·unfold Sm.ans;split;·exact bI _
      ·split;·exact bI _
       ·split;·exact bI _
        ·split;·exact bI _
         ·show(Sm.inf _ _ _ _ _ _ _).1.length<=8;rw[PV (bF _)];exact(zB (h x (dN hx))).1
theorem Ck.scs_rlen{c:Cx}(h:∀x∈c.l,oM c.m x=0):∀r∈Ao c.l (FD c) x,r.length<=1048576:=λr hr=>by
 unfold Ao at hr;obtain⟨y,hy,rfl⟩:=jU.1 hr;unfold Tz;split;·exact bH (fd_len h _ _) bP
 ·rw[dR];exact bH (zB (h y (List.mem_filter.1 hy).1)).1 bP
theorem strs_drew{l:List aZ}(h:Strs w v l):Strs w.drew v l:=h.below (bN _ _).drew
theorem qfind_any(w0 w:World)(c:Cx)(vn vl vk:Value)(b1 b2:Nat)(U:List aZ)(fo:aZ->Option Value)(g i:Nat)(x:Mo)(vi vv vf:Value)(hQ:QIn w0 c vn vl vk b1 b2 U)(hA:Kq w0 c b1 b2 w fo)(hO:OfOk w0 c vn vl vk b1 b2 g)(hi:aO.dw c.l x.name=some i)(hx:c.l[i]?=some x)(hM:gT w0 c.m (.agg #[A x.name,vi,vv,vf]) x)(hC:nY w0 vi vf)(hg:Ck.rk c.l x.name<=g):Calls prog 71 #[.agg #[vn,vl,vk,.map (some b1),.map (some b2)],.agg #[A x.name,vi,vv,vf]] w λe w'=>∃v,e=cO v/\Hid (YG w0 c b1 b2 w w'/\FiW w' v (FD c x.name)/\FiD w' v (FD c x.name)):=by
 obtain⟨HFD,HQ,Qi,HMX,HCX,HXM⟩:=vC (YE hi hx) hQ (jI hQ.form) hM hC (dN hx);have HBC:Hid (∀wx GL,Kq w0 c b1 b2 wx GL->¬Ck.qG c.l x.name x.name->_):=I (λwx GL h hr=>below_any w0 wx c vn vl vk b1 b2 U GL g i x vi vv vf hQ h hO hi hx hM hr hg);have HOC:Hid (∀wx GL,Kq w0 c b1 b2 wx GL->¬Ck.qG c.l x.name x.name->_):=I (λwx GL h hr=>Wx w0 wx c vn vl vk b1 b2 U GL g i x vi vv vf hQ h hO hi hx hM hr hg);have ZM:=I (λwx (hb:bG w0 wx)=>Na c.m wx vk c.l x.name (hQ.mks.mos.below hb) (by have:=(jI hQ.form).2.1;omega) (Pf hM) hQ.small);obtain⟨⟨a0,n0,c0,rfl⟩,⟨a1,n1,c1,rfl⟩,⟨a2,n2,c2,rfl⟩⟩:=hQ.forms;obtain⟨hI,hV,hF⟩:=hM.split;obtain⟨ia,ib,io,ic,rfl,-⟩:=hI;obtain⟨a3,b3,o3,c3,rfl,-⟩:=hV;obtain⟨a4,b4,o4,c4,rfl,-⟩:=hF;obtain⟨n3,hn3⟩:=bC x.imports.length;obtain⟨n4,tZ⟩:=bC x.vars.length;obtain⟨n5,G5⟩:=bC x.bq.length;rw[<-hn3]at HMX HCX HBC HOC ⊢;rw[<-tZ]at HMX HBC HOC ⊢;rw[<-G5]at HMX HCX HBC HOC ⊢;obtain⟨aag,hY⟩:=bC (FD c x.name);have HY:=I hY;rw[<-hY];obtain⟨mU,HB0⟩:=bT hA.lt hA.base;obtain⟨W,hW,k0,k1,k2,hsz,hBW⟩:=al3 w (aY #[Y a0 n0 c0,Y a1 n1 c1,Y a2 n2 c2,.map (some b1),.map (some b2)] 99) (aY #[A x.name,Y ia n3 ic,Y a3 n4 c3,Y a4 n5 c4] 58) (aY #[J,J,O 0] 102);obtain⟨lD,jl,Kc,iN,Uk⟩:=tq k0 k1 k2 hBW (hA.below hBW);clear k0 k1 k2 hsz hBW hA hO hM hC hi hx hg hn3 tZ G5 hY hQ;have HRW:=I (ZM W Uk.base);go_enter func71,ntmps71;go_upto_region 1 with fail;rw[<-hW];clear hW;obtain⟨B,hB⟩:∃B:Bool,(B=true↔Ck.qG c.l x.name x.name):=by
  rcases Classical.em (Ck.qG c.l x.name x.name)with h|h;·exact⟨true,⟨λ_=>h,λ_=>rfl⟩⟩
  ·exact⟨false,⟨λe=>(by cases e),λe=>aN e h⟩⟩
 have HB:=I hB;have vw:Hid (bG W W):=I (bN _ _);have HF:Hid (∀wx,Hid (bG W wx)->wx.cell? (X w.heap.size 2)=some (Y a2 n2 c2)/\wx.cell? (X (w.heap.size+1) 0)=some (A x.name)):=I (λwx h=>⟨(aj (aU lD h) 2).trans rfl,(aj (aU jl h) 0).trans rfl⟩);clear hB;go_cut [17]from 10 (λt wx=>t=.bool B/\Hid (bG W wx));case first=>
  have x2:=HF W vw
  go_region_held3 (λwx=>wx.cell? (X w.heap.size 2)=some (Y a2 n2 c2)/\wx.cell? (X (w.heap.size+1) 0)=some (A x.name))
   ((refine HF _ ?_;repeat(first|exact HW5|exact vw|apply iC|apply sG)))
   (first
    | (go_at_call 20;refine(ZM _ (up Uk.base (gM (by repeat(first|exact vw|apply iC))))).mono ?_;rintro e w5 ⟨u5,rfl,kM⟩;obtain⟨R5,hrc5,hst5,hb5⟩:=kM.out;have HRC5:=I hrc5;have HST5:=I hst5;obtain⟨s5,t5,q5,r5,rfl,-⟩:=hst5;have HW5:Hid (bG W w5):=I (up (w:=W) (gM (by repeat(first|exact vw|apply iC))) hb5);clear kM hrc5 hb5)
    | (go_at_call 14;refine(jA _ _ R5 x.name (by repeat(first|exact HST5|apply strs_drew))).mono ?_;rintro e w6 ⟨rfl,hw6⟩;subst hw6))
  all_goals
   have hdec:decide (0<=dF R5 x.name)=B:=by
    have h1:(0<=dF R5 x.name)↔B=true:=Fl.oV.trans ((HRC5.2 x.name).trans HB.symm);cases hb:B with
    | true=>exact fQ (h1.2 hb)
    | false=>exact gN (λh=>by rw[h1.1 h]at hb;cases hb)
   rw[hdec];clear hdec;go_wp2_with fail;go_meet;exact⟨rfl,by repeat(first|exact HW5|exact vw|apply iC|apply sG)⟩
 case rest=>
  obtain⟨rfl,hcc⟩:=hcut;have HBC1:=I hcc.out;obtain⟨HA1,nV,lN,HK21,HW1⟩:=tq (Uk.below HBC1) (aU lD HBC1) (aU jl HBC1) (aU Kc HBC1) (up iN HBC1);have HWB:Hid (w0.heap.size<=w.heap.size+1+1):=I (by have:=HB0.size;omega);clear hcc;cases hb:B with
  | true =>have HR:=I (HB.1 hb);have Nr:Hid (aag=([],[⟨8,⟨#[]⟩,x.name⟩],0)):=I (by rw[HY,HFD];unfold Uj;rw[aL HR.out]);have m0:=aj lN 0;have dO:=I (aH wc (aY #[O 8,A ⟨#[]⟩,A x.name] 80));have HD:Hid (iE (wc.alloc (aY #[O 8,A ⟨#[]⟩,A x.name] 80)) (Y (some (X wc.heap.size 0)) 1 1) [⟨8,⟨#[]⟩,x.name⟩]):=I ((eT.one (At:=qz) (c:=[O 8,A ⟨#[]⟩,A x.name]) (y:=⟨8,⟨#[]⟩,x.name⟩) wc 80 rfl (by simp[Value.oneCell']) rfl).Gf cZ);obtain⟨WG,HA2,HW2⟩:=fq (aU HK21 dO) (HA1.below dO) (up HW1 dO);obtain⟨r0,r1,r2⟩:=Ql WG;obtain⟨z0,z1,z2⟩:=lQ (aG WG 0) (aG WG 1) (aG WG 2);clear hb;go_wp2_with fail;generalize wc.alloc (aY #[O 8,A ⟨#[]⟩,A x.name] 80)=W2 at *;have hs:=Ku WG (J) (Y (some (X wc.heap.size 0)) 1 1) (O 0);obtain⟨f0,f1,f2⟩:=Ql hs;refine bW (v:=.agg #[J,Y (some (X wc.heap.size 0)) 1 1,O 0]) (by simp[results,results71,go_sem,f0,f1,f2]) rfl ?_;rw[Nr];exact⟨_,rfl,I ⟨⟨fo,HA2.WE WG HWB _ _ _,pq (But.of_below HW2) (bH (dJ _) (dJ _)) _ _ _⟩,⟨_,_,_,rfl,d9.nil _ _ _ _⟩,⟨_,_,rfl,uX HD WG _ _ _⟩⟩⟩
  | false=>
   have HNR:Hid (¬Ck.qG c.l x.name x.name):=I (λh=>by rw[HB.2 h]at hb;cases hb);have HYF:Hid (aag=if (Ck.bl c.l (FD c) x.imports []).2≠0 then ([],[],(Ck.bl c.l (FD c) x.imports []).2)else if aO.once (Ck.bl c.l (FD c) x.imports []).1≠[]then ([],aO.once (Ck.bl c.l (FD c) x.imports []).1,0)else Sm.ans c.ss c.G c.L c.Z c.m x (zR c.l x) (Ao c.l (FD c) x)):=I (by rw[HY,HFD];unfold Uj;rw[aJ HNR.out]);have HBW1:=I (HBC wc fo HA1 HNR);obtain⟨BL,hBL⟩:=bC (Ck.bl c.l (FD c) x.imports []);rw[<-hBL]at HYF HBW1;obtain⟨p0,p1,p2,p3,p4⟩:=ZC5 nV;obtain⟨m0,m1,m2,m3⟩:=Js lN;clear hb hBL;go_wp2_with fail;refine HBW1.mono ?_;rintro e w3 ⟨u3,rfl,hh3⟩;obtain⟨⟨fo3,hq3,TI⟩,hd3⟩:=hh3.out;obtain⟨HQ3,HBU3⟩:=bT hq3 ((But.of_below HW1).trans TI);have hne0:w.heap.size≠b2:=λe=>by have:=mU.out;omega
   have hne1:w.heap.size+1≠b2:=λe=>by have:=mU.out;omega
   have hne2:w.heap.size+1+1≠b2:=λe=>by have:=mU.out;omega
   obtain⟨HK03,HK13,BM,nZ,HD3⟩:=tq (TI.at hne0 nV) (TI.at hne1 lN) (TI.at hne2 HK21) (And.intro hne0 (And.intro hne1 hne2)) hd3;obtain⟨ua,ub,uo,uc,rfl,-⟩:=hd3;obtain⟨un,hun⟩:=bC ((blD BL).length);rw[<-hun]at HD3 ⊢;have HUN:=I hun;clear hh3 hq3 TI hne0 hne1 hne2 hun p0 p1 p2 p3 p4 m0 m1 m2 m3;obtain⟨E3,hE3⟩:=bC BL.2;have Y9:=I hE3;rw[<-hE3];clear hE3;by_cases hE:E3=0
   ·subst hE;have R8:Hid (blD BL=aO.once BL.1):=I (aJ (by rw[<-Y9];simp));rw[aJ (by rw[<-Y9];simp)]at HYF;by_cases hn0:un=0;·subst hn0;have hnil:aO.once BL.1=[]:=pQ.1 (by rw[<-R8];exact HUN.symm);rw[aJ (by rw[hnil];simp)]at HYF;obtain⟨p0,p1,p2,p3,p4⟩:=ZC5 HK03;obtain⟨m0,m1,m2,m3⟩:=Js HK13;have HOW3:=I (HOC w3 fo3 HQ3 HNR);clear hnil;go_wp2_with fail;refine HOW3.mono ?_;rintro e w4 ⟨ku,su,rfl,hh4⟩;obtain⟨⟨fo4,hq4,TJ⟩,hk4,hs4⟩:=hh4.out;obtain⟨HQ4,HBU4,HK04,HK14,HK24⟩:=tq hq4 (HBU3.trans TJ) (TJ.at nZ.1 HK03) (TJ.at nZ.2.1 HK13) (TJ.at nZ.2.2 BM);have HEF:Hid (∀s,∀y∈(FD c s).1,Wi U y):=I (λs y hy=>Ww HQ.uni _ s y hy);have HOM:Hid (∀y∈zR c.l x,y∈c.l):=I (λy hy=>(List.mem_filter.1 hy).1);have HSL:Hid (∀r∈Ao c.l (FD c) x,r.length<=1048576/\∀y∈r,y.gU.length<=1048576/\∀u∈y.gU,u.size<=maxLen):=I (λr hr=>⟨scs_rlen Qi.2.2.1 r hr,λy hy=>⟨YF HQ.uni.len HEF r hr y hy,λu hu=>HQ.uni.size u ((PZ HQ.uni HXM HEF).eB r hr y hy u hu)⟩⟩);have HPRE:Hid (l9 w4 c.m (Y a0 n0 c0) (Y a1 n1 c1) (Y ia n3 ic) (Y a3 n4 c3) (Y a4 n5 c4) ku su (J) c.ss c.G c.L c.Z x (zR c.l x) (Ao c.l (FD c) x) []):=I (by have hb:=hq4.base;exact⟨HQ.strs.below hb,HQ.Qg.below hb,HMX.below hb,HCX.below hb,mos_of hk4 (by have h1:=P5 c.l x;have h2:=Qi.2.1;omega) hb,scss_of hs4 (by rw[Kr];have h1:=P5 c.l x;have h2:=Qi.2.1;omega) HSL,⟨none,0,0,0,rfl,λh=>aN h cZ,by simp,λi y hy=>by simp at hy⟩,HQ.small x HXM,λy hy=>HQ.small y (HOM y hy),HQ.tab.below hb,YF HQ.uni.len HEF,λy hy=>by cases hy⟩);have HINF:=I (EY c.m w4 _ _ _ _ _ _ _ c.ss c.G c.L c.Z x (zR c.l x) (Ao c.l (FD c) x) U HPRE (PZ HQ.uni HXM HEF));rw[<-HYF]at HINF;obtain⟨ka4,kc4,hkf⟩:=hk4.form;obtain⟨sa4,sc4,hsf⟩:=hs4.form;generalize (zR c.l x).length=kn4 at hkf;generalize (Ao c.l (FD c) x).length=sn4 at hsf;subst hkf hsf;clear hh4 hq4 TJ hk4 hs4 p0 p1 p2 p3 p4 m0 m1 m2 m3;obtain⟨l0,l1⟩:=jm HK04;obtain⟨m0,m1,m2,m3⟩:=Js HK14;go_wp2_with fail;refine HINF.mono ?_;rintro e w5 ⟨v5,u5,rfl,kM⟩;obtain⟨hs5,hd5,hb5⟩:=kM.out;obtain⟨HS5,HD5⟩:=bT (hs5.old (bI _)) hd5;obtain⟨sa5,sc5,hsf⟩:=hs5.form;obtain⟨da5,db5,do5,dc5,rfl,-⟩:=hd5;obtain⟨sn5,hsn5⟩:=bC aag.1.length;obtain⟨dn5,hdn5⟩:=bC aag.2.1.length;obtain⟨E5,hE5⟩:=bC aag.2.2;rw[<-hsn5]at hsf;subst hsf;rw[<-hdn5]at HD5 ⊢;rw[<-hE5];obtain⟨HDN,Ua,HQ5,Dc,TK⟩:=tq hdn5 hE5 (HQ4.below hb5) (HBU4.trans (But.of_below hb5)) (aU HK24 hb5);obtain⟨r0,r1,r2⟩:=Ql TK;obtain⟨z0,z1,z2⟩:=lQ (aG TK 0) (aG TK 1) (aG TK 2);clear kM hs5 hb5 hsn5 hdn5 hE5 l0 l1 m0 m1 m2 m3;go_wp2_with fail;have hs:=Ku TK (Y sa5 sn5 sc5) (Y da5 dn5 dc5) (O E5);obtain⟨f0,f1,f2⟩:=Ql hs;refine bW (v:=.agg #[Y sa5 sn5 sc5,Y da5 dn5 dc5,O E5]) (by simp[results,results71,go_sem,f0,f1,f2]) rfl ?_;exact⟨_,rfl,I ⟨⟨fo4,HQ5.WE TK HWB _ _ _,pq Dc (bH (dJ _) (dJ _)) _ _ _⟩,⟨_,da5,dc5,by rw[<-HDN,<-Ua],qp HS5 (yU TK _ _ _) bP bP bP⟩,⟨_,_,by rw[<-Ua],uX HD5 TK _ _ _⟩⟩⟩
    ·have hne:aO.once BL.1≠[]:=λh=>hn0 (by rw[HUN,R8,h];rfl);rw[aL hne]at HYF;have hpos:0<un:=by omega
     obtain⟨r0,r1,r2⟩:=Ql BM;obtain⟨z0,z1,z2⟩:=lQ (aG BM 0) (aG BM 1) (aG BM 2);rw[R8]at HD3 HUN;clear hne hn0;go_wp2_with fail;have hs:=Ku BM (J) (Y ua un uc) (O 0);obtain⟨f0,f1,f2⟩:=Ql hs;refine bW (v:=.agg #[J,Y ua un uc,O 0]) (by simp[results,results71,go_sem,f0,f1,f2]) rfl ?_;rw[HYF];exact⟨_,rfl,I ⟨⟨fo3,HQ3.WE BM HWB _ _ _,pq HBU3 (bH (dJ _) (dJ _)) _ _ _⟩,⟨_,ua,uc,by rw[<-HUN],d9.nil _ _ _ _⟩,⟨_,_,rfl,uX HD3 BM _ _ _⟩⟩⟩
   ·have hz:=dY hE;rw[aL (by rw[<-Y9];exact hE),<-Y9]at HYF;have R8:Hid (blD BL=[]):=I (aL (by rw[<-Y9];exact hE));rw[R8]at HD3 HUN;have hu0:un=0:=HUN.out;obtain⟨r0,r1,r2⟩:=Ql BM;obtain⟨z0,z1,z2⟩:=lQ (aG BM 0) (aG BM 1) (aG BM 2);clear hE;subst hu0;go_wp2_with fail;have hs:=Ku BM (J) (Y ua 0 uc) (O E3);obtain⟨f0,f1,f2⟩:=Ql hs;refine bW (v:=.agg #[J,Y ua 0 uc,O E3]) (by simp[results,results71,go_sem,f0,f1,f2]) rfl ?_;rw[HYF];exact⟨_,rfl,I ⟨⟨fo3,HQ3.WE BM HWB _ _ _,pq HBU3 (bH (dJ _) (dJ _)) _ _ _⟩,⟨_,ua,uc,rfl,d9.nil _ _ _ _⟩,⟨_,_,rfl,uX HD3 BM _ _ _⟩⟩⟩
theorem LG{H:Type}{P:Program}{R:Value->Option (DataW H × List MemPlace)}{D:DataW H}(h:w.ownsMap P k R b n D):w.ownsMap P k R b (Maps.size D) D:=by obtain⟨es,clock,hb,F,hs,rfl⟩:=h;exact⟨es,clock,hb,F,by simp[Maps.size,length_sorted],rfl⟩
theorem pK.putB{o:ByteArray->Option Value}{e:TypeId}(ht:prog.underlying t=some (.map 9 e))(h:pK w b n z o)(hn:n<maxLen){s:ByteArray}(hs:s.size<=maxLen)(v:Value)(h1:o s=none->n+1<=n')(h2:n<=n'):∃w',(Instr.mapUpdate t (.map (some b)) (.string s) v).run prog w=.ok () w'/\pK w' b n' z (nQ o s v)/\w.grownBy w' (some b):=by
 obtain⟨D,k1,k2⟩:=h;obtain⟨w',e,h3,h4⟩:=k1.update ug ht hn (keyOf_string_mk underlying9 hs) (show sD v=some (.held v,[])from rfl);refine⟨w',e,pK.mono (n:=Maps.size (D.put (.string s.data.toList) (.held v))) ⟨_,LG h3,λt ht=>?_⟩ ?_,h4⟩
 ·cases hst:dD t s with
  | true =>have:=key_eq hst;subst this;rw[has_put_same k1.isMap (show WideAt.IsKeyLit (.string t.data.toList)from trivial),atKey_put_same k1.isMap (show WideAt.IsKeyLit (.string t.data.toList)from trivial)];simp[nQ,hst]
  | false =>rw[has_put_other (yc hst),atKey_put_other (yc hst)];simpa[nQ,hst]using k2 t ht
 ·have h5:=k1.size_le;rw[size_put (k1.tidy ug),(k2 s hs).1];cases ho:o s with
  | none=>have:=h1 ho;simp;omega
  | some u=>simp;omega
theorem But.of_grown(hg:w.grownBy w' (some p)):But p w w':=⟨hg.os,hg.tape,hg.output,hg.size,λk hk hne=>hg.block k hk (λe=>hne (by injection e))⟩
theorem Ck.cntF_mono(l:List Mo)(fo:aZ->Option Value)(s:aZ)(v:Value):Ck.cntF l fo<=Ck.cntF l (nQ fo s v):=by
 unfold Ck.cntF;induction l with
 | nil=>exact bF _
 | cons x l ih=>
  simp only[List.filter_cons];cases hp:(fo x.name).isSome with
  | true=>
   have:(nQ fo s v x.name).isSome=true:=by
    unfold nQ;split;·rfl
    ·exact hp
   rw[this];simp;exact ih
  | false=>
   cases(nQ fo s v x.name).isSome with
   | true=>simp;omega
   | false=>simpa using ih
theorem FiW.form{y:Ck.Fi}(h:FiW w v y):∃a n c b k,v=.agg #[Y a n c,Y b y.2.1.length k,O y.2.2]:=by obtain⟨vs,b,k,e,ho⟩:=h;obtain⟨a,c,hs⟩:=ho.form;exact⟨a,_,c,b,k,by rw[e,hs]⟩
theorem qof_step(w0:World)(c:Cx)(vn vl vk:Value)(b1 b2:Nat)(U:List aZ)(g:Nat)(hQ:QIn w0 c vn vl vk b1 b2 U)(hO:OfOk w0 c vn vl vk b1 b2 g):OfOk w0 c vn vl vk b1 b2 (g+1):=by
 intro w fo s hA hsome hrk hsz;obtain⟨i,hi⟩:=xM.1 hsome;obtain⟨x,hx,hxn⟩:=gD hi;subst hxn;have hxm:=dN hx;obtain⟨HXM,HLTI⟩:=bT hxm (Ck.vV hi);obtain⟨ka,kb,ko,kc,hke,hka,hkl,TF⟩:=hQ.mks;obtain⟨vi,vv,vf,g0,g1,g2,g3,hM,hC⟩:=TF i x hx;have NK:=I (λwx GL (h:Kq w0 c b1 b2 wx GL)=>qfind_any w0 wx c vn vl vk b1 b2 U GL g i x vi vv vf hQ h hO hi hx hM hC aV);obtain⟨⟨a0,n0,c0,rfl⟩,⟨a1,n1,c1,rfl⟩,-⟩:=hQ.forms;obtain⟨nk,hnk⟩:∃n,n=c.l.length:=⟨_,rfl⟩;rw[<-hnk]at hke hka HLTI;subst hke;have hka':=hka (by have:=HLTI.out;omega);subst hka';have hs:=hM.split;obtain⟨hI,hV,hF⟩:=hs;obtain⟨ia,ib,io,ic,rfl,-⟩:=hI;obtain⟨a3,b3,o3,c3,rfl,-⟩:=hV;obtain⟨a4,b4,o4,c4,rfl,-⟩:=hF;obtain⟨n3,hn3⟩:∃n,n=x.imports.length:=⟨_,rfl⟩;obtain⟨n4,tZ⟩:∃n,n=x.vars.length:=⟨_,rfl⟩;obtain⟨n5,G5⟩:∃n,n=x.bq.length:=⟨_,rfl⟩;rw[<-hn3]at g1 NK;rw[<-tZ]at g2 NK;rw[<-G5]at g3 NK;obtain⟨HG,zh,HQ2,nZ,mU,HB0⟩:=vC (And.intro g0 (And.intro g1 (And.intro g2 g3))) hsz hQ.q2 hQ.ne hA.lt hA.base;have HQA:=I hA;obtain⟨aag,hY⟩:∃y,y=FD c x.name:=⟨_,rfl⟩;have HY:=I hY;rw[<-hY]at NK ⊢;have MV:Hid (Ck.fi c.l x.name=some (O (i:Nat))):=I (by unfold Ck.fi;rw[hi];rfl);have HC6:Hid (c.l.length<=6):=I (jI hQ.form).2.1;obtain⟨W,hW,k0,k1,hsz',hBW⟩:=wG w (aY #[Y a0 n0 c0,Y a1 n1 c1,Y (some (X kb ko)) nk kc,.map (some b1),.map (some b2)] 99) (aY #[J,J,O 0] 102);obtain⟨lD,jl,iN,Uk,Qh⟩:=tq k0 k1 hBW (hA.below hBW) hsz';clear k0 k1 hsz' hBW hA hM hC hi hx hxm hrk hsz hQ hO hsome g0 g1 g2 g3 hka hkl TF hn3 tZ G5 hnk hY;have q3:=aj lD.out 4;have LK:=Uk.out.AQ.uh underlying97 zeroFi zh.out;go_enter func41,ntmps41;go_upto_region 1 with fail;rw[<-hW];clear hW;cases hfo:fo x.name with
 | some v0 =>have HFW:=I (Uk.out.fin x.name v0 hfo);obtain⟨sa,sn,sc,db,dk,hv0⟩:=HFW.out.form;rw[<-HY.out]at hv0;obtain⟨dn,hdn⟩:∃n,n=aag.2.1.length:=⟨_,rfl⟩;obtain⟨E0,hE0⟩:∃e,e=aag.2.2:=⟨_,rfl⟩;rw[<-hdn,<-hE0]at hv0;subst hv0;rw[hfo]at LK;simp only[iK,oO]at LK;obtain⟨dO,DV⟩:=sS W (aY #[Y sa sn sc,Y db dn dk,O E0] 102);have HNN:Hid (¬fo x.name=none):=I (by rw[hfo];simp);clear hdn hE0 hfo;go_upto_region 2 with fail;obtain⟨yH,HA2,HW2,HFW2⟩:=mg (aU jl.out dO.out) (Uk.out.below dO.out) (up iN.out dO.out) (HFW.out.below dO.out);rw[<-HY.out]at HFW2;generalize W.alloc (aY #[Y sa sn sc,Y db dn dk,O E0] 102)=W2 at *;generalize W.heap.size=FB at *;clear LK q3;obtain⟨y0,y1,y2⟩:=Ql DV.out;obtain⟨r0,r1,r2⟩:=Ql yH.out;obtain⟨z0,z1,z2⟩:=lQ (aG yH.out 0) (aG yH.out 1) (aG yH.out 2);go_wp2_with fail;have hs:=Ku yH.out (Y sa sn sc) (Y db dn dk) (O E0);obtain⟨f0,f1,f2⟩:=Ql hs;refine bW (v:=.agg #[Y sa sn sc,Y db dn dk,O E0]) (by simp[results,results41,go_sem,f0,f1,f2]) rfl ?_;exact⟨_,rfl,I ⟨⟨fo,HA2.out.WE yH.out (by have:=HB0.out.size;omega) _ _ _,pq (But.of_below HW2.out) (dJ _) _ _ _⟩,HFW2.out.st (yU yH.out _ _ _) bP bP bP,λh=>aN h HNN.out⟩⟩
 | none=>
  rw[hfo]at LK;simp only[nG,oP,zFi]at LK;obtain⟨dO,DV⟩:=sS W (aY #[J,J,O 0] 102);have Qi:=I hfo;clear hfo;go_upto_region 3 with fail;obtain⟨SY,yH,HA2,HW2⟩:=mg (aU lD.out dO.out) (aU jl.out dO.out) (Uk.out.below dO.out) (up iN.out dO.out);generalize W.alloc (aY #[J,J,O 0] 102)=W2 at *;obtain⟨FB,hFB⟩:∃n,n=W.heap.size:=⟨_,rfl⟩;rw[<-hFB]at DV ⊢;have HFB:Hid (w.heap.size+1<FB/\w.heap.size<=FB):=I (by have:=Qh.out;omega);clear LK q3 hFB;have LK2:∀k os,(Instr.lookup 95 (.map (some b1)) (A x.name) false).run prog (gn W2 k os)=.ok (O (i:Nat)) (gn W2 k os):=λk os=>by have h:=(HA2.out.fst.Bz (bR W2 k os)).look underlying95 Cu zh.out;rw[MV.out]at h;exact h
  obtain⟨p0,p1,p2,p3,p4,g0,g1⟩:=Iz (aX ((aj SY.out 0).trans rfl)) (aX ((aj SY.out 1).trans rfl)) (aX ((aj SY.out 2).trans rfl)) (aX ((aj SY.out 3).trans rfl)) (aX ((aj SY.out 4).trans rfl)) (aX (aC HG.out.1 HA2.out.base)) (aX (aC HG.out.2.1 HA2.out.base));obtain⟨g2,g3⟩:=eD (aX (aC HG.out.2.2.1 HA2.out.base)) (aX (aC HG.out.2.2.2 HA2.out.base));have hi0:(0:Int)<=(i:Int):=by omega
  have hi1:(i:Int)<(nk:Int):=by have:=HLTI.out;omega
  refine fI 9 bU bU ?_;dsimp only[List.take,List.drop];repeat(quiet_step (fail))
  refine wpQuiet_nil ?_;intro w6 hw';obtain⟨⟨nq,osq⟩,hw''⟩:=hw';have eF:Hid (bG W2 w6):=I (by rw[hw''];exact bR W2 nq osq);clear hw'' p0 p1 p2 p3 p4 g0 g1 g2 g3 hi0 hi1 LK2;have HQ6:=I (HA2.out.below eF.out);obtain⟨HFC6,HK06,HK16,HKX6,HW6⟩:=tq (NK.out w6 fo HQ6.out) (aU SY.out eF.out) (aU yH.out eF.out) (aU DV.out eF.out) (up HW2.out eF.out);go_wp2_with fail;refine HFC6.out.mono ?_;rintro e w7 ⟨v7,rfl,JE⟩;obtain⟨⟨fo7,hq7,TL⟩,hfw7,hfd7⟩:=JE.out;obtain⟨HFW7,HFD7⟩:=bT hfw7 hfd7;obtain⟨sa,sn,sc,db,dk,hv7⟩:=hfw7.form;obtain⟨dn,hdn⟩:∃n,n=aag.2.1.length:=⟨_,rfl⟩;obtain⟨E0,hE0⟩:∃e,e=aag.2.2:=⟨_,rfl⟩;rw[<-hdn,<-hE0]at hv7;subst hv7;obtain⟨jE,HK07,Kn,Bo⟩:=mg ((But.of_below HW6.out).trans TL) (TL.at (show w.heap.size≠b2 from λe=>by have:=mU.out;omega) HK06.out) (TL.at (show w.heap.size+1≠b2 from λe=>by have:=mU.out;omega) HK16.out) (TL.at (show FB≠b2 from λe=>by have:=mU.out;have:=HFB.out;omega) HKX6.out);obtain⟨y0,y1,y2⟩:=Ql Bo.out;obtain⟨Ua,HQ8,wH,Db,HFW8⟩:=tq hE0 (hq7.WE Bo.out (by have:=HB0.out.size;have:=HFB.out;omega) (Y sa sn sc) (Y db dn dk) (O E0)) (pq jE.out HFB.out.2 (Y sa sn sc) (Y db dn dk) (O E0)) (Ku Bo.out (Y sa sn sc) (Y db dn dk) (O E0)) (HFW7.out.st (yU Bo.out (Y sa sn sc) (Y db dn dk) (O E0)) bP bP bP);obtain⟨z0,z1,z2⟩:=lQ (aG Bo.out 0) (aG Bo.out 1) (aG Bo.out 2);have HDG8:Hid (iE (((w7.setCell (X FB 0) (Y sa sn sc)).setCell (X FB 1) (Y db dn dk)).setCell (X FB 2) (O E0)) (Y db dn dk) aag.2.1):=I (by
   obtain⟨vs,vd,e,h⟩:=HFD7.out;injection e with e;have e2:Y db dn dk=vd:=by have:=congrArg (λa:Array Value=>a[1]?) e;simpa using this
   rw[e2];exact uX h Bo.out _ _ _)
  have hbx:∀(q:Nat) o,q≠FB->w7.heap[q]?=some o->(((w7.setCell (X FB 0) (Y sa sn sc)).setCell (X FB 1) (Y db dn dk)).setCell (X FB 2) (O E0)).heap[q]?=some o:=λq o hq ho=>bL (bL (bL ho hq _) hq _) hq _;obtain⟨HK08,HK18⟩:=bT (hbx w.heap.size _ (by have:=HFB.out;omega) HK07.out) (hbx (w.heap.size+1) _ (by have:=HFB.out;omega) Kn.out);clear JE hq7 TL hfw7 hfd7 hdn hE0 hbx;go_upto_region 4 with fail;clear y0 y1 y2 z0 z1 z2;generalize (((w7.setCell (X FB 0) (Y sa sn sc)).setCell (X FB 1) (Y db dn dk)).setCell (X FB 2) (O E0))=W8 at *;have q4:=aj HK08.out 4;obtain⟨y0,y1,y2⟩:=Ql Db.out;obtain⟨w9,UP,hm9,hg9⟩:=HQ8.out.AQ.putB (n':=Ck.cntF c.l (nQ fo7 x.name (.agg #[Y sa sn sc,Y db dn dk,O E0]))) underlying97 (by have h1:=cntF_le c.l fo7;have h2:=HC6.out;unfold maxLen;omega) zh.out (.agg #[Y sa sn sc,Y db dn dk,O E0]) (λh=>cntF_put HXM.out h _) (cntF_mono _ _ _ _);have hbg:=But.of_grown hg9;have hst9:mD 4 W8 w9:=mD.but hbg HQ8.out.AQ.isMap;have HFW9:=I (HFW8.out.st hst9 bP bP bP);have HQ9:Hid (Kq w0 c b1 b2 w9 (nQ fo7 x.name (.agg #[Y sa sn sc,Y db dn dk,O E0]))):=I ⟨Below.grown HQ8.out.base hg9 HQ8.out.base.size (λk e=>by injection e with e;rw[<-e];exact HQ2.out),HQ8.out.fst.kept hg9 (λe=>by injection e with e;exact nZ.out e),hm9,λt v ht=>by
   unfold nQ at ht;cases hts:dD t x.name with
   | true =>rw[hts]at ht;simp only[if_true]at ht;cases ht;have:=eO.1 hts;subst this;rw[<-HY.out];exact HFW9.out
   | false =>rw[hts]at ht;exact(HQ8.out.fin t v ht).st hst9 bP bP bP⟩
  obtain⟨Bp,HKX9,TM⟩:=fq (wH.out.trans hbg) (hbg.at (show FB≠b2 from λe=>by have:=mU.out;have:=HFB.out;omega) Db.out) (hbg.at (show w.heap.size+1≠b2 from λe=>by have:=mU.out;omega) HK18.out);have HDG9:Hid (iE w9 (Y db dn dk) aag.2.1):=I (HDG8.out.cells (λa v ha=>by
   have hne:a.block≠b2:=λe=>by obtain⟨es,cl,hq⟩:=HQ8.out.AQ.isMap;rw[<-e]at hq;simp[World.cell?,hq]at ha
   have hb:=hbg.block a.block (eZ _ _ ha) hne;exact(jL hb).trans ha))
  clear hm9 hg9 hbg hst9;go_upto_region 5 with fail;clear q4 y0 y1 y2;obtain⟨y0,y1,y2⟩:=Ql HKX9.out;obtain⟨r0,r1,r2⟩:=Ql TM.out;obtain⟨z0,z1,z2⟩:=lQ (aG TM.out 0) (aG TM.out 1) (aG TM.out 2);go_wp2_with fail;have hs:=Ku TM.out (Y sa sn sc) (Y db dn dk) (O E0);obtain⟨f0,f1,f2⟩:=Ql hs;refine bW (v:=.agg #[Y sa sn sc,Y db dn dk,O E0]) (by simp[results,results41,go_sem,f0,f1,f2]) rfl ?_;exact⟨_,rfl,I ⟨⟨_,HQ9.out.WE TM.out (by have:=HB0.out.size;omega) _ _ _,pq Bp.out (dJ _) _ _ _⟩,HFW9.out.st (yU TM.out _ _ _) bP bP bP,λ_=>⟨_,_,by rw[<-Ua.out],uX HDG9.out TM.out _ _ _⟩⟩⟩
theorem YJ(w0:World)(c:Cx)(vn vl vk:Value)(b1 b2:Nat)(U:List aZ)(hQ:QIn w0 c vn vl vk b1 b2 U):∀g,OfOk w0 c vn vl vk b1 b2 g
 | 0=>λ_ _ _ _ _ h=>aN h (fK _)
 | g+1=>qof_step w0 c vn vl vk b1 b2 U g hQ (YJ w0 c vn vl vk b1 b2 U hQ g)
noncomputable def Ck.an(c:Cx)(name:ByteArray):Ck.Fi:=
 if kN (dh c.ss c.G c.L c.Z) c.m c.l≠0 then ([],[],kN (dh c.ss c.G c.L c.Z) c.m c.l)
 else if (aO.dw c.l name).isSome=false then ([],[],4)else FD c name
theorem set5(h:W.heap[B]?=some (.cells #[r0,r1,r2,r3,r4] t (0,0)))(c0 c1 c2 c3 c4:Value):(((((W.setCell (X B 0) c0).setCell (X B 1) c1).setCell (X B 2) c2).setCell (X B 3) c3).setCell (X B 4) c4).heap[B]?=some (.cells #[c0,c1,c2,c3,c4] t (0,0)):=by rw[aP (aP (aP (aP (aP h 0 c0) 1 c1) 2 c2) 3 c3) 4 c4];rfl
theorem WH(h:Below n w W)(hB:n<=B)(c0 c1 c2 c3 c4:Value):Below n w (((((W.setCell (X B 0) c0).setCell (X B 1) c1).setCell (X B 2) c2).setCell (X B 3) c3).setCell (X B 4) c4):=
 ((((h.setCell (p:=(X B 0)) hB c0).setCell (p:=(X B 1)) hB c1).setCell (p:=(X B 2)) hB c2).setCell (p:=(X B 3)) hB c3).setCell (p:=(X B 4)) hB c4
theorem TN(h:pK W b n z o)(hk:W.heap[B]?=some (.cells cs t (0,0)))(c0 c1 c2 c3 c4:Value):pK (((((W.setCell (X B 0) c0).setCell (X B 1) c1).setCell (X B 2) c2).setCell (X B 3) c3).setCell (X B 4) c4) b n z o:=by
 obtain⟨es,cl,q⟩:=h.isMap;have hne:b≠B:=λe=>by subst e;rw[hk]at q;cases q
 refine h.same ?_;rw[q];exact bL (bL (bL (bL (bL q hne _) hne _) hne _) hne _) hne _
theorem set2C(h:W.heap[B]?=some (.cells #[r0,r1] t (0,0)))(c0 c1:Value):((W.setCell (X B 0) c0).setCell (X B 1) c1).heap[B]?=some (.cells #[c0,c1] t (0,0)):=by rw[aP (aP h 0 c0) 1 c1];rfl
theorem yV(h:Below n w W)(hB:n<=B)(c0 c1:Value):Below n w ((W.setCell (X B 0) c0).setCell (X B 1) c1):=(h.setCell (p:=(X B 0)) hB c0).setCell (p:=(X B 1)) hB c1
theorem stT_set2(h:W.heap[B]?=some (.cells #[r0,r1] t (0,0)))(c0 c1:Value):mD t W ((W.setCell (X B 0) c0).setCell (X B 1) c1):=(mD.set h c0).trans (mD.set (aP h 0 c0) c1)
theorem dgs_set2{l:List Dg}{a b:Option Addr}{k:Nat}(h:iE W v l)(hk:W.heap[B]?=some (aY #[Y a n k,Y b n' k'] 61))(c0 c1:Value):iE ((W.setCell (X B 0) c0).setCell (X B 1) c1) v l:=by
 obtain⟨a',b',off,cap,e',h0,hl,h1⟩:=h;refine⟨a',b',off,cap,e',h0,hl,λi d hd=>?_⟩;obtain⟨g0,g1,g2⟩:=h1 i d hd;have hne:b'≠B:=λe=>by
  subst e;rw[aj hk]at g1;have hlt:off+i*3+1<2:=(Array.getElem?_eq_some_iff.1 g1).1;have h2:off+i*3+1=1:=by omega
  rw[h2]at g1;simp at g1
 have hsub:∀q,W.cell? (X b' q)=((W.setCell (X B 0) c0).setCell (X B 1) c1).cell? (X b' q):=λq=>by obtain⟨o,ho⟩:∃o,W.heap[b']?=some o:=⟨_,Array.getElem?_eq_getElem (eZ _ _ g0)⟩;exact(jL ((bL (bL ho hne c0) hne c1).trans ho.symm)).symm
 rw[<-hsub,<-hsub,<-hsub];exact⟨g0,g1,g2⟩
theorem ne_lt{a:Nat}(h:a<n)(k:n<=b):b≠a:=by omega
theorem TP(aai:World)(o:Obj)(h:b=aai.heap.size):(aai.alloc o).heap[b]?=some o:=by subst h;exact bD aai o
theorem fV{x:World}(h:Hid (bG W x)):Hid (bG W x.drew):=I (h.drew)
theorem sP{x:World}{o:Obj}(h:Hid (bG W x)):Hid (bG W (x.alloc o)):=I (up h (aH _ _))
theorem caM_drew(h:pK aai b n z o):pK aai.drew b n z o:=h.Bz (bN _ _).drew
theorem Kv(m:Nat)(w:World)(vn vl vk:Value)(ss:List aZ)(G:Nat)(L:Nat->Nat)(Z:Nat->Nat->Bool)(l:List Mo)(name:aZ)(U:List aZ)(hS:Strs w vn ss)(hR:Fb w vl G L Z)(hK:tQ w m vk l)(hsm:∀x∈l,qx m x<=1048576)(ht:Tab w)(hn:name.size<=maxLen)(hU:kN (dh ss G L Z) m l=0->UAll U ss l):Calls prog 18 #[.agg #[vn,vl],vk,A name] w λe w'=>∃vs vd,e=cO (.tuple #[.agg #[vs,vd],O (Ck.an ⟨m,ss,G,L,Z,l⟩ name).2.2])/\Hid (d9 EU w' 0 35 6 vs (Ck.an ⟨m,ss,G,L,Z,l⟩ name).1/\iE w' vd (Ck.an ⟨m,ss,G,L,Z,l⟩ name).2.1/\bG w w'):=by
 obtain⟨c,hc⟩:∃c,c=(⟨m,ss,G,L,Z,l⟩:Cx):=⟨_,rfl⟩;have HQI:Hid (∀b1 b2,kN (dh c.ss c.G c.L c.Z) c.m c.l=0->w.heap.size<=b1->w.heap.size<=b2->b1≠b2->QIn w c vn vl vk b1 b2 U):=I (λb1 b2 hf h1 h2 h3=>by rw[hc]at hf ⊢;exact⟨hS,hR,hK,hf,hsm,ht,h1,h2,h3,hU hf⟩);have NK:=I (λwx (hb:bG w wx)=>form_any m wx vn vl vk ss G L Z l (hS.below hb) (hR.below hb) (hK.mos.below hb) hsm (ht.below hb));have MV:=I (λwx (hb:bG w wx) hl=>BA m wx vk l (hK.mos.below hb) hl);have HVL:Hid (∃a n c,vl=Y a n c):=I (by obtain⟨a,b,o,c,aaj,RB,RO,C,rfl,-⟩:=hR;exact⟨_,_,_,rfl⟩);have HVN:Hid (∃a n c,vn=Y a n c):=I (by obtain⟨a,b,o,c,rfl,-⟩:=hS;exact⟨_,_,_,rfl⟩);have HVK:Hid (∃a n c,vk=Y a n c):=I (by obtain⟨a,b,o,c,rfl,-⟩:=hK;exact⟨_,_,_,rfl⟩);have HNM:=I hn;obtain⟨a0,n0,c0,e0⟩:=HVN.out;obtain⟨a1,n1,c1,e1⟩:=HVL.out;obtain⟨a2,n2,c2,e2⟩:=HVK.out;obtain⟨aaj,hA⟩:∃aaj,aaj=Ck.an c name:=⟨_,rfl⟩;have HA:=I hA;have hce:dh ss G L Z=dh c.ss c.G c.L c.Z/\m=c.m/\l=c.l:=by rw[hc];exact⟨rfl,rfl,rfl⟩
 rw[<-hc,<-hA];rw[hce.1,hce.2.1,hce.2.2]at NK;rw[hce.2.2]at MV;obtain⟨E,hE⟩:∃E,E=kN (dh c.ss c.G c.L c.Z) c.m c.l:=⟨_,rfl⟩;have HE:=I hE;rw[<-hE]at NK;subst e0 e1 e2;clear hc hS hR hK hsm ht hU hA hE hce hn;obtain⟨W,hW,k0,k1,hsz,hBW⟩:=wG w (aY #[Y a0 n0 c0,Y a1 n1 c1] 25) (aY #[J,J] 61);obtain⟨x0,x1⟩:=jm k0;obtain⟨lD,jl,iN,HFW⟩:=mg k0 k1 hBW (NK.out W hBW);clear k0 k1 hsz hBW;go_enter func18,ntmps18;go_upto_region 1 with fail;rw[<-hW];clear hW;go_wp2_with fail;refine HFW.out.mono ?_;rintro e w1 ⟨rfl,hb1⟩;obtain⟨HB1,nV,lN⟩:=fq (up iN.out hb1) (aU lD.out hb1) (aU jl.out hb1);clear hb1 x0 x1;by_cases hE0:E=0
 ·subst hE0;have HFM:Hid (kN (dh c.ss c.G c.L c.Z) c.m c.l=0):=I HE.out.symm;have HSIX:=I (jI HFM.out).2.1;have vw:Hid (bG w1 w1):=I (bN _ _);have hmm:=@run_makeMap prog;go_upto_region 4 with fail;go_cut [9]from 13 (λp x=>∃aah b1 b2,p=jk aah/\Hid (b1≠b2/\w1.heap.size<=aah/\w1.heap.size<=b1/\w1.heap.size<=b2/\x.heap[aah]?=some (aY #[Y a0 n0 c0,Y a1 n1 c1,Y a2 n2 c2,.map (some b1),.map (some b2)] 99)/\pK x b1 1048576 (O 0) (Ck.fi c.l)/\pK x b2 0 zFi (λ_=>none)/\bG w1 x));case first=>
   rename_i Q9 K9 h9 J9 L9 h8 h7;clear h9;have HSF:Hid (∀x,Hid (bG w1 x)->x.cell? (X w.heap.size 0)=some (Y a0 n0 c0)/\x.cell? (X w.heap.size 1)=some (Y a1 n1 c1)):=I (λx hx=>⟨(aj (aU nV.out hx.out) 0).trans rfl,(aj (aU nV.out hx.out) 1).trans rfl⟩);refine bX [some true,some false,some false,none,none,none,none,none] 7 (λx=>x.cell? (X w.heap.size 0)=some (Y a0 n0 c0)/\x.cell? (X w.heap.size 1)=some (Y a1 n1 c1)) 5 bU bU (λ_ _ d _ _ h=>(by cases d<;>exact h)) (HSF.out _ (fV vw)) ?_;dsimp only[fT];repeat(first|(refine fE (v:=?_) dH ?_ ?_;rotate_left 1;(focus(intro w;go_simp;try(with_reducible rfl)));simp only[Act.put,dL,dX,eH])|(refine fF (v:=?_) dH ?_ ?_;rotate_left 1;(focus(intro w hSw;obtain⟨q0,q1⟩:=hSw;go_simp;try(with_reducible rfl)));simp only[Act.put,dL,dX,eH]))
   refine dP ?_;refine sN ?_;intro x hx;have HX:Hid (bG w1 x):=by rw[hx];exact(by repeat(first|with_reducible exact vw|with_reducible refine fV ?_))
   clear hx;have H0:Hid (bG x x):=I (bN _ _)
   iterate 4 (
    all_goals rename World=>aai
    all_goals first
     | refine aQ (i:=6) (by decide +kernel) dH (λK hK=>?_)
     | refine aQ (i:=5) (by decide +kernel) dH (λK hK=>?_)
     | refine aQ (i:=4) (by decide +kernel) dH (λK hK=>?_)
     | refine aQ (i:=3) (by decide +kernel) dH (λK hK=>?_)
     | refine jg (i:=5) (k:=6) (by decide +kernel) dH dH (λK hK=>?_) (λK hK=>?_)
     | refine jg (i:=3) (k:=4) (by decide +kernel) dH dH (λK hK=>?_) (λK hK=>?_)
     | refine jg (i:=3) (k:=6) (by decide +kernel) dH dH (λK hK=>?_) (λK hK=>?_)
     | refine jg (i:=4) (k:=6) (by decide +kernel) dH dH (λK hK=>?_) (λK hK=>?_)
     | refine DC (i:=3) (j:=4) (k:=6) (by decide +kernel) dH dH dH (λK hK=>?_) (λK hK=>?_) (λK hK=>?_)
    all_goals go_simp
    all_goals try(go_at_call 40;refine(MV.out _ (up HB1.out (gM (by repeat(first|with_reducible exact HX|with_reducible refine fV ?_|with_reducible refine sP ?_)))) (by have:=HSIX.out;omega)).mono ?_;rintro e x ⟨b1,rfl,hh⟩;obtain⟨hm,hg,hb⟩:=hh.out;have HS:Hid (bG aai x):=I (up (gM (by repeat(first|with_reducible exact H0|with_reducible refine fV ?_|with_reducible refine sP ?_))) hb);have HL:=I hm;replace hg:aai.heap.size<=b1:=bH (gM (by repeat(first|with_reducible exact H0|with_reducible refine fV ?_|with_reducible refine sP ?_)):bG aai _).size hg;have HG1:Hid (w1.heap.size<=b1):=I (bH HX.out.size hg);(try have nZ:=I (ne_lt HM.out.lt hg));replace HX:=I (up HX.out HS.out);(try replace HM:=I (HM.out.Bz HS.out));(try replace HO:=I (aU HO.out HS.out));replace H0:Hid (bG x x):=I (bN _ _);clear hh hm hg hb HS;dsimp only)
    all_goals(
     with_reducible refine hK.out _ _ (λ_=>HSF.out _ (by repeat(first|with_reducible exact HX|with_reducible refine fV ?_|with_reducible refine sP ?_))) ?_
     clear hK K
     have HGQ:=I HX.out.size
     rename World=>aai
     refine sN ?_
     intro x hx
     have HS:Hid (bG aai x):=by rw[hx];repeat(first|with_reducible exact H0|with_reducible refine fV ?_|with_reducible refine sP ?_)
     first
      | (have HM:Hid (pK x aai.heap.size 0 zFi (λ_=>none)):=I (by rw[hx];with_reducible(first|exact pK.new _ _|exact caM_drew (pK.new _ _)));have HG2:=HGQ;try have nZ:=I (Nat.ne_of_lt HL.out.lt))
      | (have HO:Hid (x.heap[aai.heap.size]?=some (aY #[J,J,J,.map none,.map none] 99)):=I (by rw[hx];with_reducible(first|exact TP _ _ rfl|exact Tt (TP _ _ rfl)));have HGO:=HGQ;try replace HM:=I (HM.out.Bz HS.out))
      | ((try replace HM:=I (HM.out.Bz HS.out));(try replace HO:=I (aU HO.out HS.out)))
     try replace HL:=I (HL.out.below HS.out)
     try replace HO:=I (aU (w:=aai) HO.out HS.out)
     replace HX:=I (up HX.out HS.out)
     clear hx
     replace H0:Hid (bG x x):=I (bN _ _)))
   all_goals(
    refine aQ (i:=7) bU dH (λK hK=>?_)
    have o0:=aj HO.out 0
    have z0:=aG HO.out 0
    obtain⟨-,o1⟩:=jm HO.out
    have z1:=aG HO.out 1
    have o2:=aj HO.out 2
    have z2:=aG HO.out 2
    have o3:=aj HO.out 3
    have z3:=aG HO.out 3
    have o4:=aj HO.out 4
    have z4:=aG HO.out 4
    go_simp
    with_reducible refine hK.out _ _ (λh=>aN (h.symm.trans bU) gZ) ?_
    clear hK K
    clear o0 o1 o2 o3 o4 z0 z1 z2 z3 z4
    refine dI bU ?_ _
    go_wp2_with fail
    go_meet
    exact⟨_,b1,_,rfl,I ⟨nZ.out,HGO.out,HG1.out,HG2.out,set5 HO.out _ _ _ _ _,TN (HL.out.caM.mono (show Ck.cnt c.l c.l.length<=1048576 from bH (Pe _ _) (by have:=HSIX.out;omega))) HO.out _ _ _ _ _,TN HM.out HO.out _ _ _ _ _,WH HX.out HGO.out _ _ _ _ _⟩⟩)
  case rest=>
   obtain⟨aah,b1,b2,rfl,hcc⟩:=hcut;obtain⟨hne,hgo,hg1,hg2,ho,hm1,hm2,hbel⟩:=hcc.out;have rU:Hid (w.heap.size<=w1.heap.size):=I HB1.out.size;have HQI':=I (HQI.out b1 b2 HFM.out (bH rU.out hg1) (bH rU.out hg2) hne);obtain⟨HO,Vl⟩:=bT ho (up HB1.out hbel);have HQA:Hid (Kq w c b1 b2 wc (λ_=>none)):=I ⟨Vl.out,hm1,hm2.mono (bI _),λs v hs=>by cases hs⟩;obtain⟨HGO,HK1C⟩:=bT hgo (aU lN.out hbel);have HB2:Hid (b2<wc.heap.size):=I hm2.lt;have HOB:Hid (aah≠b2):=I (λe=>by obtain⟨es,cl,q⟩:=hm2.isMap;rw[<-e,ho]at q;cases q);have HKB:Hid (w.heap.size+1≠b2):=I (λe=>by have h1:=bE lN.out;omega);have q3:=aj ho 3;have LK:=hm1.uh underlying95 Cu HNM.out;clear hcc hne hgo hg1 hg2 ho hm1 hm2 hbel hmm;cases hmo:aO.dw c.l name with
   | none=>
    have e1:Ck.fi c.l name=none:=by unfold Ck.fi;rw[hmo];rfl
    rw[e1]at LK;simp only[nG,oP]at LK;have R9:Hid (aaj=([],[],4)):=I (by rw[HA.out];unfold Ck.an;rw[aJ (by rw[HFM.out];simp),aL (by rw[hmo];rfl)]);obtain⟨r0,r1⟩:=jm HK1C.out;obtain⟨z0,z1⟩:=eD (aG HK1C.out 0) (aG HK1C.out 1);clear hmo e1;go_wp2_with fail;have hs:=set2C HK1C.out (J) (J);obtain⟨f0,f1⟩:=jm hs;refine bW (v:=.tuple #[.agg #[J,J],O 4]) (by simp[results,results18,go_sem,f0,f1]) rfl ?_;rw[R9.out];exact⟨_,_,rfl,I ⟨d9.nil _ _ _ _,zC _ _,yV Vl.out (dJ _) _ _⟩⟩
   | some i=>
    have e1:Ck.fi c.l name=some (O (i:Nat)):=by unfold Ck.fi;rw[hmo];rfl
    rw[e1]at LK;simp only[iK,oO]at LK;have hsome:(aO.dw c.l name).isSome=true:=by rw[hmo];rfl
    have R9:Hid (aaj=FD c name):=I (by rw[HA.out];unfold Ck.an;rw[aJ (by rw[HFM.out];simp),aJ (by rw[hsome];simp)]);have HOC:=I (YJ w c _ _ _ b1 b2 U HQI'.out (Ck.rk c.l name+1) wc (λ_=>none) name HQA.out hsome (Nat.lt_succ_self _) HNM.out);rw[<-R9.out]at HOC;obtain⟨p0,p1,p2,-,p4⟩:=ZC5 HO.out;clear hmo e1 hsome;go_wp2_with fail;refine HOC.out.mono ?_;rintro e w5 ⟨v5,rfl,kM⟩;obtain⟨⟨fo5,hq5,Ng⟩,hfw5,hfd5⟩:=kM.out;obtain⟨HFD5,HFW5⟩:=bT (hfd5 cZ) hfw5;obtain⟨sa,sn,sc,db,dk,hv5⟩:=hfw5.form;obtain⟨dn,hdn⟩:∃n,n=aaj.2.1.length:=⟨_,rfl⟩;obtain⟨E5,hE5⟩:∃e,e=aaj.2.2:=⟨_,rfl⟩;rw[<-hdn,<-hE5]at hv5;subst hv5;obtain⟨RG,HK15,dW⟩:=fq hE5 (Ng.at HKB.out HK1C.out) hq5.base;have qR:Hid (d9 EU w5 0 35 6 (Y sa sn sc) aaj.1):=I (by
     obtain⟨vs,a,k,e,h⟩:=HFW5.out;injection e with e;have e2:Y sa sn sc=vs:=by have:=congrArg (λa:Array Value=>a[0]?) e;simpa using this
     rw[e2];exact h)
    have HDG5:Hid (iE w5 (Y db dn dk) aaj.2.1):=I (by
     obtain⟨vs,vd,e,h⟩:=HFD5.out;injection e with e;have e2:Y db dn dk=vd:=by have:=congrArg (λa:Array Value=>a[1]?) e;simpa using this
     rw[e2];exact h)
    clear kM hq5 Ng hfw5 hfd5 hdn hE5 p0 p1 p2 p4 q3 LK;obtain⟨dO,DV⟩:=sS w5 (aY #[Y sa sn sc,Y db dn dk,O E5] 102);go_upto_region 9 with fail;obtain⟨HK16,eF,oG,HDG6⟩:=mg (aU HK15.out dO.out) (up dW.out dO.out) (qp qR.out (mD.below (t:=4) dO.out) bP bP bP) (HDG5.out.below dO.out);generalize w5.alloc (aY #[Y sa sn sc,Y db dn dk,O E5] 102)=W6 at *;generalize w5.heap.size=FB at *;have HSF:Hid (∀x:World,x.heap[FB]?=some (aY #[Y sa sn sc,Y db dn dk,O E5] 102)->x.cell? (X FB 0)=some (Y sa sn sc)/\x.cell? (X FB 1)=some (Y db dn dk)/\x.cell? (X FB 2)=some (O E5)):=I (λx g=>⟨(aj g 0).trans rfl,(aj g 1).trans rfl,(aj g 2).trans rfl⟩);refine bX [some false,some true,some false,some true,none,none] 5 (λx=>x.cell? (X FB 0)=some (Y sa sn sc)/\x.cell? (X FB 1)=some (Y db dn dk)/\x.cell? (X FB 2)=some (O E5)) 2 bU bU (λ_ _ d _ _ h=>(by cases d<;>exact h)) (HSF.out _ DV.out) ?_;dsimp only[fT];repeat(first|(refine fE (v:=?_) dH ?_ ?_;rotate_left 1;(focus(intro w;go_simp;try(with_reducible rfl)));simp only[Act.put,dL,dX,eH])|(refine fF (v:=?_) dH ?_ ?_;rotate_left 1;(focus(intro w hSw;obtain⟨q0,q1,q2⟩:=hSw;go_simp;try(with_reducible rfl)));simp only[Act.put,dL,dX,eH]))
    refine dP ?_;refine sN ?_;intro w7 hw7;have JV:Hid (bG W6 w7):=I (by rw[hw7];exact(bN _ _).drew);clear hw7;obtain⟨Bo,Kn,jB,LA,HDG7⟩:=tq (aU DV.out JV.out) (aU HK16.out JV.out) (up eF.out JV.out) (qp oG.out (mD.below (t:=4) JV.out) bP bP bP) (HDG6.out.below JV.out);have uH:Hid (FB≠w.heap.size+1):=I (λe=>by have h1:=Bo.out;rw[e,Kn.out]at h1;simp at h1);obtain⟨r0,r1⟩:=jm Kn.out;obtain⟨z0,z1⟩:=eD (aG Kn.out 0) (aG Kn.out 1);refine aQ (i:=4) bU dH (λK hK=>?_);go_simp;refine hK.out _ _ (λ_=>HSF.out _ (bL (bL Bo.out uH.out _) uH.out _)) ?_;clear hK K;refine aQ (i:=5) bU dH (λK hK=>?_);go_simp;refine hK.out _ _ (λh=>aN (h.symm.trans bU) gZ) ?_;clear hK K;refine dI bU ?_ _;go_wp2_with fail;have hs:=set2C Kn.out (Y sa sn sc) (Y db dn dk);obtain⟨f0,f1⟩:=jm hs;refine bW (v:=.tuple #[.agg #[Y sa sn sc,Y db dn dk],O E5]) (by simp[results,results18,go_sem,f0,f1]) rfl ?_;exact⟨_,_,by rw[<-RG.out],I ⟨qp LA.out (stT_set2 Kn.out _ _) bP bP bP,dgs_set2 HDG7.out Kn.out _ _,yV jB.out (dJ _) _ _⟩⟩
 ·have hz:=dY hE0;have R9:Hid (aaj=([],[],E)):=I (by rw[HA.out];unfold Ck.an;rw[<-HE.out,aL hE0]);obtain⟨r0,r1⟩:=jm lN.out;obtain⟨z0,z1⟩:=eD (aG lN.out 0) (aG lN.out 1);clear hE0;go_wp2_with fail;have hs:=set2C lN.out (J) (J);obtain⟨f0,f1⟩:=jm hs;refine bW (v:=.tuple #[.agg #[J,J],O E]) (by simp[results,results18,go_sem,f0,f1]) rfl ?_;rw[R9.out];exact⟨_,_,rfl,I ⟨d9.nil _ _ _ _,zC _ _,yV HB1.out (dJ _) _ _⟩⟩
end Go.Proofs.YtbgkpehhdibaoaaGreatDoor
