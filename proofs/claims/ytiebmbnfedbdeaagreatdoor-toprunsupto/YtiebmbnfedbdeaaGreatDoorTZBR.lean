import Derived.Test.YtiebmbnfedbdeaaGreatDoorTZBQ
import Derived.Test.YtiebmbnfedbdeaaGreatDoorTZBP
set_option maxHeartbeats 0
set_option maxRecDepth 99999
namespace Go.Proofs.YtiebmbnfedbdeaaGreatDoor
open Ck bS bO Rn Sm
open Go.Proofs.Tryz
open Go.RowKit Go.Maps Go.WideMaps
variable{w w' w0 W KE:bI}{m fuel i p n j b1 b2 B b n' k':Nat}{v vn vl vk r0 r1 r2 z:aC}{l:List Mo}{s:aS}{x y:Mo}{t k:TypeId}{fo o:aS->Option aC}{E e:Int}{U ss r:aJ}{cs:Array aC}
theorem Aj(w:bI)(c:Nat):jg w (X none 0 c) []:=⟨none,0,0,c,rfl,λa=>aM a cK,by simp,λi d f=>by simp at f⟩
theorem af2{l:List Fu}(a:mE w m v l){f:Fu}(g:f∈l):∀u∈f.params,u.size<=maxLen:=by obtain⟨i,h,e⟩:=gU.1 g;obtain⟨_,_,_,_,_,_,_,d⟩:=a;obtain⟨_,G,D,_,_,_,_,_,_,_,_,_,_,_,q,_,_⟩:=d i f (by rw[aZ h,e]);obtain⟨_,_,_,_,_,_,_,C,_⟩:=q;exact C
theorem Gp(m:Nat)(w:bI)(vn vl vi vv vf vk vs:aC)(ss:aJ)(G:Nat)(L:Nat->Nat)(Z:aL)(x:Mo)(known:List Mo)(bL:List (List Sc))(U:aJ)(hP:mQ w m vn vl vi vv vf vk vs (aU) ss G L Z x known bL [])(hU:UOk U ss x bL):aD 16 #[.agg #[vn,vl],.agg #[A x.name,vi,vv,vf],vk,vs] w λe w'=>∃v u,e=dz (.tuple #[v,u,O (Sm.ans ss G L Z m x known bL).2.2])/\J (eZ Ht w' w.heap.size 35 6 v (Sm.ans ss G L Z m x known bL).1/\jg w' u (Sm.ans ss G L Z m x known bL).2.1/\bK w w'):=by
 obtain⟨⟨a0,c0,e0⟩,⟨a1,n1,c1,e1⟩,⟨a2,n2,c2,e2⟩,⟨a3,n3,c3,e3⟩,⟨a4,c4,e4,hcap⟩,⟨a5,n5,c5,e5⟩,⟨a6,n6,c6,e6⟩,-⟩:=hP.forms;obtain⟨n0,hn0⟩:∃n,n=ss.length:=⟨_,rfl⟩;obtain⟨n4,uV⟩:∃n,n=x.bq.length:=⟨_,rfl⟩;have vD:=Y uV;rw[<-hn0]at e0;rw[<-uV]at e4;subst e0 e1 e2 e3 e4 e5 e6;have alL:J (n4<=1048576):=Y (by have:=I9 m x.bq;have hw:=hP.small;unfold xH at hw;omega);obtain⟨HP,HU⟩:=bV hP hU;obtain⟨W,hW,k0,k1,hsz,hBW⟩:=AL w (aY #[X a0 n0 c0,X a1 n1 c1] 25) (aY #[A x.name,X a2 n2 c2,X a3 n3 c3,X a4 n4 c4] 59);obtain⟨x0,x1⟩:=jv k0;obtain⟨y0,y1,y2,y3⟩:=xX k1;obtain⟨lH,jG,iO,wV⟩:=lD k0 k1 hBW ((hP.below hBW).Oz);obtain⟨E,hEE⟩:∃E,E=AO (dD ss G L Z) m x known:=⟨_,rfl⟩;obtain⟨Zk,hA⟩:∃Zk,Zk=Sm.ans ss G L Z m x known bL:=⟨_,rfl⟩;obtain⟨GQ,HA⟩:=bV hEE hA;rw[<-hEE]at wV;rw[<-hA];clear k0 k1 hsz hBW hn0 uV hEE hA hP hU hcap;go_enter func16,ntmps16;go_upto_region 1 with fail;rw[<-hW];clear hW;go_wp2_with fail;refine wV.out.mono ?_;rintro e w1 ⟨u,rfl,hu,hnil,hb1⟩;obtain⟨HB1,oW,mh⟩:=fE (up iO.out hb1) (bH lH.out hb1) (bH jG.out hb1);clear x0 x1 y0 y1 y2 y3 hb1;by_cases hE:E=0
 ·subst hE;have HE0:J (AO (dD ss G L Z) m x known=0):=Y GQ.out.symm;have hpd:FX 0 ss x known m=bO.once (D9 ss x known m):=by unfold FX;rw[aK rfl]
  rw[hpd]at hu hnil;by_cases hD:bO.once (D9 ss x known m)=[]
  ·obtain rfl:=hnil hD;have HD:=Y hD;clear hu hnil hpd hD;have y3:=aj mh.out 3;go_wp2_with fail;clear y3;go_loopw[11,13,38] (λd o i wr=>∃(dv ov:aC) (j:Nat),dv=d/\ov=o/\j<=n4/\i=O j/\J (qI ss G L Z m x known bL j=0/\eZ Ht wr w1.heap.size 35 6 ov (Sm.inf ss Z m x known bL j).1/\(j=0->ov=aU)/\dA qU wr w1.heap.size 69 3 dv (Sm.inf ss Z m x known bL j).2/\bK w1 wr)) (λ_ _ i _=>n4 - (intOf i).toNat);exact⟨_,_,0,rfl,rfl,bN _,rfl,Y ⟨rfl,eZ.nil _ _ _ _,λ_=>rfl,dA.nil _ _ _ _,bQ _ _⟩⟩
   obtain⟨d,o,j,rfl,rfl,hj,rfl,HR⟩:=hrel;have qP:=Y (up HB1.out HR.out.2.2.2.2);have HJL:J (j<=x.bq.length):=Y (by rw[<-vD.out];exact hj);have HIE:=Y (QL HU.out HJL.out HR.out.1);have HOL:J ((Sm.inf ss Z m x known bL j).1.length=j):=Y (xB HJL.out);obtain⟨HDL,HUL⟩:=bV (ZB HP.out.small HJL.out HR.out.1) HU.out.len;by_cases hjl:j<n4
   ·obtain⟨f,hf⟩:∃f,x.bq[j]?=some f:=⟨_,aZ (by rw[<-vD.out];exact hjl)⟩;obtain⟨HF,HFM⟩:=bV hf (dG hf);have HFZ:=Y (af2 HP.out.mo.split.2.2 HFM.out);obtain⟨fa,fb,fo,fc,hfe,hfa,hfl,zF⟩:=HP.out.mo.split.2.2;obtain⟨hfz,vp,vb,e0',e1',e2',e3',g0,g1,g2,g3,g4,g5,g6,hpar,QC,hres⟩:=zF j f hf;have aiB:=hfa (by rw[<-vD.out];omega);injection hfe with ee1 ee2 ee3;rw[aiB]at ee1;subst ee1;obtain⟨pa,pb,po,pc,rfl,-⟩:=hpar;obtain⟨ba,bc,rfl⟩:=fH.kC QC;obtain⟨ra,rc,rfl,rfl,rfl,rfl⟩:=hres.shape;obtain⟨np,hnp⟩:∃n,n=f.params.length:=⟨_,rfl⟩;obtain⟨nb,hnb⟩:∃n,n=f.body.length:=⟨_,rfl⟩;obtain⟨nr,hnr⟩:∃n,n=f.result.args.length:=⟨_,rfl⟩;have Ee:=Y hnp;rw[<-hnp]at g1;rw[<-hnb]at g2;rw[<-hnr]at g6;replace g0:=aG g0 qP.out;replace g1:=aG g1 qP.out;replace g2:=aG g2 qP.out;replace g3:=aG g3 qP.out;replace g4:=aG g4 qP.out;replace g5:=aG g5 qP.out;replace g6:=aG g6 qP.out;clear zF hfa hfl ee2 ee3 hfz QC hres hnp hnb hnr hf aiB;obtain⟨oa,oc,ho⟩:=HR.out.2.1.form;rw[HOL.out]at ho;subst ho;go_upto_region 8 with fail;obtain⟨qO,HKF⟩:=sO wr (aY #[A f.name,X pa np pc,X ba nb bc,O f.result.kind,O f.result.n,A f.result.name,X ra nr rc] 102);obtain⟨MU,arB,kG⟩:=fE (HR.out.2.1.below qO.out (λ_ _ h=>h.below qO.out)) (HR.out.2.2.2.1.below qO.out) (up HR.out.2.2.2.2 qO.out);generalize wr.alloc (aY #[A f.name,X pa np pc,X ba nb bc,O f.result.kind,O f.result.n,A f.result.name,X ra nr rc] 102)=W7 at *;obtain⟨arC,HON⟩:=bV HR.out.1 HR.out.2.2.1;generalize wr.heap.size=FK at *;clear g0 g1 g2 g3 g4 g5 g6;obtain⟨aoq,alM,Lm⟩:=fE (up HB1.out kG.out) (bH oW.out kG.out) (bH mh.out kG.out);obtain⟨x0,x1⟩:=jv alM.out;obtain⟨y0,y1,y2,y3⟩:=xX Lm.out;have HPW:J (mQ W7 m (X a0 n0 c0) (X a1 n1 c1) (X a2 n2 c2) (X a3 n3 c3) (X (some (aN fb fo)) n4 c4) (X a5 n5 c5) (X a6 n6 c6) (X oa j oc) ss G L Z x known bL (Sm.inf ss Z m x known bL j).1):=Y (by have h:=HP.out.below aoq.out;exact⟨h.strs,h.Q5,h.mo,h.cap,h.kn,h.sc,Li MU.out (by have:=HOL.out;have:=alL.out;omega) (λy hy u hu=>HU.out.size u ((HIE.out y hy).1 u hu)) (λy hy=>bE (HIE.out y hy).2 HUL.out),h.small,h.smalls,h.tab,h.mg,λy hy=>bE (HIE.out y hy).2 HUL.out⟩);have WC:=Y (Xw m W7 _ _ _ _ _ _ _ _ ss G L Z x known bL _ (j:Int) 40 1000 HPW.out);obtain⟨Ej,hEj⟩:∃E,E=Fl.Vq ss G L Z m x j known bL (Sm.inf ss Z m x known bL j).1 40 1000:=⟨_,rfl⟩;have HEJ:J (qI ss G L Z m x known bL (j+1)=Ej):=Y (by rw[Oe arC.out,hEj]);have HEW:=Y hEj;rw[<-hEj]at WC;clear hEj;go_wp2_with fail;refine WC.out.mono ?_;intro e w8 hh;rcases hh.out with⟨hne,rfl,pR⟩|⟨h0,kn,f',hk,hf',eU,vc,vs',vf',ve,rfl,hpb,pR⟩
    ·have hz:=eO hne;have TH:J (Zk=([],[],Ej)):=Y (by
      have h1:qI ss G L Z m x known bL x.bq.length=Ej:=by have h2:=Od (ss:=ss) (G:=G) (L:=L) (Z:=Z) (m:=m) (x:=x) (known:=known) (bL:=bL) (k:=j+1) (by rw[HEJ.out];exact hne) (x.bq.length - (j+1));rw[show j+1+(x.bq.length - (j+1))=x.bq.length by have:=vD.out;omega]at h2;rw[h2,HEJ.out]
      rw[HA.out];unfold Sm.ans;rw[aI (by rw[HE0.out];simp),aI (by rw[HD.out];simp),h1,aK hne])
     have xW:=Y (up aoq.out pR);clear hh pR hne x0 x1 y0 y1 y2 y3;go_wp2_with fail;refine cZ (v:=.tuple #[aU,aU,O Ej]) (by simp[results,results16,go_sem]) rfl ?_;rw[TH.out];exact⟨_,_,rfl,Y ⟨eZ.nil _ _ _ _,Aj _ _,up xW.out (aH _ _)⟩⟩
    ·obtain rfl:kn=j:=by omega
     rw[HF.out]at hf';obtain rfl:f=f':=CG hf';have CF:=Y (EH HF.out (by rw[<-HEW.out];exact h0));have HPE:=Y (Uu HU.out (λy hy=>(HIE.out y hy).1) CF.out);obtain⟨P,hPP⟩:∃P,P=(Fl.gH ss Z x kn known bL (Sm.inf ss Z m x known bL kn).1 f).jd m f:=⟨_,rfl⟩;have HPV:J (PbV w8 eU vc vs' vf' ve P):=Y (by rw[hPP];exact yt.MS CF.out HFM.out HP.out.small HFZ.out HPE.out.1 HPE.out.2 HUL.out HU.out.size hpb);have arD:J (∀wx,yt wx W7.heap.size eU vc vs' vf' ve P->PbV wx eU vc vs' vf' ve P):=Y (λwx h=>by rw[hPP]at h ⊢;exact yt.MS CF.out HFM.out HP.out.small HFZ.out HPE.out.1 HPE.out.2 HUL.out HU.out.size h);have HPO:J (Xx ss.length P):=Y (by rw[hPP];exact CF.out.pb);have zV:J (P.names.length<=40/\P.cons.length<=1000/\P.sinks.length<=2097148):=Y (by rw[hPP];exact⟨CF.out.nm,CF.out.cn,CF.out.sinks HFM.out HP.out.small⟩);have abQ:=Y (tL (ss:=ss) (Z:=Z) (m:=m) (known:=known) (bL:=bL) HF.out);rw[<-hPP]at abQ HPE hpb;obtain⟨HPB,HEF,HCH,HP4⟩:=lD hpb hpb.gY CF.out.chk CF.out.par;have HLV:J (P.mask=0):=Y (by rw[hPP];rfl);obtain⟨na0,nc0,q0⟩:=jc HPV.out.names;obtain⟨na1,nc1,q1⟩:=HPV.out.cons.form;obtain⟨na2,nc2,q2⟩:=HPV.out.sinks.form;obtain⟨na3,nc3,q3⟩:=HPV.out.fr.Hr;obtain⟨na4,nc4,q4⟩:=jc HPV.out.gY;generalize P.names.length=nn0 at q0;generalize P.cons.length=nn1 at q1;generalize P.sinks.length=nn2 at q2;generalize P.fr.length=nn3 at q3;generalize P.gY.length=nn4 at q4;subst q0 q1 q2 q3 q4;rw[<-hPP];obtain⟨lvl,alN⟩:∃n,n=P.level:=⟨_,rfl⟩;rw[<-alN];obtain⟨Vf,TU,arE,xW,arF⟩:=uh alN (MU.out.below pR (λ_ _ h=>h.below pR)) (arB.out.below pR) (up kG.out pR) (bH HKF.out pR);have hEz:Ej=0:=h0;subst hEz;clear hh pR hk hf' hpb hPP alN x0 x1 y0 y1 y2 y3;go_upto_region 11 with fail;obtain⟨qO,HKP⟩:=sO w8 (aY #[X na0 nn0 nc0,X na1 nn1 nc1,X na2 nn2 nc2,X na3 nn3 nc3,O 0,O lvl,X na4 nn4 nc4] 106);obtain⟨aa3,arG,Ac,arH,aor,arI⟩:=vC (TU.out.below qO.out (λ_ _ h=>h.below qO.out)) (arE.out.below qO.out) (up xW.out qO.out) (bH arF.out qO.out) (HPV.out.below qO.out) (HEF.out.below qO.out);have arJ:=Y (HPB.out.Lh qO.out);generalize w8.alloc (aY #[X na0 nn0 nc0,X na1 nn1 nc1,X na2 nn2 nc2,X na3 nn3 nc3,O 0,O lvl,X na4 nn4 nc4] 106)=W9 at *;generalize w8.heap.size=PK at *;have arK:=Y (bH oW.out Ac.out);obtain⟨x0,x1⟩:=jv arK.out;obtain⟨p0,p1,p2,p3,p4,p5,p6⟩:=Cg HKP.out;have IZ:J (nC W9 (X a0 n0 c0) (X a1 n1 c1) ss G L Z):=Y ⟨HP.out.strs.below (up HB1.out Ac.out),HP.out.Q5.below (up HB1.out Ac.out),HCH.out⟩;have HSO:=Y (XB W9 _ _ _ _ _ _ _ 0 lvl ss G L Z P IZ.out aor.out HPO.out zV.out.1 zV.out.2.1 (by have:=zV.out.2.2;omega));simp only[So.cs]at HSO;go_wp2_with fail;refine HSO.out.mono ?_;rintro e w10 ⟨V,vL,vK,rfl,aos⟩;obtain⟨abE,abF,alO,afU,hl0,hk0⟩:=aos.out;have Ni:=Y (And.intro hl0 hk0);clear hl0 hk0;have aot:=Y (arJ.out.Lh afU);have VX:J (QI w10 ⟨X a0 n0 c0,X a1 n1 c1,X na0 nn0 nc0,X na1 nn1 nc1,X na2 nn2 nc2,X na3 nn3 nc3,0,lvl,X na4 nn4 nc4,vL,vK⟩ ss G L Z P V):=Y ⟨IZ.out.below afU,aor.out.below afU,HPO.out,abE,abF.ok,alO⟩;have HVE:J (∀v,v<P.names.length->V v=Sm.least Z ss.length P.names.length P.cons v):=Y (Ul IZ.out.joins abF);obtain⟨la,ln,lc,rfl⟩:=EF abE;obtain⟨ka,kn',kc,rfl⟩:=EF alO;obtain⟨aou,aov,arL,aow,aox⟩:=uh (aa3.out.below afU (λ_ _ h=>h.below afU)) (arG.out.below afU) (up Ac.out afU) (bH arH.out afU) (arI.out.below afU);clear aos abE abF alO afU x0 x1 p0 p1 p2 p3 p4 p5 p6;go_upto_region 12 with fail;obtain⟨qO,Zf⟩:=sO w10 (aY #[X a0 n0 c0,X a1 n1 c1,X na0 nn0 nc0,X na1 nn1 nc1,X na2 nn2 nc2,X na3 nn3 nc3,O 0,O lvl,X na4 nn4 nc4,X la ln lc,X ka kn' kc] 111);obtain⟨aoy,aoz,akC,ajS,ajT,aoA⟩:=vC (aou.out.below qO.out (λ_ _ h=>h.below qO.out)) (aov.out.below qO.out) (up arL.out qO.out) (bH aow.out qO.out) (VX.out.below qO.out) (aox.out.below qO.out);have aoB:=Y (aot.out.Lh qO.out);generalize w10.alloc (aY #[X a0 n0 c0,X a1 n1 c1,X na0 nn0 nc0,X na1 nn1 nc1,X na2 nn2 nc2,X na3 nn3 nc3,O 0,O lvl,X na4 nn4 nc4,X la ln lc,X ka kn' kc] 111)=W11 at *;generalize w10.heap.size=SK at *;obtain⟨s0,s1,s2,s3,s4,s5,s6,s7,s8,s9,s10⟩:=TK Zf.out;obtain⟨t0,t1,t2,t3,t4,t5,t6⟩:=Cg ajS.out;have vZ:=Y (Uz W11 _ ss G L Z P V f pa ba ra pc nb bc nr rc f.result.kind f.result.n f.result.name ajT.out HLV.out.symm Vf.out HP4.out (by have:=zV.out.2.2;omega));simp only[So.cs]at vZ;rw[<-Ee.out]at vZ;go_wp2_with fail;refine vZ.out.mono ?_;rintro e w12 ⟨B,rfl,hh12⟩;obtain⟨hrow,UA⟩:=hh12.out;obtain⟨sc,hsc⟩:∃y,y=Sm.eF Z ss.length V P f:=⟨_,rfl⟩;have arM:J (sc=Sm.eF Z ss.length (Sm.least Z ss.length P.names.length P.cons) P f):=Y (by rw[hsc];exact Un HPO.out HVE.out f);have arN:J (Sm.GJ Z ss.length V P f.name=Sm.GJ Z ss.length (Sm.least Z ss.length P.names.length P.cons) P f.name):=Y (Uo HPO.out HVE.out f.name);obtain⟨i1,hi1⟩:∃n,n=(Sm.tell Z ss.length V P.fr (Sm.lab P.mask P.level)).1:=⟨_,rfl⟩;obtain⟨i2,hi2⟩:∃n,n=(Sm.tell Z ss.length V P.fr (Sm.lab P.mask P.level)).2:=⟨_,rfl⟩;obtain⟨i3,hi3⟩:∃n,n=Sm.pc Z ss.length P.sinks:=⟨_,rfl⟩;rw[<-hi1,<-hi2,<-hi3];have arO:J (Ht w12 [A f.name,O (i1:Nat),O (i2:Nat),Tc B np np,O (i3:Nat),X na4 nn4 nc4] sc):=Y ⟨Tc B np np,X na4 nn4 nc4,by rw[hsc,hi1,hi2,hi3];rfl,by
      rw[hsc];have h1:=hrow.Tg (by rw[QG];have:=HP4.out;have:=Ee.out;omega);rw[QG]at h1;show dJ w12 _ (bds Z ss.length V P.sinks f.params.length);rw[<-Ee.out];exact h1,by
      rw[hsc];exact(aoA.out.below UA).PX (bN _)⟩
     obtain⟨aoC,aoD,arP,alP,aoE⟩:=uh (aoy.out.below UA (λ_ _ h=>h.below UA)) (aoz.out.below UA) (up akC.out UA) UA (aoB.out.Lh UA);clear hh12 hrow UA hsc hi1 hi2 hi3 s0 s1 s2 s3 s4 s5 s6 s7 s8 s9 s10 t0 t1 t2 t3 t4 t5 t6;obtain⟨eT,EW⟩:=sO w12 (aY #[A f.name,O (i1:Nat),O (i2:Nat),Tc B np np,O (i3:Nat),X na4 nn4 nc4] 35);obtain⟨Oi,ajU,alQ,arQ,aoF,XU⟩:=vC (aoC.out.below eT.out (λ_ _ h=>h.below eT.out)) (aoD.out.below eT.out) (up arP.out eT.out) (arO.out.below eT.out) (aoE.out.Lh eT.out) (up alP.out eT.out)
     go_upto_region 13 with(first
      | (at_builtin;refine mU (At:=Ht) rfl _ _ 30 35 6 88 _ rfl underlying30 TT bM bM bM w1.heap.size (X oa kn oc) (Sm.inf ss Z m x known bL kn).1 rfl Oi.out w12.heap.size [A f.name,O (i1:Nat),O (i2:Nat),Tc B np np,O (i3:Nat),X na4 nn4 nc4] sc rfl (λq u hu=>((aj EW.out q).trans (by simpa only [yK]using hu))) rfl (by simp[Value.oneCell']) arQ.out (by rw[HOL.out];have:=alL.out;omega) alQ.out.size (λw' c y hg hc=>hc.st (mV.grown hg Oi.out.typ) bM bM) ?_;intro g14 atf w14 af3 ZG;have arR:=Y af3;have af4:=Y ZG;clear af3 ZG)
      | fail)
     obtain⟨HST,aoG⟩:=bV (mV.grown af4.out Oi.out.typ) (abN Oi.out (λh=>HON.out (by rw[<-HOL.out,h];rfl)));have alR:J (bK w1 w14):=Y (Below.grown alQ.out af4.out alQ.out.size (λk e=>(Oi.out.lt k e).1));obtain⟨aoH,aoI⟩:=bV (HST.out _ _ _ (bH Zf.out XU.out) bM) (HST.out _ _ _ (bH ajS.out XU.out) bM);have aoJ:J (QI w14 ⟨X a0 n0 c0,X a1 n1 c1,X na0 nn0 nc0,X na1 nn1 nc1,X na2 nn2 nc2,X na3 nn3 nc3,0,lvl,X na4 nn4 nc4,X la ln lc,X ka kn' kc⟩ ss G L Z P V):=Y (by have h:=ajT.out.below XU.out;exact⟨⟨HP.out.strs.below (up HB1.out alR.out),HP.out.Q5.below (up HB1.out alR.out),HCH.out⟩,arD.out _ (aoF.out.st HST.out),h.ok,h.las.Mi Ni.out.1 af4.out aoG.out,h.oks,h.snk.Mi Ni.out.2 af4.out aoG.out⟩);obtain⟨aoK,HDC⟩:=bV (ajU.out.grown af4.out (λg hg e=>by obtain⟨c1',h1'⟩:=ajU.out.typ hg;obtain⟨c2',h2'⟩:=Oi.out.typ g e;rw[h1']at h2';simp at h2')) (XC w14 _ ss G L Z P V f.name aoJ.out (by have:=zV.out.2.2;omega));simp only[So.cs]at HDC;obtain⟨s0,s1,s2,s3,s4,s5,s6,s7,s8,s9,s10⟩:=TK aoH.out;have t0:=aj aoI.out 0;go_wp2_with fail;refine HDC.out.mono ?_;rintro e w15 ⟨u15,rfl,aoL⟩;obtain⟨alS,Sb⟩:=aoL.out;have aoM:=Y alS;obtain⟨arS,arT,rfl⟩:=alS.form;obtain⟨arU,af5,alT⟩:=fE (arR.out.below Sb (λ_ _ h=>h.below Sb)) (aoK.out.below Sb) (up alR.out Sb);have HDS:J ((Sm.GJ Z ss.length V P f.name).length<=2097148):=Y (by unfold Sm.GJ;rw[dV];exact bE (Km _ _) zV.out.2.2);have arV:J ((Sm.inf ss Z m x known bL kn).2.length+(Sm.GJ Z ss.length V P f.name).length<=16777216):=Y (by have h8:=(Ai (XO HE0.out).2).1;have h1:=HDL.out;have h2:=HDS.out;have h3:=vD.out;omega);have atC:=alL.out;obtain⟨dl,hdl⟩:∃n,n=(Sm.GJ Z ss.length V P f.name).length:=⟨_,rfl⟩;rw[<-hdl]at aoM ⊢;clear aoL alS Sb s0 s1 s2 s3 s4 s5 s6 s7 s8 s9 s10 t0 hdl
     go_wp2_with (first
      | (at_builtin;refine fG (At:=qU) rfl _ _ 62 69 3 40 _ rfl underlying62 qV bM bM bM w1.heap.size d (Sm.inf ss Z m x known bL kn).2 rfl af5.out w14.heap.size (X arS dl arT) (Sm.GJ Z ss.length V P f.name) rfl aoM.out arV.out alT.out.size ?_;intro v16 w16 af6 ZH;have arW:=Y af6;have aoN:=Y ZH;clear af6 ZH)
      | fail)
     have HST:=Y (mV.grown (t:=69) aoN.out (λk hk=>af5.out.typ hk));have arX:J (bK w1 w16):=Y (Below.grown alT.out aoN.out alT.out.size (λk e=>(af5.out.lt k e).1));have aoO:=Y (arU.out.keep (λj cur _ hj=>HST.out j cur _ hj bM) (λc y hc=>hc.st HST.out bM bM));go_roundw;case rel=>
      refine⟨_,_,kn+1,rfl,rfl,by omega,by go_num,Y ⟨HEJ.out,?_,λh=>aM h (Nat.succ_ne_zero _),?_,arX.out⟩⟩;·rw[abQ.out];show eZ Ht w16 _ _ 6 _ ((Sm.inf ss Z m x known bL kn).1++[Sm.eF Z ss.length (Sm.least Z ss.length P.names.length P.cons) P f]);rw[<-arM.out];exact aoO.out
      ·rw[abQ.out];show dA qU w16 _ _ 3 _ ((Sm.inf ss Z m x known bL kn).2++Sm.GJ Z ss.length (Sm.least Z ss.length P.names.length P.cons) P f.name);rw[<-arN.out];exact arW.out
     case measure=>exact gV
   ·obtain rfl:j=n4:=by omega
    have HIF:J (qI ss G L Z m x known bL x.bq.length=0):=Y (by rw[<-vD.out];exact HR.out.1);have h8:=(Ai (XO HE0.out).2).1;rcases HR.out.2.2.2.1.shape with⟨hd,hz⟩|⟨g,cap,hd,hcp,hgn,hgl,hne⟩;·subst hd;have TH:J (Zk=((Sm.inf ss Z m x known bL j).1,[],0)):=Y (by rw[HA.out];unfold Sm.ans;rw[aI (by rw[HE0.out];simp),aI (by rw[HD.out];simp),aI (by rw[HIF.out];simp),<-vD.out,aI (by rw[hz];simp)]);have VX:J (eZ Ht wr w.heap.size 35 6 o (Sm.inf ss Z m x known bL j).1):=Y (HR.out.2.1.old HB1.out.size);clear hz h8;go_wp2_with fail;refine cZ (v:=.tuple #[o,aU,O 0]) (by simp[results,results16,go_sem]) rfl ?_;rw[TH.out];exact⟨_,_,rfl,Y ⟨VX.out,Aj _ _,qP.out⟩⟩
    ·have LZ:J ((Sm.inf ss Z m x known bL j).2.length<=16777216):=Y (by have:=HDL.out;have:=vD.out;omega);have HDG:=Y (HR.out.2.2.2.1.GJ (by have:=LZ.out;omega));rw[hd]at HDG;have TH:J (Zk=([],bO.once (Sm.inf ss Z m x known bL j).2,0)):=Y (by rw[HA.out];unfold Sm.ans;rw[aI (by rw[HE0.out];simp),aI (by rw[HD.out];simp),aI (by rw[HIF.out];simp),<-vD.out,aK hne]);have HIC:=Y (y8 wr _ (Sm.inf ss Z m x known bL j).2 HDG.out LZ.out);obtain⟨nd,hnd⟩:∃n,n=(Sm.inf ss Z m x known bL j).2.length:=⟨_,rfl⟩;have hpos:0<nd:=by rw[hnd];exact vO.2 hne
     rw[<-hnd]at hd HIC;rw[hd];clear hd hcp hgn hgl hne hnd h8;go_wp2_with fail;refine HIC.out.mono ?_;rintro e w9 ⟨u9,rfl,V8,vV⟩;have HU9:=Y V8;obtain⟨a9,b9,o9,c9,rfl,-⟩:=V8;generalize hnl:(bO.once (Sm.inf ss Z m x known bL j).2).length=n9 at *;have Ac:=Y (up qP.out vV);clear vV hnl;go_wp2_with fail;refine cZ (v:=.tuple #[aU,X a9 n9 c9,O 0]) (by simp[results,results16,go_sem]) rfl ?_;rw[TH.out];exact⟨_,_,rfl,Y ⟨eZ.nil _ _ _ _,HU9.out,Ac.out⟩⟩
  ·have TH:J (Zk=([],bO.once (D9 ss x known m),0)):=Y (by rw[HA.out];unfold Sm.ans;rw[aI (by rw[HE0.out];simp),aK hD]);have HU1:=Y hu;obtain⟨a9,b9,o9,c9,rfl,-⟩:=hu;obtain⟨nd,hnd⟩:∃n,n=(bO.once (D9 ss x known m)).length:=⟨_,rfl⟩;have hpos:0<nd:=by rw[hnd];exact vO.2 hD
   rw[<-hnd]at HU1 ⊢;clear hnil hpd hD hnd;go_wp2_with fail;refine cZ (v:=.tuple #[aU,X a9 nd c9,O 0]) (by simp[results,results16,go_sem]) rfl ?_;rw[TH.out];exact⟨_,_,rfl,Y ⟨eZ.nil _ _ _ _,HU1.out,HB1.out⟩⟩
 ·have hpd:FX E ss x known m=[]:=by unfold FX;rw[aI hE]
  obtain rfl:=hnil hpd;have TH:J (Zk=([],[],E)):=Y (by rw[HA.out];unfold Sm.ans;rw[<-GQ.out,aK hE]);have hz:=eO hE;clear hu hnil hpd hE;go_wp2_with fail;refine cZ (v:=.tuple #[aU,aU,O E]) (by simp[results,results16,go_sem]) rfl ?_;rw[TH.out];exact⟨_,_,rfl,Y ⟨eZ.nil _ _ _ _,Aj _ _,HB1.out⟩⟩
theorem abR(n:Nat)(u:n<=1048576)(w:bI):(Instr.makeSlice 27 (O (n:Int))<|O (n:Int)).run prog w=.ok (Tc w.heap.size n n) (w.alloc<|.cells (madeCells #[O 0] n) 3):=by obtain⟨i,g,d⟩:=yF.1 wJ;simp only[pO]at d;obtain⟨q,h,f⟩:=d;have a:=run_make (P:=prog) w 27 3 i _ underlying27 g q .i64 .i64 n n bC (Int.le_refl _) (by rw[f];omega) bC;rw[h,show(O 0).cells=#[O 0]from rfl]at a;simpa using a
theorem abS(n:Nat):madeCells #[O 0] n=((List.replicate n (0:Int)).map (Value.int .i64)).toArray:=by
 apply Array.ext;·simp[madeCells]
 ·intro i a d;simp[madeCells,Nat.mod_one]
theorem Hu{P:Program}{h:Array Oper}{d:Exit->Act->bI->Prop}{md:Region.Mode}{f:bI->Prop}{st:Nat}{g:Array Bool}{a:Act}(q:∀x,x=w->jA P md h d f st fuel g a x):jA P md h d f st fuel g a w:=q w rfl
theorem XV(m:Nat)(w:bI)(v:aC)(l:List Fu)(D:mE w m v l)(hl:l.length<=8)(hp:∀f∈l,f.params.length<=4):aD 207 #[v] w λe w'=>∃u,e=dz u/\J (eZ Ht w' w.heap.size 35 6 u (l.map Ck.un)/\bK w w'):=by
 have HP:=Y hp;obtain⟨fa,fb,fo,fc,rfl,aw,a3,zF⟩:=D;obtain⟨QB,j5⟩:=bV aw zF;obtain⟨nf,ah⟩:=aV l.length;have yM:=Y ah;rw[<-ah]at hl QB ⊢;clear aw zF a3 ah hp;go_enter func207,ntmps207;go_wp2_with fail;go_loopw[3,8] (λo i wr=>∃(ov:aC) (j:Nat),ov=o/\j<=nf/\i=O j/\J (eZ Ht wr w.heap.size 35 6 ov ((l.take j).map Ck.un)/\bK w wr)) (λ_ i _=>nf - (intOf i).toNat);exact⟨_,0,rfl,bN _,rfl,Y ⟨eZ.nil _ _ _ _,bQ _ _⟩⟩
 obtain⟨o,j,rfl,hj,rfl,C⟩:=hrel;by_cases a5:j<nf
 ·obtain⟨f,P⟩:∃f,l[j]?=some f:=⟨_,aZ (by rw[<-yM];exact a5)⟩;obtain⟨HF,ac⟩:=bV P<|HP f<|dG P;obtain⟨a4,vp,vb,a7,a8,a9,bb,g0,V,Z,g3,g4,g5,g6,a6,QC,aA⟩:=j5 j f P;obtain rfl:=QB bC;obtain⟨Q,pb,po,pc,rfl,-⟩:=a6;obtain⟨ba,bc,rfl⟩:=fH.kC QC;obtain⟨ra,rc,rfl,rfl,rfl,rfl⟩:=aA.shape;obtain⟨h,ai⟩:=aV f.params.length;obtain⟨nb,ax⟩:=aV f.body.length;obtain⟨nr,ay⟩:=aV f.result.args.length;have Ee:=Y ai;rw[<-ai]at V ac;rw[<-ax]at Z;rw[<-ay]at g6;replace g0:=aG g0 C.2;replace V:=aG V C.2;replace Z:=aG Z C.2;replace g3:=aG g3 C.2;replace g4:=aG g4 C.2;replace g5:=aG g5 C.2;replace g6:=aG g6 C.2;have I:J (((l.take j).map Ck.un).length=j):=Y (by rw[dV,iA];have:=yM.out;omega);have fT:J ((l.take<|j+1).map Ck.un=(l.take j).map Ck.un++[Ck.un f]):=Y (by rw[gy,P,kI,gX];rfl);obtain⟨oa,oc,ho⟩:=C.1.form;rw[I]at ho;subst ho;clear P a4 QC aA ai ax ay;go_upto_region 5 with fail;obtain⟨qO,ab⟩:=sO wr<|aY #[A f.name,X Q h pc,X ba nb bc,O f.result.kind,O f.result.n,A f.result.name,X ra nr rc] 102;obtain⟨MU,kG⟩:=bV (C.1.below qO (λ_ _ D=>D.below qO))<|up C.2 qO;generalize wr.alloc (aY #[A f.name,X Q h pc,X ba nb bc,O f.result.kind,O f.result.n,A f.result.name,X ra nr rc] 102)=W7 at *;generalize wr.heap.size=L at *;clear g0 V Z g3 g4 g5 g6;have N:J (∀x:bI,dR x L (aY #[A f.name,X Q h pc,X ba nb bc,O f.result.kind,O f.result.n,A f.result.name,X ra nr rc] 102)->bJ x L 0=some (A f.name)/\bJ x L 1=some (X Q h pc)):=Y (λx g=>⟨(aj g 0).trans rfl,(aj g 1).trans rfl⟩);have MK:=abR h (by have:=ac.out;omega);refine dx [some false,some false,some true,some false,some true,some false,none,none,none,none,none] 10 (λx=>bJ x L 0=some (A f.name)/\bJ x L 1=some (X Q h pc)) 5 dw dw (λ_ _ d _ _ D=>(by cases d<;>exact D)) (N _ ab) ?_;dsimp only[gB];repeat(first|(refine fO (v:=?_) dH ?_ ?_;rotate_left 1;(focus(intro w;go_simp;try(with_reducible rfl)));simp only[Act.put,dS,dY,eX])|(refine fP (v:=?_) dH ?_ ?_;rotate_left 1;(focus(intro w a2;obtain⟨q0,q1⟩:=a2;go_simp;try(with_reducible rfl)));simp only[Act.put,dS,dY,eX]))
  refine dW ?_;refine aT (i:=6) dw dH (λK a=>?_);go_simp;refine a _ _ (λ_=>N _<|bT ab _) ?_;clear a K;refine Hu ?_;intro G ak;have am:J (bK W7 G):=Y (by rw[ak];exact(aH _ _).drew);have aq:J (qJ G W7.heap.size<|List.replicate h 0):=Y (by rw[ak];unfold qJ;rw[<-abS];exact bF _ _);obtain⟨R,au⟩:=aV W7.heap.size;rw[<-au]at aq ⊢;have ad:=Y<|bH ab am;clear ak au;refine aT (i:=7) dw dH (λK a=>?_);go_simp;refine a _ _ (λ_=>N _ ad) ?_;clear a K;refine aT (i:=8) dw dH (λK a=>?_);go_simp;refine a _ _ (λ_=>N _<|bT ad _) ?_;clear a K;refine Hu ?_;intro H al;have aa:J (bK G H):=Y (by rw[al];exact aH G _);have EW:J (dR H G.heap.size<|aY #[A f.name,O 0,O 0,Tc R h h,O 0,aU] 35):=Y (by rw[al];exact bF G _);obtain⟨B2,av⟩:=aV G.heap.size;rw[<-av]at EW ⊢;obtain⟨a1,ae⟩:=bV (bH ad aa)<|up am aa;have S:=Y<|MU.below ae (λ_ _ D=>D.below ae);have Ia:J (Ht H [A f.name,O 0,O 0,Tc R h h,O 0,aU]<|Ck.un f):=Y ⟨_,_,rfl,by have D:=(show qJ H R (List.replicate h 0)from bH aq aa).Tg (by rw[zO];have:=ac.out;omega);rw[zO]at D;show dJ H _ (List.replicate f.params.length 0);rw[<-Ee];exact D,aO ⟨rfl,rfl⟩⟩;have af:J (bK w H):=Y<|up kG ae;clear al av;refine aT (i:=9) dw dH (λK a=>?_);refine mO (At:=Ht) dH _ _ 30 35 6 88 _ dH underlying30 TT bM bM bM w.heap.size (X oa j oc) ((l.take j).map Ck.un) dH S B2 [A f.name,O 0,O 0,Tc R h h,O 0,aU] (Ck.un f) dH (λq u hu=>((aj EW q).trans (by simpa only [yK]using hu))) rfl (by simp[Value.oneCell']) Ia.out (by rw[I.out];omega) af.size (λw' c y hg hc=>hc.st (mV.grown hg S.typ) bM bM) ?_;intro g cap w9 az ag a0;obtain⟨ao,aE⟩:=bV az<|mV.grown ag S.typ;have Ac:J (bK w w9):=Y<|Below.grown af ag af.size (λk e=>(S.lt k e).1);rw[I]at ao ⊢;clear az ag a0;simp only[Act.put,dS];refine a _ _ (λ_=>N _<|aE _ _ _ a1 bM) ?_;clear a K;refine aT (i:=10) dw dH (λK a=>?_);go_simp;refine a _ _ (λD=>aM (D.symm.trans dw) iJ) ?_;clear a K;refine dP dw ?_ _;go_wp2;go_roundw;exact⟨_,j+1,rfl,by omega,by go_num,Y ⟨by rw[fT];exact ao,Ac⟩⟩;exact gV
 ·obtain rfl:j=nf:=by omega
  have I:J (l.take j=l):=Y (by rw[yM,jQ]);have ar:=Y C.out.1;rw[I]at ar;go_wp2;go_ret;exact⟨o,rfl,Y ⟨ar,C.2⟩⟩
namespace Ck
structure Cx where
 m:Nat
 ss:List ByteArray
 G:Nat
 L:Nat->Nat
 Z:Nat->Nat->Bool
 l:List Mo
abbrev Fi:=List Sc × List Dg × Int
def fi0:Fi:=([],[],0)
def bl(l:List Mo)(F:ByteArray->Fi):List ByteArray->List Dg->List Dg × Int
 | [],acc=>(acc,0)
 | s::r,acc=>if (dQ l s).isSome=false then bl l F r acc else if (F s).2.2≠0 then ([],(F s).2.2)else bl l F r (if (F s).2.1≠[]then acc++[⟨7,⟨#[]⟩,s⟩]else acc)
def tN(l:List Mo)(x:Mo):List Mo:=l.filter λy=>!cB y.name x.name
def sc1(F:ByteArray->Fi)(x y:Mo):List Sc:=if bO.ER x.imports y.name then (F y.name).1 else y.bq.map un
def vE(l:List Mo)(F:ByteArray->Fi)(x:Mo):List (List Sc):=(tN l x).map (sc1 F x)
open Classical in
noncomputable def Oj(c:Cx)(F:ByteArray->Fi)(x:Mo):Fi:=
 if yu c.l x.name x.name then ([],[⟨8,⟨#[]⟩,x.name⟩],0)
 else if (bl c.l F x.imports []).2≠0 then ([],[],(bl c.l F x.imports []).2)
 else if bO.once (bl c.l F x.imports []).1≠[]then ([],bO.once (bl c.l F x.imports []).1,0)
 else Sm.ans c.ss c.G c.L c.Z c.m x (tN c.l x) (vE c.l F x)
noncomputable def fd(c:Cx):Nat->ByteArray->Fi
 | 0,_=>fi0
 | g+1,s=>match dQ c.l s with
  | none=>fi0
  | some i=>match c.l[i]? with
   | none=>fi0
   | some x=>Oj c (fd c g) x
open Classical in
noncomputable def rk(l:List Mo)(s:ByteArray):Nat:=if yu l s s then 0 else (l.filter λy=>decide (yu l s y.name)).length
section
variable {c : Cx} {F F' : ByteArray → Fi} {x : Mo} {l : List Mo}
theorem aiV{r:aJ}(d:∀b∈r,(dQ l b).isSome=true->F b=F' b):∀acc,bl l F r acc=bl l F' r acc:=by
 induction r with
 | nil=>intro acc;rfl
 | cons s r g=>
  intro acc;unfold bl;by_cases a:(dQ l s).isSome=false;·rw[aK a,aK a];exact g (λb f=>d b<|l8 _ f) acc
  ·rw[aI a,aI a,d s List.mem_cons_self (by cases h:(dQ l s).isSome with|true=>rfl|false=>exact aM h a)];split;·rfl
   ·exact g (λb f=>d b<|l8 _ f) _
theorem EI{y:Mo}(d:y∈l):(dQ l y.name).isSome=true:=by unfold dQ;rw[List.find?_isSome];obtain⟨i,a,e⟩:=gU.1 d;refine⟨i,jE.2 a,?_⟩;rw[aZ a,e];simp[cB]
theorem QM{l:aJ}{s:aS}:bO.ER l s=true↔s∈l:=by unfold bO.ER;rw[iy];exact Fl.wD
theorem UC(a:∀b∈x.imports,(dQ c.l b).isSome=true->F b=F' b):¬yu c.l x.name x.name->Oj c F x=Oj c F' x:=by
 intro d;unfold Oj;rw[aI d,aI d,aiV a];have g:vE c.l F x=vE c.l F' x:=by
  unfold vE;refine Na λy h=>?_;unfold sc1;cases f:bO.ER x.imports y.name with
  | false=>rfl
  | true =>rw[aK rfl,aK rfl,a y.name (QM.1 f)<|EI<|(List.mem_filter.1 h).1]
 rw[g]
theorem ZI(F F':aS->Fi)(a:yu c.l x.name x.name):Oj c F x=Oj c F' x:=by unfold Oj;rw[aK a,aK a]
theorem abT{a b d:aS}(f:yu l a b)(k:yu l b d):yu l a d:=by
 induction k with
 | one k=>exact yu.more f k
 | more _ k g=>exact yu.more g k
theorem aoP(l:List Mo)(s:aS):rk l s<=l.length:=by
 unfold rk;split;·exact bN _
 ·exact Km _ _
theorem ZJ{α:Type}{p q:α->Bool}{l:List α}(f:∀x∈l,p x=true->q x=true){y:α}(d:y∈l)(C:p y=false)(D:q y=true):(l.filter p).length<(l.filter q).length:=by
 induction l with
 | nil=>cases d
 | cons z l g=>
  have mono:(l.filter p).length<=(l.filter q).length:=by
   have u:∀x∈l,p x=true->q x=true:=λx a=>f x<|l8 _ a;clear g d f;induction l with
   | nil=>exact bG _
   | cons t l g=>
    have:=g λx a=>u x<|l8 _ a;simp only[List.filter_cons];cases h:p t with
    | false=>cases q t<;>simp<;>omega
    | true=>rw[u t List.mem_cons_self h];simp;omega
  rcases fV.1 d with rfl|d;·simp only[List.filter_cons,C,D,if_true];simp;omega
  ·have:=g (λx a=>f x<|l8 _ a) d;simp only[List.filter_cons];cases h:p z with
   | false=>cases q z<;>simp<;>omega
   | true=>rw[f z List.mem_cons_self h];simp;omega
open Classical in
theorem QN{s b:aS}(C:¬yu l s s)(g:imp l s b):rk l b<rk l s:=by
 have a:yu l s b:=yu.one g;obtain⟨i,u⟩:=sF.1<|XP a;obtain⟨y,D,e⟩:=iT u;have d:=dG D;unfold rk;rw[aI C];split;·refine vO.2 λh=>?_;have:y∈l.filter λy=>decide (yu l s y.name):=List.mem_filter.2 ⟨d,by rw[e];simpa using a⟩;rw[h]at this;cases this
 ·rename_i q;refine ZJ (λz _ f=>?_) d ?_ ?_;·simp only[iy]at f ⊢;exact abT a f
  ·rw[e];simpa using q
  ·rw[e];simpa using a
theorem abU:∀(g a:Nat) (s:aS),rk c.l s<g->rk c.l s<a->fd c g s=fd c a s:=by
 intro g;induction g with
 | zero=>intro a s q;omega
 | succ g G=>
  intro a s q H;cases a with
  | zero=>omega
  | succ a=>
   rw[fd,fd];cases f:dQ c.l s with
   | none=>rfl
   | some i=>
    obtain⟨x,h,e⟩:=iT f;simp only[h];by_cases d:yu c.l x.name x.name;·exact ZI _ _ d
    ·refine UC (λb u D=>?_) d;have C:imp c.l s b:=⟨i,x,f,h,u,D⟩;rw[e]at d;have I:=QN d C;exact G a b bC bC
end
noncomputable def FD(c:Cx)(s:ByteArray):Fi:=fd c (c.l.length+1) s
theorem QU{c:Cx}(d:dQ c.l s=some i)(f:c.l[i]?=some x):FD c s=Oj c (FD c) x:=by
 have h:x.name=s:=by obtain⟨y,g,e⟩:=iT d;rw[f]at g;cases g;exact e
 have q:FD c s=Oj c (fd c c.l.length) x:=by unfold FD;rw[fd,d];simp only[f]
 rw[q];by_cases a:yu c.l x.name x.name;·exact ZI _ _ a
 ·refine UC (λb u C=>?_) a;rw[h]at a;obtain⟨G,D⟩:=eY (QN a ⟨i,x,d,f,u,C⟩)<|aoP c.l s;exact abU _ _ b bC bC
end Ck
theorem mV.but(h:But p w w')(q:∃d a,w.heap[p]?=some (.map d a)):mV t w w':=λj cs u g _=>h.at (λe=>by subst e;obtain⟨d,a,f⟩:=q;rw[g]at f;cases f) g
theorem qK{l:List Sc}(f:eZ Ht w n 35 6 v l)(a:mV t w w')(g:35≠t)(h:9≠t)(q:3≠t):eZ Ht w' n 35 6 v l:=
 f.keep (λj d _ C=>a j d _ C g) λ_ _ u=>u.st a h q
def FiW(w:World)(v:Value)(y:Ck.Fi):Prop:=∃d a c,v=.agg #[d,.slice a y.2.1.length c,.int .i64 y.2.2]/\eZ Ht w 0 35 6 d y.1
def FiD(w:World)(v:Value)(y:Ck.Fi):Prop:=∃d a,v=.agg #[d,a,.int .i64 y.2.2]/\jg w a y.2.1
theorem FiW.st{y:Ck.Fi}(d:FiW w v y)(q:mV t w w')(f:35≠t)(g:9≠t)(h:3≠t):FiW w' v y:=by obtain⟨u,a,c,e,d⟩:=d;exact⟨u,a,c,e,qK d q f g h⟩
theorem FiW.below{y:Ck.Fi}(a:FiW w v y)(d:bK w w'):FiW w' v y:=a.st (t:=4) (mV.below d) bM bM bM
def zFi:Value:=.agg #[.slice none 0 0,.slice none 0 0,.int .i64 0]
theorem alX(w:bI):(zeroValue 124).run prog w=.ok zFi w:=by kernel_rfl
def xQ(w:World)(m:Nat)(v:Value)(l:List Mo):Prop:=
 ∃(a:Option Addr) (b off cap:Nat),v=.slice a l.length cap/\(0<l.length->a=some ⟨b,off,none⟩)/\l.length<=9223372036854775807/\
  ∀i x,l[i]?=some x->∃f g d,w.cell? ⟨b,off+i*4,none⟩=some (.string x.name)/\w.cell? ⟨b,off+i*4+1,none⟩=some f/\w.cell? ⟨b,off+i*4+2,none⟩=some g/\w.cell? ⟨b,off+i*4+3,none⟩=some d/\jl w m (.agg #[.string x.name,f,g,d]) x/\Bg w f d
theorem xQ.mos(q:xQ w m v l):jN w m v l:=by obtain⟨a,b,off,cap,e,u,D,C⟩:=q;refine⟨a,b,off,cap,e,u,D,λi x H=>?_⟩;obtain⟨K,L,I,d,f,g,h,G,_⟩:=C i x H;exact⟨K,L,I,d,f,g,h,G⟩
theorem xQ.below(u:xQ w m v l)(d:bK w w'):xQ w' m v l:=by obtain⟨a,b,off,cap,e,C,H,D⟩:=u;refine⟨a,b,off,cap,e,C,H,λi x K=>?_⟩;obtain⟨N,P,L,f,g,h,q,I,G⟩:=D i x K;exact⟨N,P,L,aG f d,aG g d,aG h d,aG q d,I.below d,G.below d⟩
namespace Ck
def cntF(l:List Mo)(fo:ByteArray->Option Value):Nat:=(l.filter λx=>(fo x.name).isSome).length
theorem af9(d:x∈l)(a:fo x.name=none)(v:aC):cntF l fo+1<=cntF l (oQ fo x.name v):=by
 refine ZJ (p:=λy=>(fo y.name).isSome) (q:=λy=>(oQ fo x.name v y.name).isSome) (λy _ f=>?_) d (by rw[a];rfl) (by simp[oQ,cB]);simp only[oQ];split;·rfl
 ·exact f
theorem aiW(l:List Mo)(fo:aS->Option aC):cntF l fo<=l.length:=Km _ _
theorem kK(a:nN E m l=0):E=0/\l.length<=6/\(∀x∈l,oO m x=0)/\cnt l l.length=l.length:=by
 unfold nN at a;by_cases f:E=0
 ·rw[aI (by simp[f])]at a;by_cases q:6<l.length;·rw[aK q]at a;cases a
  ·rw[aI q]at a;by_cases d:um m l=0
   ·rw[aI (by simp[d])]at a;by_cases u:cnt l l.length<l.length;·rw[aK u]at a;cases a
    ·have:=KY l l.length;refine⟨f,by omega,λx g=>?_,by omega⟩;clear a q u this;induction l with
     | nil=>cases g
     | cons y r C=>
      unfold um at d;by_cases h:oO m y=0
      ·rw[aK h]at d;rcases fV.1 g with rfl|g;·exact h
       ·exact C d g
      ·rw[aI h]at d;exact aM d h
   ·rw[aK d]at a;exact aM a d
 ·rw[aK f]at a;exact aM a f
theorem ZK:∀{n:Nat},n<=l.length->cnt l n=n->∀(j:Nat) x,j<n->l[j]?=some x->dQ (l.take j) x.name=none
 | 0,_,_,_,_,hj,_=>by omega
 | n+1,hn,h,j,x,hj,hx=>by
  have h1:=KY l n;rw[cnt]at h;have hy:=aZ (show n<l.length by omega);rw[hy]at h;simp only at h;by_cases hs:(dQ (l.take n) l[n].name).isSome=true;·rw[aK hs]at h;omega
  ·rw[aI hs]at h;by_cases e:j=n
   ·subst e;rw[hy]at hx;cases hx;cases hq:dQ (l.take j) l[j].name with
    | none=>rfl
    | some k=>rw[hq]at hs;exact aM rfl hs
   ·exact ZK (n:=n) bC bC j x bC hx
theorem Ak(G:cnt l l.length=l.length)(f:l[j]?=some x):dQ l x.name=some j:=by
 obtain⟨i,C⟩:=sF.1<|EI<|dG f;obtain⟨y,g,e⟩:=iT C;obtain⟨P,N⟩:=eY ((cO.1 f).1)<|(cO.1 g).1;have D:∀(a b:Nat) (u v:Mo),a<b->l[a]?=some u->l[b]?=some v->u.name=v.name->False:=λa b u v K I q L=>by have d:=ZK (bG _) G b v (cO.1 q).1 q;have H:u∈l.take b:=dG (i:=a) (by rw[nM K];exact I);have h:=EI H;rw[L,d]at h;cases h
 rcases Nat.lt_trichotomy i j with d|d|d;·exact(D i j y x d g f e).elim
 ·rw[C,d]
 ·exact(D j i x y d f g e.symm).elim
structure Uk(U ss:List ByteArray)(l:List Mo):Prop where
 var:∀x∈l,∀v∈x.vars,Fl.deed ⟨#[114,58]⟩ x.name v.name∈U/\Fl.deed ⟨#[119,58]⟩ x.name v.name∈U
 nQ:∀s∈ss,(⟨#[112,58]⟩++s:ByteArray)∈U
 len:U.length<=1048576
 size:∀t∈U,t.size<=maxLen
theorem QO{F:aS->Fi}(a:Uk U ss l)(u:x∈l)(q:∀s,∀y∈(F s).1,XI U y):UOk U ss x (vE l F x) where
 eF:=λr g y d t h=>by
  unfold vE at g
  obtain⟨z,_,rfl⟩:=iZ.1 g
  unfold sc1 at d
  split at d
  ·exact(q _ y d).1 t h
  ·obtain⟨f,_,rfl⟩:=iZ.1 d
   simp[un]at h
 var:=a.var x u
 nQ:=a.nQ
 len:=a.len
 size:=a.size
theorem ZL{F:aS->Fi}(h:U.length<=1048576)(g:∀s,∀y∈(F s).1,XI U y):∀r∈vE l F x,∀y∈r,y.gY.length<=1048576:=λr d y a=>by
 unfold vE at d;obtain⟨z,_,rfl⟩:=iZ.1 d;unfold sc1 at a;split at a;·exact bE (g _ y a).2 h
 ·obtain⟨f,_,rfl⟩:=iZ.1 a;simp[un]
theorem XY{c:Cx}(f:Uk U c.ss c.l):∀(g:Nat) (s:aS),∀y∈(fd c g s).1,XI U y
 | 0,_,_,a=>by cases a
 | g+1,s,y,a=>by
  rw[fd]at a;cases d:dQ c.l s with
  | none=>rw[d]at a;cases a
  | some i=>
   obtain⟨x,h,_⟩:=iT d;rw[d]at a;simp only[h]at a;unfold Oj at a;split at a;·cases a
   ·split at a;·cases a
    ·split at a;·cases a
     ·exact ZC (QO f (dG h)<|XY f g) y a
end Ck
structure QIn(w0:World)(c:Cx)(vn vl vk:Value)(b1 b2:Nat)(U:List ByteArray):Prop where
 strs:Strs w0 vn c.ss
 Q5:EX w0 vl c.G c.L c.Z
 mks:xQ w0 c.m vk c.l
 form:nN (dD c.ss c.G c.L c.Z) c.m c.l=0
 small:∀x∈c.l,xH c.m x<=1048576
 tab:Tab w0
 q1:w0.heap.size<=b1
 q2:w0.heap.size<=b2
 ne:b1≠b2
 uni:Uk U c.ss c.l
structure Lp(w0:World)(c:Cx)(b1 b2:Nat)(w:World)(fo:ByteArray->Option Value):Prop where
 base:Below w0.heap.size w0 w
 fst:qo w b1 1048576 (.int .i64 0) (Ck.fi c.l)
 tV:qo w b2 (Ck.cntF c.l fo) zFi fo
 fin:∀s v,fo s=some v->FiW w v (FD c s)
section
variable {w0 w w' : World} {c : Ck.Cx} {b1 b2 : Nat} {fo : ByteArray → Option Value}
theorem Lp.below(a:Lp w0 c b1 b2 w fo)(d:bK w w'):Lp w0 c b1 b2 w' fo:=
 ⟨up a.base d,a.fst.Cw d,a.tV.Cw d,λs v f=>(a.fin s v f).below d⟩
theorem Lp.lt(h:Lp w0 c b1 b2 w fo):b2<w.heap.size:=h.tV.lt
theorem Lp.grown{t:TypeId}{r:Option Nat}(a:Lp w0 c b1 b2 w fo)(hg:w.grownBy w' r)(d:∀k,r=some k->w0.heap.size<=k/\∃f,w.heap[k]?=some (.cells f t (0,0)))(u:35≠t)(C:9≠t)(D:3≠t):Lp w0 c b1 b2 w' fo:=by
 have g:∀b n z o,qo w b n z o->some b≠r:=λb n z o G e=>by obtain⟨K,I,q⟩:=G.isMap;obtain⟨_,f,h⟩:=d b e.symm;rw[q]at h;cases h
 exact⟨Below.grown a.base hg a.base.size (λk e=>(d k e).1),a.fst.kept hg<|g _ _ _ _ a.fst,a.tV.kept hg<|g _ _ _ _ a.tV,λs v H=>(a.fin s v H).st (mV.grown hg λk e=>(d k e).2) u C D⟩
end
def Ck.blD(B:List Dg × Int):List Dg:=if B.2≠0 then []else bO.once B.1
def ZM(w0:World)(c:Cx)(b1 b2:Nat)(w w':World):Prop:=∃a,Lp w0 c b1 b2 w' a/\But b2 w w'
theorem arZ(a:oO m y=0):y.imports.length<=8:=by
 unfold oO at a;by_cases d:8<y.imports.length\/8<y.vars.length\/8<y.bq.length;·rw[aK d]at a;cases a
 ·omega
def Xj(w0:World)(c:Cx)(vn vl vk:Value)(b1 b2:Nat)(g:Nat):Prop:=∀(w:World) (fo:ByteArray->Option Value) (s:ByteArray),Lp w0 c b1 b2 w fo->(dQ c.l s).isSome=true->Ck.rk c.l s<g->s.size<=maxLen->
 Calls prog 42 #[.agg #[vn,vl,vk,.map (some b1),.map (some b2)],.string s] w λe w'=>∃v,e=.returned v/\Hid (ZM w0 c b1 b2 w w'/\FiW w' v (FD c s)/\(fo s=none->FiD w' v (FD c s)))
theorem QIn.forms{c:Cx}(d:QIn w0 c vn vl vk b1 b2 U):(∃a n c,vn=X a n c)/\(∃a n c,vl=X a n c)/\∃a n c,vk=X a n c:=by obtain⟨q,_,_,D,f,_⟩:=d.strs;obtain⟨u,_,_,G,_,_,_,_,g,_⟩:=d.Q5;obtain⟨C,_,_,H,h,_⟩:=d.mks;exact⟨⟨_,_,_,f⟩,⟨_,_,_,g⟩,⟨_,_,_,h⟩⟩
theorem Ck.aiX{F:aS->Ck.Fi}(d:r[j]?=some s)(acc:List Dg):Ck.bl l F (r.drop j) acc=if (dQ l s).isSome=false then Ck.bl l F (r.drop<|j+1) acc else if (F s).2.2≠0 then ([],(F s).2.2)else Ck.bl l F (r.drop<|j+1) (if (F s).2.1≠[]then acc++[⟨7,⟨#[]⟩,s⟩]else acc):=by obtain⟨a,e⟩:=cO.1 d;rw[Nw a,e,Ck.bl]
theorem abX(w0 w:bI)(c:Cx)(vn vl vk:aC)(b1 b2:Nat)(U:aJ)(fo:aS->Option aC)(g i:Nat)(x:Mo)(vi vv vf:aC)(hQ:QIn w0 c vn vl vk b1 b2 U)(hA:Lp w0 c b1 b2 w fo)(hO:Xj w0 c vn vl vk b1 b2 g)(hi:dQ c.l x.name=some i)(hx:c.l[i]?=some x)(hM:jl w0 c.m (.agg #[A x.name,vi,vv,vf]) x)(hr:¬Ck.yu c.l x.name x.name)(hg:Ck.rk c.l x.name<=g):aD 148 #[.agg #[vn,vl,vk,.map<|some b1,.map<|some b2],.agg #[A x.name,vi,vv,vf]] w λe w'=>∃u,e=dz (.tuple #[u,O (Ck.bl c.l (FD c) x.imports []).2])/\J (ZM w0 c b1 b2 w w'/\jg w' u (blD<|Ck.bl c.l (FD c) x.imports [])):=by
 obtain⟨⟨a0,n0,c0,rfl⟩,⟨a1,n1,c1,rfl⟩,⟨a2,n2,c2,rfl⟩⟩:=hQ.forms;have HO:=Y hO;have bv:J (∀b,b∈x.imports->(dQ c.l b).isSome=true->Ck.rk c.l b<g):=Y (λb hb q=>wI (QN hr ⟨i,x,hi,hx,hb,q⟩) hg);have am:J (x.imports.length<=8):=Y<|arZ<|(kK hQ.form).2.2.1 x (dG hx);obtain⟨hI,hV,hF⟩:=hM.split;obtain⟨ia,ib,io,ic,rfl,aE,-,a6,a5⟩:=hI;obtain⟨a3,b3,o3,c3,rfl,-⟩:=hV;obtain⟨a4,b4,o4,c4,rfl,-⟩:=hF;obtain⟨ak,bp,al⟩:=fE aE a6 a5;obtain⟨ni,ag⟩:∃n,n=x.imports.length:=⟨_,rfl⟩;have IW:=Y ag;rw[<-ag]at ak al am ⊢;generalize x.vars.length=n3 at *;generalize x.bq.length=n4 at *;obtain⟨C,ad⟩:∃B,B=Ck.bl c.l (FD c) x.imports []:=⟨_,rfl⟩;have Fy:=Y ad;rw[<-ad];have oL:=Y hA.lt;obtain⟨W,hW,k0,k1,bL,V⟩:=AL w (aY #[X a0 n0 c0,X a1 n1 c1,X a2 n2 c2,.map<|some b1,.map<|some b2] 121)<|aY #[A x.name,X ia ni ic,X a3 n3 c3,X a4 n4 c4] 59;obtain⟨lH,jG,iO,Vu⟩:=lD k0 k1 V<|hA.below V;obtain⟨-,q1⟩:=jv k1;clear k0 k1 bL V hA hQ hO hM hi hx hr hg aE a6 a5 ag ad;go_enter func148,ntmps148;go_upto_region 2 with fail;rw[<-hW];clear hW;go_wp2_with fail;clear q1;go_loopw[6,15] (λd i wr=>∃(dv:aC) (j:Nat) (acc:List Dg) (I:aS->Option aC),dv=d/\j<=ni/\i=O j/\J (Ck.bl c.l (FD c) (x.imports.drop j) acc=C/\acc.length<=j/\dA qU wr W.heap.size 69 3 dv acc/\Lp w0 c b1 b2 wr I/\But b2 W wr)) (λ_ i _=>ni - (intOf i).toNat);exact⟨_,0,[],fo,rfl,bN _,rfl,Y ⟨Fy.out.symm,bG _,dA.nil _ _ _ _,Vu.out,But.refl _ _⟩⟩
 obtain⟨d,j,acc,I,rfl,hj,rfl,a⟩:=hrel;have ao:=Y (a.out.2.2.2.2.at (show w.heap.size≠b2 from λe=>by have:=oL.out;omega) lH.out);have b6:=am.out;by_cases a7:j<ni
 ·obtain⟨s,q⟩:∃y',x.imports[j]?=some y':=⟨_,aZ (by rw[<-IW.out];exact a7)⟩;have gc:=aG (al.out j a7) a.out.2.2.2.1.base;rw[List.getD,q,gD]at gc;obtain rfl:=ak.out bC;obtain⟨au,aq,MF⟩:=fE (bp.out s<|dG q) (aiX (l:=c.l) (F:=FD c) q acc)<|dG q;have q3:=aj ao.out 3;have K:=a.out.2.2.2.1.fst.sS underlying117 Dq au.out;clear q;cases G:dQ c.l s with
  | none=>
   have N:Ck.fi c.l s=none:=by unfold Ck.fi;rw[G];rfl
   rw[N]at K;simp only[lK,nE]at K;have L:J (Ck.bl c.l (FD c) (x.imports.drop<|j+1) acc=C):=Y (by have S:=aq.out;rw[aK (by rw[G];rfl)]at S;rw[<-S];exact a.out.1);clear G N;go_wp2;go_roundw;exact⟨_,j+1,acc,I,rfl,by omega,by go_num,Y ⟨L.out,Nat.le_succ_of_le a.out.2.1,a.out.2.2.1,a.out.2.2.2.1,a.out.2.2.2.2⟩⟩;exact gV
  | some k=>
   have N:Ck.fi c.l s=some (O (k:Nat)):=by unfold Ck.fi;rw[G];rfl
   rw[N]at K;simp only[gD,nD]at K;have Q:(dQ c.l s).isSome=true:=by rw[G];rfl
   obtain⟨b5,qL,h⟩:=fE Q (HO.out wr I s a.out.2.2.2.1 Q (bv.out s MF.out Q) au.out) aq.out;rw[aI (by rw[Q];simp)]at h;obtain⟨q0,q1,q2,-,q4⟩:=ZC5 ao.out;clear G N Q;go_upto_region 7 with fail;go_wp2_with fail;refine qL.out.mono ?_;rintro e Z ⟨v5,rfl,lQ⟩;obtain⟨⟨ac,be,Ol⟩,bw,-⟩:=lQ.out;obtain⟨b8,ay,az,rfl,av⟩:=bw;obtain⟨bh,bi,aw⟩:=av.form;generalize (FD c s).1.length=bj at aw;subst aw;obtain⟨D,ae⟩:∃e,e=(FD c s).2.2:=⟨_,rfl⟩;obtain⟨n5,JR⟩:∃n,n=(FD c s).2.1.length:=⟨_,rfl⟩;obtain⟨Xb,CW⟩:=bV ae JR;rw[<-ae,<-JR];obtain⟨br,Ec⟩:=bV be<|a.out.2.2.2.2.trans Ol;have bk:J (dA qU Z W.heap.size 69 3 d acc):=Y (by
    have hm:=a.out.2.2.2.1.tV.isMap;obtain⟨cs,⟨h0,h1⟩,h2⟩:=a.out.2.2.1;refine⟨cs,⟨h0,?_⟩,h2⟩;rcases h1 with h1|⟨g',bz,ax,bS,bA,bB,r'⟩;·exact aO h1
    ·exact aQ ⟨g',bz,ax,bS,bA,mV.but (t:=4) Ol hm g' ax _ bB bM,r'⟩)
   clear lQ be Ol av ae JR q0 q1 q2 q3 q4 gc K;obtain⟨eT,EW⟩:=sO Z<|aY #[X bh bj bi,X ay n5 az,O D] 124;go_upto_region 8 with fail;generalize Z.alloc (aY #[X bh bj bi,X ay n5 az,O D] 124)=f at *;obtain⟨ab,zA,ah⟩:=fE (br.out.below eT.out) (Ec.out.trans<|But.of_below eT.out)<|bk.out.below eT.out;generalize Z.heap.size=FB at *;obtain⟨-,f1,f2⟩:=P5 EW.out;by_cases P:D=0
   ·subst P;rw[aI (by rw[<-Xb.out];simp)]at h;by_cases af:n5=0
    ·subst af;have bc:(FD c s).2.1=[]:=qp.1 CW.out.symm;rw[aI (by rw[bc];simp)]at h;have L:J (Ck.bl c.l (FD c) (x.imports.drop<|j+1) acc=C):=Y (by rw[<-h.out];exact a.out.1);clear bc;go_wp2;go_roundw;exact⟨_,j+1,acc,ac,rfl,by omega,by go_num,Y ⟨L.out,Nat.le_succ_of_le a.out.2.1,ah.out,ab.out,zA.out⟩⟩;exact gV
    ·have bb:(FD c s).2.1≠[]:=λS=>af (by rw[CW.out,S];rfl);rw[aK bb]at h;have L:J (Ck.bl c.l (FD c) (x.imports.drop<|j+1) (acc++[⟨7,⟨#[]⟩,s⟩])=C):=Y (by rw[<-h.out];exact a.out.1);have b7:0<n5:=by omega
     have H:=Y<|aH f<|aY #[O 7,A ⟨#[]⟩,A s] 69;have EP:J (dA qU (f.alloc<|aY #[O 7,A ⟨#[]⟩,A s] 69) f.heap.size 69 3 (Tc f.heap.size 1 1) [⟨7,⟨#[]⟩,s⟩]):=Y (dA.one (c:=[O 7,A ⟨#[]⟩,A s]) f 69 rfl (by simp[Value.oneCell']) rfl);obtain⟨R,bs,jS⟩:=fE (ah.out.below H.out) (ab.out.below H.out)<|zA.out.trans<|But.of_below H.out;clear bb af
     go_wp2_with (first
      | (at_builtin;refine fG (At:=qU) rfl _ _ 62 69 3 40 _ rfl underlying62 qV bM bM bM W.heap.size d acc rfl R.out f.heap.size (Tc f.heap.size 1 1) [⟨7,⟨#[]⟩,s⟩] rfl EP.out (by have:=a.out.2.1;simp only[iI];omega) jS.out.size ?_;intro v8 w8 qG jB;have bq:=Y qG;have ai:=Y jB;clear qG jB)
      | fail)
     obtain⟨bu,xu⟩:=bV (bs.out.grown (t:=69) ai.out (λk e=>⟨bE (bE Vu.out.base.size<|bG _) (R.out.lt k e).1,R.out.typ e⟩) bM bM bM)<|jS.out.grown ai.out (λk e=>(R.out.lt k e).1);go_roundw;exact⟨_,j+1,acc++[⟨7,⟨#[]⟩,s⟩],ac,rfl,by omega,by go_num,Y ⟨L.out,by rw[bg,iI];have:=a.out.2.1;omega,bq.out,bu.out,xu.out⟩⟩;exact gV
   ·have hz:=eO P;rw[aK (by rw[<-Xb.out];exact P),<-Xb.out]at h;have aa:J (C=([],D)):=Y (by rw[<-a.out.1];exact h.out);have bo:=Y P;clear P;go_upto_region 9 with fail;clear f1 f2;have f2:=bD<|(aj EW.out 2).trans rfl;refine bW dw dw ?_;repeat(quiet_step (fail))
    refine wpQuiet_nil ?_;intro w7 bY;obtain⟨⟨nq,b0⟩,bf⟩:=bY;have H:J (bK f w7):=Y (by rw[bf];exact bU f nq b0);clear bf f2;go_wp2_with fail;refine cZ (v:=.tuple #[aU,O D]) (by simp[results,results148,go_sem]) rfl ?_;rw[aa.out];exact⟨_,rfl,Y ⟨⟨ac,ab.out.below H.out,(But.of_below iO.out).trans (zA.out.trans<|But.of_below H.out)⟩,by rw[show blD ([],D)=[]from aK bo.out];exact Aj _ _⟩⟩
 ·obtain rfl:j=ni:=by omega
  have aa:J (C=(acc,0)):=Y (by rw[<-a.out.1,IW.out,List.drop_length];rfl);have bm:=Y (a.out.2.2.1.GJ (by have:=a.out.2.1;omega));have bx:=Y (y8 wr d acc bm.out (by have:=a.out.2.1;omega));obtain⟨da,dc,aA⟩:=a.out.2.2.1.form;obtain⟨nd,ba⟩:∃n,n=acc.length:=⟨_,rfl⟩;rw[<-ba]at aA;subst aA;clear ba;go_wp2_with fail;refine bx.out.mono ?_;rintro e w9 ⟨u9,rfl,V8,vV⟩;have ar:=Y V8;obtain⟨a9,b9,o9,c9,rfl,-⟩:=V8;obtain⟨n9,a8⟩:∃n,n=(bO.once acc).length:=⟨_,rfl⟩;rw[<-a8]at ar ⊢;have Ac:=Y vV;clear vV a8;go_wp2_with fail;refine cZ (v:=.tuple #[X a9 n9 c9,O 0]) (by simp[results,results148,go_sem]) rfl ?_;rw[aa.out];exact⟨_,rfl,Y ⟨⟨I,a.out.2.2.2.1.below Ac.out,(But.of_below iO.out).trans (a.out.2.2.2.2.trans<|But.of_below Ac.out)⟩,by rw[show blD (acc,0)=bO.once acc from aI cK];exact ar.out⟩⟩
def KnC(w0:World)(m:Nat)(_:World)(c:List Value)(y:Mo):Prop:=∃d f a,c=[.string y.name,d,f,a]/\jl w0 m (.agg #[.string y.name,d,f,a]) y
def SsC(w:World)(c:List Value)(y:List Sc):Prop:=∃u,c=[u]/\eZ Ht w 0 35 6 u y
theorem SsC.st{c:List aC}{y:List Sc}(a:SsC w c y)(h:mV t w w')(d:35≠t)(f:9≠t)(g:3≠t):SsC w' c y:=by obtain⟨u,e,a⟩:=a;exact⟨u,e,qK a h d f g⟩
theorem aiY:(prog.info? 59).map (λi=>(i.zero,i.size,i.bytes))=some (some<|.agg #[A ⟨#[]⟩,aU,aU,aU],4,88):=by kernel_rfl
theorem VA:(prog.info? 30).map (λi=>(i.zero,i.size,i.bytes))=some (some<|aU,1,24):=by kernel_rfl
theorem alZ(f:eZ (KnC w0 m) w n 59 4 v l)(C:l.length<=9223372036854775807)(G:bK w0 w):jN w m v l:=by
 cases l with
 | nil =>obtain⟨a,c,e⟩:=f.form;exact⟨a,0,0,c,e,λD=>aM D cK,C,λi y h=>aM h cK⟩
 | cons R r =>obtain⟨g,cap,e,_⟩:=f.get (i:=0) (y:=R) rfl;refine⟨_,g,0,cap,e,λ_=>rfl,C,λi y h=>?_⟩;obtain⟨g',S,u,c,_,I,P,Q,N,H,L⟩:=f.get h;rw[e]at u;injection u with d V Z;injection d with d;injection d with d;subst d;have q:=λj K=>I j K;rw[H]at q;rw[d9];exact⟨P,Q,N,q 0 bM,q 1 bM,q 2 bM,q 3 bM,L.below G⟩
theorem aiZ{l:List (List Sc)}(C:eZ SsC w n 30 1 v l)(H:l.length<=9223372036854775807)(f:∀r∈l,r.length<=1048576/\∀y∈r,y.gY.length<=1048576/\∀u∈y.gY,u.size<=maxLen):BZ w v l:=by
 cases l with
 | nil =>obtain⟨a,c,e⟩:=C.form;exact⟨a,0,0,c,e,λI=>aM I cK,H,λi y h=>aM h cK⟩
 | cons P r =>obtain⟨g,cap,e,_⟩:=C.get (i:=0) (y:=P) rfl;refine⟨_,g,0,cap,e,λ_=>rfl,H,λi y h=>?_⟩;obtain⟨V,Q,D,c,_,L,u,K,N⟩:=C.get h;rw[e]at D;injection D with d R S;injection d with d;injection d with d;subst d;have q:=L 0 bM;rw[K,Nat.mul_one,sN]at q;rw[d9];obtain⟨Z,G⟩:=f y<|dG h;exact⟨u,q,Li N bC (λz f=>(G z f).2) (λz f=>(G z f).1)⟩
theorem ai0(w:bI)(a b:Option Addr)(n n' c d:Nat)(e:Int):(Instr.field 124 (.agg #[X a n c,X b n' d,O e]) 0).run prog w=.ok (.agg #[X a n c,X b n' d]) w:=by kernel_rfl
theorem ai1(w:bI)(a b:Option Addr)(n n' c d:Nat):(Instr.field 71 (.agg #[X a n c,X b n' d]) 0).run prog w=.ok (X a n c) w:=by kernel_rfl
namespace Ck
theorem UE(d:l[j]?=some y)(x:Mo):tN (l.take<|j+1) x=if cB y.name x.name then tN (l.take j) x else tN (l.take j) x++[y]:=by
 unfold tN;rw[gy,d,kI,List.filter_append];cases a:cB y.name x.name with
 | true=>simp[a]
 | false=>simp[a]
theorem agb(a:l[j]?=some y)(F:aS->Fi)(x:Mo):vE (l.take<|j+1) F x=if cB y.name x.name then vE (l.take j) F x else vE (l.take j) F x++[sc1 F x y]:=by
 unfold vE;rw[UE a];split;·rfl
 ·rw[gX];rfl
theorem QS(l:List Mo)(x:Mo):(tN l x).length<=l.length:=Km _ _
theorem Ls(l:List Mo)(F:aS->Fi)(x:Mo):(vE l F x).length=(tN l x).length:=dV _
end Ck
theorem qM(d:eZ (KnC w0 m) w n 59 4 v l)(h:mV t w w')(q:59≠t):eZ (KnC w0 m) w' n 59 4 v l:=
 d.keep (λj a _ g=>h j a _ g q) λ_ _ f=>f
theorem tO{l:List (List Sc)}(f:eZ SsC w n 30 1 v l)(a:mV t w w')(D:30≠t)(g:35≠t)(h:9≠t)(q:3≠t):eZ SsC w' n 30 1 v l:=
 f.keep (λj d _ C=>a j d _ C D) λ_ _ u=>u.st a g h q
theorem XZ(w0 w:bI)(c:Cx)(vn vl vk:aC)(b1 b2:Nat)(U:aJ)(fo:aS->Option aC)(g i:Nat)(x:Mo)(vi vv vf:aC)(hQ:QIn w0 c vn vl vk b1 b2 U)(hA:Lp w0 c b1 b2 w fo)(hO:Xj w0 c vn vl vk b1 b2 g)(hi:dQ c.l x.name=some i)(hx:c.l[i]?=some x)(hM:jl w0 c.m (.agg #[A x.name,vi,vv,vf]) x)(hr:¬Ck.yu c.l x.name x.name)(hg:Ck.rk c.l x.name<=g):aD 149 #[.agg #[vn,vl,vk,.map (some b1),.map (some b2)],.agg #[A x.name,vi,vv,vf]] w λe w'=>∃ku su,e=dz (.tuple #[ku,su])/\J (ZM w0 c b1 b2 w w'/\eZ (KnC w0 c.m) w' w.heap.size 59 4 ku (tN c.l x)/\eZ SsC w' w.heap.size 30 1 su (vE c.l (FD c) x)):=by
 obtain⟨⟨a0,n0,c0,rfl⟩,⟨a1,n1,c1,rfl⟩,-⟩:=hQ.forms;obtain⟨HO,MI⟩:=bV hO (kK hQ.form);have alY:J (∀b,b∈x.imports->(dQ c.l b).isSome=true->Ck.rk c.l b<g):=Y (λb hb hs=>wI (QN hr ⟨i,x,hi,hx,hb,hs⟩) hg);obtain⟨hI,hV,hF⟩:=hM.split;have HI:=Y hI;obtain⟨ia,ib,io,ic,rfl,-⟩:=hI;obtain⟨a3,b3,o3,c3,rfl,-⟩:=hV;obtain⟨a4,b4,o4,c4,rfl,-⟩:=hF;obtain⟨ni,hni⟩:∃n,n=x.imports.length:=⟨_,rfl⟩;rw[<-hni]at HI ⊢;generalize x.vars.length=n3 at *;generalize x.bq.length=n4 at *;obtain⟨ka,kb,ko,kc,rfl,hka,hkl,agc⟩:=hQ.mks;obtain⟨HKA,ar2⟩:=bV hka agc;obtain⟨nk,hnk⟩:∃n,n=c.l.length:=⟨_,rfl⟩;have LW:=Y hnk;rw[<-hnk]at HKA HO ⊢;have uX:J (nk<=6):=Y (by rw[hnk];exact(kK hQ.form).2.1);have oL:=Y hA.lt;obtain⟨W,hW,k0,k1,hsz,hBW⟩:=AL w (aY #[X a0 n0 c0,X a1 n1 c1,X ka nk kc,.map (some b1),.map (some b2)] 121) (aY #[A x.name,X ia ni ic,X a3 n3 c3,X a4 n4 c4] 59);obtain⟨lH,jG,iO,Vu⟩:=lD k0 k1 hBW (hA.below hBW);have Ra:J (w.heap.size<=W.heap.size):=Y hBW.size;have q2:=aj k0 2;clear k0 k1 hsz hBW hA hQ hO hM hi hx hr hg hni hka agc hkl hnk;go_enter func149,ntmps149;go_upto_region 3 with fail;rw[<-hW];clear hW;go_wp2_with fail;clear q2;go_loopw[6,7,13] (λk s i wr=>∃(kv sv:aC) (j:Nat) (IL:aS->Option aC),kv=k/\sv=s/\j<=nk/\i=O j/\J (eZ (KnC w0 c.m) wr W.heap.size 59 4 kv (tN (c.l.take j) x)/\eZ SsC wr W.heap.size 30 1 sv (vE (c.l.take j) (FD c) x)/\Lp w0 c b1 b2 wr IL/\But b2 W wr)) (λ_ _ i _=>nk - (intOf i).toNat);exact⟨_,_,0,fo,rfl,rfl,bN _,rfl,Y ⟨eZ.nil _ _ _ _,eZ.nil _ _ _ _,Vu.out,But.refl _ _⟩⟩
 obtain⟨kv,sv,j,IL,rfl,rfl,hj,rfl,HR⟩:=hrel;have atF:=uX.out;by_cases hjl:j<nk
 ·obtain⟨y,hy⟩:∃y,c.l[j]?=some y:=⟨_,aZ (by rw[<-LW.out];exact hjl)⟩;obtain⟨HYM,HOT,X0⟩:=fE (dG hy) (UE hy x) (agb hy (FD c) x);obtain⟨yi,yv,yf,g0,g1,g2,g3,LX,-⟩:=ar2.out j y hy;obtain rfl:=HKA.out bC;obtain⟨HMY,HYZ⟩:=bV LX (Qj LX);obtain⟨hyI,hyV,hyF⟩:=LX.split;have HYF:=Y hyF;obtain⟨d1,e1,p1,z1,rfl,-⟩:=hyI;obtain⟨d2,e2,p2,z2,rfl,-⟩:=hyV;obtain⟨d3,e3,p3,z3,rfl,-⟩:=hyF;obtain⟨m1,hm1⟩:∃n,n=y.imports.length:=⟨_,rfl⟩;obtain⟨m2,hm2⟩:∃n,n=y.vars.length:=⟨_,rfl⟩;obtain⟨m3,hm3⟩:∃n,n=y.bq.length:=⟨_,rfl⟩;rw[<-hm1]at g1 HMY;rw[<-hm2]at g2 HMY;rw[<-hm3]at g3 HMY HYF;have hbase:=HR.out.2.2.1.base;replace g0:=aG g0 hbase;replace g1:=aG g1 hbase;replace g2:=aG g2 hbase;replace g3:=aG g3 hbase;have HU8:=Y (Ai (MI.out.2.2.1 y HYM.out));clear hy LX hm1 hm2 hm3 hbase;go_upto_region 6 with fail;obtain⟨qO,HKB⟩:=sO wr (aY #[A y.name,X d1 m1 z1,X d2 m2 z2,X d3 m3 z3] 59);generalize wr.alloc (aY #[A y.name,X d1 m1 z1,X d2 m2 z2,X d3 m3 z3] 59)=W5 at *;obtain⟨al0,al1,HQ5,Ec⟩:=lD (qM HR.out.1 (mV.below (t:=4) qO.out) bM) (tO HR.out.2.1 (mV.below (t:=4) qO.out) bM bM bM bM) (HR.out.2.2.1.below qO.out) (HR.out.2.2.2.trans (But.of_below qO.out));have aoT:=Y (Ec.out.at (show w.heap.size+1≠b2 from λe=>by have:=oL.out;omega) jG.out);have aoU:J (∀k,kv.ownBlock=some k->k<wr.heap.size):=Y (λk e=>(HR.out.1.lt k e).2);obtain⟨YB,hYB⟩:∃n,n=wr.heap.size:=⟨_,rfl⟩;rw[<-hYB]at HKB aoU ⊢;clear hYB g0 g1 g2 g3;have y0:=aj HKB.out 0;have x0:=aj aoT.out 0;cases hsm:cB y.name x.name with
  | true=>
   have hst:(y.name.toList==x.name.toList)=true:=hsm;rw[hsm,aK rfl]at HOT X0;clear hsm;go_wp2;go_roundw;exact⟨_,_,j+1,IL,rfl,rfl,by omega,by go_num,Y ⟨by rw[HOT.out];exact al0.out,by rw[X0.out];exact al1.out,HQ5.out,Ec.out⟩⟩;exact gV
  | false=>
   have hst:(y.name.toList==x.name.toList)=false:=hsm;rw[hsm,aI cK]at HOT X0;obtain⟨eT,EW⟩:=sO W5 (aY #[A y.name,X d1 m1 z1,X d2 m2 z2,X d3 m3 z3] 59);obtain⟨-,y1,y2,y3⟩:=xX HKB.out;obtain⟨abY,ar3,HQ6,zA,aoV,aoW⟩:=vC (qM al0.out (mV.below (t:=4) eT.out) bM) (tO al1.out (mV.below (t:=4) eT.out) bM bM bM bM) (HQ5.out.below eT.out) (Ec.out.trans (But.of_below eT.out)) (bH HKB.out eT.out) (bH aoT.out eT.out);have HOL:J ((tN (c.l.take j) x).length<=6):=Y (bE (QS _ _) (by rw[iA];have:=LW.out;omega));obtain⟨ka6,kc6,hkv⟩:=al0.out.form;obtain⟨kn6,aoX⟩:∃n,n=(tN (c.l.take j) x).length:=⟨_,rfl⟩;rw[<-aoX]at hkv;subst hkv;obtain⟨sa6,sc6,hsv⟩:=al1.out.form;obtain⟨sn6,aoY⟩:∃n,n=(vE (c.l.take j) (FD c) x).length:=⟨_,rfl⟩;rw[<-aoY]at hsv;subst hsv;have HSL:J ((vE (c.l.take j) (FD c) x).length<=6):=Y (by rw[Ls];exact HOL.out);clear hsm aoX aoY
   go_upto_region 8 with(first
    | (at_builtin;refine mU (At:=KnC w0 c.m) rfl _ _ 26 59 4 88 _ rfl underlying26 aiY bM bM bM W.heap.size (X ka6 kn6 kc6) (tN (c.l.take j) x) rfl abY.out W5.heap.size [A y.name,X d1 m1 z1,X d2 m2 z2,X d3 m3 z3] y rfl (λq u hu=>((aj EW.out q).trans (by simpa only [yK]using hu))) rfl (by simp[Value.oneCell']) ⟨_,_,_,rfl,HMY.out⟩ (by have:=HOL.out;omega) zA.out.size (λ_ _ _ _ h=>h) ?_;intro g7 abr w7 gF dI;have HK7:=Y gF;have HG7:=Y dI;clear gF dI)
    | fail)
   have ar4:=Y (mV.grown HG7.out abY.out.typ);obtain⟨aoZ,HQ7,jS⟩:=fE (tO ar3.out ar4.out bM bM bM bM) (HQ6.out.grown HG7.out (λk e=>⟨bE Vu.out.base.size (abY.out.lt k e).1,abY.out.typ k e⟩) bM bM bM) (zA.out.grown HG7.out (λk e=>(abY.out.lt k e).1));have afN:J (dR w7 YB (aY #[A y.name,X d1 m1 z1,X d2 m2 z2,X d3 m3 z3] 59)):=Y (by exact(HG7.out.block YB (aR aoV.out) (λe=>aM (aoU.out YB e.symm) (Nat.lt_irrefl _))).trans aoV.out);have ar5:J (w7.heap[w.heap.size+1]?=some (aY #[A x.name,X ia ni ic,X a3 n3 c3,X a4 n4 c4] 59)):=Y (by exact(HG7.out.block (w.heap.size+1) (aR aoW.out) (λe=>aM (abY.out.lt _ e.symm).1 (by have:=aR jG.out;omega))).trans aoW.out);have ar6:J ((tN (c.l.take (j+1)) x)=tN (c.l.take j) x++[y]):=Y HOT.out;rw[<-ar6.out]at HK7;have ao0:=Y HQ7.out.base;obtain⟨-,i1⟩:=jv ar5.out;have j0:=aj afN.out 0;have wu:=Y (kS w7 _ x.imports y.name (HI.out.below ao0.out));clear x0 y0 y1 y2 y3 hst;go_wp2_with fail;refine wu.out.mono ?_;rintro e w8 ⟨rfl,hw8⟩;subst hw8;cases hin:bO.ER x.imports y.name with
   | true=>
    have hdec:decide (0<=dU x.imports y.name)=true:=hin;rw[hdec];have mX:J (sc1 (FD c) x y=(FD c y.name).1):=Y (by unfold sc1;rw[hin];rfl);rw[mX.out]at X0;have hsome:=EI HYM.out;obtain⟨qL,HKQ⟩:=bV (HO.out w8 IL y.name HQ7.out hsome (alY.out _ (QM.1 hin) hsome) HYZ.out) (jS.out.at (show w.heap.size≠b2 from λe=>by have:=oL.out;omega) lH.out);obtain⟨r0,r1,r2,r3,r4⟩:=ZC5 HKQ.out;clear hin hdec hsome;go_wp2_with fail;refine qL.out.mono ?_;rintro e w9 ⟨v9,rfl,KH⟩;obtain⟨⟨fo9,hq9,ZN⟩,ar7,-⟩:=KH.out;obtain⟨vs9,d9a,d9c,rfl,aho⟩:=ar7;have al5:=Y aho;obtain⟨s9a,s9c,agd⟩:=aho.form;obtain⟨s9n,agf⟩:∃n,n=(FD c y.name).1.length:=⟨_,rfl⟩;rw[<-agf]at agd;subst agd;obtain⟨E9,hE9⟩:∃e,e=(FD c y.name).2.2:=⟨_,rfl⟩;obtain⟨n9,hn9⟩:∃n,n=(FD c y.name).2.1.length:=⟨_,rfl⟩;rw[<-hE9,<-hn9];have hmap:=HQ7.out.tV.isMap;obtain⟨al6,al7,HQ9,Ci⟩:=lD (qM HK7.out (mV.but (t:=4) ZN hmap) bM) (tO aoZ.out (mV.but (t:=4) ZN hmap) bM bM bM bM) hq9 (jS.out.trans ZN);obtain⟨hf1,hf2⟩:=eY ai0 ai1;clear KH hq9 ZN aho hE9 hn9 agf hmap r0 r1 r2 r3 r4 i1 j0;obtain⟨eT,EW⟩:=sO w9 (aY #[X s9a s9n s9c] 30);obtain⟨agh,aco,al8,atL,agi⟩:=uh (qM al6.out (mV.below (t:=4) eT.out) bM) (tO al7.out (mV.below (t:=4) eT.out) bM bM bM bM) (HQ9.out.below eT.out) (Ci.out.trans (But.of_below eT.out)) (qK al5.out (mV.below (t:=4) eT.out) bM bM bM)
    go_wp2_with (first
     | (at_builtin;refine mU (At:=SsC) rfl _ _ 94 30 1 24 _ rfl underlying94 VA bM bM bM W.heap.size (X sa6 sn6 sc6) (vE (c.l.take j) (FD c) x) rfl aco.out w9.heap.size [X s9a s9n s9c] (FD c y.name).1 rfl (λq u hu=>((aj EW.out q).trans (by simpa only [yK]using hu))) rfl (by simp[Value.oneCell']) ⟨_,rfl,agi.out⟩ (by have:=HSL.out;omega) atL.out.size (λw' cc yy hg hc=>hc.st (mV.grown hg aco.out.typ) bM bM bM) ?_;intro g11 ao1 w11 aek aio;have al9:=Y aek;have abh:=Y aio;clear aek aio)
     | fail)
    have agj:=Y (mV.grown abh.out aco.out.typ);obtain⟨mh,ama,agk⟩:=fE (qM agh.out agj.out bM) (al8.out.grown abh.out (λk e=>⟨bE Vu.out.base.size (aco.out.lt k e).1,aco.out.typ k e⟩) bM bM bM) (atL.out.grown abh.out (λk e=>(aco.out.lt k e).1));go_roundw;exact⟨_,_,j+1,fo9,rfl,rfl,by omega,by go_num,Y ⟨mh.out,by rw[X0.out];exact al9.out,ama.out,agk.out⟩⟩;exact gV
   | false=>
    have hdec:decide (0<=dU x.imports y.name)=false:=hin;rw[hdec];have mX:J (sc1 (FD c) x y=y.bq.map Ck.un):=Y (by unfold sc1;rw[hin];rfl);rw[mX.out]at X0;have j3:=aj afN.out 3;have HUC:=Y (XV c.m w8 _ y.bq (HYF.out.below ao0.out) HU8.out.1 HU8.out.2);clear hin hdec;go_wp2_with fail;refine HUC.out.mono ?_;rintro e w9 ⟨u9,rfl,KH⟩;obtain⟨aho,vV⟩:=KH.out;have al5:=Y (aho.old (bN _));obtain⟨s9a,s9c,agd⟩:=aho.form;obtain⟨s9n,agf⟩:∃n,n=(y.bq.map Ck.un).length:=⟨_,rfl⟩;rw[<-agf]at agd;subst agd;obtain⟨al6,al7,HQ9,Ci⟩:=lD (qM HK7.out (mV.below (t:=4) vV) bM) (tO aoZ.out (mV.below (t:=4) vV) bM bM bM bM) (HQ7.out.below vV) (jS.out.trans (But.of_below vV));clear KH vV aho agf i1 j0 j3;obtain⟨eT,EW⟩:=sO w9 (aY #[X s9a s9n s9c] 30);obtain⟨agh,aco,al8,atL,agi⟩:=uh (qM al6.out (mV.below (t:=4) eT.out) bM) (tO al7.out (mV.below (t:=4) eT.out) bM bM bM bM) (HQ9.out.below eT.out) (Ci.out.trans (But.of_below eT.out)) (qK al5.out (mV.below (t:=4) eT.out) bM bM bM)
    go_wp2_with (first
     | (at_builtin;refine mU (At:=SsC) rfl _ _ 94 30 1 24 _ rfl underlying94 VA bM bM bM W.heap.size (X sa6 sn6 sc6) (vE (c.l.take j) (FD c) x) rfl aco.out w9.heap.size [X s9a s9n s9c] (y.bq.map Ck.un) rfl (λq u hu=>((aj EW.out q).trans (by simpa only [yK]using hu))) rfl (by simp[Value.oneCell']) ⟨_,rfl,agi.out⟩ (by have:=HSL.out;omega) atL.out.size (λw' cc yy hg hc=>hc.st (mV.grown hg aco.out.typ) bM bM bM) ?_;intro g11 ao1 w11 aek aio;have al9:=Y aek;have abh:=Y aio;clear aek aio)
     | fail)
    have agj:=Y (mV.grown abh.out aco.out.typ);obtain⟨mh,ama,agk⟩:=fE (qM agh.out agj.out bM) (al8.out.grown abh.out (λk e=>⟨bE Vu.out.base.size (aco.out.lt k e).1,aco.out.typ k e⟩) bM bM bM) (atL.out.grown abh.out (λk e=>(aco.out.lt k e).1));go_roundw;exact⟨_,_,j+1,IL,rfl,rfl,by omega,by go_num,Y ⟨mh.out,by rw[X0.out];exact al9.out,ama.out,agk.out⟩⟩;exact gV
 ·obtain rfl:j=nk:=by omega
  have DU:J (c.l.take j=c.l):=Y (by rw[LW.out,jQ]);have HRR:=Y HR.out;rw[DU.out]at HRR;go_wp2_with fail;refine cZ (v:=.tuple #[kv,sv]) (by simp[results,results149,go_sem]) rfl ?_;exact⟨_,_,rfl,Y ⟨⟨IL,HRR.out.2.2.1,(But.of_below iO.out).trans HRR.out.2.2.2⟩,HRR.out.1.old Ra.out,HRR.out.2.1.old Ra.out⟩⟩
theorem Lv(g:dR W B (.cells #[r0,r1,r2] t (0,0)))(a d f:aC):(((W.setCell (aN B 0) a).setCell (aN B 1) d).setCell (aN B 2) f).heap[B]?=some (.cells #[a,d,f] t (0,0)):=by rw[aP (aP (aP g 0 a) 1 d) 2 f];rfl
theorem akc(h:Below n w W)(a:n<=B)(d f g:aC):Below n w (((W.setCell (aN B 0) d).setCell (aN B 1) f).setCell (aN B 2) g):=
 ((h.setCell (p:=(aN B 0)) a d).setCell (p:=(aN B 1)) a f).setCell (p:=(aN B 2)) a g
theorem qd(q:But p w W)(d:w.heap.size<=B)(f g h:aC):But p w (((W.setCell (aN B 0) f).setCell (aN B 1) g).setCell (aN B 2) h):=
 ((q.set (a:=(aN B 0)) (aQ d) f).set (a:=(aN B 1)) (aQ d) g).set (a:=(aN B 2)) (aQ d) h
theorem mV.set(d:dR W B (.cells cs t (0,0)))(v:aC):mV t W (W.setCell (aN B i) v):=λj g u a f=>aX a (λe=>by subst e;rw[d]at a;simp at a;exact f a.2.symm) v
theorem mV.trans{a b c:bI}(f:mV t a b)(k:mV t b c):mV t a c:=λj cs u g d=>k j cs u (f j cs u g d) d
theorem zP(f:dR W B (.cells #[r0,r1,r2] t (0,0)))(a d g:aC):mV t W (((W.setCell (aN B 0) a).setCell (aN B 1) d).setCell (aN B 2) g):=
 (mV.set f a).trans ((mV.set (aP f 0 a) d).trans (mV.set (aP (aP f 0 a) 1 d) g))
theorem Lp.X5{c:Cx}(a:Lp w0 c b1 b2 W fo)(u:dR W B (aY #[r0,r1,r2] 124))(D:w0.heap.size<=B)(d f g:aC):Lp w0 c b1 b2 (((W.setCell (aN B 0) d).setCell (aN B 1) f).setCell (aN B 2) g) fo:=by
 have C:∀b n z o,qo W b n z o->(((W.setCell (aN B 0) d).setCell (aN B 1) f).setCell (aN B 2) g).heap[b]?=W.heap[b]?:=λb n z o G=>by
  obtain⟨K,I,q⟩:=G.isMap;have h:b≠B:=λe=>by subst e;rw[u]at q;cases q
  rw[q];exact aX (aX (aX q h _) h _) h _
 exact⟨akc a.base D d f g,a.fst.same<|C _ _ _ _ a.fst,a.tV.same<|C _ _ _ _ a.tV,λs v H=>(a.fin s v H).st (zP u d f g) bM bM bM⟩
theorem jg.cells{l:List Dg}(u:jg w v l)(f:Sub w w'):jg w' v l:=by obtain⟨a,b,off,cap,e,C,H,D⟩:=u;refine⟨a,b,off,cap,e,C,H,λi d G=>?_⟩;obtain⟨g,h,q⟩:=D i d G;exact⟨f _ _ g,f _ _ h,f _ _ q⟩
theorem wG{l:List Dg}{a b:Option Addr}{k:Nat}(Q:jg W v l)(Z:dR W B (aY #[X a n k,X b n' k',O e] 124))(h u C:aC):jg (((W.setCell (aN B 0) h).setCell (aN B 1) u).setCell (aN B 2) C) v l:=by
 obtain⟨L,f,off,cap,N,R,hl,S⟩:=Q;refine⟨L,f,off,cap,N,R,hl,λi d V=>?_⟩;obtain⟨H,g,P⟩:=S i d V;have D:f≠B:=λe=>by
  subst e;rw[aj Z]at g;have aa:off+i*3+1<3:=(Array.getElem?_eq_some_iff.1 g).1;have:off+i*3+1=1\/off+i*3+1=2:=by omega
  rcases this with I|I<;>rw[I]at g<;>simp at g
 have G:∀q,bJ W f q=(((W.setCell (aN B 0) h).setCell (aN B 1) u).setCell (aN B 2) C).cell? (aN f q):=λq=>by obtain⟨o,K⟩:∃o,W.heap[f]?=some o:=⟨_,Array.getElem?_eq_getElem<|eH _ _ H⟩;exact(jH<|(aX (aX (aX K D h) D u) D C).trans K.symm).symm
 rw[<-G,<-G,<-G];exact⟨H,g,P⟩
theorem Ck.FU{c:Cx}(d:∀x∈c.l,oO c.m x=0):∀(g:Nat) (s:aS),(Ck.fd c g s).1.length<=8
 | 0,_=>bN _
 | g+1,s=>by
  rw[Ck.fd];cases f:dQ c.l s with
  | none=>exact bN _
  | some i=>
   obtain⟨x,a,_⟩:=iT f;simp only[a];unfold Oj;split;·exact bN _
   ·split;·exact bN _
    ·split;·exact bN _
     ·unfold Sm.ans;split;·exact bN _
      ·split;·exact bN _
       ·split;·exact bN _
        ·split;·exact bN _
         ·show(Sm.inf _ _ _ _ _ _ _).1.length<=8;rw[xB (bG _)];exact(Ai<|d x<|dG a).1
theorem Ck.agm{c:Cx}(a:∀x∈c.l,oO c.m x=0):∀r∈vE c.l (FD c) x,r.length<=1048576:=λr d=>by
 unfold vE at d;obtain⟨y,f,rfl⟩:=iZ.1 d;unfold sc1;split;·exact bE (FU a _ _) bM
 ·rw[dV];exact bE (Ai<|a y (List.mem_filter.1 f).1).1 bM
theorem abZ{l:aJ}(h:Strs w v l):Strs w.drew v l:=h.below (bQ _ _).drew
theorem ab0(w0 w:bI)(c:Cx)(vn vl vk:aC)(b1 b2:Nat)(U:aJ)(fo:aS->Option aC)(g i:Nat)(x:Mo)(vi vv vf:aC)(C:QIn w0 c vn vl vk b1 b2 U)(hA:Lp w0 c b1 b2 w fo)(hO:Xj w0 c vn vl vk b1 b2 g)(hi:dQ c.l x.name=some i)(hx:c.l[i]?=some x)(V:jl w0 c.m (.agg #[A x.name,vi,vv,vf]) x)(hC:Bg w0 vi vf)(hg:Ck.rk c.l x.name<=g):aD 93 #[.agg #[vn,vl,vk,.map<|some b1,.map<|some b2],.agg #[A x.name,vi,vv,vf]] w λe w'=>∃v,e=dz v/\J (ZM w0 c b1 b2 w w'/\FiW w' v (FD c x.name)/\FiD w' v (FD c x.name)):=by
 obtain⟨bf,q,MI,ah,ak,ao⟩:=vC (QU hi hx) C (kK C.form) V hC<|dG hx;have af:J (∀wx I,Lp w0 c b1 b2 wx I->¬Ck.yu c.l x.name x.name->_):=Y (λwx I a Q=>abX w0 wx c vn vl vk b1 b2 U I g i x vi vv vf C a hO hi hx V Q hg);have qL:J (∀wx I,Lp w0 c b1 b2 wx I->¬Ck.yu c.l x.name x.name->_):=Y (λwx I a Q=>XZ w0 wx c vn vl vk b1 b2 U I g i x vi vv vf C a hO hi hx V Q hg);have YR:=Y (λwx (d:bK w0 wx)=>abO c.m wx vk c.l x.name (C.mks.mos.below d) (by have:=(kK C.form).2.1;omega) (Qj V) C.small);obtain⟨⟨a0,n0,c0,rfl⟩,⟨a1,n1,c1,rfl⟩,⟨a2,n2,c2,rfl⟩⟩:=C.forms;obtain⟨hI,hV,hF⟩:=V.split;obtain⟨ia,ib,io,ic,rfl,-⟩:=hI;obtain⟨a3,b3,o3,c3,rfl,-⟩:=hV;obtain⟨a4,b4,o4,c4,rfl,-⟩:=hF;obtain⟨n3,bY⟩:=aV x.imports.length;obtain⟨n4,uV⟩:=aV x.vars.length;obtain⟨n5,JR⟩:=aV x.bq.length;rw[<-bY]at ah ak af qL ⊢;rw[<-uV]at ah af qL ⊢;rw[<-JR]at ah ak af qL ⊢;obtain⟨ad,hY⟩:=aV<|FD c x.name;have HY:=Y hY;rw[<-hY];obtain⟨oL,cb⟩:=bV hA.lt hA.base;obtain⟨W,hW,k0,k1,k2,cv,ax⟩:=al3 w (aY #[X a0 n0 c0,X a1 n1 c1,X a2 n2 c2,.map<|some b1,.map<|some b2] 121) (aY #[A x.name,X ia n3 ic,X a3 n4 c3,X a4 n5 c4] 59)<|aY #[aU,aU,O 0] 124;obtain⟨lH,jG,IJ,iO,Vu⟩:=uh k0 k1 k2 ax<|hA.below ax;clear k0 k1 k2 cv ax hA hO V hC hi hx hg bY uV JR hY C;go_enter func93,ntmps93;go_upto_region 1 with fail;rw[<-hW];clear hW;obtain⟨B,hB⟩:∃B:Bool,(B=true↔Ck.yu c.l x.name x.name):=by
  rcases Classical.em (Ck.yu c.l x.name x.name)with a|a;·exact⟨true,⟨λ_=>a,λ_=>rfl⟩⟩
  ·exact⟨false,⟨λe=>(by cases e),λe=>aM e a⟩⟩
 have HB:=Y hB;have Aw:J (bK W W):=Y<|bQ _ _;have HF:J (∀wx,J (bK W wx)->bJ wx w.heap.size 2=some (X a2 n2 c2)/\bJ wx (w.heap.size+1) 0=some (A x.name)):=Y (λwx a=>⟨(aj (bH lH a) 2).trans rfl,(aj (bH jG a) 0).trans rfl⟩);clear hB;go_cut [17]from 10 (λt wx=>t=.bool B/\J (bK W wx));case first=>
  have x2:=HF W Aw
  go_region_held3 (λwx=>bJ wx w.heap.size 2=some (X a2 n2 c2)/\bJ wx (w.heap.size+1) 0=some (A x.name))
   ((refine HF _ ?_;repeat(first|exact bi|exact Aw|apply iR|apply sZ)))
   (first
    | (go_at_call 147;refine(YR _<|up Vu.base<|gT<|by repeat(first|exact Aw|apply iR)).mono ?_;rintro e w5 ⟨u5,rfl,lQ⟩;obtain⟨R5,bm,bq,P⟩:=lQ.out;have co:=Y bm;have cp:=Y bq;obtain⟨s5,t5,q5,r5,rfl,-⟩:=bq;have bi:J (bK W w5):=Y (up (w:=W) (gT<|by repeat(first|exact Aw|apply iR)) P);clear lQ bm P)
    | (go_at_call 11;refine(kS _ _ R5 x.name<|by repeat(first|exact cp|apply abZ)).mono ?_;rintro e w6 ⟨rfl,cx⟩;subst cx))
  all_goals
   have bA:decide (0<=dU R5 x.name)=B:=by
    have h1:(0<=dU R5 x.name)↔B=true:=Fl.wD.trans<|(co.2 x.name).trans HB.symm;cases d:B with
    | true=>exact gW<|h1.2 d
    | false=>exact iD (λa=>by rw[h1.1 a]at d;cases d)
   rw[bA];clear bA;go_wp2;go_meet;exact⟨rfl,by repeat(first|exact bi|exact Aw|apply iR|apply sZ)⟩
 case rest=>
  obtain⟨rfl,bw⟩:=hcut;have ac:=Y bw.out;obtain⟨bc,oW,mh,bp,bh⟩:=uh (Vu.below ac) (bH lH ac) (bH jG ac) (bH IJ ac)<|up iO ac;have ai:J (w0.heap.size<=w.heap.size+1+1):=Y (by have:=cb.size;omega);clear bw;cases d:B with
  | true =>have HR:=Y<|HB.1 d;have ck:J (ad=([],[⟨8,⟨#[]⟩,x.name⟩],0)):=Y (by rw[HY,bf];unfold Oj;rw[aK HR.out]);have Z:=aj mh 0;have eT:=Y<|aH wc<|aY #[O 8,A ⟨#[]⟩,A x.name] 69;have HD:J (jg (wc.alloc<|aY #[O 8,A ⟨#[]⟩,A x.name] 69) (Tc wc.heap.size 1 1) [⟨8,⟨#[]⟩,x.name⟩]):=Y ((dA.one (At:=qU) (c:=[O 8,A ⟨#[]⟩,A x.name]) (y:=⟨8,⟨#[]⟩,x.name⟩) wc 69 rfl (by simp[Value.oneCell']) rfl).GJ cK);obtain⟨K,ca,cj⟩:=fE (bH bp eT) (bc.below eT)<|up bh eT;obtain⟨r0,r1,r2⟩:=P5 K;obtain⟨z0,z1,z2⟩:=lS (aF K 0) (aF K 1)<|aF K 2;clear d;go_wp2_with fail;generalize wc.alloc (aY #[O 8,A ⟨#[]⟩,A x.name] 69)=W2 at *;have R:=Lv K (aU) (Tc wc.heap.size 1 1)<|O 0;obtain⟨L,f1,N⟩:=P5 R;refine cZ (v:=.agg #[aU,Tc wc.heap.size 1 1,O 0]) (by simp[results,results93,go_sem,L,f1,N]) rfl ?_;rw[ck];exact⟨_,rfl,Y ⟨⟨fo,ca.X5 K ai _ _ _,qd (But.of_below cj) (bE (dN _)<|dN _) _ _ _⟩,⟨_,_,_,rfl,eZ.nil _ _ _ _⟩,⟨_,_,rfl,wG HD K _ _ _⟩⟩⟩
  | false=>
   have al:J (¬Ck.yu c.l x.name x.name):=Y (λa=>by rw[HB.2 a]at d;cases d);have D:J (ad=if (Ck.bl c.l (FD c) x.imports []).2≠0 then ([],[],(Ck.bl c.l (FD c) x.imports []).2)else if bO.once (Ck.bl c.l (FD c) x.imports []).1≠[]then ([],bO.once (Ck.bl c.l (FD c) x.imports []).1,0)else Sm.ans c.ss c.G c.L c.Z c.m x (tN c.l x) (vE c.l (FD c) x)):=Y (by rw[HY,bf];unfold Oj;rw[aI al.out]);have br:=Y<|af wc fo bc al;obtain⟨H,bv⟩:=aV<|Ck.bl c.l (FD c) x.imports [];rw[<-bv]at D br;obtain⟨p0,p1,p2,p3,p4⟩:=ZC5 oW;obtain⟨Z,m1,m2,m3⟩:=xX mh;clear d bv;go_wp2_with fail;refine br.mono ?_;rintro e w3 ⟨u3,rfl,bB⟩;obtain⟨⟨aw,b6,UH⟩,bx⟩:=bB.out;obtain⟨am,aq⟩:=bV b6<|(But.of_below bh).trans UH;have a5:w.heap.size≠b2:=λe=>by have:=oL.out;omega
   have a6:w.heap.size+1≠b2:=λe=>by have:=oL.out;omega
   have a7:w.heap.size+1+1≠b2:=λe=>by have:=oL.out;omega
   obtain⟨bj,bo,f,lG,aa⟩:=uh (UH.at a5 oW) (UH.at a6 mh) (UH.at a7 bp) (And.intro a5<|And.intro a6 a7) bx;obtain⟨ua,ub,uo,uc,rfl,-⟩:=bx;obtain⟨un,bb⟩:=aV<|(blD H).length;rw[<-bb]at aa ⊢;have S:=Y bb;clear bB b6 UH a5 a6 a7 bb p0 p1 p2 p3 p4 Z m1 m2 m3;obtain⟨E3,ay⟩:=aV H.2;have ab:=Y ay;rw[<-ay];clear ay;by_cases hE:E3=0
   ·subst hE;have TG:J (blD H=bO.once H.1):=Y (aI (by rw[<-ab];simp));rw[aI (by rw[<-ab];simp)]at D;by_cases aE:un=0;·subst aE;have b5:bO.once H.1=[]:=qp.1 (by rw[<-TG];exact S.symm);rw[aI (by rw[b5];simp)]at D;obtain⟨p0,p1,p2,p3,p4⟩:=ZC5 bj;obtain⟨Z,m1,m2,m3⟩:=xX bo;have cq:=Y<|qL w3 aw am al;clear b5;go_wp2_with fail;refine cq.mono ?_;rintro e w4 ⟨ku,su,rfl,bL⟩;obtain⟨⟨cu,a8,UJ⟩,aA,a9⟩:=bL.out;obtain⟨ce,cr,cm,cl,cn⟩:=uh a8 (aq.trans UJ) (UJ.at lG.1 bj) (UJ.at lG.2.1 bo)<|UJ.at lG.2.2 f;have ag:J (∀s,∀y∈(FD c s).1,XI U y):=Y (λs y h=>XY q.uni _ s y h);have cd:J (∀y∈tN c.l x,y∈c.l):=Y (λy h=>(List.mem_filter.1 h).1);have ch:J (∀r∈vE c.l (FD c) x,r.length<=1048576/\∀y∈r,y.gY.length<=1048576/\∀u∈y.gY,u.size<=maxLen):=Y (λr Q=>⟨agm MI.2.2.1 r Q,λy h=>⟨ZL q.uni.len ag r Q y h,λu hu=>q.uni.size u<|(QO q.uni ao ag).eF r Q y h u hu⟩⟩);have ct:J (mQ w4 c.m (X a0 n0 c0) (X a1 n1 c1) (X ia n3 ic) (X a3 n4 c3) (X a4 n5 c4) ku su (aU) c.ss c.G c.L c.Z x (tN c.l x) (vE c.l (FD c) x) []):=Y (by have d:=a8.base;exact⟨q.strs.below d,q.Q5.below d,ah.below d,ak.below d,alZ aA (by have h1:=QS c.l x;have h2:=MI.2.1;omega) d,aiZ a9 (by rw[Ls];have h1:=QS c.l x;have h2:=MI.2.1;omega) ch,⟨none,0,0,0,rfl,λa=>aM a cK,by simp,λi y h=>by simp at h⟩,q.small x ao,λy h=>q.small y<|cd y h,q.tab.below d,ZL q.uni.len ag,λy h=>by cases h⟩);have bk:=Y<|Gp c.m w4 _ _ _ _ _ _ _ c.ss c.G c.L c.Z x (tN c.l x) (vE c.l (FD c) x) U ct<|QO q.uni ao ag;rw[<-D]at bk;obtain⟨cD,cF,bS⟩:=aA.form;obtain⟨cH,cI,ae⟩:=a9.form;generalize (tN c.l x).length=cG at bS;generalize (vE c.l (FD c) x).length=cJ at ae;subst bS ae;clear bL a8 UJ aA a9 p0 p1 p2 p3 p4 Z m1 m2 m3;obtain⟨l0,l1⟩:=jv cm;obtain⟨Z,m1,m2,m3⟩:=xX cl;go_wp2_with fail;refine bk.mono ?_;rintro e w5 ⟨v5,u5,rfl,lQ⟩;obtain⟨ba,bz,P⟩:=lQ.out;obtain⟨cg,be⟩:=bV (ba.old<|bN _) bz;obtain⟨b7,b8,ae⟩:=ba.form;obtain⟨au,cz,cA,av,rfl,-⟩:=bz;obtain⟨b9,bs⟩:=aV ad.1.length;obtain⟨bu,ar⟩:=aV ad.2.1.length;obtain⟨E5,az⟩:=aV ad.2.2;rw[<-bs]at ae;subst ae;rw[<-ar]at be ⊢;rw[<-az];obtain⟨cc,GQ,cf,Ec,G⟩:=uh ar az (ce.below P) (cr.trans<|But.of_below P)<|bH cn P;obtain⟨r0,r1,r2⟩:=P5 G;obtain⟨z0,z1,z2⟩:=lS (aF G 0) (aF G 1)<|aF G 2;clear lQ ba P bs ar az l0 l1 Z m1 m2 m3;go_wp2_with fail;have R:=Lv G (X b7 b9 b8) (X au bu av)<|O E5;obtain⟨L,f1,N⟩:=P5 R;refine cZ (v:=.agg #[X b7 b9 b8,X au bu av,O E5]) (by simp[results,results93,go_sem,L,f1,N]) rfl ?_;exact⟨_,rfl,Y ⟨⟨cu,cf.X5 G ai _ _ _,qd Ec (bE (dN _)<|dN _) _ _ _⟩,⟨_,au,av,by rw[<-cc,<-GQ],qK cg (zP G _ _ _) bM bM bM⟩,⟨_,_,by rw[<-GQ],wG be G _ _ _⟩⟩⟩
    ·have b0:bO.once H.1≠[]:=λa=>aE (by rw[S,TG,a];rfl);rw[aK b0]at D;have cC:0<un:=by omega
     obtain⟨r0,r1,r2⟩:=P5 f;obtain⟨z0,z1,z2⟩:=lS (aF f 0) (aF f 1)<|aF f 2;rw[TG]at aa S;clear b0 aE;go_wp2_with fail;have R:=Lv f (aU) (X ua un uc)<|O 0;obtain⟨L,f1,N⟩:=P5 R;refine cZ (v:=.agg #[aU,X ua un uc,O 0]) (by simp[results,results93,go_sem,L,f1,N]) rfl ?_;rw[D];exact⟨_,rfl,Y ⟨⟨aw,am.X5 f ai _ _ _,qd aq (bE (dN _)<|dN _) _ _ _⟩,⟨_,ua,uc,by rw[<-S],eZ.nil _ _ _ _⟩,⟨_,_,rfl,wG aa f _ _ _⟩⟩⟩
   ·have hz:=eO hE;rw[aK (by rw[<-ab];exact hE),<-ab]at D;have TG:J (blD H=[]):=Y (aK (by rw[<-ab];exact hE));rw[TG]at aa S;have cw:un=0:=S.out;obtain⟨r0,r1,r2⟩:=P5 f;obtain⟨z0,z1,z2⟩:=lS (aF f 0) (aF f 1)<|aF f 2;clear hE;subst cw;go_wp2_with fail;have R:=Lv f (aU) (X ua 0 uc)<|O E3;obtain⟨L,f1,N⟩:=P5 R;refine cZ (v:=.agg #[aU,X ua 0 uc,O E3]) (by simp[results,results93,go_sem,L,f1,N]) rfl ?_;rw[D];exact⟨_,rfl,Y ⟨⟨aw,am.X5 f ai _ _ _,qd aq (bE (dN _)<|dN _) _ _ _⟩,⟨_,ua,uc,rfl,eZ.nil _ _ _ _⟩,⟨_,_,rfl,wG aa f _ _ _⟩⟩⟩
theorem MW{a:Type}{P:Program}{R:aC->Option (DataW a × List MemPlace)}{D:DataW a}(g:w.ownsMap P k R b n D):w.ownsMap P k R b (Maps.size D) D:=by obtain⟨f,d,h,F,q,rfl⟩:=g;exact⟨f,d,h,F,by simp[Maps.size,length_sorted],rfl⟩
theorem qo.ase{w:World}{z:Value}{o:ByteArray->Option Value}{e:TypeId}(f:prog.underlying t=some (.map 9 e))(q:qo w b n z o)(I:n<maxLen){s:ByteArray}(g:s.size<=maxLen)(v:Value)(C:o s=none->n+1<=n')(L:n<=n'):∃w',(Instr.mapUpdate t (.map<|some b) (.string s) v).run prog w=.ok () w'/\qo w' b n' z (oQ o s v)/\w.grownBy w' (some b):=by
 obtain⟨D,d,h⟩:=q;obtain⟨w',e,G,H⟩:=d.update uY f I (keyOf_string_mk underlying9 g)<|show sW v=some (.held v,[])from rfl;refine⟨w',e,qo.mono (n:=Maps.size<|D.put (.string s.data.toList)<|.held v) ⟨_,MW G,λt f=>?_⟩ ?_,H⟩
 ·cases a:cB t s with
  | true =>have:=key_eq a;subst this;rw[has_put_same d.isMap (show WideAt.IsKeyLit (.string t.data.toList)from trivial),atKey_put_same d.isMap<|show WideAt.IsKeyLit (.string t.data.toList)from trivial];simp[oQ,a]
  | false =>rw[has_put_other (yV a),atKey_put_other<|yV a];simpa[oQ,a]using h t f
 ·have N:=d.size_le;rw[size_put (d.tidy uY),(h s g).1];cases K:o s with
  | none=>have:=C K;simp;omega
  | some u=>simp;omega
theorem But.agp(hg:w.grownBy w' (some p)):But p w w':=⟨hg.os,hg.tape,hg.output,hg.size,λk a d=>hg.block k a (λe=>d<|by injection e)⟩
theorem Ck.ab1(l:List Mo)(fo:aS->Option aC)(s:aS)(v:aC):Ck.cntF l fo<=Ck.cntF l (oQ fo s v):=by
 unfold Ck.cntF;induction l with
 | nil=>exact bG _
 | cons x l a=>
  simp only[List.filter_cons];cases d:(fo x.name).isSome with
  | true=>
   have:(oQ fo s v x.name).isSome=true:=by
    unfold oQ;split;·rfl
    ·exact d
   rw[this];simp;exact a
  | false=>
   cases(oQ fo s v x.name).isSome with
   | true=>simp;omega
   | false=>simpa using a
theorem FiW.form{y:Ck.Fi}(d:FiW w v y):∃a n c b k,v=.agg #[X a n c,X b y.2.1.length k,O y.2.2]:=by obtain⟨h,b,k,e,f⟩:=d;obtain⟨a,c,g⟩:=f.form;exact⟨a,_,c,b,k,by rw[e,g]⟩
theorem agq(w0:bI)(c:Cx)(vn vl vk:aC)(b1 b2:Nat)(U:aJ)(g:Nat)(S:QIn w0 c vn vl vk b1 b2 U)(hO:Xj w0 c vn vl vk b1 b2 g):Xj w0 c vn vl vk b1 b2 (g+1):=by
 intro w fo s hA a8 b8 a9;obtain⟨i,hi⟩:=sF.1 a8;obtain⟨x,hx,ca⟩:=iT hi;subst ca;have be:=dG hx;obtain⟨bm,ah⟩:=bV be<|Ck.rJ hi;obtain⟨ka,kb,ko,kc,aE,aq,b6,aw⟩:=S.mks;obtain⟨vi,vv,vf,g0,g1,g2,g3,hM,hC⟩:=aw i x hx;have OI:=Y (λwx IL (I:Lp w0 c b1 b2 wx IL)=>ab0 w0 wx c vn vl vk b1 b2 U IL g i x vi vv vf S I hO hi hx hM hC bC);obtain⟨⟨a0,n0,c0,rfl⟩,⟨a1,n1,c1,rfl⟩,-⟩:=S.forms;obtain⟨nk,a6⟩:∃n,n=c.l.length:=⟨_,rfl⟩;rw[<-a6]at aE aq ah;subst aE;have bu:=aq (by have:=ah.out;omega);subst bu;have hs:=hM.split;obtain⟨hI,hV,hF⟩:=hs;obtain⟨ia,ib,io,ic,rfl,-⟩:=hI;obtain⟨a3,b3,o3,c3,rfl,-⟩:=hV;obtain⟨a4,b4,o4,c4,rfl,-⟩:=hF;obtain⟨n3,a5⟩:∃n,n=x.imports.length:=⟨_,rfl⟩;obtain⟨n4,uV⟩:∃n,n=x.vars.length:=⟨_,rfl⟩;obtain⟨n5,JR⟩:∃n,n=x.bq.length:=⟨_,rfl⟩;rw[<-a5]at g1 OI;rw[<-uV]at g2 OI;rw[<-JR]at g3 OI;obtain⟨HG,Ae,bh,lG,oL,af⟩:=vC (And.intro g0<|And.intro g1<|And.intro g2 g3) a9 S.q2 S.ne hA.lt hA.base;obtain⟨aa,hY⟩:∃y,y=FD c x.name:=⟨_,rfl⟩;have HY:=Y hY;rw[<-hY]at OI ⊢;have KZ:J (Ck.fi c.l x.name=some (O (i:Nat))):=Y (by unfold Ck.fi;rw[hi];rfl);have bf:J (c.l.length<=6):=Y (kK S.form).2.1;obtain⟨W,hW,k0,k1,ba,am⟩:=AL w (aY #[X a0 n0 c0,X a1 n1 c1,X (some<|aN kb ko) nk kc,.map<|some b1,.map<|some b2] 121)<|aY #[aU,aU,O 0] 124;obtain⟨lH,jG,iO,Vu,Ra⟩:=uh k0 k1 am (hA.below am) ba;clear k0 k1 ba am hA hM hC hi hx be b8 a9 S hO a8 g0 g1 g2 g3 aq b6 aw a5 uV JR a6 hY;have q3:=aj lH.out 4;have LK:=Vu.out.tV.sS underlying119 alX Ae.out;go_enter func42,ntmps42;go_upto_region 1 with fail;rw[<-hW];clear hW;cases V:fo x.name with
 | some v0 =>have av:=Y<|Vu.out.fin x.name v0 V;obtain⟨C,G,D,d,f,au⟩:=av.out.form;rw[<-HY.out]at au;obtain⟨h,ad⟩:∃n,n=aa.2.1.length:=⟨_,rfl⟩;obtain⟨u,ab⟩:∃e,e=aa.2.2:=⟨_,rfl⟩;rw[<-ad,<-ab]at au;subst au;rw[V]at LK;simp only[gD,nD]at LK;obtain⟨K,EW⟩:=sO W<|aY #[X C G D,X d h f,O u] 124;have Tw:J (¬fo x.name=none):=Y (by rw[V];simp);clear ad ab V;go_upto_region 2 with fail;obtain⟨L,P,ag,ax⟩:=lD (bH jG.out K.out) (Vu.out.below K.out) (up iO.out K.out)<|av.out.below K.out;rw[<-HY.out]at ax;generalize W.alloc (aY #[X C G D,X d h f,O u] 124)=W2 at *;generalize W.heap.size=H at *;clear LK q3;obtain⟨y0,y1,y2⟩:=P5 EW.out;obtain⟨r0,r1,r2⟩:=P5 L.out;obtain⟨z0,z1,z2⟩:=lS (aF L.out 0) (aF L.out 1)<|aF L.out 2;go_wp2_with fail;have hs:=Lv L.out (X C G D) (X d h f)<|O u;obtain⟨f0,f1,f2⟩:=P5 hs;refine cZ (v:=.agg #[X C G D,X d h f,O u]) (by simp[results,results42,go_sem,f0,f1,f2]) rfl ?_;exact⟨_,rfl,Y ⟨⟨fo,P.out.X5 L.out (by have:=af.out.size;omega) _ _ _,qd (But.of_below ag.out) (dN _) _ _ _⟩,ax.out.st (zP L.out _ _ _) bM bM bM,λI=>aM I Tw.out⟩⟩
 | none=>
  rw[V]at LK;simp only[lK,nE,zFi]at LK;obtain⟨K,EW⟩:=sO W<|aY #[aU,aU,O 0] 124;clear V;go_upto_region 3 with fail;obtain⟨Ui,L,P,ag⟩:=lD (bH lH.out K.out) (bH jG.out K.out) (Vu.out.below K.out)<|up iO.out K.out;generalize W.alloc (aY #[aU,aU,O 0] 124)=W2 at *;obtain⟨H,aA⟩:∃n,n=W.heap.size:=⟨_,rfl⟩;rw[<-aA]at EW ⊢;have Z:J (w.heap.size+1<H/\w.heap.size<=H):=Y (by have:=Ra.out;omega);clear LK q3 aA;have bo:∀k os,(Instr.lookup 117 (.map<|some b1) (A x.name) false).run prog (gn W2 k os)=.ok (O (i:Nat)) (gn W2 k os):=λk os=>by have I:=(P.out.fst.Cw<|bU W2 k os).look underlying117 Dq Ae.out;rw[KZ.out]at I;exact I
  obtain⟨p0,p1,p2,p3,p4,g0,g1⟩:=Ng (bD<|(aj Ui.out 0).trans rfl) (bD<|(aj Ui.out 1).trans rfl) (bD<|(aj Ui.out 2).trans rfl) (bD<|(aj Ui.out 3).trans rfl) (bD<|(aj Ui.out 4).trans rfl) (bD<|aG HG.out.1 P.out.base) (bD<|aG HG.out.2.1 P.out.base);obtain⟨g2,g3⟩:=eY (bD<|aG HG.out.2.2.1 P.out.base)<|bD<|aG HG.out.2.2.2 P.out.base;have b0:(0:Int)<=(i:Int):=by omega
  have b5:(i:Int)<(nk:Int):=by have:=ah.out;omega
  refine gq 9 dw dw ?_;dsimp only[List.take,List.drop];repeat(quiet_step (fail))
  refine wpQuiet_nil ?_;intro w6 b9;obtain⟨⟨nq,cb⟩,bc⟩:=b9;have fD:J (bK W2 w6):=Y (by rw[bc];exact bU W2 nq cb);clear bc p0 p1 p2 p3 p4 g0 g1 g2 g3 b0 b5 bo;have bi:=Y<|P.out.below fD.out;obtain⟨bv,bw,bq,bp,bk⟩:=uh (OI.out w6 fo bi.out) (bH Ui.out fD.out) (bH L.out fD.out) (bH EW.out fD.out)<|up ag.out fD.out;go_wp2_with fail;refine bv.out.mono ?_;rintro e w7 ⟨v7,rfl,Ky⟩;obtain⟨⟨al,a7,UL⟩,ai,ay⟩:=Ky.out;obtain⟨bx,bz⟩:=bV ai ay;obtain⟨C,G,D,d,f,bb⟩:=ai.form;obtain⟨h,ad⟩:∃n,n=aa.2.1.length:=⟨_,rfl⟩;obtain⟨u,ab⟩:∃e,e=aa.2.2:=⟨_,rfl⟩;rw[<-ad,<-ab]at bb;subst bb;obtain⟨jS,bs,Lm,N⟩:=lD ((But.of_below bk.out).trans UL) (UL.at (show w.heap.size≠b2 from λe=>by have:=oL.out;omega) bw.out) (UL.at (show w.heap.size+1≠b2 from λe=>by have:=oL.out;omega) bq.out) (UL.at (show H≠b2 from λe=>by have:=oL.out;have:=Z.out;omega) bp.out);obtain⟨y0,y1,y2⟩:=P5 N.out;obtain⟨GQ,R,xu,Eb,bA⟩:=uh ab (a7.X5 N.out (by have:=af.out.size;have:=Z.out;omega) (X C G D) (X d h f) (O u)) (qd jS.out Z.out.2 (X C G D) (X d h f)<|O u) (Lv N.out (X C G D) (X d h f)<|O u) (bx.out.st (zP N.out (X C G D) (X d h f)<|O u) bM bM bM);obtain⟨z0,z1,z2⟩:=lS (aF N.out 0) (aF N.out 1)<|aF N.out 2;have bB:J (jg (((w7.setCell (aN H 0)<|X C G D).setCell (aN H 1) (X d h f)).setCell (aN H 2) (O u)) (X d h f) aa.2.1):=Y (by
   obtain⟨vs,vd,e,I⟩:=bz.out;injection e with e;have e2:X d h f=vd:=by have:=congrArg (λa:Array Value=>a[1]?) e;simpa using this
   rw[e2];exact wG I N.out _ _ _)
  have ao:∀(q:Nat) o,q≠H->w7.heap[q]?=some o->(((w7.setCell (aN H 0)<|X C G D).setCell (aN H 1) (X d h f)).setCell (aN H 2) (O u)).heap[q]?=some o:=λq o hq ho=>aX (aX (aX ho hq _) hq _) hq _;obtain⟨bL,bS⟩:=bV (ao w.heap.size _ (by have:=Z.out;omega) bs.out) (ao (w.heap.size+1) _ (by have:=Z.out;omega) Lm.out);clear Ky a7 UL ai ay ad ab ao;go_upto_region 4 with fail;clear y0 y1 y2 z0 z1 z2;generalize (((w7.setCell (aN H 0)<|X C G D).setCell (aN H 1) (X d h f)).setCell (aN H 2) (O u))=W8 at *;have q4:=aj bL.out 4;obtain⟨y0,y1,y2⟩:=P5 Eb.out;obtain⟨w9,UP,a2,ae⟩:=R.out.tV.ase (n':=Ck.cntF c.l<|oQ al x.name<|.agg #[X C G D,X d h f,O u]) underlying119 (by have h1:=aiW c.l al;have h2:=bf.out;unfold maxLen;omega) Ae.out (.agg #[X C G D,X d h f,O u]) (λI=>af9 bm.out I _) (ab1 _ _ _ _);have ac:=But.agp ae;have ak:mV 4 W8 w9:=mV.but ac R.out.tV.isMap;have az:=Y<|bA.out.st ak bM bM bM;have bj:J (Lp w0 c b1 b2 w9<|oQ al x.name<|.agg #[X C G D,X d h f,O u]):=Y ⟨Below.grown R.out.base ae R.out.base.size (λk e=>by injection e with e;rw[<-e];exact bh.out),R.out.fst.kept ae (λe=>by injection e with e;exact lG.out e),a2,λt v ht=>by
   unfold oQ at ht;cases ar:cB t x.name with
   | true =>rw[ar]at ht;simp only[if_true]at ht;cases ht;have:=dM.1 ar;subst this;rw[<-HY.out];exact az.out
   | false =>rw[ar]at ht;exact(R.out.fin t v ht).st ak bM bM bM⟩
  obtain⟨Ci,br,Q⟩:=fE (xu.out.trans ac) (ac.at (show H≠b2 from λe=>by have:=oL.out;have:=Z.out;omega) Eb.out) (ac.at (show w.heap.size+1≠b2 from λe=>by have:=oL.out;omega) bS.out);have bY:J (jg w9 (X d h f) aa.2.1):=Y (bB.out.cells (λa v ha=>by
   have b7:a.block≠b2:=λe=>by obtain⟨es,cl,hq⟩:=R.out.tV.isMap;rw[<-e]at hq;simp[World.cell?,hq]at ha
   have hb:=ac.block a.block (eH _ _ ha) b7;exact(jH hb).trans ha))
  clear a2 ae ac ak;go_upto_region 5 with fail;clear q4 y0 y1 y2;obtain⟨y0,y1,y2⟩:=P5 br.out;obtain⟨r0,r1,r2⟩:=P5 Q.out;obtain⟨z0,z1,z2⟩:=lS (aF Q.out 0) (aF Q.out 1)<|aF Q.out 2;go_wp2_with fail;have hs:=Lv Q.out (X C G D) (X d h f)<|O u;obtain⟨f0,f1,f2⟩:=P5 hs;refine cZ (v:=.agg #[X C G D,X d h f,O u]) (by simp[results,results42,go_sem,f0,f1,f2]) rfl ?_;exact⟨_,rfl,Y ⟨⟨_,bj.out.X5 Q.out (by have:=af.out.size;omega) _ _ _,qd Ci.out (dN _) _ _ _⟩,az.out.st (zP Q.out _ _ _) bM bM bM,λ_=>⟨_,_,by rw[<-GQ.out],wG bY.out Q.out _ _ _⟩⟩⟩
theorem ZO(w0:bI)(c:Cx)(vn vl vk:aC)(b1 b2:Nat)(U:aJ)(a:QIn w0 c vn vl vk b1 b2 U):∀g,Xj w0 c vn vl vk b1 b2 g
 | 0=>λ_ _ _ _ _ d=>aM d<|fU _
 | g+1=>agq w0 c vn vl vk b1 b2 U g a<|ZO w0 c vn vl vk b1 b2 U a g
noncomputable def Ck.an(c:Cx)(name:ByteArray):Ck.Fi:=
 if nN (dD c.ss c.G c.L c.Z) c.m c.l≠0 then ([],[],nN (dD c.ss c.G c.L c.Z) c.m c.l)
 else if (dQ c.l name).isSome=false then ([],[],4)else FD c name
theorem asu{u C:aC}(q:dR W B (.cells #[r0,r1,r2,u,C] t (0,0)))(a d f g h:aC):(((((W.setCell (aN B 0) a).setCell (aN B 1) d).setCell (aN B 2) f).setCell (aN B 3) g).setCell (aN B 4) h).heap[B]?=some (.cells #[a,d,f,g,h] t (0,0)):=by rw[aP (aP (aP (aP (aP q 0 a) 1 d) 2 f) 3 g) 4 h];rfl
theorem ad6(u:Below n w W)(a:n<=B)(d f g h q:aC):Below n w (((((W.setCell (aN B 0) d).setCell (aN B 1) f).setCell (aN B 2) g).setCell (aN B 3) h).setCell (aN B 4) q):=
 ((((u.setCell (p:=(aN B 0)) a d).setCell (p:=(aN B 1)) a f).setCell (p:=(aN B 2)) a g).setCell (p:=(aN B 3)) a h).setCell (p:=(aN B 4)) a q
theorem UN(d:qo W b n z o)(D:dR W B (.cells cs t (0,0)))(f g h u C:aC):qo (((((W.setCell (aN B 0) f).setCell (aN B 1) g).setCell (aN B 2) h).setCell (aN B 3) u).setCell (aN B 4) C) b n z o:=by
 obtain⟨H,G,q⟩:=d.isMap;have a:b≠B:=λe=>by subst e;rw[D]at q;cases q
 refine d.same ?_;rw[q];exact aX (aX (aX (aX (aX q a _) a _) a _) a _) a _
theorem CJ(f:dR W B (.cells #[r0,r1] t (0,0)))(a d:aC):((W.setCell (aN B 0) a).setCell (aN B 1) d).heap[B]?=some (.cells #[a,d] t (0,0)):=by rw[aP (aP f 0 a) 1 d];rfl
theorem zQ(g:Below n w W)(f:n<=B)(a d:aC):Below n w ((W.setCell (aN B 0) a).setCell (aN B 1) d):=(g.setCell (p:=(aN B 0)) f a).setCell (p:=(aN B 1)) f d
theorem ags(f:dR W B (.cells #[r0,r1] t (0,0)))(a d:aC):mV t W ((W.setCell (aN B 0) a).setCell (aN B 1) d):=(mV.set f a).trans (mV.set (aP f 0 a) d)
theorem agt{l:List Dg}{a b:Option Addr}{k:Nat}(N:jg W v l)(V:dR W B (aY #[X a n k,X b n' k'] 71))(h u:aC):jg ((W.setCell (aN B 0) h).setCell (aN B 1) u) v l:=by
 obtain⟨I,f,off,cap,K,P,Z,Q⟩:=N;refine⟨I,f,off,cap,K,P,Z,λi d S=>?_⟩;obtain⟨D,g,L⟩:=Q i d S;have G:f≠B:=λe=>by
  subst e;rw[aj V]at g;have aa:off+i*3+1<2:=(Array.getElem?_eq_some_iff.1 g).1;have R:off+i*3+1=1:=by omega
  rw[R]at g;simp at g
 have C:∀q,bJ W f q=((W.setCell (aN B 0) h).setCell (aN B 1) u).cell? (aN f q):=λq=>by obtain⟨o,H⟩:∃o,W.heap[f]?=some o:=⟨_,Array.getElem?_eq_getElem<|eH _ _ D⟩;exact(jH<|(aX (aX H G h) G u).trans H.symm).symm
 rw[<-C,<-C,<-C];exact⟨D,g,L⟩
theorem ao8{a:Nat}(h:a<n)(k:n<=b):b≠a:=by omega
theorem EK(KE:bI)(o:Obj)(h:b=KE.heap.size):(KE.alloc o).heap[b]?=some o:=by subst h;exact bF KE o
theorem eG{x:bI}(h:J (bK W x)):J (bK W x.drew):=Y<|h.drew
theorem jU{x:bI}{o:Obj}(h:J (bK W x)):J (bK W<|x.alloc o):=Y<|up h<|aH _ _
theorem agu(h:qo KE b n z o):qo KE.drew b n z o:=h.Cw (bQ _ _).drew
theorem agF(m:Nat)(w:bI)(vn vl vk:aC)(ss:aJ)(G:Nat)(L:Nat->Nat)(Z:aL)(l:List Mo)(name:aS)(U:aJ)(hS:Strs w vn ss)(hR:EX w vl G L Z)(f:xQ w m vk l)(au:∀x∈l,xH m x<=1048576)(ht:Tab w)(hn:name.size<=maxLen)(hU:nN (dD ss G L Z) m l=0->Uk U ss l):aD 20 #[.agg #[vn,vl],vk,A name] w λe w'=>∃vs vd,e=dz (.tuple #[.agg #[vs,vd],O (Ck.an ⟨m,ss,G,L,Z,l⟩ name).2.2])/\J (eZ Ht w' 0 35 6 vs (Ck.an ⟨m,ss,G,L,Z,l⟩ name).1/\jg w' vd (Ck.an ⟨m,ss,G,L,Z,l⟩ name).2.1/\bK w w'):=by
 obtain⟨c,hc⟩:∃c,c=(⟨m,ss,G,L,Z,l⟩:Cx):=⟨_,rfl⟩;have bh:J (∀b1 b2,nN (dD c.ss c.G c.L c.Z) c.m c.l=0->w.heap.size<=b1->w.heap.size<=b2->b1≠b2->QIn w c vn vl vk b1 b2 U):=Y (λb1 b2 hf h1 h2 h3=>by rw[hc]at hf ⊢;exact⟨hS,hR,f,hf,au,ht,h1,h2,h3,hU hf⟩);have OI:=Y (λwx (S:bK w wx)=>ae4 m wx vn vl vk ss G L Z l (hS.below S) (hR.below S) (f.mos.below S) au<|ht.below S);have KZ:=Y (λwx (S:bK w wx) hl=>Cy m wx vk l (f.mos.below S) hl);have Ah:J (∃a n c,vl=X a n c):=Y (by obtain⟨a,b,o,c,H,RB,RO,C,rfl,-⟩:=hR;exact⟨_,_,_,rfl⟩);have bj:J (∃a n c,vn=X a n c):=Y (by obtain⟨a,b,o,c,rfl,-⟩:=hS;exact⟨_,_,_,rfl⟩);have bi:J (∃a n c,vk=X a n c):=Y (by obtain⟨a,b,o,c,rfl,-⟩:=f;exact⟨_,_,_,rfl⟩);have ax:=Y hn;obtain⟨a0,n0,c0,e0⟩:=bj.out;obtain⟨a1,n1,c1,e1⟩:=Ah.out;obtain⟨a2,n2,c2,e2⟩:=bi.out;obtain⟨H,hA⟩:∃H,H=Ck.an c name:=⟨_,rfl⟩;have HA:=Y hA;have ac:dD ss G L Z=dD c.ss c.G c.L c.Z/\m=c.m/\l=c.l:=by rw[hc];exact⟨rfl,rfl,rfl⟩
 rw[<-hc,<-hA];rw[ac.1,ac.2.1,ac.2.2]at OI;rw[ac.2.2]at KZ;obtain⟨E,hE⟩:∃E,E=nN (dD c.ss c.G c.L c.Z) c.m c.l:=⟨_,rfl⟩;have HE:=Y hE;rw[<-hE]at OI;subst e0 e1 e2;clear hc hS hR f au ht hU hA hE ac hn;obtain⟨W,hW,k0,k1,bw,al⟩:=AL w (aY #[X a0 n0 c0,X a1 n1 c1] 25)<|aY #[aU,aU] 71;obtain⟨x0,x1⟩:=jv k0;obtain⟨lH,jG,iO,ba⟩:=lD k0 k1 al<|OI.out W al;clear k0 k1 bw al;go_enter func20,ntmps20;go_upto_region 1 with fail;rw[<-hW];clear hW;go_wp2_with fail;refine ba.out.mono ?_;rintro e w1 ⟨rfl,ag⟩;obtain⟨ad,oW,mh⟩:=fE (up iO.out ag) (bH lH.out ag)<|bH jG.out ag;clear ag x0 x1;by_cases af:E=0
 ·subst af;have ae:J (nN (dD c.ss c.G c.L c.Z) c.m c.l=0):=Y HE.out.symm;have ay:=Y (kK ae.out).2.1;have Aw:J (bK w1 w1):=Y<|bQ _ _;have bv:=@run_makeMap prog;go_upto_region 4 with fail;go_cut [9]from 13 (λp x=>∃UF b1 b2,p=gK UF/\J (b1≠b2/\w1.heap.size<=UF/\w1.heap.size<=b1/\w1.heap.size<=b2/\dR x UF (aY #[X a0 n0 c0,X a1 n1 c1,X a2 n2 c2,.map<|some b1,.map<|some b2] 121)/\qo x b1 1048576 (O 0) (Ck.fi c.l)/\qo x b2 0 zFi (λ_=>none)/\bK w1 x));case first=>
   rename_i Q9 K9 h9 J9 L9 h8 h7;clear h9;have Vt:J (∀x,J (bK w1 x)->bJ x w.heap.size 0=some (X a0 n0 c0)/\bJ x w.heap.size 1=some (X a1 n1 c1)):=Y (λx I=>⟨(aj (bH oW.out I.out) 0).trans rfl,(aj (bH oW.out I.out) 1).trans rfl⟩);refine dx [some true,some false,some false,none,none,none,none,none] 7 (λx=>bJ x w.heap.size 0=some (X a0 n0 c0)/\bJ x w.heap.size 1=some (X a1 n1 c1)) 5 dw dw (λ_ _ d _ _ D=>(by cases d<;>exact D)) (Vt.out _<|eG Aw) ?_;dsimp only[gB];repeat(first|(refine fO (v:=?_) dH ?_ ?_;rotate_left 1;(focus(intro w;go_simp;try(with_reducible rfl)));simp only[Act.put,dS,dY,eX])|(refine fP (v:=?_) dH ?_ ?_;rotate_left 1;(focus(intro w ao;obtain⟨q0,q1⟩:=ao;go_simp;try(with_reducible rfl)));simp only[Act.put,dS,dY,eX]))
   refine dW ?_;refine nG ?_;intro x I;have N:J (bK w1 x):=by rw[I];exact(by repeat(first|with_reducible exact Aw|with_reducible refine eG ?_))
   clear I;have H0:J (bK x x):=Y<|bQ _ _
   iterate 4 (
    all_goals rename World=>KE
    all_goals first
     | refine aT (i:=6) (by decide +kernel) dH (λK f=>?_)
     | refine aT (i:=5) (by decide +kernel) dH (λK f=>?_)
     | refine aT (i:=4) (by decide +kernel) dH (λK f=>?_)
     | refine aT (i:=3) (by decide +kernel) dH (λK f=>?_)
     | refine gG (i:=5) (k:=6) (by decide +kernel) dH dH (λK f=>?_) (λK f=>?_)
     | refine gG (i:=3) (k:=4) (by decide +kernel) dH dH (λK f=>?_) (λK f=>?_)
     | refine gG (i:=3) (k:=6) (by decide +kernel) dH dH (λK f=>?_) (λK f=>?_)
     | refine gG (i:=4) (k:=6) (by decide +kernel) dH dH (λK f=>?_) (λK f=>?_)
     | refine xC (i:=3) (j:=4) (k:=6) (by decide +kernel) dH dH dH (λK f=>?_) (λK f=>?_) (λK f=>?_)
    all_goals go_simp
    all_goals try(go_at_call 41;refine(KZ.out _ (up ad.out<|gT<|by repeat(first|with_reducible exact N|with_reducible refine eG ?_|with_reducible refine jU ?_)) (by have:=ay.out;omega)).mono ?_;rintro e x ⟨b1,rfl,hh⟩;obtain⟨hm,hg,S⟩:=hh.out;have u:J (bK KE x):=Y (up (gT<|by repeat(first|with_reducible exact H0|with_reducible refine eG ?_|with_reducible refine jU ?_)) S);have HL:=Y hm;replace hg:KE.heap.size<=b1:=bE (gT (by repeat(first|with_reducible exact H0|with_reducible refine eG ?_|with_reducible refine jU ?_)):bK KE _).size hg;have bb:J (w1.heap.size<=b1):=Y<|bE N.out.size hg;(try have lG:=Y<|ao8 HM.out.lt hg);replace N:=Y<|up N.out u.out;(try replace HM:=Y<|HM.out.Cw u.out);(try replace h:=Y<|bH h.out u.out);replace H0:J (bK x x):=Y<|bQ _ _;clear hh hm hg S u;dsimp only)
    all_goals(
     with_reducible refine f.out _ _ (λ_=>Vt.out _<|by repeat(first|with_reducible exact N|with_reducible refine eG ?_|with_reducible refine jU ?_)) ?_
     clear f K
     have aw:=Y N.out.size
     rename World=>KE
     refine nG ?_
     intro x I
     have u:J (bK KE x):=by rw[I];repeat(first|with_reducible exact H0|with_reducible refine eG ?_|with_reducible refine jU ?_)
     first
      | (have HM:J (qo x KE.heap.size 0 zFi (λ_=>none)):=Y (by rw[I];with_reducible(first|exact qo.new _ _|exact agu<|qo.new _ _));have bc:=aw;try have lG:=Y<|Nat.ne_of_lt HL.out.lt)
      | (have h:J (dR x KE.heap.size<|aY #[aU,aU,aU,.map none,.map none] 121):=Y (by rw[I];with_reducible(first|exact EK _ _ rfl|exact Ll<|EK _ _ rfl));have ai:=aw;try replace HM:=Y<|HM.out.Cw u.out)
      | ((try replace HM:=Y<|HM.out.Cw u.out);(try replace h:=Y<|bH h.out u.out))
     try replace HL:=Y<|HL.out.below u.out
     try replace h:=Y<|bH (w:=KE) h.out u.out
     replace N:=Y<|up N.out u.out
     clear I
     replace H0:J (bK x x):=Y<|bQ _ _))
   all_goals(
    refine aT (i:=7) dw dH (λK f=>?_)
    have o0:=aj h.out 0
    have z0:=aF h.out 0
    obtain⟨-,o1⟩:=jv h.out
    have z1:=aF h.out 1
    have o2:=aj h.out 2
    have z2:=aF h.out 2
    have o3:=aj h.out 3
    have z3:=aF h.out 3
    have o4:=aj h.out 4
    have z4:=aF h.out 4
    go_simp
    with_reducible refine f.out _ _ (λD=>aM (D.symm.trans dw) iJ) ?_
    clear f K
    clear o0 o1 o2 o3 o4 z0 z1 z2 z3 z4
    refine dP dw ?_ _
    go_wp2_with fail
    go_meet
    exact⟨_,b1,_,rfl,Y ⟨lG.out,ai.out,bb.out,bc.out,asu h.out _ _ _ _ _,UN (HL.out.caM.mono<|show Ck.cnt c.l c.l.length<=1048576 from bE (KY _ _) (by have:=ay.out;omega)) h.out _ _ _ _ _,UN HM.out h.out _ _ _ _ _,ad6 N.out ai.out _ _ _ _ _⟩⟩)
  case rest=>
   obtain⟨UF,b1,b2,rfl,aA⟩:=hcut;obtain⟨a6,a5,a3,a4,ho,ar,ah,aq⟩:=aA.out;have mX:J (w.heap.size<=w1.heap.size):=Y ad.out.size;have bq:=Y<|bh.out b1 b2 ae.out (bE mX.out a3) (bE mX.out a4) a6;obtain⟨h,WC⟩:=bV ho<|up ad.out aq;have bf:J (Lp w c b1 b2 wc (λ_=>none)):=Y ⟨WC.out,ar,ah.mono<|bN _,λs v hs=>by cases hs⟩;obtain⟨ai,ab⟩:=bV a5<|bH mh.out aq;have be:J (w.heap.size+1≠b2):=Y (λe=>by have h1:=aR mh.out;omega);have q3:=aj ho 3;have LK:=ar.sS underlying117 Dq ax.out;clear aA a6 a5 a3 a4 ho ar ah aq bv;cases aa:dQ c.l name with
   | none=>
    have e1:Ck.fi c.l name=none:=by unfold Ck.fi;rw[aa];rfl
    rw[e1]at LK;simp only[lK,nE]at LK;have TH:J (H=([],[],4)):=Y (by rw[HA.out];unfold Ck.an;rw[aI (by rw[ae.out];simp),aK (by rw[aa];rfl)]);obtain⟨r0,r1⟩:=jv ab.out;obtain⟨z0,z1⟩:=eY (aF ab.out 0)<|aF ab.out 1;clear aa e1;go_wp2_with fail;have hs:=CJ ab.out (aU)<|aU;obtain⟨f0,f1⟩:=jv hs;refine cZ (v:=.tuple #[.agg #[aU,aU],O 4]) (by simp[results,results20,go_sem,f0,f1]) rfl ?_;rw[TH.out];exact⟨_,_,rfl,Y ⟨eZ.nil _ _ _ _,Aj _ _,zQ WC.out (dN _) _ _⟩⟩
   | some i=>
    have e1:Ck.fi c.l name=some (O (i:Nat)):=by unfold Ck.fi;rw[aa];rfl
    rw[e1]at LK;simp only[gD,nD]at LK;have av:(dQ c.l name).isSome=true:=by rw[aa];rfl
    have TH:J (H=FD c name):=Y (by rw[HA.out];unfold Ck.an;rw[aI (by rw[ae.out];simp),aI (by rw[av];simp)]);have qL:=Y<|ZO w c _ _ _ b1 b2 U bq.out (Ck.rk c.l name+1) wc (λ_=>none) name bf.out av (Nat.lt_succ_self _) ax.out;rw[<-TH.out]at qL;obtain⟨p0,p1,p2,-,p4⟩:=ZC5 h.out;clear aa e1 av;go_wp2_with fail;refine qL.out.mono ?_;rintro e w5 ⟨v5,rfl,lQ⟩;obtain⟨⟨bA,a7,Ol⟩,ak,az⟩:=lQ.out;obtain⟨br,bs⟩:=bV (az cK) ak;obtain⟨V,sn,sc,P,Q,a8⟩:=ak.form;obtain⟨R,aE⟩:∃n,n=H.2.1.length:=⟨_,rfl⟩;obtain⟨E5,am⟩:∃e,e=H.2.2:=⟨_,rfl⟩;rw[<-aE,<-am]at a8;subst a8;obtain⟨Xb,bu,eD⟩:=fE am (Ol.at be.out ab.out) a7.base;have rM:J (eZ Ht w5 0 35 6 (X V sn sc) H.1):=Y (by
     obtain⟨vs,a,k,e,D⟩:=bs.out;injection e with e;have e2:X V sn sc=vs:=by have:=congrArg (λa:Array Value=>a[0]?) e;simpa using this
     rw[e2];exact D)
    have bm:J (jg w5 (X P R Q) H.2.1):=Y (by
     obtain⟨vs,vd,e,D⟩:=br.out;injection e with e;have e2:X P R Q=vd:=by have:=congrArg (λa:Array Value=>a[1]?) e;simpa using this
     rw[e2];exact D)
    clear lQ a7 Ol ak az aE am p0 p1 p2 p4 q3 LK;obtain⟨eT,EW⟩:=sO w5<|aY #[X V sn sc,X P R Q,O E5] 124;go_upto_region 9 with fail;obtain⟨bk,fD,pQ,bo⟩:=lD (bH bu.out eT.out) (up eD.out eT.out) (qK rM.out (mV.below (t:=4) eT.out) bM bM bM)<|bm.out.below eT.out;generalize w5.alloc (aY #[X V sn sc,X P R Q,O E5] 124)=W6 at *;generalize w5.heap.size=FB at *;have Vt:J (∀x:bI,dR x FB (aY #[X V sn sc,X P R Q,O E5] 124)->bJ x FB 0=some (X V sn sc)/\bJ x FB 1=some (X P R Q)/\bJ x FB 2=some (O E5)):=Y (λx g=>⟨(aj g 0).trans rfl,(aj g 1).trans rfl,(aj g 2).trans rfl⟩);refine dx [some false,some true,some false,some true,none,none] 5 (λx=>bJ x FB 0=some (X V sn sc)/\bJ x FB 1=some (X P R Q)/\bJ x FB 2=some (O E5)) 2 dw dw (λ_ _ d _ _ D=>(by cases d<;>exact D)) (Vt.out _ EW.out) ?_;dsimp only[gB];repeat(first|(refine fO (v:=?_) dH ?_ ?_;rotate_left 1;(focus(intro w;go_simp;try(with_reducible rfl)));simp only[Act.put,dS,dY,eX])|(refine fP (v:=?_) dH ?_ ?_;rotate_left 1;(focus(intro w ao;obtain⟨q0,q1,q2⟩:=ao;go_simp;try(with_reducible rfl)));simp only[Act.put,dS,dY,eX]))
    refine dW ?_;refine nG ?_;intro w7 a9;have KR:J (bK W6 w7):=Y (by rw[a9];exact(bQ _ _).drew);clear a9;obtain⟨Cc,Lm,kG,MU,bp⟩:=uh (bH EW.out KR.out) (bH bk.out KR.out) (up fD.out KR.out) (qK pQ.out (mV.below (t:=4) KR.out) bM bM bM)<|bo.out.below KR.out;have yM:J (FB≠w.heap.size+1):=Y (λe=>by have h1:=Cc.out;rw[e,Lm.out]at h1;simp at h1);obtain⟨r0,r1⟩:=jv Lm.out;obtain⟨z0,z1⟩:=eY (aF Lm.out 0)<|aF Lm.out 1;refine aT (i:=4) dw dH (λK f=>?_);go_simp;refine f.out _ _ (λ_=>Vt.out _<|aX (aX Cc.out yM.out _) yM.out _) ?_;clear f K;refine aT (i:=5) dw dH (λK f=>?_);go_simp;refine f.out _ _ (λD=>aM (D.symm.trans dw) iJ) ?_;clear f K;refine dP dw ?_ _;go_wp2_with fail;have hs:=CJ Lm.out (X V sn sc)<|X P R Q;obtain⟨f0,f1⟩:=jv hs;refine cZ (v:=.tuple #[.agg #[X V sn sc,X P R Q],O E5]) (by simp[results,results20,go_sem,f0,f1]) rfl ?_;exact⟨_,_,by rw[<-Xb.out],Y ⟨qK MU.out (ags Lm.out _ _) bM bM bM,agt bp.out Lm.out _ _,zQ kG.out (dN _) _ _⟩⟩
 ·have hz:=eO af;have TH:J (H=([],[],E)):=Y (by rw[HA.out];unfold Ck.an;rw[<-HE.out,aK af]);obtain⟨r0,r1⟩:=jv mh.out;obtain⟨z0,z1⟩:=eY (aF mh.out 0)<|aF mh.out 1;clear af;go_wp2_with fail;have hs:=CJ mh.out (aU)<|aU;obtain⟨f0,f1⟩:=jv hs;refine cZ (v:=.tuple #[.agg #[aU,aU],O E]) (by simp[results,results20,go_sem,f0,f1]) rfl ?_;rw[TH.out];exact⟨_,_,rfl,Y ⟨eZ.nil _ _ _ _,Aj _ _,zQ ad.out (dN _) _ _⟩⟩
