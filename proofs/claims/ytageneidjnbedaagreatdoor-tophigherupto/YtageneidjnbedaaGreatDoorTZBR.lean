import Derived.Test.YtageneidjnbedaaGreatDoorTZBQ
import Derived.Test.YtageneidjnbedaaGreatDoorTZBP
set_option maxHeartbeats 0
set_option maxRecDepth 99999
namespace Go.Proofs.YtageneidjnbedaaGreatDoor
open Ck bS bO Rn Sm
open Go.Proofs.Tryz
open Go.RowKit Go.Maps Go.WideMaps
variable{w w' w0 W KE:bI}{m fuel i p n j b1 b2 B b n' k':Nat}{v vn vl vk r0 r1 r2 z:aC}{l:List Mo}{s:aS}{x y:Mo}{t k:TypeId}{fo o:aS->Option aC}{E e:Int}{U ss r:aJ}{cs:Array aC}
theorem Aj(w:bI)(c:Nat):jg w (X none 0 c) []:=⟨none,0,0,c,rfl,λh=>aM h cK,by simp,λi d a=>by simp at a⟩
theorem af2{l:List Fu}(h:mE w m v l){f:Fu}(d:f∈l):∀C∈f.params,C.size<=maxLen:=by obtain⟨i,g,e⟩:=gU.1 d;obtain⟨_,_,_,_,_,_,_,a⟩:=h;obtain⟨_,G,D,_,_,_,_,_,_,_,_,_,_,_,q,_,_⟩:=a i f (by rw[aZ g,e]);obtain⟨_,_,_,_,_,_,_,u,_⟩:=q;exact u
theorem Gp(m:Nat)(w:bI)(vn vl vi vv vf vk vs:aC)(ss:aJ)(G:Nat)(L:Nat->Nat)(Z:aL)(x:Mo)(known:List Mo)(bL:List (List Sc))(U:aJ)(hP:mQ w m vn vl vi vv vf vk vs (aU) ss G L Z x known bL [])(hU:UOk U ss x bL):aD 55 #[.agg #[vn,vl],.agg #[A x.name,vi,vv,vf],vk,vs] w λe w'=>∃v u,e=dz (.tuple #[v,u,O (Sm.ans ss G L Z m x known bL).2.2])/\J (eZ Ht w' w.heap.size 34 6 v (Sm.ans ss G L Z m x known bL).1/\jg w' u (Sm.ans ss G L Z m x known bL).2.1/\bK w w'):=by
 obtain⟨⟨a0,c0,e0⟩,⟨a1,n1,c1,e1⟩,⟨a2,n2,c2,e2⟩,⟨a3,n3,c3,e3⟩,⟨a4,c4,e4,hcap⟩,⟨a5,n5,c5,e5⟩,⟨a6,n6,c6,e6⟩,-⟩:=hP.forms;obtain⟨n0,hn0⟩:∃n,n=ss.length:=⟨_,rfl⟩;obtain⟨n4,uV⟩:∃n,n=x.bq.length:=⟨_,rfl⟩;have vD:=Y uV;rw[<-hn0]at e0;rw[<-uV]at e4;subst e0 e1 e2 e3 e4 e5 e6;have alL:J (n4<=1048576):=Y (by have:=I9 m x.bq;have hw:=hP.small;unfold xH at hw;omega);obtain⟨HP,HU⟩:=bV hP hU;obtain⟨W,hW,k0,k1,hsz,hBW⟩:=AL w (aY #[X a0 n0 c0,X a1 n1 c1] 25) (aY #[A x.name,X a2 n2 c2,X a3 n3 c3,X a4 n4 c4] 47);obtain⟨x0,x1⟩:=jv k0;obtain⟨y0,y1,y2,y3⟩:=xX k1;obtain⟨lH,jG,iO,wV⟩:=lD k0 k1 hBW ((hP.below hBW).Oz);obtain⟨E,hEE⟩:∃E,E=AO (dD ss G L Z) m x known:=⟨_,rfl⟩;obtain⟨Zk,hA⟩:∃Zk,Zk=Sm.ans ss G L Z m x known bL:=⟨_,rfl⟩;obtain⟨GQ,HA⟩:=bV hEE hA;rw[<-hEE]at wV;rw[<-hA];clear k0 k1 hsz hBW hn0 uV hEE hA hP hU hcap;go_enter func55,ntmps55;go_upto_region 1 with fail;rw[<-hW];clear hW;go_wp2_with fail;refine wV.out.mono ?_;rintro e w1 ⟨u,rfl,hu,hnil,hb1⟩;obtain⟨HB1,oW,mh⟩:=fE (up iO.out hb1) (bH lH.out hb1) (bH jG.out hb1);clear x0 x1 y0 y1 y2 y3 hb1;by_cases hE:E=0
 ·subst hE;have HE0:J (AO (dD ss G L Z) m x known=0):=Y GQ.out.symm;have hpd:FX 0 ss x known m=bO.once (D9 ss x known m):=by unfold FX;rw[aK rfl]
  rw[hpd]at hu hnil;by_cases hD:bO.once (D9 ss x known m)=[]
  ·obtain rfl:=hnil hD;have HD:=Y hD;clear hu hnil hpd hD;have y3:=aj mh.out 3;go_wp2_with fail;clear y3;go_loopw[11,13,38] (λd o i wr=>∃(dv ov:aC) (j:Nat),dv=d/\ov=o/\j<=n4/\i=O j/\J (qI ss G L Z m x known bL j=0/\eZ Ht wr w1.heap.size 34 6 ov (Sm.inf ss Z m x known bL j).1/\(j=0->ov=aU)/\dA qU wr w1.heap.size 52 3 dv (Sm.inf ss Z m x known bL j).2/\bK w1 wr)) (λ_ _ i _=>n4 - (intOf i).toNat);exact⟨_,_,0,rfl,rfl,bN _,rfl,Y ⟨rfl,eZ.nil _ _ _ _,λ_=>rfl,dA.nil _ _ _ _,bQ _ _⟩⟩
   obtain⟨d,o,j,rfl,rfl,hj,rfl,HR⟩:=hrel;have qP:=Y (up HB1.out HR.out.2.2.2.2);have HJL:J (j<=x.bq.length):=Y (by rw[<-vD.out];exact hj);have HIE:=Y (QL HU.out HJL.out HR.out.1);have HOL:J ((Sm.inf ss Z m x known bL j).1.length=j):=Y (xB HJL.out);obtain⟨HDL,HUL⟩:=bV (ZB HP.out.small HJL.out HR.out.1) HU.out.len;by_cases hjl:j<n4
   ·obtain⟨f,hf⟩:∃f,x.bq[j]?=some f:=⟨_,aZ (by rw[<-vD.out];exact hjl)⟩;obtain⟨HF,HFM⟩:=bV hf (dG hf);have HFZ:=Y (af2 HP.out.mo.split.2.2 HFM.out);obtain⟨fa,fb,fo,fc,hfe,hfa,hfl,zF⟩:=HP.out.mo.split.2.2;obtain⟨hfz,vp,vb,e0',e1',e2',e3',g0,g1,g2,g3,g4,g5,g6,hpar,QC,hres⟩:=zF j f hf;have aiB:=hfa (by rw[<-vD.out];omega);injection hfe with ee1 ee2 ee3;rw[aiB]at ee1;subst ee1;obtain⟨pa,pb,po,pc,rfl,-⟩:=hpar;obtain⟨ba,bc,rfl⟩:=fH.kC QC;obtain⟨ra,rc,rfl,rfl,rfl,rfl⟩:=hres.shape;obtain⟨np,hnp⟩:∃n,n=f.params.length:=⟨_,rfl⟩;obtain⟨nb,hnb⟩:∃n,n=f.body.length:=⟨_,rfl⟩;obtain⟨nr,hnr⟩:∃n,n=f.result.args.length:=⟨_,rfl⟩;have Ee:=Y hnp;rw[<-hnp]at g1;rw[<-hnb]at g2;rw[<-hnr]at g6;replace g0:=aG g0 qP.out;replace g1:=aG g1 qP.out;replace g2:=aG g2 qP.out;replace g3:=aG g3 qP.out;replace g4:=aG g4 qP.out;replace g5:=aG g5 qP.out;replace g6:=aG g6 qP.out;clear zF hfa hfl ee2 ee3 hfz QC hres hnp hnb hnr hf aiB;obtain⟨oa,oc,ho⟩:=HR.out.2.1.form;rw[HOL.out]at ho;subst ho;go_upto_region 8 with fail;obtain⟨qO,HKF⟩:=sO wr (aY #[A f.name,X pa np pc,X ba nb bc,O f.result.kind,O f.result.n,A f.result.name,X ra nr rc] 82);obtain⟨MU,arB,kG⟩:=fE (HR.out.2.1.below qO.out (λ_ _ h=>h.below qO.out)) (HR.out.2.2.2.1.below qO.out) (up HR.out.2.2.2.2 qO.out);generalize wr.alloc (aY #[A f.name,X pa np pc,X ba nb bc,O f.result.kind,O f.result.n,A f.result.name,X ra nr rc] 82)=W7 at *;obtain⟨arC,HON⟩:=bV HR.out.1 HR.out.2.2.1;generalize wr.heap.size=FK at *;clear g0 g1 g2 g3 g4 g5 g6;obtain⟨aoq,alM,Lm⟩:=fE (up HB1.out kG.out) (bH oW.out kG.out) (bH mh.out kG.out);obtain⟨x0,x1⟩:=jv alM.out;obtain⟨y0,y1,y2,y3⟩:=xX Lm.out;have HPW:J (mQ W7 m (X a0 n0 c0) (X a1 n1 c1) (X a2 n2 c2) (X a3 n3 c3) (X (some (aN fb fo)) n4 c4) (X a5 n5 c5) (X a6 n6 c6) (X oa j oc) ss G L Z x known bL (Sm.inf ss Z m x known bL j).1):=Y (by have h:=HP.out.below aoq.out;exact⟨h.strs,h.Q5,h.mo,h.cap,h.kn,h.sc,Li MU.out (by have:=HOL.out;have:=alL.out;omega) (λy hy u hu=>HU.out.size u ((HIE.out y hy).1 u hu)) (λy hy=>bE (HIE.out y hy).2 HUL.out),h.small,h.smalls,h.tab,h.mg,λy hy=>bE (HIE.out y hy).2 HUL.out⟩);have WC:=Y (Xw m W7 _ _ _ _ _ _ _ _ ss G L Z x known bL _ (j:Int) 40 1000 HPW.out);obtain⟨Ej,hEj⟩:∃E,E=Fl.Vq ss G L Z m x j known bL (Sm.inf ss Z m x known bL j).1 40 1000:=⟨_,rfl⟩;have HEJ:J (qI ss G L Z m x known bL (j+1)=Ej):=Y (by rw[Oe arC.out,hEj]);have HEW:=Y hEj;rw[<-hEj]at WC;clear hEj;go_wp2_with fail;refine WC.out.mono ?_;intro e w8 hh;rcases hh.out with⟨hne,rfl,pR⟩|⟨h0,kn,f',hk,hf',eU,vc,vs',vf',ve,rfl,hpb,pR⟩
    ·have hz:=eO hne;have TH:J (Zk=([],[],Ej)):=Y (by
      have h1:qI ss G L Z m x known bL x.bq.length=Ej:=by have h2:=Od (ss:=ss) (G:=G) (L:=L) (Z:=Z) (m:=m) (x:=x) (known:=known) (bL:=bL) (k:=j+1) (by rw[HEJ.out];exact hne) (x.bq.length - (j+1));rw[show j+1+(x.bq.length - (j+1))=x.bq.length by have:=vD.out;omega]at h2;rw[h2,HEJ.out]
      rw[HA.out];unfold Sm.ans;rw[aI (by rw[HE0.out];simp),aI (by rw[HD.out];simp),h1,aK hne])
     have xW:=Y (up aoq.out pR);clear hh pR hne x0 x1 y0 y1 y2 y3;go_wp2_with fail;refine cZ (v:=.tuple #[aU,aU,O Ej]) (by simp[results,results55,go_sem]) rfl ?_;rw[TH.out];exact⟨_,_,rfl,Y ⟨eZ.nil _ _ _ _,Aj _ _,up xW.out (aH _ _)⟩⟩
    ·obtain rfl:kn=j:=by omega
     rw[HF.out]at hf';obtain rfl:f=f':=Option.some.inj hf';have CF:=Y (EH HF.out (by rw[<-HEW.out];exact h0));have HPE:=Y (Uu HU.out (λy hy=>(HIE.out y hy).1) CF.out);obtain⟨P,hPP⟩:∃P,P=(Fl.gH ss Z x kn known bL (Sm.inf ss Z m x known bL kn).1 f).jd m f:=⟨_,rfl⟩;have HPV:J (PbV w8 eU vc vs' vf' ve P):=Y (by rw[hPP];exact yt.MS CF.out HFM.out HP.out.small HFZ.out HPE.out.1 HPE.out.2 HUL.out HU.out.size hpb);have arD:J (∀wx,yt wx W7.heap.size eU vc vs' vf' ve P->PbV wx eU vc vs' vf' ve P):=Y (λwx h=>by rw[hPP]at h ⊢;exact yt.MS CF.out HFM.out HP.out.small HFZ.out HPE.out.1 HPE.out.2 HUL.out HU.out.size h);have HPO:J (Xx ss.length P):=Y (by rw[hPP];exact CF.out.pb);have zV:J (P.names.length<=40/\P.cons.length<=1000/\P.sinks.length<=2097148):=Y (by rw[hPP];exact⟨CF.out.nm,CF.out.cn,CF.out.sinks HFM.out HP.out.small⟩);have abQ:=Y (tL (ss:=ss) (Z:=Z) (m:=m) (known:=known) (bL:=bL) HF.out);rw[<-hPP]at abQ HPE hpb;obtain⟨HPB,HEF,HCH,HP4⟩:=lD hpb hpb.gY CF.out.chk CF.out.par;have HLV:J (P.mask=0):=Y (by rw[hPP];rfl);obtain⟨na0,nc0,q0⟩:=jc HPV.out.names;obtain⟨na1,nc1,q1⟩:=HPV.out.cons.form;obtain⟨na2,nc2,q2⟩:=HPV.out.sinks.form;obtain⟨na3,nc3,q3⟩:=HPV.out.fr.Hr;obtain⟨na4,nc4,q4⟩:=jc HPV.out.gY;generalize P.names.length=nn0 at q0;generalize P.cons.length=nn1 at q1;generalize P.sinks.length=nn2 at q2;generalize P.fr.length=nn3 at q3;generalize P.gY.length=nn4 at q4;subst q0 q1 q2 q3 q4;rw[<-hPP];obtain⟨lvl,alN⟩:∃n,n=P.level:=⟨_,rfl⟩;rw[<-alN];obtain⟨Vf,TU,arE,xW,arF⟩:=uh alN (MU.out.below pR (λ_ _ h=>h.below pR)) (arB.out.below pR) (up kG.out pR) (bH HKF.out pR);have hEz:Ej=0:=h0;subst hEz;clear hh pR hk hf' hpb hPP alN x0 x1 y0 y1 y2 y3;go_upto_region 11 with fail;obtain⟨qO,HKP⟩:=sO w8 (aY #[X na0 nn0 nc0,X na1 nn1 nc1,X na2 nn2 nc2,X na3 nn3 nc3,O 0,O lvl,X na4 nn4 nc4] 141);obtain⟨aa3,arG,Ac,arH,aor,arI⟩:=vC (TU.out.below qO.out (λ_ _ h=>h.below qO.out)) (arE.out.below qO.out) (up xW.out qO.out) (bH arF.out qO.out) (HPV.out.below qO.out) (HEF.out.below qO.out);have arJ:=Y (HPB.out.Lh qO.out);generalize w8.alloc (aY #[X na0 nn0 nc0,X na1 nn1 nc1,X na2 nn2 nc2,X na3 nn3 nc3,O 0,O lvl,X na4 nn4 nc4] 141)=W9 at *;generalize w8.heap.size=PK at *;have arK:=Y (bH oW.out Ac.out);obtain⟨x0,x1⟩:=jv arK.out;obtain⟨p0,p1,p2,p3,p4,p5,p6⟩:=Cg HKP.out;have IZ:J (nC W9 (X a0 n0 c0) (X a1 n1 c1) ss G L Z):=Y ⟨HP.out.strs.below (up HB1.out Ac.out),HP.out.Q5.below (up HB1.out Ac.out),HCH.out⟩;have HSO:=Y (XB W9 _ _ _ _ _ _ _ 0 lvl ss G L Z P IZ.out aor.out HPO.out zV.out.1 zV.out.2.1 (by have:=zV.out.2.2;omega));simp only[So.cs]at HSO;go_wp2_with fail;refine HSO.out.mono ?_;rintro e w10 ⟨V,vL,vK,rfl,aos⟩;obtain⟨abE,abF,alO,afU,hl0,hk0⟩:=aos.out;have Ni:=Y (And.intro hl0 hk0);clear hl0 hk0;have aot:=Y (arJ.out.Lh afU);have VX:J (QI w10 ⟨X a0 n0 c0,X a1 n1 c1,X na0 nn0 nc0,X na1 nn1 nc1,X na2 nn2 nc2,X na3 nn3 nc3,0,lvl,X na4 nn4 nc4,vL,vK⟩ ss G L Z P V):=Y ⟨IZ.out.below afU,aor.out.below afU,HPO.out,abE,abF.ok,alO⟩;have HVE:J (∀v,v<P.names.length->V v=Sm.least Z ss.length P.names.length P.cons v):=Y (Ul IZ.out.joins abF);obtain⟨la,ln,lc,rfl⟩:=EF abE;obtain⟨ka,kn',kc,rfl⟩:=EF alO;obtain⟨aou,aov,arL,aow,aox⟩:=uh (aa3.out.below afU (λ_ _ h=>h.below afU)) (arG.out.below afU) (up Ac.out afU) (bH arH.out afU) (arI.out.below afU);clear aos abE abF alO afU x0 x1 p0 p1 p2 p3 p4 p5 p6;go_upto_region 12 with fail;obtain⟨qO,Zf⟩:=sO w10 (aY #[X a0 n0 c0,X a1 n1 c1,X na0 nn0 nc0,X na1 nn1 nc1,X na2 nn2 nc2,X na3 nn3 nc3,O 0,O lvl,X na4 nn4 nc4,X la ln lc,X ka kn' kc] 146);obtain⟨aoy,aoz,akC,ajS,ajT,aoA⟩:=vC (aou.out.below qO.out (λ_ _ h=>h.below qO.out)) (aov.out.below qO.out) (up arL.out qO.out) (bH aow.out qO.out) (VX.out.below qO.out) (aox.out.below qO.out);have aoB:=Y (aot.out.Lh qO.out);generalize w10.alloc (aY #[X a0 n0 c0,X a1 n1 c1,X na0 nn0 nc0,X na1 nn1 nc1,X na2 nn2 nc2,X na3 nn3 nc3,O 0,O lvl,X na4 nn4 nc4,X la ln lc,X ka kn' kc] 146)=W11 at *;generalize w10.heap.size=SK at *;obtain⟨s0,s1,s2,s3,s4,s5,s6,s7,s8,s9,s10⟩:=TK Zf.out;obtain⟨t0,t1,t2,t3,t4,t5,t6⟩:=Cg ajS.out;have vZ:=Y (Uz W11 _ ss G L Z P V f pa ba ra pc nb bc nr rc f.result.kind f.result.n f.result.name ajT.out HLV.out.symm Vf.out HP4.out (by have:=zV.out.2.2;omega));simp only[So.cs]at vZ;rw[<-Ee.out]at vZ;go_wp2_with fail;refine vZ.out.mono ?_;rintro e w12 ⟨B,rfl,hh12⟩;obtain⟨hrow,UA⟩:=hh12.out;obtain⟨sc,hsc⟩:∃y,y=Sm.eF Z ss.length V P f:=⟨_,rfl⟩;have arM:J (sc=Sm.eF Z ss.length (Sm.least Z ss.length P.names.length P.cons) P f):=Y (by rw[hsc];exact Un HPO.out HVE.out f);have arN:J (Sm.GJ Z ss.length V P f.name=Sm.GJ Z ss.length (Sm.least Z ss.length P.names.length P.cons) P f.name):=Y (Uo HPO.out HVE.out f.name);obtain⟨i1,hi1⟩:∃n,n=(Sm.tell Z ss.length V P.fr (Sm.lab P.mask P.level)).1:=⟨_,rfl⟩;obtain⟨i2,hi2⟩:∃n,n=(Sm.tell Z ss.length V P.fr (Sm.lab P.mask P.level)).2:=⟨_,rfl⟩;obtain⟨i3,hi3⟩:∃n,n=Sm.pc Z ss.length P.sinks:=⟨_,rfl⟩;rw[<-hi1,<-hi2,<-hi3];have arO:J (Ht w12 [A f.name,O (i1:Nat),O (i2:Nat),Tc B np np,O (i3:Nat),X na4 nn4 nc4] sc):=Y ⟨Tc B np np,X na4 nn4 nc4,by rw[hsc,hi1,hi2,hi3];rfl,by
      rw[hsc];have h1:=hrow.Tg (by rw[QG];have:=HP4.out;have:=Ee.out;omega);rw[QG]at h1;show dJ w12 _ (bds Z ss.length V P.sinks f.params.length);rw[<-Ee.out];exact h1,by
      rw[hsc];exact(aoA.out.below UA).PX (bN _)⟩
     obtain⟨aoC,aoD,arP,alP,aoE⟩:=uh (aoy.out.below UA (λ_ _ h=>h.below UA)) (aoz.out.below UA) (up akC.out UA) UA (aoB.out.Lh UA);clear hh12 hrow UA hsc hi1 hi2 hi3 s0 s1 s2 s3 s4 s5 s6 s7 s8 s9 s10 t0 t1 t2 t3 t4 t5 t6;obtain⟨eT,EW⟩:=sO w12 (aY #[A f.name,O (i1:Nat),O (i2:Nat),Tc B np np,O (i3:Nat),X na4 nn4 nc4] 34);obtain⟨Oi,ajU,alQ,arQ,aoF,XU⟩:=vC (aoC.out.below eT.out (λ_ _ h=>h.below eT.out)) (aoD.out.below eT.out) (up arP.out eT.out) (arO.out.below eT.out) (aoE.out.Lh eT.out) (up alP.out eT.out)
     go_upto_region 13 with(first
      | (at_builtin;refine mU (At:=Ht) rfl _ _ 37 34 6 88 _ rfl underlying37 TT bM bM bM w1.heap.size (X oa kn oc) (Sm.inf ss Z m x known bL kn).1 rfl Oi.out w12.heap.size [A f.name,O (i1:Nat),O (i2:Nat),Tc B np np,O (i3:Nat),X na4 nn4 nc4] sc rfl (λq u hu=>((aj EW.out q).trans (by simpa only [yK]using hu))) rfl (by simp[Value.oneCell']) arQ.out (by rw[HOL.out];have:=alL.out;omega) alQ.out.size (λw' c y hg hc=>hc.st (mV.grown hg Oi.out.typ) bM bM) ?_;intro g14 atf w14 af3 ZG;have arR:=Y af3;have af4:=Y ZG;clear af3 ZG)
      | fail)
     obtain⟨HST,aoG⟩:=bV (mV.grown af4.out Oi.out.typ) (abN Oi.out (λh=>HON.out (by rw[<-HOL.out,h];rfl)));have alR:J (bK w1 w14):=Y (Below.grown alQ.out af4.out alQ.out.size (λk e=>(Oi.out.lt k e).1));obtain⟨aoH,aoI⟩:=bV (HST.out _ _ _ (bH Zf.out XU.out) bM) (HST.out _ _ _ (bH ajS.out XU.out) bM);have aoJ:J (QI w14 ⟨X a0 n0 c0,X a1 n1 c1,X na0 nn0 nc0,X na1 nn1 nc1,X na2 nn2 nc2,X na3 nn3 nc3,0,lvl,X na4 nn4 nc4,X la ln lc,X ka kn' kc⟩ ss G L Z P V):=Y (by have h:=ajT.out.below XU.out;exact⟨⟨HP.out.strs.below (up HB1.out alR.out),HP.out.Q5.below (up HB1.out alR.out),HCH.out⟩,arD.out _ (aoF.out.st HST.out),h.ok,h.las.Mi Ni.out.1 af4.out aoG.out,h.oks,h.snk.Mi Ni.out.2 af4.out aoG.out⟩);obtain⟨aoK,HDC⟩:=bV (ajU.out.grown af4.out (λg hg e=>by obtain⟨c1',h1'⟩:=ajU.out.typ hg;obtain⟨c2',h2'⟩:=Oi.out.typ g e;rw[h1']at h2';simp at h2')) (XC w14 _ ss G L Z P V f.name aoJ.out (by have:=zV.out.2.2;omega));simp only[So.cs]at HDC;obtain⟨s0,s1,s2,s3,s4,s5,s6,s7,s8,s9,s10⟩:=TK aoH.out;have t0:=aj aoI.out 0;go_wp2_with fail;refine HDC.out.mono ?_;rintro e w15 ⟨u15,rfl,aoL⟩;obtain⟨alS,Sb⟩:=aoL.out;have aoM:=Y alS;obtain⟨arS,arT,rfl⟩:=alS.form;obtain⟨arU,af5,alT⟩:=fE (arR.out.below Sb (λ_ _ h=>h.below Sb)) (aoK.out.below Sb) (up alR.out Sb);have HDS:J ((Sm.GJ Z ss.length V P f.name).length<=2097148):=Y (by unfold Sm.GJ;rw[dV];exact bE (Km _ _) zV.out.2.2);have arV:J ((Sm.inf ss Z m x known bL kn).2.length+(Sm.GJ Z ss.length V P f.name).length<=16777216):=Y (by have h8:=(Ai (XO HE0.out).2).1;have h1:=HDL.out;have h2:=HDS.out;have h3:=vD.out;omega);have atC:=alL.out;obtain⟨dl,hdl⟩:∃n,n=(Sm.GJ Z ss.length V P f.name).length:=⟨_,rfl⟩;rw[<-hdl]at aoM ⊢;clear aoL alS Sb s0 s1 s2 s3 s4 s5 s6 s7 s8 s9 s10 t0 hdl
     go_wp2_with (first
      | (at_builtin;refine fG (At:=qU) rfl _ _ 38 52 3 40 _ rfl underlying38 qV bM bM bM w1.heap.size d (Sm.inf ss Z m x known bL kn).2 rfl af5.out w14.heap.size (X arS dl arT) (Sm.GJ Z ss.length V P f.name) rfl aoM.out arV.out alT.out.size ?_;intro v16 w16 af6 ZH;have arW:=Y af6;have aoN:=Y ZH;clear af6 ZH)
      | fail)
     have HST:=Y (mV.grown (t:=52) aoN.out (λk hk=>af5.out.typ hk));have arX:J (bK w1 w16):=Y (Below.grown alT.out aoN.out alT.out.size (λk e=>(af5.out.lt k e).1));have aoO:=Y (arU.out.keep (λj cur _ hj=>HST.out j cur _ hj bM) (λc y hc=>hc.st HST.out bM bM));go_roundw;case rel=>
      refine⟨_,_,kn+1,rfl,rfl,by omega,by go_num,Y ⟨HEJ.out,?_,λh=>aM h (Nat.succ_ne_zero _),?_,arX.out⟩⟩;·rw[abQ.out];show eZ Ht w16 _ _ 6 _ ((Sm.inf ss Z m x known bL kn).1++[Sm.eF Z ss.length (Sm.least Z ss.length P.names.length P.cons) P f]);rw[<-arM.out];exact aoO.out
      ·rw[abQ.out];show dA qU w16 _ _ 3 _ ((Sm.inf ss Z m x known bL kn).2++Sm.GJ Z ss.length (Sm.least Z ss.length P.names.length P.cons) P f.name);rw[<-arN.out];exact arW.out
     case measure=>exact gV
   ·obtain rfl:j=n4:=by omega
    have HIF:J (qI ss G L Z m x known bL x.bq.length=0):=Y (by rw[<-vD.out];exact HR.out.1);have h8:=(Ai (XO HE0.out).2).1;rcases HR.out.2.2.2.1.shape with⟨hd,hz⟩|⟨g,cap,hd,hcp,hgn,hgl,hne⟩;·subst hd;have TH:J (Zk=((Sm.inf ss Z m x known bL j).1,[],0)):=Y (by rw[HA.out];unfold Sm.ans;rw[aI (by rw[HE0.out];simp),aI (by rw[HD.out];simp),aI (by rw[HIF.out];simp),<-vD.out,aI (by rw[hz];simp)]);have VX:J (eZ Ht wr w.heap.size 34 6 o (Sm.inf ss Z m x known bL j).1):=Y (HR.out.2.1.old HB1.out.size);clear hz h8;go_wp2_with fail;refine cZ (v:=.tuple #[o,aU,O 0]) (by simp[results,results55,go_sem]) rfl ?_;rw[TH.out];exact⟨_,_,rfl,Y ⟨VX.out,Aj _ _,qP.out⟩⟩
    ·have LZ:J ((Sm.inf ss Z m x known bL j).2.length<=16777216):=Y (by have:=HDL.out;have:=vD.out;omega);have HDG:=Y (HR.out.2.2.2.1.GJ (by have:=LZ.out;omega));rw[hd]at HDG;have TH:J (Zk=([],bO.once (Sm.inf ss Z m x known bL j).2,0)):=Y (by rw[HA.out];unfold Sm.ans;rw[aI (by rw[HE0.out];simp),aI (by rw[HD.out];simp),aI (by rw[HIF.out];simp),<-vD.out,aK hne]);have HIC:=Y (y8 wr _ (Sm.inf ss Z m x known bL j).2 HDG.out LZ.out);obtain⟨nd,hnd⟩:∃n,n=(Sm.inf ss Z m x known bL j).2.length:=⟨_,rfl⟩;have hpos:0<nd:=by rw[hnd];exact vO.2 hne
     rw[<-hnd]at hd HIC;rw[hd];clear hd hcp hgn hgl hne hnd h8;go_wp2_with fail;refine HIC.out.mono ?_;rintro e w9 ⟨u9,rfl,V8,vV⟩;have HU9:=Y V8;obtain⟨a9,b9,o9,c9,rfl,-⟩:=V8;generalize hnl:(bO.once (Sm.inf ss Z m x known bL j).2).length=n9 at *;have Ac:=Y (up qP.out vV);clear vV hnl;go_wp2_with fail;refine cZ (v:=.tuple #[aU,X a9 n9 c9,O 0]) (by simp[results,results55,go_sem]) rfl ?_;rw[TH.out];exact⟨_,_,rfl,Y ⟨eZ.nil _ _ _ _,HU9.out,Ac.out⟩⟩
  ·have TH:J (Zk=([],bO.once (D9 ss x known m),0)):=Y (by rw[HA.out];unfold Sm.ans;rw[aI (by rw[HE0.out];simp),aK hD]);have HU1:=Y hu;obtain⟨a9,b9,o9,c9,rfl,-⟩:=hu;obtain⟨nd,hnd⟩:∃n,n=(bO.once (D9 ss x known m)).length:=⟨_,rfl⟩;have hpos:0<nd:=by rw[hnd];exact vO.2 hD
   rw[<-hnd]at HU1 ⊢;clear hnil hpd hD hnd;go_wp2_with fail;refine cZ (v:=.tuple #[aU,X a9 nd c9,O 0]) (by simp[results,results55,go_sem]) rfl ?_;rw[TH.out];exact⟨_,_,rfl,Y ⟨eZ.nil _ _ _ _,HU1.out,HB1.out⟩⟩
 ·have hpd:FX E ss x known m=[]:=by unfold FX;rw[aI hE]
  obtain rfl:=hnil hpd;have TH:J (Zk=([],[],E)):=Y (by rw[HA.out];unfold Sm.ans;rw[<-GQ.out,aK hE]);have hz:=eO hE;clear hu hnil hpd hE;go_wp2_with fail;refine cZ (v:=.tuple #[aU,aU,O E]) (by simp[results,results55,go_sem]) rfl ?_;rw[TH.out];exact⟨_,_,rfl,Y ⟨eZ.nil _ _ _ _,Aj _ _,HB1.out⟩⟩
theorem abR(n:Nat)(u:n<=1048576)(w:bI):(Instr.makeSlice 32 (O (n:Int))<|O (n:Int)).run prog w=.ok (Tc w.heap.size n n) (w.alloc<|.cells (madeCells #[O 0] n) 3):=by obtain⟨i,g,d⟩:=yF.1 wJ;simp only[pO]at d;obtain⟨q,h,f⟩:=d;have a:=run_make (P:=prog) w 32 3 i _ underlying32 g q .i64 .i64 n n bC (Int.le_refl _) (by rw[f];omega) bC;rw[h,show(O 0).cells=#[O 0]from rfl]at a;simpa using a
theorem abS(n:Nat):madeCells #[O 0] n=((List.replicate n (0:Int)).map (Value.int .i64)).toArray:=by
 apply Array.ext;·simp[madeCells]
 ·intro i a d;simp[madeCells,Nat.mod_one]
theorem Hu{P:Program}{q:Array Oper}{d:Exit->Act->bI->Prop}{md:Region.Mode}{f:bI->Prop}{st:Nat}{g:Array Bool}{a:Act}(h:∀x,x=w->jA P md q d f st fuel g a x):jA P md q d f st fuel g a w:=h w rfl
theorem XV(m:Nat)(w:bI)(v:aC)(l:List Fu)(h:mE w m v l)(hl:l.length<=8)(hp:∀f∈l,f.params.length<=4):aD 75 #[v] w λe w'=>∃u,e=dz u/\J (eZ Ht w' w.heap.size 34 6 u (l.map Ck.un)/\bK w w'):=by
 have HP:=Y hp;obtain⟨fa,fb,fo,fc,rfl,au,a1,zF⟩:=h;obtain⟨QB,j5⟩:=bV au zF;obtain⟨nf,ag⟩:=aV l.length;have yM:=Y ag;rw[<-ag]at hl QB ⊢;clear au zF a1 ag hp;go_enter func75,ntmps75;go_wp2_with fail;go_loopw[3,8] (λo i wr=>∃(ov:aC) (j:Nat),ov=o/\j<=nf/\i=O j/\J (eZ Ht wr w.heap.size 34 6 ov ((l.take j).map Ck.un)/\bK w wr)) (λ_ i _=>nf - (intOf i).toNat);exact⟨_,0,rfl,bN _,rfl,Y ⟨eZ.nil _ _ _ _,bQ _ _⟩⟩
 obtain⟨o,j,rfl,hj,rfl,C⟩:=hrel;by_cases a3:j<nf
 ·obtain⟨f,M⟩:∃f,l[j]?=some f:=⟨_,aZ (by rw[<-yM];exact a3)⟩;obtain⟨HF,ab⟩:=bV M<|HP f<|dG M;obtain⟨a2,vp,vb,a5,a6,a7,a8,g0,R,S,g3,g4,g5,V,a4,QC,ay⟩:=j5 j f M;obtain rfl:=QB bC;obtain⟨N,pb,po,pc,rfl,-⟩:=a4;obtain⟨ba,bc,rfl⟩:=fH.kC QC;obtain⟨ra,rc,rfl,rfl,rfl,rfl⟩:=ay.shape;obtain⟨np,ah⟩:=aV f.params.length;obtain⟨nb,av⟩:=aV f.body.length;obtain⟨nr,aw⟩:=aV f.result.args.length;have Ee:=Y ah;rw[<-ah]at R ab;rw[<-av]at S;rw[<-aw]at V;replace g0:=aG g0 C.2;replace R:=aG R C.2;replace S:=aG S C.2;replace g3:=aG g3 C.2;replace g4:=aG g4 C.2;replace g5:=aG g5 C.2;replace V:=aG V C.2;have H:J (((l.take j).map Ck.un).length=j):=Y (by rw[dV,iA];have:=yM.out;omega);have fT:J ((l.take<|j+1).map Ck.un=(l.take j).map Ck.un++[Ck.un f]):=Y (by rw[gy,M,kI,gX];rfl);obtain⟨oa,oc,ho⟩:=C.1.form;rw[H]at ho;subst ho;clear M a2 QC ay ah av aw;go_upto_region 5 with fail;obtain⟨qO,aa⟩:=sO wr<|aY #[A f.name,X N np pc,X ba nb bc,O f.result.kind,O f.result.n,A f.result.name,X ra nr rc] 82;obtain⟨MU,kG⟩:=bV (C.1.below qO (λ_ _ h=>h.below qO))<|up C.2 qO;generalize wr.alloc (aY #[A f.name,X N np pc,X ba nb bc,O f.result.kind,O f.result.n,A f.result.name,X ra nr rc] 82)=W7 at *;generalize wr.heap.size=I at *;clear g0 R S g3 g4 g5 V;have L:J (∀x:bI,dR x I (aY #[A f.name,X N np pc,X ba nb bc,O f.result.kind,O f.result.n,A f.result.name,X ra nr rc] 82)->bJ x I 0=some (A f.name)/\bJ x I 1=some (X N np pc)):=Y (λx g=>⟨(aj g 0).trans rfl,(aj g 1).trans rfl⟩);have MK:=abR np (by have:=ab.out;omega);refine dx [some false,some false,some true,some false,some true,some false,none,none,none,none,none] 10 (λx=>bJ x I 0=some (A f.name)/\bJ x I 1=some (X N np pc)) 5 dw dw (λ_ _ d _ _ h=>(by cases d<;>exact h)) (L _ aa) ?_;dsimp only[gB];repeat(first|(refine fO (v:=?_) dH ?_ ?_;rotate_left 1;(focus(intro w;go_simp;try(with_reducible rfl)));simp only[Act.put,dS,dY,eX])|(refine fP (v:=?_) dH ?_ ?_;rotate_left 1;(focus(intro w a0;obtain⟨q0,q1⟩:=a0;go_simp;try(with_reducible rfl)));simp only[Act.put,dS,dY,eX]))
  refine dW ?_;refine aT (i:=6) dw dH (λK a=>?_);go_simp;refine a _ _ (λ_=>L _<|bT aa _) ?_;clear a K;refine Hu ?_;intro D ai;have al:J (bK W7 D):=Y (by rw[ai];exact(aH _ _).drew);have ao:J (qJ D W7.heap.size<|List.replicate np 0):=Y (by rw[ai];unfold qJ;rw[<-abS];exact bF _ _);obtain⟨P,aq⟩:=aV W7.heap.size;rw[<-aq]at ao ⊢;have ac:=Y<|bH aa al;clear ai aq;refine aT (i:=7) dw dH (λK a=>?_);go_simp;refine a _ _ (λ_=>L _ ac) ?_;clear a K;refine aT (i:=8) dw dH (λK a=>?_);go_simp;refine a _ _ (λ_=>L _<|bT ac _) ?_;clear a K;refine Hu ?_;intro G ak;have Z:J (bK D G):=Y (by rw[ak];exact aH D _);have EW:J (dR G D.heap.size<|aY #[A f.name,O 0,O 0,Tc P np np,O 0,aU] 34):=Y (by rw[ak];exact bF D _);obtain⟨B2,ar⟩:=aV D.heap.size;rw[<-ar]at EW ⊢;obtain⟨aE,ad⟩:=bV (bH ac Z)<|up al Z;have Q:=Y<|MU.below ad (λ_ _ h=>h.below ad);have Ia:J (Ht G [A f.name,O 0,O 0,Tc P np np,O 0,aU]<|Ck.un f):=Y ⟨_,_,rfl,by have h:=(show qJ G P (List.replicate np 0)from bH ao Z).Tg (by rw[zO];have:=ab.out;omega);rw[zO]at h;show dJ G _ (List.replicate f.params.length 0);rw[<-Ee];exact h,aO ⟨rfl,rfl⟩⟩;have ae:J (bK w G):=Y<|up kG ad;clear ak ar;refine aT (i:=9) dw dH (λK a=>?_);refine mO (At:=Ht) dH _ _ 37 34 6 88 _ dH underlying37 TT bM bM bM w.heap.size (X oa j oc) ((l.take j).map Ck.un) dH Q B2 [A f.name,O 0,O 0,Tc P np np,O 0,aU] (Ck.un f) dH (λq u hu=>((aj EW q).trans (by simpa only [yK]using hu))) rfl (by simp[Value.oneCell']) Ia.out (by rw[H.out];omega) ae.size (λw' c y hg hc=>hc.st (mV.grown hg Q.typ) bM bM) ?_;intro g cap w9 ax af aA;obtain⟨am,az⟩:=bV ax<|mV.grown af Q.typ;have Ac:J (bK w w9):=Y<|Below.grown ae af ae.size (λk e=>(Q.lt k e).1);rw[H]at am ⊢;clear ax af aA;simp only[Act.put,dS];refine a _ _ (λ_=>L _<|az _ _ _ aE bM) ?_;clear a K;refine aT (i:=10) dw dH (λK a=>?_);go_simp;refine a _ _ (λh=>aM (h.symm.trans dw) iJ) ?_;clear a K;refine dP dw ?_ _;go_wp2;go_roundw;exact⟨_,j+1,rfl,by omega,by go_num,Y ⟨by rw[fT];exact am,Ac⟩⟩;exact gV
 ·obtain rfl:j=nf:=by omega
  have H:J (l.take j=l):=Y (by rw[yM,jQ]);have ap:=Y C.out.1;rw[H]at ap;go_wp2;go_ret;exact⟨o,rfl,Y ⟨ap,C.2⟩⟩
namespace Ck
structure Cx where
 m:Nat
 ss:List ByteArray
 G:Nat
 L:Nat->Nat
 Z:Nat->Nat->Bool
 l:List Mo
abbrev Fi:=List Sc × List Dg × Int
def fi0:Fi:=([],[],0)
def bl(l:List Mo)(F:ByteArray->Fi):List ByteArray->List Dg->List Dg × Int
 | [],acc=>(acc,0)
 | s::r,acc=>if (dQ l s).isSome=false then bl l F r acc else if (F s).2.2≠0 then ([],(F s).2.2)else bl l F r (if (F s).2.1≠[]then acc++[⟨7,⟨#[]⟩,s⟩]else acc)
def tN(l:List Mo)(x:Mo):List Mo:=l.filter λy=>!cB y.name x.name
def sc1(F:ByteArray->Fi)(x y:Mo):List Sc:=if bO.ER x.imports y.name then (F y.name).1 else y.bq.map un
def vE(l:List Mo)(F:ByteArray->Fi)(x:Mo):List (List Sc):=(tN l x).map (sc1 F x)
open Classical in
noncomputable def Oj(c:Cx)(F:ByteArray->Fi)(x:Mo):Fi:=
 if yu c.l x.name x.name then ([],[⟨8,⟨#[]⟩,x.name⟩],0)
 else if (bl c.l F x.imports []).2≠0 then ([],[],(bl c.l F x.imports []).2)
 else if bO.once (bl c.l F x.imports []).1≠[]then ([],bO.once (bl c.l F x.imports []).1,0)
 else Sm.ans c.ss c.G c.L c.Z c.m x (tN c.l x) (vE c.l F x)
noncomputable def fd(c:Cx):Nat->ByteArray->Fi
 | 0,_=>fi0
 | g+1,s=>match dQ c.l s with
  | none=>fi0
  | some i=>match c.l[i]? with
   | none=>fi0
   | some x=>Oj c (fd c g) x
open Classical in
noncomputable def rk(l:List Mo)(s:ByteArray):Nat:=if yu l s s then 0 else (l.filter λy=>decide (yu l s y.name)).length
section
variable {c : Cx} {F F' : ByteArray → Fi} {x : Mo} {l : List Mo}
theorem aiV{r:aJ}(h:∀b∈r,(dQ l b).isSome=true->F b=F' b):∀acc,bl l F r acc=bl l F' r acc:=by
 induction r with
 | nil=>intro acc;rfl
 | cons s r f=>
  intro acc;unfold bl;by_cases a:(dQ l s).isSome=false;·rw[aK a,aK a];exact f (λb d=>h b<|l8 _ d) acc
  ·rw[aI a,aI a,h s List.mem_cons_self (by cases g:(dQ l s).isSome with|true=>rfl|false=>exact aM g a)];split;·rfl
   ·exact f (λb d=>h b<|l8 _ d) _
theorem EI{y:Mo}(d:y∈l):(dQ l y.name).isSome=true:=by unfold dQ;rw[List.find?_isSome];obtain⟨i,a,e⟩:=gU.1 d;refine⟨i,jE.2 a,?_⟩;rw[aZ a,e];simp[cB]
theorem QM{l:aJ}{s:aS}:bO.ER l s=true↔s∈l:=by unfold bO.ER;rw[iy];exact Fl.wD
theorem UC(h:∀b∈x.imports,(dQ c.l b).isSome=true->F b=F' b):¬yu c.l x.name x.name->Oj c F x=Oj c F' x:=by
 intro a;unfold Oj;rw[aI a,aI a,aiV h];have f:vE c.l F x=vE c.l F' x:=by
  unfold vE;refine Na λy g=>?_;unfold sc1;cases d:bO.ER x.imports y.name with
  | false=>rfl
  | true =>rw[aK rfl,aK rfl,h y.name (QM.1 d)<|EI<|(List.mem_filter.1 g).1]
 rw[f]
theorem ZI(F F':aS->Fi)(a:yu c.l x.name x.name):Oj c F x=Oj c F' x:=by unfold Oj;rw[aK a,aK a]
theorem abT{a b d:aS}(h:yu l a b)(k:yu l b d):yu l a d:=by
 induction k with
 | one k=>exact yu.more h k
 | more _ k f=>exact yu.more f k
theorem aoP(l:List Mo)(s:aS):rk l s<=l.length:=by
 unfold rk;split;·exact bN _
 ·exact Km _ _
theorem ZJ{α:Type}{p q:α->Bool}{l:List α}(h:∀x∈l,p x=true->q x=true){y:α}(d:y∈l)(C:p y=false)(D:q y=true):(l.filter p).length<(l.filter q).length:=by
 induction l with
 | nil=>cases d
 | cons z l f=>
  have mono:(l.filter p).length<=(l.filter q).length:=by
   have u:∀x∈l,p x=true->q x=true:=λx a=>h x<|l8 _ a;clear f d h;induction l with
   | nil=>exact bG _
   | cons t l f=>
    have:=f λx a=>u x<|l8 _ a;simp only[List.filter_cons];cases g:p t with
    | false=>cases q t<;>simp<;>omega
    | true=>rw[u t List.mem_cons_self g];simp;omega
  rcases fV.1 d with rfl|d;·simp only[List.filter_cons,C,D,if_true];simp;omega
  ·have:=f (λx a=>h x<|l8 _ a) d;simp only[List.filter_cons];cases g:p z with
   | false=>cases q z<;>simp<;>omega
   | true=>rw[h z List.mem_cons_self g];simp;omega
open Classical in
theorem QN{s b:aS}(C:¬yu l s s)(h:imp l s b):rk l b<rk l s:=by
 have a:yu l s b:=yu.one h;obtain⟨i,u⟩:=sF.1<|XP a;obtain⟨y,D,e⟩:=iT u;have d:=dG D;unfold rk;rw[aI C];split;·refine vO.2 λg=>?_;have:y∈l.filter λy=>decide (yu l s y.name):=List.mem_filter.2 ⟨d,by rw[e];simpa using a⟩;rw[g]at this;cases this
 ·rename_i q;refine ZJ (λz _ f=>?_) d ?_ ?_;·simp only[iy]at f ⊢;exact abT a f
  ·rw[e];simpa using q
  ·rw[e];simpa using a
theorem abU:∀(g a:Nat) (s:aS),rk c.l s<g->rk c.l s<a->fd c g s=fd c a s:=by
 intro g;induction g with
 | zero=>intro a s h;omega
 | succ g G=>
  intro a s h H;cases a with
  | zero=>omega
  | succ a=>
   rw[fd,fd];cases f:dQ c.l s with
   | none=>rfl
   | some i=>
    obtain⟨x,q,e⟩:=iT f;simp only[q];by_cases d:yu c.l x.name x.name;·exact ZI _ _ d
    ·refine UC (λb u D=>?_) d;have C:imp c.l s b:=⟨i,x,f,q,u,D⟩;rw[e]at d;have I:=QN d C;exact G a b bC bC
end
noncomputable def FD(c:Cx)(s:ByteArray):Fi:=fd c (c.l.length+1) s
theorem QU{c:Cx}(d:dQ c.l s=some i)(f:c.l[i]?=some x):FD c s=Oj c (FD c) x:=by
 have h:x.name=s:=by obtain⟨y,g,e⟩:=iT d;rw[f]at g;cases g;exact e
 have q:FD c s=Oj c (fd c c.l.length) x:=by unfold FD;rw[fd,d];simp only[f]
 rw[q];by_cases a:yu c.l x.name x.name;·exact ZI _ _ a
 ·refine UC (λb u C=>?_) a;rw[h]at a;obtain⟨G,D⟩:=eY (QN a ⟨i,x,d,f,u,C⟩)<|aoP c.l s;exact abU _ _ b bC bC
end Ck
theorem mV.but(h:But p w w')(q:∃d a,w.heap[p]?=some (.map d a)):mV t w w':=λj cs u g _=>h.at (λe=>by subst e;obtain⟨d,a,f⟩:=q;rw[g]at f;cases f) g
theorem qK{l:List Sc}(h:eZ Ht w n 34 6 v l)(a:mV t w w')(f:34≠t)(g:9≠t)(q:3≠t):eZ Ht w' n 34 6 v l:=
 h.keep (λj d _ C=>a j d _ C f) λ_ _ u=>u.st a g q
def FiW(w:World)(v:Value)(y:Ck.Fi):Prop:=∃d a c,v=.agg #[d,.slice a y.2.1.length c,.int .i64 y.2.2]/\eZ Ht w 0 34 6 d y.1
def FiD(w:World)(v:Value)(y:Ck.Fi):Prop:=∃d a,v=.agg #[d,a,.int .i64 y.2.2]/\jg w a y.2.1
theorem FiW.st{y:Ck.Fi}(h:FiW w v y)(q:mV t w w')(d:34≠t)(f:9≠t)(g:3≠t):FiW w' v y:=by obtain⟨u,a,c,e,h⟩:=h;exact⟨u,a,c,e,qK h q d f g⟩
theorem FiW.below{y:Ck.Fi}(h:FiW w v y)(a:bK w w'):FiW w' v y:=h.st (t:=4) (mV.below a) bM bM bM
def zFi:Value:=.agg #[.slice none 0 0,.slice none 0 0,.int .i64 0]
theorem alX(w:bI):(zeroValue 66).run prog w=.ok zFi w:=by kernel_rfl
def xQ(w:World)(m:Nat)(v:Value)(l:List Mo):Prop:=
 ∃(a:Option Addr) (b off cap:Nat),v=.slice a l.length cap/\(0<l.length->a=some ⟨b,off,none⟩)/\l.length<=9223372036854775807/\
  ∀i x,l[i]?=some x->∃f g d,w.cell? ⟨b,off+i*4,none⟩=some (.string x.name)/\w.cell? ⟨b,off+i*4+1,none⟩=some f/\w.cell? ⟨b,off+i*4+2,none⟩=some g/\w.cell? ⟨b,off+i*4+3,none⟩=some d/\jl w m (.agg #[.string x.name,f,g,d]) x/\Bg w f d
theorem xQ.mos(h:xQ w m v l):jN w m v l:=by obtain⟨a,b,off,cap,e,u,D,C⟩:=h;refine⟨a,b,off,cap,e,u,D,λi x H=>?_⟩;obtain⟨K,L,I,d,f,g,q,G,_⟩:=C i x H;exact⟨K,L,I,d,f,g,q,G⟩
theorem xQ.below(h:xQ w m v l)(d:bK w w'):xQ w' m v l:=by obtain⟨a,b,off,cap,e,C,H,D⟩:=h;refine⟨a,b,off,cap,e,C,H,λi x K=>?_⟩;obtain⟨M,N,L,f,g,q,u,I,G⟩:=D i x K;exact⟨M,N,L,aG f d,aG g d,aG q d,aG u d,I.below d,G.below d⟩
namespace Ck
def cntF(l:List Mo)(fo:ByteArray->Option Value):Nat:=(l.filter λx=>(fo x.name).isSome).length
theorem af9(d:x∈l)(a:fo x.name=none)(v:aC):cntF l fo+1<=cntF l (oQ fo x.name v):=by
 refine ZJ (p:=λy=>(fo y.name).isSome) (q:=λy=>(oQ fo x.name v y.name).isSome) (λy _ f=>?_) d (by rw[a];rfl) (by simp[oQ,cB]);simp only[oQ];split;·rfl
 ·exact f
theorem aiW(l:List Mo)(fo:aS->Option aC):cntF l fo<=l.length:=Km _ _
theorem kK(h:nN E m l=0):E=0/\l.length<=6/\(∀x∈l,oO m x=0)/\cnt l l.length=l.length:=by
 unfold nN at h;by_cases d:E=0
 ·rw[aI (by simp[d])]at h;by_cases q:6<l.length;·rw[aK q]at h;cases h
  ·rw[aI q]at h;by_cases a:um m l=0
   ·rw[aI (by simp[a])]at h;by_cases u:cnt l l.length<l.length;·rw[aK u]at h;cases h
    ·have:=KY l l.length;refine⟨d,by omega,λx f=>?_,by omega⟩;clear h q u this;induction l with
     | nil=>cases f
     | cons y r C=>
      unfold um at a;by_cases g:oO m y=0
      ·rw[aK g]at a;rcases fV.1 f with rfl|f;·exact g
       ·exact C a f
      ·rw[aI g]at a;exact aM a g
   ·rw[aK a]at h;exact aM h a
 ·rw[aK d]at h;exact aM h d
theorem ZK:∀{n:Nat},n<=l.length->cnt l n=n->∀(j:Nat) x,j<n->l[j]?=some x->dQ (l.take j) x.name=none
 | 0,_,_,_,_,hj,_=>by omega
 | n+1,hn,h,j,x,hj,hx=>by
  have h1:=KY l n;rw[cnt]at h;have hy:=aZ (show n<l.length by omega);rw[hy]at h;simp only at h;by_cases hs:(dQ (l.take n) l[n].name).isSome=true;·rw[aK hs]at h;omega
  ·rw[aI hs]at h;by_cases e:j=n
   ·subst e;rw[hy]at hx;cases hx;cases hq:dQ (l.take j) l[j].name with
    | none=>rfl
    | some k=>rw[hq]at hs;exact aM rfl hs
   ·exact ZK (n:=n) bC bC j x bC hx
theorem Ak(h:cnt l l.length=l.length)(f:l[j]?=some x):dQ l x.name=some j:=by
 obtain⟨i,D⟩:=sF.1<|EI<|dG f;obtain⟨y,q,e⟩:=iT D;obtain⟨N,M⟩:=eY ((cO.1 f).1)<|(cO.1 q).1;have G:∀(a b:Nat) (g v:Mo),a<b->l[a]?=some g->l[b]?=some v->g.name=v.name->False:=λa b g v K I C L=>by have d:=ZK (bG _) h b v (cO.1 C).1 C;have H:g∈l.take b:=dG (i:=a) (by rw[nM K];exact I);have u:=EI H;rw[L,d]at u;cases u
 rcases Nat.lt_trichotomy i j with d|d|d;·exact(G i j y x d q f e).elim
 ·rw[D,d]
 ·exact(G j i x y d f q e.symm).elim
structure Uk(U ss:List ByteArray)(l:List Mo):Prop where
 var:∀x∈l,∀v∈x.vars,Fl.deed ⟨#[114,58]⟩ x.name v.name∈U/\Fl.deed ⟨#[119,58]⟩ x.name v.name∈U
 nQ:∀s∈ss,(⟨#[112,58]⟩++s:ByteArray)∈U
 len:U.length<=1048576
 size:∀t∈U,t.size<=maxLen
theorem QO{F:aS->Fi}(a:Uk U ss l)(u:x∈l)(q:∀s,∀y∈(F s).1,XI U y):UOk U ss x (vE l F x) where
 eF:=λr g y d t h=>by
  unfold vE at g
  obtain⟨z,_,rfl⟩:=iZ.1 g
  unfold sc1 at d
  split at d
  ·exact(q _ y d).1 t h
  ·obtain⟨f,_,rfl⟩:=iZ.1 d
   simp[un]at h
 var:=a.var x u
 nQ:=a.nQ
 len:=a.len
 size:=a.size
theorem ZL{F:aS->Fi}(h:U.length<=1048576)(g:∀s,∀y∈(F s).1,XI U y):∀r∈vE l F x,∀y∈r,y.gY.length<=1048576:=λr d y a=>by
 unfold vE at d;obtain⟨z,_,rfl⟩:=iZ.1 d;unfold sc1 at a;split at a;·exact bE (g _ y a).2 h
 ·obtain⟨f,_,rfl⟩:=iZ.1 a;simp[un]
theorem XY{c:Cx}(f:Uk U c.ss c.l):∀(g:Nat) (s:aS),∀y∈(fd c g s).1,XI U y
 | 0,_,_,a=>by cases a
 | g+1,s,y,a=>by
  rw[fd]at a;cases d:dQ c.l s with
  | none=>rw[d]at a;cases a
  | some i=>
   obtain⟨x,h,_⟩:=iT d;rw[d]at a;simp only[h]at a;unfold Oj at a;split at a;·cases a
   ·split at a;·cases a
    ·split at a;·cases a
     ·exact ZC (QO f (dG h)<|XY f g) y a
end Ck
structure QIn(w0:World)(c:Cx)(vn vl vk:Value)(b1 b2:Nat)(U:List ByteArray):Prop where
 strs:Strs w0 vn c.ss
 Q5:EX w0 vl c.G c.L c.Z
 mks:xQ w0 c.m vk c.l
 form:nN (dD c.ss c.G c.L c.Z) c.m c.l=0
 small:∀x∈c.l,xH c.m x<=1048576
 tab:Tab w0
 q1:w0.heap.size<=b1
 q2:w0.heap.size<=b2
 ne:b1≠b2
 uni:Uk U c.ss c.l
structure Lp(w0:World)(c:Cx)(b1 b2:Nat)(w:World)(fo:ByteArray->Option Value):Prop where
 base:Below w0.heap.size w0 w
 fst:qo w b1 1048576 (.int .i64 0) (Ck.fi c.l)
 tV:qo w b2 (Ck.cntF c.l fo) zFi fo
 fin:∀s v,fo s=some v->FiW w v (FD c s)
section
variable {w0 w w' : World} {c : Ck.Cx} {b1 b2 : Nat} {fo : ByteArray → Option Value}
theorem Lp.below(h:Lp w0 c b1 b2 w fo)(a:bK w w'):Lp w0 c b1 b2 w' fo:=
 ⟨up h.base a,h.fst.Cw a,h.tV.Cw a,λs v d=>(h.fin s v d).below a⟩
theorem Lp.lt(h:Lp w0 c b1 b2 w fo):b2<w.heap.size:=h.tV.lt
theorem Lp.grown{t:TypeId}{r:Option Nat}(h:Lp w0 c b1 b2 w fo)(hg:w.grownBy w' r)(a:∀k,r=some k->w0.heap.size<=k/\∃d,w.heap[k]?=some (.cells d t (0,0)))(u:34≠t)(C:9≠t)(D:3≠t):Lp w0 c b1 b2 w' fo:=by
 have f:∀b n z o,qo w b n z o->some b≠r:=λb n z o G e=>by obtain⟨K,I,q⟩:=G.isMap;obtain⟨_,d,g⟩:=a b e.symm;rw[q]at g;cases g
 exact⟨Below.grown h.base hg h.base.size (λk e=>(a k e).1),h.fst.kept hg<|f _ _ _ _ h.fst,h.tV.kept hg<|f _ _ _ _ h.tV,λs v H=>(h.fin s v H).st (mV.grown hg λk e=>(a k e).2) u C D⟩
end
def Ck.blD(B:List Dg × Int):List Dg:=if B.2≠0 then []else bO.once B.1
def ZM(w0:World)(c:Cx)(b1 b2:Nat)(w w':World):Prop:=∃a,Lp w0 c b1 b2 w' a/\But b2 w w'
theorem arZ(h:oO m y=0):y.imports.length<=8:=by
 unfold oO at h;by_cases a:8<y.imports.length\/8<y.vars.length\/8<y.bq.length;·rw[aK a]at h;cases h
 ·omega
def Xj(w0:World)(c:Cx)(vn vl vk:Value)(b1 b2:Nat)(g:Nat):Prop:=∀(w:World) (fo:ByteArray->Option Value) (s:ByteArray),Lp w0 c b1 b2 w fo->(dQ c.l s).isSome=true->Ck.rk c.l s<g->s.size<=maxLen->
 Calls prog 15 #[.agg #[vn,vl,vk,.map (some b1),.map (some b2)],.string s] w λe w'=>∃v,e=.returned v/\Hid (ZM w0 c b1 b2 w w'/\FiW w' v (FD c s)/\(fo s=none->FiD w' v (FD c s)))
theorem QIn.forms{c:Cx}(h:QIn w0 c vn vl vk b1 b2 U):(∃a n c,vn=X a n c)/\(∃a n c,vl=X a n c)/\∃a n c,vk=X a n c:=by obtain⟨q,_,_,D,d,_⟩:=h.strs;obtain⟨u,_,_,G,_,_,_,_,f,_⟩:=h.Q5;obtain⟨C,_,_,H,g,_⟩:=h.mks;exact⟨⟨_,_,_,d⟩,⟨_,_,_,f⟩,⟨_,_,_,g⟩⟩
theorem Ck.aiX{F:aS->Ck.Fi}(d:r[j]?=some s)(acc:List Dg):Ck.bl l F (r.drop j) acc=if (dQ l s).isSome=false then Ck.bl l F (r.drop<|j+1) acc else if (F s).2.2≠0 then ([],(F s).2.2)else Ck.bl l F (r.drop<|j+1) (if (F s).2.1≠[]then acc++[⟨7,⟨#[]⟩,s⟩]else acc):=by obtain⟨a,e⟩:=cO.1 d;rw[Nw a,e,Ck.bl]
theorem abX(w0 w:bI)(c:Cx)(vn vl vk:aC)(b1 b2:Nat)(U:aJ)(fo:aS->Option aC)(g i:Nat)(x:Mo)(vi vv vf:aC)(hQ:QIn w0 c vn vl vk b1 b2 U)(hA:Lp w0 c b1 b2 w fo)(hO:Xj w0 c vn vl vk b1 b2 g)(hi:dQ c.l x.name=some i)(hx:c.l[i]?=some x)(hM:jl w0 c.m (.agg #[A x.name,vi,vv,vf]) x)(hr:¬Ck.yu c.l x.name x.name)(hg:Ck.rk c.l x.name<=g):aD 53 #[.agg #[vn,vl,vk,.map<|some b1,.map<|some b2],.agg #[A x.name,vi,vv,vf]] w λe w'=>∃u,e=dz (.tuple #[u,O (Ck.bl c.l (FD c) x.imports []).2])/\J (ZM w0 c b1 b2 w w'/\jg w' u (blD<|Ck.bl c.l (FD c) x.imports [])):=by
 obtain⟨⟨a0,n0,c0,rfl⟩,⟨a1,n1,c1,rfl⟩,⟨a2,n2,c2,rfl⟩⟩:=hQ.forms;have HO:=Y hO;have br:J (∀b,b∈x.imports->(dQ c.l b).isSome=true->Ck.rk c.l b<g):=Y (λb hb hs=>wI (QN hr ⟨i,x,hi,hx,hb,hs⟩) hg);have ak:J (x.imports.length<=8):=Y<|arZ<|(kK hQ.form).2.2.1 x (dG hx);obtain⟨hI,hV,hF⟩:=hM.split;obtain⟨ia,ib,io,ic,rfl,ay,-,aA,az⟩:=hI;obtain⟨a3,b3,o3,c3,rfl,-⟩:=hV;obtain⟨a4,b4,o4,c4,rfl,-⟩:=hF;obtain⟨ah,bk,ai⟩:=fE ay aA az;obtain⟨ni,ae⟩:∃n,n=x.imports.length:=⟨_,rfl⟩;have IW:=Y ae;rw[<-ae]at ah ai ak ⊢;generalize x.vars.length=n3 at *;generalize x.bq.length=n4 at *;obtain⟨C,ab⟩:∃B,B=Ck.bl c.l (FD c) x.imports []:=⟨_,rfl⟩;have Fy:=Y ab;rw[<-ab];have oL:=Y hA.lt;obtain⟨W,hW,k0,k1,bz,R⟩:=AL w (aY #[X a0 n0 c0,X a1 n1 c1,X a2 n2 c2,.map<|some b1,.map<|some b2] 63)<|aY #[A x.name,X ia ni ic,X a3 n3 c3,X a4 n4 c4] 47;obtain⟨lH,jG,iO,Vu⟩:=lD k0 k1 R<|hA.below R;obtain⟨-,q1⟩:=jv k1;clear k0 k1 bz R hA hQ hO hM hi hx hr hg ay aA az ae ab;go_enter func53,ntmps53;go_upto_region 2 with fail;rw[<-hW];clear hW;go_wp2_with fail;clear q1;go_loopw[6,15] (λd i wr=>∃(dv:aC) (j:Nat) (acc:List Dg) (I:aS->Option aC),dv=d/\j<=ni/\i=O j/\J (Ck.bl c.l (FD c) (x.imports.drop j) acc=C/\acc.length<=j/\dA qU wr W.heap.size 52 3 dv acc/\Lp w0 c b1 b2 wr I/\But b2 W wr)) (λ_ i _=>ni - (intOf i).toNat);exact⟨_,0,[],fo,rfl,bN _,rfl,Y ⟨Fy.out.symm,bG _,dA.nil _ _ _ _,Vu.out,But.refl _ _⟩⟩
 obtain⟨d,j,acc,I,rfl,hj,rfl,a⟩:=hrel;have al:=Y (a.out.2.2.2.2.at (show w.heap.size≠b2 from λe=>by have:=oL.out;omega) lH.out);have bY:=ak.out;by_cases aE:j<ni
 ·obtain⟨s,hs⟩:∃y',x.imports[j]?=some y':=⟨_,aZ (by rw[<-IW.out];exact aE)⟩;have gc:=aG (ai.out j aE) a.out.2.2.2.1.base;rw[List.getD,hs,gD]at gc;obtain rfl:=ah.out bC;obtain⟨ap,am,MF⟩:=fE (bk.out s<|dG hs) (aiX (l:=c.l) (F:=FD c) hs acc)<|dG hs;have q3:=aj al.out 3;have K:=a.out.2.2.2.1.fst.sS underlying58 Dq ap.out;clear hs;cases G:dQ c.l s with
  | none=>
   have M:Ck.fi c.l s=none:=by unfold Ck.fi;rw[G];rfl
   rw[M]at K;simp only[lK,nE]at K;have L:J (Ck.bl c.l (FD c) (x.imports.drop<|j+1) acc=C):=Y (by have h:=am.out;rw[aK (by rw[G];rfl)]at h;rw[<-h];exact a.out.1);clear G M;go_wp2;go_roundw;exact⟨_,j+1,acc,I,rfl,by omega,by go_num,Y ⟨L.out,Nat.le_succ_of_le a.out.2.1,a.out.2.2.1,a.out.2.2.2.1,a.out.2.2.2.2⟩⟩;exact gV
  | some k=>
   have M:Ck.fi c.l s=some (O (k:Nat)):=by unfold Ck.fi;rw[G];rfl
   rw[M]at K;simp only[gD,nD]at K;have P:(dQ c.l s).isSome=true:=by rw[G];rfl
   obtain⟨bS,qL,q⟩:=fE P (HO.out wr I s a.out.2.2.2.1 P (br.out s MF.out P) ap.out) am.out;rw[aI (by rw[P];simp)]at q;obtain⟨q0,q1,q2,-,q4⟩:=ZC5 al.out;clear G M P;go_upto_region 7 with fail;go_wp2_with fail;refine qL.out.mono ?_;rintro e S ⟨v5,rfl,lQ⟩;obtain⟨⟨aa,ba,Ol⟩,bs,-⟩:=lQ.out;obtain⟨b5,av,aw,rfl,aq⟩:=bs;obtain⟨bc,be,ar⟩:=aq.form;generalize (FD c s).1.length=bf at ar;subst ar;obtain⟨D,ac⟩:∃e,e=(FD c s).2.2:=⟨_,rfl⟩;obtain⟨n5,JR⟩:∃n,n=(FD c s).2.1.length:=⟨_,rfl⟩;obtain⟨Xb,CW⟩:=bV ac JR;rw[<-ac,<-JR];obtain⟨bo,Ec⟩:=bV ba<|a.out.2.2.2.2.trans Ol;have bh:J (dA qU S W.heap.size 52 3 d acc):=Y (by
    have hm:=a.out.2.2.2.1.tV.isMap;obtain⟨cs,⟨h0,h1⟩,h2⟩:=a.out.2.2.1;refine⟨cs,⟨h0,?_⟩,h2⟩;rcases h1 with h1|⟨g',bv,au,bA,bw,bx,r'⟩;·exact aO h1
    ·exact aQ ⟨g',bv,au,bA,bw,mV.but (t:=4) Ol hm g' au _ bx bM,r'⟩)
   clear lQ ba Ol aq ac JR q0 q1 q2 q3 q4 gc K;obtain⟨eT,EW⟩:=sO S<|aY #[X bc bf be,X av n5 aw,O D] 66;go_upto_region 8 with fail;generalize S.alloc (aY #[X bc bf be,X av n5 aw,O D] 66)=f at *;obtain⟨Z,zA,af⟩:=fE (bo.out.below eT.out) (Ec.out.trans<|But.of_below eT.out)<|bh.out.below eT.out;generalize S.heap.size=FB at *;obtain⟨-,f1,f2⟩:=P5 EW.out;by_cases N:D=0
   ·subst N;rw[aI (by rw[<-Xb.out];simp)]at q;by_cases ad:n5=0
    ·subst ad;have a8:(FD c s).2.1=[]:=qp.1 CW.out.symm;rw[aI (by rw[a8];simp)]at q;have L:J (Ck.bl c.l (FD c) (x.imports.drop<|j+1) acc=C):=Y (by rw[<-q.out];exact a.out.1);clear a8;go_wp2;go_roundw;exact⟨_,j+1,acc,aa,rfl,by omega,by go_num,Y ⟨L.out,Nat.le_succ_of_le a.out.2.1,af.out,Z.out,zA.out⟩⟩;exact gV
    ·have a7:(FD c s).2.1≠[]:=λh=>ad (by rw[CW.out,h];rfl);rw[aK a7]at q;have L:J (Ck.bl c.l (FD c) (x.imports.drop<|j+1) (acc++[⟨7,⟨#[]⟩,s⟩])=C):=Y (by rw[<-q.out];exact a.out.1);have b0:0<n5:=by omega
     have H:=Y<|aH f<|aY #[O 7,A ⟨#[]⟩,A s] 52;have EP:J (dA qU (f.alloc<|aY #[O 7,A ⟨#[]⟩,A s] 52) f.heap.size 52 3 (Tc f.heap.size 1 1) [⟨7,⟨#[]⟩,s⟩]):=Y (dA.one (c:=[O 7,A ⟨#[]⟩,A s]) f 52 rfl (by simp[Value.oneCell']) rfl);obtain⟨Q,bp,jS⟩:=fE (af.out.below H.out) (Z.out.below H.out)<|zA.out.trans<|But.of_below H.out;clear a7 ad
     go_wp2_with (first
      | (at_builtin;refine fG (At:=qU) rfl _ _ 38 52 3 40 _ rfl underlying38 qV bM bM bM W.heap.size d acc rfl Q.out f.heap.size (Tc f.heap.size 1 1) [⟨7,⟨#[]⟩,s⟩] rfl EP.out (by have:=a.out.2.1;simp only[iI];omega) jS.out.size ?_;intro v8 w8 qG jB;have bm:=Y qG;have ag:=Y jB;clear qG jB)
      | fail)
     obtain⟨bq,xu⟩:=bV (bp.out.grown (t:=52) ag.out (λk e=>⟨bE (bE Vu.out.base.size<|bG _) (Q.out.lt k e).1,Q.out.typ e⟩) bM bM bM)<|jS.out.grown ag.out (λk e=>(Q.out.lt k e).1);go_roundw;exact⟨_,j+1,acc++[⟨7,⟨#[]⟩,s⟩],aa,rfl,by omega,by go_num,Y ⟨L.out,by rw[bg,iI];have:=a.out.2.1;omega,bm.out,bq.out,xu.out⟩⟩;exact gV
   ·have hz:=eO N;rw[aK (by rw[<-Xb.out];exact N),<-Xb.out]at q;have V:J (C=([],D)):=Y (by rw[<-a.out.1];exact q.out);have bj:=Y N;clear N;go_upto_region 9 with fail;clear f1 f2;have f2:=bD<|(aj EW.out 2).trans rfl;refine bW dw dw ?_;repeat(quiet_step (fail))
    refine wpQuiet_nil ?_;intro w7 bB;obtain⟨⟨nq,bL⟩,bb⟩:=bB;have H:J (bK f w7):=Y (by rw[bb];exact bU f nq bL);clear bb f2;go_wp2_with fail;refine cZ (v:=.tuple #[aU,O D]) (by simp[results,results53,go_sem]) rfl ?_;rw[V.out];exact⟨_,rfl,Y ⟨⟨aa,Z.out.below H.out,(But.of_below iO.out).trans (zA.out.trans<|But.of_below H.out)⟩,by rw[show blD ([],D)=[]from aK bj.out];exact Aj _ _⟩⟩
 ·obtain rfl:j=ni:=by omega
  have V:J (C=(acc,0)):=Y (by rw[<-a.out.1,IW.out,List.drop_length];rfl);have bi:=Y (a.out.2.2.1.GJ (by have:=a.out.2.1;omega));have bu:=Y (y8 wr d acc bi.out (by have:=a.out.2.1;omega));obtain⟨da,dc,ax⟩:=a.out.2.2.1.form;obtain⟨nd,a6⟩:∃n,n=acc.length:=⟨_,rfl⟩;rw[<-a6]at ax;subst ax;clear a6;go_wp2_with fail;refine bu.out.mono ?_;rintro e w9 ⟨u9,rfl,V8,vV⟩;have ao:=Y V8;obtain⟨a9,b9,o9,c9,rfl,-⟩:=V8;obtain⟨n9,a5⟩:∃n,n=(bO.once acc).length:=⟨_,rfl⟩;rw[<-a5]at ao ⊢;have Ac:=Y vV;clear vV a5;go_wp2_with fail;refine cZ (v:=.tuple #[X a9 n9 c9,O 0]) (by simp[results,results53,go_sem]) rfl ?_;rw[V.out];exact⟨_,rfl,Y ⟨⟨I,a.out.2.2.2.1.below Ac.out,(But.of_below iO.out).trans (a.out.2.2.2.2.trans<|But.of_below Ac.out)⟩,by rw[show blD (acc,0)=bO.once acc from aI cK];exact ao.out⟩⟩
def KnC(w0:World)(m:Nat)(_:World)(c:List Value)(y:Mo):Prop:=∃d f a,c=[.string y.name,d,f,a]/\jl w0 m (.agg #[.string y.name,d,f,a]) y
def SsC(w:World)(c:List Value)(y:List Sc):Prop:=∃u,c=[u]/\eZ Ht w 0 34 6 u y
theorem SsC.st{c:List aC}{y:List Sc}(h:SsC w c y)(g:mV t w w')(a:34≠t)(d:9≠t)(f:3≠t):SsC w' c y:=by obtain⟨q,e,h⟩:=h;exact⟨q,e,qK h g a d f⟩
theorem aiY:(prog.info? 47).map (λi=>(i.zero,i.size,i.bytes))=some (some<|.agg #[A ⟨#[]⟩,aU,aU,aU],4,88):=by kernel_rfl
theorem VA:(prog.info? 37).map (λi=>(i.zero,i.size,i.bytes))=some (some<|aU,1,24):=by kernel_rfl
theorem alZ(h:eZ (KnC w0 m) w n 47 4 v l)(C:l.length<=9223372036854775807)(G:bK w0 w):jN w m v l:=by
 cases l with
 | nil =>obtain⟨a,c,e⟩:=h.form;exact⟨a,0,0,c,e,λD=>aM D cK,C,λi y f=>aM f cK⟩
 | cons Q r =>obtain⟨g,cap,e,_⟩:=h.get (i:=0) (y:=Q) rfl;refine⟨_,g,0,cap,e,λ_=>rfl,C,λi y f=>?_⟩;obtain⟨Z,R,u,c,_,I,N,P,M,H,L⟩:=h.get f;rw[e]at u;injection u with d S V;injection d with d;injection d with d;subst d;have q:=λj K=>I j K;rw[H]at q;rw[d9];exact⟨N,P,M,q 0 bM,q 1 bM,q 2 bM,q 3 bM,L.below G⟩
theorem aiZ{l:List (List Sc)}(h:eZ SsC w n 37 1 v l)(H:l.length<=9223372036854775807)(f:∀r∈l,r.length<=1048576/\∀y∈r,y.gY.length<=1048576/\∀C∈y.gY,C.size<=maxLen):BZ w v l:=by
 cases l with
 | nil =>obtain⟨a,c,e⟩:=h.form;exact⟨a,0,0,c,e,λI=>aM I cK,H,λi y u=>aM u cK⟩
 | cons N r =>obtain⟨g,cap,e,_⟩:=h.get (i:=0) (y:=N) rfl;refine⟨_,g,0,cap,e,λ_=>rfl,H,λi y u=>?_⟩;obtain⟨S,P,D,c,_,L,C,K,M⟩:=h.get u;rw[e]at D;injection D with d Q R;injection d with d;injection d with d;subst d;have q:=L 0 bM;rw[K,Nat.mul_one,sN]at q;rw[d9];obtain⟨V,G⟩:=f y<|dG u;exact⟨C,q,Li M bC (λz f=>(G z f).2) (λz f=>(G z f).1)⟩
theorem ai0(w:bI)(a b:Option Addr)(n n' c d:Nat)(e:Int):(Instr.field 66 (.agg #[X a n c,X b n' d,O e]) 0).run prog w=.ok (.agg #[X a n c,X b n' d]) w:=by kernel_rfl
theorem ai1(w:bI)(a b:Option Addr)(n n' c d:Nat):(Instr.field 40 (.agg #[X a n c,X b n' d]) 0).run prog w=.ok (X a n c) w:=by kernel_rfl
namespace Ck
theorem UE(d:l[j]?=some y)(x:Mo):tN (l.take<|j+1) x=if cB y.name x.name then tN (l.take j) x else tN (l.take j) x++[y]:=by
 unfold tN;rw[gy,d,kI,List.filter_append];cases a:cB y.name x.name with
 | true=>simp[a]
 | false=>simp[a]
theorem agb(a:l[j]?=some y)(F:aS->Fi)(x:Mo):vE (l.take<|j+1) F x=if cB y.name x.name then vE (l.take j) F x else vE (l.take j) F x++[sc1 F x y]:=by
 unfold vE;rw[UE a];split;·rfl
 ·rw[gX];rfl
theorem QS(l:List Mo)(x:Mo):(tN l x).length<=l.length:=Km _ _
theorem Ls(l:List Mo)(F:aS->Fi)(x:Mo):(vE l F x).length=(tN l x).length:=dV _
end Ck
theorem qM(h:eZ (KnC w0 m) w n 47 4 v l)(g:mV t w w')(q:47≠t):eZ (KnC w0 m) w' n 47 4 v l:=
 h.keep (λj a _ f=>g j a _ f q) λ_ _ d=>d
theorem tO{l:List (List Sc)}(h:eZ SsC w n 37 1 v l)(a:mV t w w')(D:37≠t)(f:34≠t)(g:9≠t)(q:3≠t):eZ SsC w' n 37 1 v l:=
 h.keep (λj d _ C=>a j d _ C D) λ_ _ u=>u.st a f g q
theorem XZ(w0 w:bI)(c:Cx)(vn vl vk:aC)(b1 b2:Nat)(U:aJ)(fo:aS->Option aC)(g i:Nat)(x:Mo)(vi vv vf:aC)(hQ:QIn w0 c vn vl vk b1 b2 U)(hA:Lp w0 c b1 b2 w fo)(hO:Xj w0 c vn vl vk b1 b2 g)(hi:dQ c.l x.name=some i)(hx:c.l[i]?=some x)(hM:jl w0 c.m (.agg #[A x.name,vi,vv,vf]) x)(hr:¬Ck.yu c.l x.name x.name)(hg:Ck.rk c.l x.name<=g):aD 54 #[.agg #[vn,vl,vk,.map (some b1),.map (some b2)],.agg #[A x.name,vi,vv,vf]] w λe w'=>∃ku su,e=dz (.tuple #[ku,su])/\J (ZM w0 c b1 b2 w w'/\eZ (KnC w0 c.m) w' w.heap.size 47 4 ku (tN c.l x)/\eZ SsC w' w.heap.size 37 1 su (vE c.l (FD c) x)):=by
 obtain⟨⟨a0,n0,c0,rfl⟩,⟨a1,n1,c1,rfl⟩,-⟩:=hQ.forms;obtain⟨HO,MI⟩:=bV hO (kK hQ.form);have alY:J (∀b,b∈x.imports->(dQ c.l b).isSome=true->Ck.rk c.l b<g):=Y (λb hb hs=>wI (QN hr ⟨i,x,hi,hx,hb,hs⟩) hg);obtain⟨hI,hV,hF⟩:=hM.split;have HI:=Y hI;obtain⟨ia,ib,io,ic,rfl,-⟩:=hI;obtain⟨a3,b3,o3,c3,rfl,-⟩:=hV;obtain⟨a4,b4,o4,c4,rfl,-⟩:=hF;obtain⟨ni,hni⟩:∃n,n=x.imports.length:=⟨_,rfl⟩;rw[<-hni]at HI ⊢;generalize x.vars.length=n3 at *;generalize x.bq.length=n4 at *;obtain⟨ka,kb,ko,kc,rfl,hka,hkl,agc⟩:=hQ.mks;obtain⟨HKA,ar2⟩:=bV hka agc;obtain⟨nk,hnk⟩:∃n,n=c.l.length:=⟨_,rfl⟩;have LW:=Y hnk;rw[<-hnk]at HKA HO ⊢;have uX:J (nk<=6):=Y (by rw[hnk];exact(kK hQ.form).2.1);have oL:=Y hA.lt;obtain⟨W,hW,k0,k1,hsz,hBW⟩:=AL w (aY #[X a0 n0 c0,X a1 n1 c1,X ka nk kc,.map (some b1),.map (some b2)] 63) (aY #[A x.name,X ia ni ic,X a3 n3 c3,X a4 n4 c4] 47);obtain⟨lH,jG,iO,Vu⟩:=lD k0 k1 hBW (hA.below hBW);have Ra:J (w.heap.size<=W.heap.size):=Y hBW.size;have q2:=aj k0 2;clear k0 k1 hsz hBW hA hQ hO hM hi hx hr hg hni hka agc hkl hnk;go_enter func54,ntmps54;go_upto_region 3 with fail;rw[<-hW];clear hW;go_wp2_with fail;clear q2;go_loopw[6,7,13] (λk s i wr=>∃(kv sv:aC) (j:Nat) (IL:aS->Option aC),kv=k/\sv=s/\j<=nk/\i=O j/\J (eZ (KnC w0 c.m) wr W.heap.size 47 4 kv (tN (c.l.take j) x)/\eZ SsC wr W.heap.size 37 1 sv (vE (c.l.take j) (FD c) x)/\Lp w0 c b1 b2 wr IL/\But b2 W wr)) (λ_ _ i _=>nk - (intOf i).toNat);exact⟨_,_,0,fo,rfl,rfl,bN _,rfl,Y ⟨eZ.nil _ _ _ _,eZ.nil _ _ _ _,Vu.out,But.refl _ _⟩⟩
 obtain⟨kv,sv,j,IL,rfl,rfl,hj,rfl,HR⟩:=hrel;have atF:=uX.out;by_cases hjl:j<nk
 ·obtain⟨y,hy⟩:∃y,c.l[j]?=some y:=⟨_,aZ (by rw[<-LW.out];exact hjl)⟩;obtain⟨HYM,HOT,X0⟩:=fE (dG hy) (UE hy x) (agb hy (FD c) x);obtain⟨yi,yv,yf,g0,g1,g2,g3,LX,-⟩:=ar2.out j y hy;obtain rfl:=HKA.out bC;obtain⟨HMY,HYZ⟩:=bV LX (Qj LX);obtain⟨hyI,hyV,hyF⟩:=LX.split;have HYF:=Y hyF;obtain⟨d1,e1,p1,z1,rfl,-⟩:=hyI;obtain⟨d2,e2,p2,z2,rfl,-⟩:=hyV;obtain⟨d3,e3,p3,z3,rfl,-⟩:=hyF;obtain⟨m1,hm1⟩:∃n,n=y.imports.length:=⟨_,rfl⟩;obtain⟨m2,hm2⟩:∃n,n=y.vars.length:=⟨_,rfl⟩;obtain⟨m3,hm3⟩:∃n,n=y.bq.length:=⟨_,rfl⟩;rw[<-hm1]at g1 HMY;rw[<-hm2]at g2 HMY;rw[<-hm3]at g3 HMY HYF;have hbase:=HR.out.2.2.1.base;replace g0:=aG g0 hbase;replace g1:=aG g1 hbase;replace g2:=aG g2 hbase;replace g3:=aG g3 hbase;have HU8:=Y (Ai (MI.out.2.2.1 y HYM.out));clear hy LX hm1 hm2 hm3 hbase;go_upto_region 6 with fail;obtain⟨qO,HKB⟩:=sO wr (aY #[A y.name,X d1 m1 z1,X d2 m2 z2,X d3 m3 z3] 47);generalize wr.alloc (aY #[A y.name,X d1 m1 z1,X d2 m2 z2,X d3 m3 z3] 47)=W5 at *;obtain⟨al0,al1,HQ5,Ec⟩:=lD (qM HR.out.1 (mV.below (t:=4) qO.out) bM) (tO HR.out.2.1 (mV.below (t:=4) qO.out) bM bM bM bM) (HR.out.2.2.1.below qO.out) (HR.out.2.2.2.trans (But.of_below qO.out));have aoT:=Y (Ec.out.at (show w.heap.size+1≠b2 from λe=>by have:=oL.out;omega) jG.out);have aoU:J (∀k,kv.ownBlock=some k->k<wr.heap.size):=Y (λk e=>(HR.out.1.lt k e).2);obtain⟨YB,hYB⟩:∃n,n=wr.heap.size:=⟨_,rfl⟩;rw[<-hYB]at HKB aoU ⊢;clear hYB g0 g1 g2 g3;have y0:=aj HKB.out 0;have x0:=aj aoT.out 0;cases hsm:cB y.name x.name with
  | true=>
   have hst:(y.name.toList==x.name.toList)=true:=hsm;rw[hsm,aK rfl]at HOT X0;clear hsm;go_wp2;go_roundw;exact⟨_,_,j+1,IL,rfl,rfl,by omega,by go_num,Y ⟨by rw[HOT.out];exact al0.out,by rw[X0.out];exact al1.out,HQ5.out,Ec.out⟩⟩;exact gV
  | false=>
   have hst:(y.name.toList==x.name.toList)=false:=hsm;rw[hsm,aI cK]at HOT X0;obtain⟨eT,EW⟩:=sO W5 (aY #[A y.name,X d1 m1 z1,X d2 m2 z2,X d3 m3 z3] 47);obtain⟨-,y1,y2,y3⟩:=xX HKB.out;obtain⟨abY,ar3,HQ6,zA,aoV,aoW⟩:=vC (qM al0.out (mV.below (t:=4) eT.out) bM) (tO al1.out (mV.below (t:=4) eT.out) bM bM bM bM) (HQ5.out.below eT.out) (Ec.out.trans (But.of_below eT.out)) (bH HKB.out eT.out) (bH aoT.out eT.out);have HOL:J ((tN (c.l.take j) x).length<=6):=Y (bE (QS _ _) (by rw[iA];have:=LW.out;omega));obtain⟨ka6,kc6,hkv⟩:=al0.out.form;obtain⟨kn6,aoX⟩:∃n,n=(tN (c.l.take j) x).length:=⟨_,rfl⟩;rw[<-aoX]at hkv;subst hkv;obtain⟨sa6,sc6,hsv⟩:=al1.out.form;obtain⟨sn6,aoY⟩:∃n,n=(vE (c.l.take j) (FD c) x).length:=⟨_,rfl⟩;rw[<-aoY]at hsv;subst hsv;have HSL:J ((vE (c.l.take j) (FD c) x).length<=6):=Y (by rw[Ls];exact HOL.out);clear hsm aoX aoY
   go_upto_region 8 with(first
    | (at_builtin;refine mU (At:=KnC w0 c.m) rfl _ _ 26 47 4 88 _ rfl underlying26 aiY bM bM bM W.heap.size (X ka6 kn6 kc6) (tN (c.l.take j) x) rfl abY.out W5.heap.size [A y.name,X d1 m1 z1,X d2 m2 z2,X d3 m3 z3] y rfl (λq u hu=>((aj EW.out q).trans (by simpa only [yK]using hu))) rfl (by simp[Value.oneCell']) ⟨_,_,_,rfl,HMY.out⟩ (by have:=HOL.out;omega) zA.out.size (λ_ _ _ _ h=>h) ?_;intro g7 abr w7 gF dI;have HK7:=Y gF;have HG7:=Y dI;clear gF dI)
    | fail)
   have ar4:=Y (mV.grown HG7.out abY.out.typ);obtain⟨aoZ,HQ7,jS⟩:=fE (tO ar3.out ar4.out bM bM bM bM) (HQ6.out.grown HG7.out (λk e=>⟨bE Vu.out.base.size (abY.out.lt k e).1,abY.out.typ k e⟩) bM bM bM) (zA.out.grown HG7.out (λk e=>(abY.out.lt k e).1));have afN:J (w7.heap[YB]?=some (aY #[A y.name,X d1 m1 z1,X d2 m2 z2,X d3 m3 z3] 47)):=Y (by exact(HG7.out.block YB (aR aoV.out) (λe=>aM (aoU.out YB e.symm) (Nat.lt_irrefl _))).trans aoV.out);have ar5:J (w7.heap[w.heap.size+1]?=some (aY #[A x.name,X ia ni ic,X a3 n3 c3,X a4 n4 c4] 47)):=Y (by exact(HG7.out.block (w.heap.size+1) (aR aoW.out) (λe=>aM (abY.out.lt _ e.symm).1 (by have:=aR jG.out;omega))).trans aoW.out);have ar6:J ((tN (c.l.take (j+1)) x)=tN (c.l.take j) x++[y]):=Y HOT.out;rw[<-ar6.out]at HK7;have ao0:=Y HQ7.out.base;obtain⟨-,i1⟩:=jv ar5.out;have j0:=aj afN.out 0;have wu:=Y (kS w7 _ x.imports y.name (HI.out.below ao0.out));clear x0 y0 y1 y2 y3 hst;go_wp2_with fail;refine wu.out.mono ?_;rintro e w8 ⟨rfl,hw8⟩;subst hw8;cases hin:bO.ER x.imports y.name with
   | true=>
    have hdec:decide (0<=dU x.imports y.name)=true:=hin;rw[hdec];have mX:J (sc1 (FD c) x y=(FD c y.name).1):=Y (by unfold sc1;rw[hin];rfl);rw[mX.out]at X0;have hsome:=EI HYM.out;obtain⟨qL,HKQ⟩:=bV (HO.out w8 IL y.name HQ7.out hsome (alY.out _ (QM.1 hin) hsome) HYZ.out) (jS.out.at (show w.heap.size≠b2 from λe=>by have:=oL.out;omega) lH.out);obtain⟨r0,r1,r2,r3,r4⟩:=ZC5 HKQ.out;clear hin hdec hsome;go_wp2_with fail;refine qL.out.mono ?_;rintro e w9 ⟨v9,rfl,KH⟩;obtain⟨⟨fo9,hq9,ZN⟩,ar7,-⟩:=KH.out;obtain⟨vs9,d9a,d9c,rfl,aho⟩:=ar7;have al5:=Y aho;obtain⟨s9a,s9c,agd⟩:=aho.form;obtain⟨s9n,agf⟩:∃n,n=(FD c y.name).1.length:=⟨_,rfl⟩;rw[<-agf]at agd;subst agd;obtain⟨E9,hE9⟩:∃e,e=(FD c y.name).2.2:=⟨_,rfl⟩;obtain⟨n9,hn9⟩:∃n,n=(FD c y.name).2.1.length:=⟨_,rfl⟩;rw[<-hE9,<-hn9];have hmap:=HQ7.out.tV.isMap;obtain⟨al6,al7,HQ9,Ci⟩:=lD (qM HK7.out (mV.but (t:=4) ZN hmap) bM) (tO aoZ.out (mV.but (t:=4) ZN hmap) bM bM bM bM) hq9 (jS.out.trans ZN);obtain⟨hf1,hf2⟩:=eY ai0 ai1;clear KH hq9 ZN aho hE9 hn9 agf hmap r0 r1 r2 r3 r4 i1 j0;obtain⟨eT,EW⟩:=sO w9 (aY #[X s9a s9n s9c] 37);obtain⟨agh,aco,al8,atL,agi⟩:=uh (qM al6.out (mV.below (t:=4) eT.out) bM) (tO al7.out (mV.below (t:=4) eT.out) bM bM bM bM) (HQ9.out.below eT.out) (Ci.out.trans (But.of_below eT.out)) (qK al5.out (mV.below (t:=4) eT.out) bM bM bM)
    go_wp2_with (first
     | (at_builtin;refine mU (At:=SsC) rfl _ _ 118 37 1 24 _ rfl underlying118 VA bM bM bM W.heap.size (X sa6 sn6 sc6) (vE (c.l.take j) (FD c) x) rfl aco.out w9.heap.size [X s9a s9n s9c] (FD c y.name).1 rfl (λq u hu=>((aj EW.out q).trans (by simpa only [yK]using hu))) rfl (by simp[Value.oneCell']) ⟨_,rfl,agi.out⟩ (by have:=HSL.out;omega) atL.out.size (λw' cc yy hg hc=>hc.st (mV.grown hg aco.out.typ) bM bM bM) ?_;intro g11 ao1 w11 aek aio;have al9:=Y aek;have abh:=Y aio;clear aek aio)
     | fail)
    have agj:=Y (mV.grown abh.out aco.out.typ);obtain⟨mh,ama,agk⟩:=fE (qM agh.out agj.out bM) (al8.out.grown abh.out (λk e=>⟨bE Vu.out.base.size (aco.out.lt k e).1,aco.out.typ k e⟩) bM bM bM) (atL.out.grown abh.out (λk e=>(aco.out.lt k e).1));go_roundw;exact⟨_,_,j+1,fo9,rfl,rfl,by omega,by go_num,Y ⟨mh.out,by rw[X0.out];exact al9.out,ama.out,agk.out⟩⟩;exact gV
   | false=>
    have hdec:decide (0<=dU x.imports y.name)=false:=hin;rw[hdec];have mX:J (sc1 (FD c) x y=y.bq.map Ck.un):=Y (by unfold sc1;rw[hin];rfl);rw[mX.out]at X0;have j3:=aj afN.out 3;have HUC:=Y (XV c.m w8 _ y.bq (HYF.out.below ao0.out) HU8.out.1 HU8.out.2);clear hin hdec;go_wp2_with fail;refine HUC.out.mono ?_;rintro e w9 ⟨u9,rfl,KH⟩;obtain⟨aho,vV⟩:=KH.out;have al5:=Y (aho.old (bN _));obtain⟨s9a,s9c,agd⟩:=aho.form;obtain⟨s9n,agf⟩:∃n,n=(y.bq.map Ck.un).length:=⟨_,rfl⟩;rw[<-agf]at agd;subst agd;obtain⟨al6,al7,HQ9,Ci⟩:=lD (qM HK7.out (mV.below (t:=4) vV) bM) (tO aoZ.out (mV.below (t:=4) vV) bM bM bM bM) (HQ7.out.below vV) (jS.out.trans (But.of_below vV));clear KH vV aho agf i1 j0 j3;obtain⟨eT,EW⟩:=sO w9 (aY #[X s9a s9n s9c] 37);obtain⟨agh,aco,al8,atL,agi⟩:=uh (qM al6.out (mV.below (t:=4) eT.out) bM) (tO al7.out (mV.below (t:=4) eT.out) bM bM bM bM) (HQ9.out.below eT.out) (Ci.out.trans (But.of_below eT.out)) (qK al5.out (mV.below (t:=4) eT.out) bM bM bM)
    go_wp2_with (first
     | (at_builtin;refine mU (At:=SsC) rfl _ _ 118 37 1 24 _ rfl underlying118 VA bM bM bM W.heap.size (X sa6 sn6 sc6) (vE (c.l.take j) (FD c) x) rfl aco.out w9.heap.size [X s9a s9n s9c] (y.bq.map Ck.un) rfl (λq u hu=>((aj EW.out q).trans (by simpa only [yK]using hu))) rfl (by simp[Value.oneCell']) ⟨_,rfl,agi.out⟩ (by have:=HSL.out;omega) atL.out.size (λw' cc yy hg hc=>hc.st (mV.grown hg aco.out.typ) bM bM bM) ?_;intro g11 ao1 w11 aek aio;have al9:=Y aek;have abh:=Y aio;clear aek aio)
     | fail)
    have agj:=Y (mV.grown abh.out aco.out.typ);obtain⟨mh,ama,agk⟩:=fE (qM agh.out agj.out bM) (al8.out.grown abh.out (λk e=>⟨bE Vu.out.base.size (aco.out.lt k e).1,aco.out.typ k e⟩) bM bM bM) (atL.out.grown abh.out (λk e=>(aco.out.lt k e).1));go_roundw;exact⟨_,_,j+1,IL,rfl,rfl,by omega,by go_num,Y ⟨mh.out,by rw[X0.out];exact al9.out,ama.out,agk.out⟩⟩;exact gV
 ·obtain rfl:j=nk:=by omega
  have DU:J (c.l.take j=c.l):=Y (by rw[LW.out,jQ]);have HRR:=Y HR.out;rw[DU.out]at HRR;go_wp2_with fail;refine cZ (v:=.tuple #[kv,sv]) (by simp[results,results54,go_sem]) rfl ?_;exact⟨_,_,rfl,Y ⟨⟨IL,HRR.out.2.2.1,(But.of_below iO.out).trans HRR.out.2.2.2⟩,HRR.out.1.old Ra.out,HRR.out.2.1.old Ra.out⟩⟩
theorem Lv(h:dR W B (.cells #[r0,r1,r2] t (0,0)))(a d f:aC):(((W.setCell (aN B 0) a).setCell (aN B 1) d).setCell (aN B 2) f).heap[B]?=some (.cells #[a,d,f] t (0,0)):=by rw[aP (aP (aP h 0 a) 1 d) 2 f];rfl
theorem akc(h:Below n w W)(a:n<=B)(d f g:aC):Below n w (((W.setCell (aN B 0) d).setCell (aN B 1) f).setCell (aN B 2) g):=
 ((h.setCell (p:=(aN B 0)) a d).setCell (p:=(aN B 1)) a f).setCell (p:=(aN B 2)) a g
theorem qd(h:But p w W)(d:w.heap.size<=B)(f g q:aC):But p w (((W.setCell (aN B 0) f).setCell (aN B 1) g).setCell (aN B 2) q):=
 ((h.set (a:=(aN B 0)) (aQ d) f).set (a:=(aN B 1)) (aQ d) g).set (a:=(aN B 2)) (aQ d) q
theorem mV.set(h:dR W B (.cells cs t (0,0)))(v:aC):mV t W (W.setCell (aN B i) v):=λj f g a d=>aX a (λe=>by subst e;rw[h]at a;simp at a;exact d a.2.symm) v
theorem mV.trans{a b c:bI}(h:mV t a b)(k:mV t b c):mV t a c:=λj cs f g d=>k j cs f (h j cs f g d) d
theorem zP(h:dR W B (.cells #[r0,r1,r2] t (0,0)))(a d f:aC):mV t W (((W.setCell (aN B 0) a).setCell (aN B 1) d).setCell (aN B 2) f):=
 (mV.set h a).trans ((mV.set (aP h 0 a) d).trans (mV.set (aP (aP h 0 a) 1 d) f))
theorem Lp.X5{c:Cx}(h:Lp w0 c b1 b2 W fo)(u:dR W B (aY #[r0,r1,r2] 66))(D:w0.heap.size<=B)(a d f:aC):Lp w0 c b1 b2 (((W.setCell (aN B 0) a).setCell (aN B 1) d).setCell (aN B 2) f) fo:=by
 have C:∀b n z o,qo W b n z o->(((W.setCell (aN B 0) a).setCell (aN B 1) d).setCell (aN B 2) f).heap[b]?=W.heap[b]?:=λb n z o G=>by
  obtain⟨K,I,q⟩:=G.isMap;have g:b≠B:=λe=>by subst e;rw[u]at q;cases q
  rw[q];exact aX (aX (aX q g _) g _) g _
 exact⟨akc h.base D a d f,h.fst.same<|C _ _ _ _ h.fst,h.tV.same<|C _ _ _ _ h.tV,λs v H=>(h.fin s v H).st (zP u a d f) bM bM bM⟩
theorem jg.cells{l:List Dg}(h:jg w v l)(f:Sub w w'):jg w' v l:=by obtain⟨a,b,off,cap,e,C,H,D⟩:=h;refine⟨a,b,off,cap,e,C,H,λi d G=>?_⟩;obtain⟨g,q,u⟩:=D i d G;exact⟨f _ _ g,f _ _ q,f _ _ u⟩
theorem wG{l:List Dg}{a b:Option Addr}{k:Nat}(h:jg W v l)(V:dR W B (aY #[X a n k,X b n' k',O e] 66))(u C D:aC):jg (((W.setCell (aN B 0) u).setCell (aN B 1) C).setCell (aN B 2) D) v l:=by
 obtain⟨M,f,off,cap,N,Q,Z,R⟩:=h;refine⟨M,f,off,cap,N,Q,Z,λi d S=>?_⟩;obtain⟨I,g,P⟩:=R i d S;have G:f≠B:=λe=>by
  subst e;rw[aj V]at g;have aa:off+i*3+1<3:=(Array.getElem?_eq_some_iff.1 g).1;have:off+i*3+1=1\/off+i*3+1=2:=by omega
  rcases this with K|K<;>rw[K]at g<;>simp at g
 have H:∀q,bJ W f q=(((W.setCell (aN B 0) u).setCell (aN B 1) C).setCell (aN B 2) D).cell? (aN f q):=λq=>by obtain⟨o,L⟩:∃o,W.heap[f]?=some o:=⟨_,Array.getElem?_eq_getElem<|eH _ _ I⟩;exact(jH<|(aX (aX (aX L G u) G C) G D).trans L.symm).symm
 rw[<-H,<-H,<-H];exact⟨I,g,P⟩
theorem Ck.FU{c:Cx}(h:∀x∈c.l,oO c.m x=0):∀(g:Nat) (s:aS),(Ck.fd c g s).1.length<=8
 | 0,_=>bN _
 | g+1,s=>by
  rw[Ck.fd];cases d:dQ c.l s with
  | none=>exact bN _
  | some i=>
   obtain⟨x,a,_⟩:=iT d;simp only[a];unfold Oj;split;·exact bN _
   ·split;·exact bN _
    ·split;·exact bN _
     ·unfold Sm.ans;split;·exact bN _
      ·split;·exact bN _
       ·split;·exact bN _
        ·split;·exact bN _
         ·show(Sm.inf _ _ _ _ _ _ _).1.length<=8;rw[xB (bG _)];exact(Ai<|h x<|dG a).1
theorem Ck.agm{c:Cx}(h:∀x∈c.l,oO c.m x=0):∀r∈vE c.l (FD c) x,r.length<=1048576:=λr a=>by
 unfold vE at a;obtain⟨y,d,rfl⟩:=iZ.1 a;unfold sc1;split;·exact bE (FU h _ _) bM
 ·rw[dV];exact bE (Ai<|h y (List.mem_filter.1 d).1).1 bM
theorem abZ{l:aJ}(h:Strs w v l):Strs w.drew v l:=h.below (bQ _ _).drew
theorem ab0(w0 w:bI)(c:Cx)(vn vl vk:aC)(b1 b2:Nat)(U:aJ)(fo:aS->Option aC)(g i:Nat)(x:Mo)(vi vv vf:aC)(C:QIn w0 c vn vl vk b1 b2 U)(hA:Lp w0 c b1 b2 w fo)(hO:Xj w0 c vn vl vk b1 b2 g)(hi:dQ c.l x.name=some i)(hx:c.l[i]?=some x)(S:jl w0 c.m (.agg #[A x.name,vi,vv,vf]) x)(hC:Bg w0 vi vf)(hg:Ck.rk c.l x.name<=g):aD 33 #[.agg #[vn,vl,vk,.map<|some b1,.map<|some b2],.agg #[A x.name,vi,vv,vf]] w λe w'=>∃v,e=dz v/\J (ZM w0 c b1 b2 w w'/\FiW w' v (FD c x.name)/\FiD w' v (FD c x.name)):=by
 obtain⟨be,HQ,MI,ah,ak,ao⟩:=vC (QU hi hx) C (kK C.form) S hC<|dG hx;have af:J (∀a I,Lp w0 c b1 b2 a I->¬Ck.yu c.l x.name x.name->_):=Y (λa I h P=>abX w0 a c vn vl vk b1 b2 U I g i x vi vv vf C h hO hi hx S P hg);have qL:J (∀a I,Lp w0 c b1 b2 a I->¬Ck.yu c.l x.name x.name->_):=Y (λa I h P=>XZ w0 a c vn vl vk b1 b2 U I g i x vi vv vf C h hO hi hx S P hg);have YR:=Y (λa (d:bK w0 a)=>abO c.m a vk c.l x.name (C.mks.mos.below d) (by have:=(kK C.form).2.1;omega) (Qj S) C.small);obtain⟨⟨a0,n0,c0,rfl⟩,⟨a1,n1,c1,rfl⟩,⟨a2,n2,c2,rfl⟩⟩:=C.forms;obtain⟨hI,hV,hF⟩:=S.split;obtain⟨ia,ib,io,ic,rfl,-⟩:=hI;obtain⟨a3,b3,o3,c3,rfl,-⟩:=hV;obtain⟨a4,b4,o4,c4,rfl,-⟩:=hF;obtain⟨n3,bS⟩:=aV x.imports.length;obtain⟨n4,uV⟩:=aV x.vars.length;obtain⟨n5,JR⟩:=aV x.bq.length;rw[<-bS]at ah ak af qL ⊢;rw[<-uV]at ah af qL ⊢;rw[<-JR]at ah ak af qL ⊢;obtain⟨ad,hY⟩:=aV<|FD c x.name;have HY:=Y hY;rw[<-hY];obtain⟨oL,ca⟩:=bV hA.lt hA.base;obtain⟨W,hW,k0,k1,k2,cu,aw⟩:=al3 w (aY #[X a0 n0 c0,X a1 n1 c1,X a2 n2 c2,.map<|some b1,.map<|some b2] 63) (aY #[A x.name,X ia n3 ic,X a3 n4 c3,X a4 n5 c4] 47)<|aY #[aU,aU,O 0] 66;obtain⟨lH,jG,IJ,iO,Vu⟩:=uh k0 k1 k2 aw<|hA.below aw;clear k0 k1 k2 cu aw hA hO S hC hi hx hg bS uV JR hY C;go_enter func33,ntmps33;go_upto_region 1 with fail;rw[<-hW];clear hW;obtain⟨B,hB⟩:∃B:Bool,(B=true↔Ck.yu c.l x.name x.name):=by
  rcases Classical.em (Ck.yu c.l x.name x.name)with h|h;·exact⟨true,⟨λ_=>h,λ_=>rfl⟩⟩
  ·exact⟨false,⟨λe=>(by cases e),λe=>aM e h⟩⟩
 have HB:=Y hB;have Aw:J (bK W W):=Y<|bQ _ _;have HF:J (∀a,J (bK W a)->bJ a w.heap.size 2=some (X a2 n2 c2)/\bJ a (w.heap.size+1) 0=some (A x.name)):=Y (λa h=>⟨(aj (bH lH h) 2).trans rfl,(aj (bH jG h) 0).trans rfl⟩);clear hB;go_cut [17]from 10 (λt a=>t=.bool B/\J (bK W a));case first=>
  have x2:=HF W Aw
  go_region_held3 (λa=>bJ a w.heap.size 2=some (X a2 n2 c2)/\bJ a (w.heap.size+1) 0=some (A x.name))
   ((refine HF _ ?_;repeat(first|exact bh|exact Aw|apply iR|apply sZ)))
   (first
    | (go_at_call 52;refine(YR _<|up Vu.base<|gT<|by repeat(first|exact Aw|apply iR)).mono ?_;rintro e w5 ⟨u5,rfl,lQ⟩;obtain⟨R5,bk,bp,N⟩:=lQ.out;have cn:=Y bk;have co:=Y bp;obtain⟨s5,t5,q5,r5,rfl,-⟩:=bp;have bh:J (bK W w5):=Y (up (w:=W) (gT<|by repeat(first|exact Aw|apply iR)) N);clear lQ bk N)
    | (go_at_call 20;refine(kS _ _ R5 x.name<|by repeat(first|exact co|apply abZ)).mono ?_;rintro e w6 ⟨rfl,cw⟩;subst cw))
  all_goals
   have bz:decide (0<=dU R5 x.name)=B:=by
    have h1:(0<=dU R5 x.name)↔B=true:=Fl.wD.trans<|(cn.2 x.name).trans HB.symm;cases d:B with
    | true=>exact gW<|h1.2 d
    | false=>exact iD (λh=>by rw[h1.1 h]at d;cases d)
   rw[bz];clear bz;go_wp2;go_meet;exact⟨rfl,by repeat(first|exact bh|exact Aw|apply iR|apply sZ)⟩
 case rest=>
  obtain⟨rfl,bv⟩:=hcut;have ac:=Y bv.out;obtain⟨bb,oW,mh,bo,bf⟩:=uh (Vu.below ac) (bH lH ac) (bH jG ac) (bH IJ ac)<|up iO ac;have ai:J (w0.heap.size<=w.heap.size+1+1):=Y (by have:=ca.size;omega);clear bv;cases d:B with
  | true =>have HR:=Y<|HB.1 d;have cj:J (ad=([],[⟨8,⟨#[]⟩,x.name⟩],0)):=Y (by rw[HY,be];unfold Oj;rw[aK HR.out]);have V:=aj mh 0;have eT:=Y<|aH wc<|aY #[O 8,A ⟨#[]⟩,A x.name] 52;have HD:J (jg (wc.alloc<|aY #[O 8,A ⟨#[]⟩,A x.name] 52) (Tc wc.heap.size 1 1) [⟨8,⟨#[]⟩,x.name⟩]):=Y ((dA.one (At:=qU) (c:=[O 8,A ⟨#[]⟩,A x.name]) (y:=⟨8,⟨#[]⟩,x.name⟩) wc 52 rfl (by simp[Value.oneCell']) rfl).GJ cK);obtain⟨K,b9,ch⟩:=fE (bH bo eT) (bb.below eT)<|up bf eT;obtain⟨r0,r1,r2⟩:=P5 K;obtain⟨z0,z1,z2⟩:=lS (aF K 0) (aF K 1)<|aF K 2;clear d;go_wp2_with fail;generalize wc.alloc (aY #[O 8,A ⟨#[]⟩,A x.name] 52)=W2 at *;have Q:=Lv K (aU) (Tc wc.heap.size 1 1)<|O 0;obtain⟨L,f1,M⟩:=P5 Q;refine cZ (v:=.agg #[aU,Tc wc.heap.size 1 1,O 0]) (by simp[results,results33,go_sem,L,f1,M]) rfl ?_;rw[cj];exact⟨_,rfl,Y ⟨⟨fo,b9.X5 K ai _ _ _,qd (But.of_below ch) (bE (dN _)<|dN _) _ _ _⟩,⟨_,_,_,rfl,eZ.nil _ _ _ _⟩,⟨_,_,rfl,wG HD K _ _ _⟩⟩⟩
  | false=>
   have al:J (¬Ck.yu c.l x.name x.name):=Y (λh=>by rw[HB.2 h]at d;cases d);have D:J (ad=if (Ck.bl c.l (FD c) x.imports []).2≠0 then ([],[],(Ck.bl c.l (FD c) x.imports []).2)else if bO.once (Ck.bl c.l (FD c) x.imports []).1≠[]then ([],bO.once (Ck.bl c.l (FD c) x.imports []).1,0)else Sm.ans c.ss c.G c.L c.Z c.m x (tN c.l x) (vE c.l (FD c) x)):=Y (by rw[HY,be];unfold Oj;rw[aI al.out]);have bq:=Y<|af wc fo bb al;obtain⟨H,bu⟩:=aV<|Ck.bl c.l (FD c) x.imports [];rw[<-bu]at D bq;obtain⟨p0,p1,p2,p3,p4⟩:=ZC5 oW;obtain⟨V,m1,m2,m3⟩:=xX mh;clear d bu;go_wp2_with fail;refine bq.mono ?_;rintro e w3 ⟨u3,rfl,bA⟩;obtain⟨⟨av,b5,UH⟩,bw⟩:=bA.out;obtain⟨am,ap⟩:=bV b5<|(But.of_below bf).trans UH;have aE:w.heap.size≠b2:=λe=>by have:=oL.out;omega
   have a5:w.heap.size+1≠b2:=λe=>by have:=oL.out;omega
   have a6:w.heap.size+1+1≠b2:=λe=>by have:=oL.out;omega
   obtain⟨bi,bm,f,lG,aa⟩:=uh (UH.at aE oW) (UH.at a5 mh) (UH.at a6 bo) (And.intro aE<|And.intro a5 a6) bw;obtain⟨Z,ub,uo,uc,rfl,-⟩:=bw;obtain⟨un,ba⟩:=aV<|(blD H).length;rw[<-ba]at aa ⊢;have R:=Y ba;clear bA b5 UH aE a5 a6 ba p0 p1 p2 p3 p4 V m1 m2 m3;obtain⟨E3,ax⟩:=aV H.2;have ab:=Y ax;rw[<-ax];clear ax;by_cases hE:E3=0
   ·subst hE;have TG:J (blD H=bO.once H.1):=Y (aI (by rw[<-ab];simp));rw[aI (by rw[<-ab];simp)]at D;by_cases aA:un=0;·subst aA;have b0:bO.once H.1=[]:=qp.1 (by rw[<-TG];exact R.symm);rw[aI (by rw[b0];simp)]at D;obtain⟨p0,p1,p2,p3,p4⟩:=ZC5 bi;obtain⟨V,m1,m2,m3⟩:=xX bm;have cp:=Y<|qL w3 av am al;clear b0;go_wp2_with fail;refine cp.mono ?_;rintro e w4 ⟨ku,su,rfl,bB⟩;obtain⟨⟨ct,a7,UJ⟩,az,a8⟩:=bB.out;obtain⟨cd,cq,cl,ck,cm⟩:=uh a7 (ap.trans UJ) (UJ.at lG.1 bi) (UJ.at lG.2.1 bm)<|UJ.at lG.2.2 f;have ag:J (∀s,∀y∈(FD c s).1,XI U y):=Y (λs y q=>XY HQ.uni _ s y q);have cc:J (∀y∈tN c.l x,y∈c.l):=Y (λy q=>(List.mem_filter.1 q).1);have cg:J (∀r∈vE c.l (FD c) x,r.length<=1048576/\∀y∈r,y.gY.length<=1048576/\∀u∈y.gY,u.size<=maxLen):=Y (λr P=>⟨agm MI.2.2.1 r P,λy q=>⟨ZL HQ.uni.len ag r P y q,λu hu=>HQ.uni.size u<|(QO HQ.uni ao ag).eF r P y q u hu⟩⟩);have cr:J (mQ w4 c.m (X a0 n0 c0) (X a1 n1 c1) (X ia n3 ic) (X a3 n4 c3) (X a4 n5 c4) ku su (aU) c.ss c.G c.L c.Z x (tN c.l x) (vE c.l (FD c) x) []):=Y (by have d:=a7.base;exact⟨HQ.strs.below d,HQ.Q5.below d,ah.below d,ak.below d,alZ az (by have h1:=QS c.l x;have h2:=MI.2.1;omega) d,aiZ a8 (by rw[Ls];have h1:=QS c.l x;have h2:=MI.2.1;omega) cg,⟨none,0,0,0,rfl,λh=>aM h cK,by simp,λi y q=>by simp at q⟩,HQ.small x ao,λy q=>HQ.small y<|cc y q,HQ.tab.below d,ZL HQ.uni.len ag,λy q=>by cases q⟩);have bj:=Y<|Gp c.m w4 _ _ _ _ _ _ _ c.ss c.G c.L c.Z x (tN c.l x) (vE c.l (FD c) x) U cr<|QO HQ.uni ao ag;rw[<-D]at bj;obtain⟨cC,cD,bL⟩:=az.form;obtain⟨cG,cH,ae⟩:=a8.form;generalize (tN c.l x).length=cF at bL;generalize (vE c.l (FD c) x).length=cI at ae;subst bL ae;clear bB a7 UJ az a8 p0 p1 p2 p3 p4 V m1 m2 m3;obtain⟨l0,l1⟩:=jv cl;obtain⟨V,m1,m2,m3⟩:=xX ck;go_wp2_with fail;refine bj.mono ?_;rintro e w5 ⟨v5,u5,rfl,lQ⟩;obtain⟨a9,bx,N⟩:=lQ.out;obtain⟨cf,bc⟩:=bV (a9.old<|bN _) bx;obtain⟨b6,b7,ae⟩:=a9.form;obtain⟨ar,cy,cz,au,rfl,-⟩:=bx;obtain⟨b8,br⟩:=aV ad.1.length;obtain⟨bs,aq⟩:=aV ad.2.1.length;obtain⟨E5,ay⟩:=aV ad.2.2;rw[<-br]at ae;subst ae;rw[<-aq]at bc ⊢;rw[<-ay];obtain⟨cb,GQ,ce,Ec,G⟩:=uh aq ay (cd.below N) (cq.trans<|But.of_below N)<|bH cm N;obtain⟨r0,r1,r2⟩:=P5 G;obtain⟨z0,z1,z2⟩:=lS (aF G 0) (aF G 1)<|aF G 2;clear lQ a9 N br aq ay l0 l1 V m1 m2 m3;go_wp2_with fail;have Q:=Lv G (X b6 b8 b7) (X ar bs au)<|O E5;obtain⟨L,f1,M⟩:=P5 Q;refine cZ (v:=.agg #[X b6 b8 b7,X ar bs au,O E5]) (by simp[results,results33,go_sem,L,f1,M]) rfl ?_;exact⟨_,rfl,Y ⟨⟨ct,ce.X5 G ai _ _ _,qd Ec (bE (dN _)<|dN _) _ _ _⟩,⟨_,ar,au,by rw[<-cb,<-GQ],qK cf (zP G _ _ _) bM bM bM⟩,⟨_,_,by rw[<-GQ],wG bc G _ _ _⟩⟩⟩
    ·have bY:bO.once H.1≠[]:=λh=>aA (by rw[R,TG,h];rfl);rw[aK bY]at D;have cA:0<un:=by omega
     obtain⟨r0,r1,r2⟩:=P5 f;obtain⟨z0,z1,z2⟩:=lS (aF f 0) (aF f 1)<|aF f 2;rw[TG]at aa R;clear bY aA;go_wp2_with fail;have Q:=Lv f (aU) (X Z un uc)<|O 0;obtain⟨L,f1,M⟩:=P5 Q;refine cZ (v:=.agg #[aU,X Z un uc,O 0]) (by simp[results,results33,go_sem,L,f1,M]) rfl ?_;rw[D];exact⟨_,rfl,Y ⟨⟨av,am.X5 f ai _ _ _,qd ap (bE (dN _)<|dN _) _ _ _⟩,⟨_,Z,uc,by rw[<-R],eZ.nil _ _ _ _⟩,⟨_,_,rfl,wG aa f _ _ _⟩⟩⟩
   ·have hz:=eO hE;rw[aK (by rw[<-ab];exact hE),<-ab]at D;have TG:J (blD H=[]):=Y (aK (by rw[<-ab];exact hE));rw[TG]at aa R;have cv:un=0:=R.out;obtain⟨r0,r1,r2⟩:=P5 f;obtain⟨z0,z1,z2⟩:=lS (aF f 0) (aF f 1)<|aF f 2;clear hE;subst cv;go_wp2_with fail;have Q:=Lv f (aU) (X Z 0 uc)<|O E3;obtain⟨L,f1,M⟩:=P5 Q;refine cZ (v:=.agg #[aU,X Z 0 uc,O E3]) (by simp[results,results33,go_sem,L,f1,M]) rfl ?_;rw[D];exact⟨_,rfl,Y ⟨⟨av,am.X5 f ai _ _ _,qd ap (bE (dN _)<|dN _) _ _ _⟩,⟨_,Z,uc,rfl,eZ.nil _ _ _ _⟩,⟨_,_,rfl,wG aa f _ _ _⟩⟩⟩
theorem MW{a:Type}{P:Program}{R:aC->Option (DataW a × List MemPlace)}{D:DataW a}(h:w.ownsMap P k R b n D):w.ownsMap P k R b (Maps.size D) D:=by obtain⟨f,d,g,F,q,rfl⟩:=h;exact⟨f,d,g,F,by simp[Maps.size,length_sorted],rfl⟩
theorem qo.ase{w:World}{z:Value}{o:ByteArray->Option Value}{e:TypeId}(f:prog.underlying t=some (.map 9 e))(h:qo w b n z o)(H:n<maxLen){s:ByteArray}(g:s.size<=maxLen)(v:Value)(u:o s=none->n+1<=n')(K:n<=n'):∃w',(Instr.mapUpdate t (.map<|some b) (.string s) v).run prog w=.ok () w'/\qo w' b n' z (oQ o s v)/\w.grownBy w' (some b):=by
 obtain⟨D,d,q⟩:=h;obtain⟨w',e,C,G⟩:=d.update uY f H (keyOf_string_mk underlying9 g)<|show sW v=some (.held v,[])from rfl;refine⟨w',e,qo.mono (n:=Maps.size<|D.put (.string s.data.toList)<|.held v) ⟨_,MW C,λt f=>?_⟩ ?_,G⟩
 ·cases a:cB t s with
  | true =>have:=key_eq a;subst this;rw[has_put_same d.isMap (show WideAt.IsKeyLit (.string t.data.toList)from trivial),atKey_put_same d.isMap<|show WideAt.IsKeyLit (.string t.data.toList)from trivial];simp[oQ,a]
  | false =>rw[has_put_other (yV a),atKey_put_other<|yV a];simpa[oQ,a]using q t f
 ·have L:=d.size_le;rw[size_put (d.tidy uY),(q s g).1];cases I:o s with
  | none=>have:=u I;simp;omega
  | some M=>simp;omega
theorem But.agp(hg:w.grownBy w' (some p)):But p w w':=⟨hg.os,hg.tape,hg.output,hg.size,λk a d=>hg.block k a (λe=>d<|by injection e)⟩
theorem Ck.ab1(l:List Mo)(fo:aS->Option aC)(s:aS)(v:aC):Ck.cntF l fo<=Ck.cntF l (oQ fo s v):=by
 unfold Ck.cntF;induction l with
 | nil=>exact bG _
 | cons x l a=>
  simp only[List.filter_cons];cases d:(fo x.name).isSome with
  | true=>
   have:(oQ fo s v x.name).isSome=true:=by
    unfold oQ;split;·rfl
    ·exact d
   rw[this];simp;exact a
  | false=>
   cases(oQ fo s v x.name).isSome with
   | true=>simp;omega
   | false=>simpa using a
theorem FiW.form{y:Ck.Fi}(h:FiW w v y):∃a n c b k,v=.agg #[X a n c,X b y.2.1.length k,O y.2.2]:=by obtain⟨g,b,k,e,d⟩:=h;obtain⟨a,c,f⟩:=d.form;exact⟨a,_,c,b,k,by rw[e,f]⟩
theorem agq(w0:bI)(c:Cx)(vn vl vk:aC)(b1 b2:Nat)(U:aJ)(g:Nat)(R:QIn w0 c vn vl vk b1 b2 U)(hO:Xj w0 c vn vl vk b1 b2 g):Xj w0 c vn vl vk b1 b2 (g+1):=by
 intro w fo s hA a7 b7 a8;obtain⟨i,hi⟩:=sF.1 a7;obtain⟨x,hx,b9⟩:=iT hi;subst b9;have bc:=dG hx;obtain⟨bk,ah⟩:=bV bc<|Ck.rJ hi;obtain⟨ka,kb,ko,kc,aA,ap,b5,av⟩:=R.mks;obtain⟨vi,vv,vf,g0,g1,g2,g3,hM,hC⟩:=av i x hx;have OI:=Y (λwx IL (h:Lp w0 c b1 b2 wx IL)=>ab0 w0 wx c vn vl vk b1 b2 U IL g i x vi vv vf R h hO hi hx hM hC bC);obtain⟨⟨a0,n0,c0,rfl⟩,⟨a1,n1,c1,rfl⟩,-⟩:=R.forms;obtain⟨nk,a5⟩:∃n,n=c.l.length:=⟨_,rfl⟩;rw[<-a5]at aA ap ah;subst aA;have bs:=ap (by have:=ah.out;omega);subst bs;have hs:=hM.split;obtain⟨hI,hV,hF⟩:=hs;obtain⟨ia,ib,io,ic,rfl,-⟩:=hI;obtain⟨a3,b3,o3,c3,rfl,-⟩:=hV;obtain⟨a4,b4,o4,c4,rfl,-⟩:=hF;obtain⟨n3,a2⟩:∃n,n=x.imports.length:=⟨_,rfl⟩;obtain⟨n4,uV⟩:∃n,n=x.vars.length:=⟨_,rfl⟩;obtain⟨n5,JR⟩:∃n,n=x.bq.length:=⟨_,rfl⟩;rw[<-a2]at g1 OI;rw[<-uV]at g2 OI;rw[<-JR]at g3 OI;obtain⟨HG,Ae,bf,lG,oL,af⟩:=vC (And.intro g0<|And.intro g1<|And.intro g2 g3) a8 R.q2 R.ne hA.lt hA.base;obtain⟨aa,hY⟩:∃y,y=FD c x.name:=⟨_,rfl⟩;have HY:=Y hY;rw[<-hY]at OI ⊢;have KZ:J (Ck.fi c.l x.name=some (O (i:Nat))):=Y (by unfold Ck.fi;rw[hi];rfl);have be:J (c.l.length<=6):=Y (kK R.form).2.1;obtain⟨W,hW,k0,k1,a9,am⟩:=AL w (aY #[X a0 n0 c0,X a1 n1 c1,X (some<|aN kb ko) nk kc,.map<|some b1,.map<|some b2] 63)<|aY #[aU,aU,O 0] 66;obtain⟨lH,jG,iO,Vu,Ra⟩:=uh k0 k1 am (hA.below am) a9;clear k0 k1 a9 am hA hM hC hi hx bc b7 a8 R hO a7 g0 g1 g2 g3 ap b5 av a2 uV JR a5 hY;have q3:=aj lH.out 4;have Z:=Vu.out.tV.sS underlying61 alX Ae.out;go_enter func15,ntmps15;go_upto_region 1 with fail;rw[<-hW];clear hW;cases S:fo x.name with
 | some v0 =>have au:=Y<|Vu.out.fin x.name v0 S;obtain⟨D,H,G,d,f,ar⟩:=au.out.form;rw[<-HY.out]at ar;obtain⟨u,ad⟩:∃n,n=aa.2.1.length:=⟨_,rfl⟩;obtain⟨C,ab⟩:∃e,e=aa.2.2:=⟨_,rfl⟩;rw[<-ad,<-ab]at ar;subst ar;rw[S]at Z;simp only[gD,nD]at Z;obtain⟨K,EW⟩:=sO W<|aY #[X D H G,X d u f,O C] 66;have Tw:J (¬fo x.name=none):=Y (by rw[S];simp);clear ad ab S;go_upto_region 2 with fail;obtain⟨L,N,ag,aw⟩:=lD (bH jG.out K.out) (Vu.out.below K.out) (up iO.out K.out)<|au.out.below K.out;rw[<-HY.out]at aw;generalize W.alloc (aY #[X D H G,X d u f,O C] 66)=W2 at *;generalize W.heap.size=I at *;clear Z q3;obtain⟨y0,y1,y2⟩:=P5 EW.out;obtain⟨r0,r1,r2⟩:=P5 L.out;obtain⟨z0,z1,z2⟩:=lS (aF L.out 0) (aF L.out 1)<|aF L.out 2;go_wp2_with fail;have hs:=Lv L.out (X D H G) (X d u f)<|O C;obtain⟨f0,f1,f2⟩:=P5 hs;refine cZ (v:=.agg #[X D H G,X d u f,O C]) (by simp[results,results15,go_sem,f0,f1,f2]) rfl ?_;exact⟨_,rfl,Y ⟨⟨fo,N.out.X5 L.out (by have:=af.out.size;omega) _ _ _,qd (But.of_below ag.out) (dN _) _ _ _⟩,aw.out.st (zP L.out _ _ _) bM bM bM,λh=>aM h Tw.out⟩⟩
 | none=>
  rw[S]at Z;simp only[lK,nE,zFi]at Z;obtain⟨K,EW⟩:=sO W<|aY #[aU,aU,O 0] 66;clear S;go_upto_region 3 with fail;obtain⟨Ui,L,N,ag⟩:=lD (bH lH.out K.out) (bH jG.out K.out) (Vu.out.below K.out)<|up iO.out K.out;generalize W.alloc (aY #[aU,aU,O 0] 66)=W2 at *;obtain⟨I,az⟩:∃n,n=W.heap.size:=⟨_,rfl⟩;rw[<-az]at EW ⊢;have V:J (w.heap.size+1<I/\w.heap.size<=I):=Y (by have:=Ra.out;omega);clear Z q3 az;have bm:∀k os,(Instr.lookup 58 (.map<|some b1) (A x.name) false).run prog (gn W2 k os)=.ok (O (i:Nat)) (gn W2 k os):=λk os=>by have h:=(N.out.fst.Cw<|bU W2 k os).look underlying58 Dq Ae.out;rw[KZ.out]at h;exact h
  obtain⟨p0,p1,p2,p3,p4,g0,g1⟩:=Ng (bD<|(aj Ui.out 0).trans rfl) (bD<|(aj Ui.out 1).trans rfl) (bD<|(aj Ui.out 2).trans rfl) (bD<|(aj Ui.out 3).trans rfl) (bD<|(aj Ui.out 4).trans rfl) (bD<|aG HG.out.1 N.out.base) (bD<|aG HG.out.2.1 N.out.base);obtain⟨g2,g3⟩:=eY (bD<|aG HG.out.2.2.1 N.out.base)<|bD<|aG HG.out.2.2.2 N.out.base;have bY:(0:Int)<=(i:Int):=by omega
  have b0:(i:Int)<(nk:Int):=by have:=ah.out;omega
  refine gq 9 dw dw ?_;dsimp only[List.take,List.drop];repeat(quiet_step (fail))
  refine wpQuiet_nil ?_;intro w6 b8;obtain⟨⟨nq,ca⟩,bb⟩:=b8;have fD:J (bK W2 w6):=Y (by rw[bb];exact bU W2 nq ca);clear bb p0 p1 p2 p3 p4 g0 g1 g2 g3 bY b0 bm;have bh:=Y<|N.out.below fD.out;obtain⟨bu,bv,bp,bo,bj⟩:=uh (OI.out w6 fo bh.out) (bH Ui.out fD.out) (bH L.out fD.out) (bH EW.out fD.out)<|up ag.out fD.out;go_wp2_with fail;refine bu.out.mono ?_;rintro e w7 ⟨v7,rfl,Ky⟩;obtain⟨⟨al,a6,UL⟩,ai,ax⟩:=Ky.out;obtain⟨bw,bx⟩:=bV ai ax;obtain⟨D,H,G,d,f,ba⟩:=ai.form;obtain⟨u,ad⟩:∃n,n=aa.2.1.length:=⟨_,rfl⟩;obtain⟨C,ab⟩:∃e,e=aa.2.2:=⟨_,rfl⟩;rw[<-ad,<-ab]at ba;subst ba;obtain⟨jS,br,Lm,M⟩:=lD ((But.of_below bj.out).trans UL) (UL.at (show w.heap.size≠b2 from λe=>by have:=oL.out;omega) bv.out) (UL.at (show w.heap.size+1≠b2 from λe=>by have:=oL.out;omega) bp.out) (UL.at (show I≠b2 from λe=>by have:=oL.out;have:=V.out;omega) bo.out);obtain⟨y0,y1,y2⟩:=P5 M.out;obtain⟨GQ,Q,xu,Eb,bz⟩:=uh ab (a6.X5 M.out (by have:=af.out.size;have:=V.out;omega) (X D H G) (X d u f) (O C)) (qd jS.out V.out.2 (X D H G) (X d u f)<|O C) (Lv M.out (X D H G) (X d u f)<|O C) (bw.out.st (zP M.out (X D H G) (X d u f)<|O C) bM bM bM);obtain⟨z0,z1,z2⟩:=lS (aF M.out 0) (aF M.out 1)<|aF M.out 2;have bA:J (jg (((w7.setCell (aN I 0)<|X D H G).setCell (aN I 1) (X d u f)).setCell (aN I 2) (O C)) (X d u f) aa.2.1):=Y (by
   obtain⟨vs,vd,e,h⟩:=bx.out;injection e with e;have e2:X d u f=vd:=by have:=congrArg (λa:Array Value=>a[1]?) e;simpa using this
   rw[e2];exact wG h M.out _ _ _)
  have ao:∀(q:Nat) o,q≠I->w7.heap[q]?=some o->(((w7.setCell (aN I 0)<|X D H G).setCell (aN I 1) (X d u f)).setCell (aN I 2) (O C)).heap[q]?=some o:=λq o hq ho=>aX (aX (aX ho hq _) hq _) hq _;obtain⟨bB,bL⟩:=bV (ao w.heap.size _ (by have:=V.out;omega) br.out) (ao (w.heap.size+1) _ (by have:=V.out;omega) Lm.out);clear Ky a6 UL ai ax ad ab ao;go_upto_region 4 with fail;clear y0 y1 y2 z0 z1 z2;generalize (((w7.setCell (aN I 0)<|X D H G).setCell (aN I 1) (X d u f)).setCell (aN I 2) (O C))=W8 at *;have q4:=aj bB.out 4;obtain⟨y0,y1,y2⟩:=P5 Eb.out;obtain⟨w9,UP,aE,ae⟩:=Q.out.tV.ase (n':=Ck.cntF c.l<|oQ al x.name<|.agg #[X D H G,X d u f,O C]) underlying61 (by have h1:=aiW c.l al;have h2:=be.out;unfold maxLen;omega) Ae.out (.agg #[X D H G,X d u f,O C]) (λh=>af9 bk.out h _) (ab1 _ _ _ _);have ac:=But.agp ae;have ak:mV 4 W8 w9:=mV.but ac Q.out.tV.isMap;have ay:=Y<|bz.out.st ak bM bM bM;have bi:J (Lp w0 c b1 b2 w9<|oQ al x.name<|.agg #[X D H G,X d u f,O C]):=Y ⟨Below.grown Q.out.base ae Q.out.base.size (λk e=>by injection e with e;rw[<-e];exact bf.out),Q.out.fst.kept ae (λe=>by injection e with e;exact lG.out e),aE,λt v ht=>by
   unfold oQ at ht;cases aq:cB t x.name with
   | true =>rw[aq]at ht;simp only[if_true]at ht;cases ht;have:=dM.1 aq;subst this;rw[<-HY.out];exact ay.out
   | false =>rw[aq]at ht;exact(Q.out.fin t v ht).st ak bM bM bM⟩
  obtain⟨Ci,bq,P⟩:=fE (xu.out.trans ac) (ac.at (show I≠b2 from λe=>by have:=oL.out;have:=V.out;omega) Eb.out) (ac.at (show w.heap.size+1≠b2 from λe=>by have:=oL.out;omega) bL.out);have bS:J (jg w9 (X d u f) aa.2.1):=Y (bA.out.cells (λa v ha=>by
   have b6:a.block≠b2:=λe=>by obtain⟨es,cl,hq⟩:=Q.out.tV.isMap;rw[<-e]at hq;simp[World.cell?,hq]at ha
   have hb:=ac.block a.block (eH _ _ ha) b6;exact(jH hb).trans ha))
  clear aE ae ac ak;go_upto_region 5 with fail;clear q4 y0 y1 y2;obtain⟨y0,y1,y2⟩:=P5 bq.out;obtain⟨r0,r1,r2⟩:=P5 P.out;obtain⟨z0,z1,z2⟩:=lS (aF P.out 0) (aF P.out 1)<|aF P.out 2;go_wp2_with fail;have hs:=Lv P.out (X D H G) (X d u f)<|O C;obtain⟨f0,f1,f2⟩:=P5 hs;refine cZ (v:=.agg #[X D H G,X d u f,O C]) (by simp[results,results15,go_sem,f0,f1,f2]) rfl ?_;exact⟨_,rfl,Y ⟨⟨_,bi.out.X5 P.out (by have:=af.out.size;omega) _ _ _,qd Ci.out (dN _) _ _ _⟩,ay.out.st (zP P.out _ _ _) bM bM bM,λ_=>⟨_,_,by rw[<-GQ.out],wG bS.out P.out _ _ _⟩⟩⟩
theorem ZO(w0:bI)(c:Cx)(vn vl vk:aC)(b1 b2:Nat)(U:aJ)(a:QIn w0 c vn vl vk b1 b2 U):∀g,Xj w0 c vn vl vk b1 b2 g
 | 0=>λ_ _ _ _ _ h=>aM h<|fU _
 | g+1=>agq w0 c vn vl vk b1 b2 U g a<|ZO w0 c vn vl vk b1 b2 U a g
noncomputable def Ck.an(c:Cx)(name:ByteArray):Ck.Fi:=
 if nN (dD c.ss c.G c.L c.Z) c.m c.l≠0 then ([],[],nN (dD c.ss c.G c.L c.Z) c.m c.l)
 else if (dQ c.l name).isSome=false then ([],[],4)else FD c name
theorem asu{u C:aC}(h:dR W B (.cells #[r0,r1,r2,u,C] t (0,0)))(a d f g q:aC):(((((W.setCell (aN B 0) a).setCell (aN B 1) d).setCell (aN B 2) f).setCell (aN B 3) g).setCell (aN B 4) q).heap[B]?=some (.cells #[a,d,f,g,q] t (0,0)):=by rw[aP (aP (aP (aP (aP h 0 a) 1 d) 2 f) 3 g) 4 q];rfl
theorem ad6(h:Below n w W)(a:n<=B)(d f g q u:aC):Below n w (((((W.setCell (aN B 0) d).setCell (aN B 1) f).setCell (aN B 2) g).setCell (aN B 3) q).setCell (aN B 4) u):=
 ((((h.setCell (p:=(aN B 0)) a d).setCell (p:=(aN B 1)) a f).setCell (p:=(aN B 2)) a g).setCell (p:=(aN B 3)) a q).setCell (p:=(aN B 4)) a u
theorem UN(h:qo W b n z o)(D:dR W B (.cells cs t (0,0)))(d f g u C:aC):qo (((((W.setCell (aN B 0) d).setCell (aN B 1) f).setCell (aN B 2) g).setCell (aN B 3) u).setCell (aN B 4) C) b n z o:=by
 obtain⟨H,G,q⟩:=h.isMap;have a:b≠B:=λe=>by subst e;rw[D]at q;cases q
 refine h.same ?_;rw[q];exact aX (aX (aX (aX (aX q a _) a _) a _) a _) a _
theorem CJ(h:dR W B (.cells #[r0,r1] t (0,0)))(a d:aC):((W.setCell (aN B 0) a).setCell (aN B 1) d).heap[B]?=some (.cells #[a,d] t (0,0)):=by rw[aP (aP h 0 a) 1 d];rfl
theorem zQ(h:Below n w W)(f:n<=B)(a d:aC):Below n w ((W.setCell (aN B 0) a).setCell (aN B 1) d):=(h.setCell (p:=(aN B 0)) f a).setCell (p:=(aN B 1)) f d
theorem ags(h:dR W B (.cells #[r0,r1] t (0,0)))(a d:aC):mV t W ((W.setCell (aN B 0) a).setCell (aN B 1) d):=(mV.set h a).trans (mV.set (aP h 0 a) d)
theorem agt{l:List Dg}{a b:Option Addr}{k:Nat}(h:jg W v l)(S:dR W B (aY #[X a n k,X b n' k'] 40))(u C:aC):jg ((W.setCell (aN B 0) u).setCell (aN B 1) C) v l:=by
 obtain⟨K,f,off,cap,L,N,V,P⟩:=h;refine⟨K,f,off,cap,L,N,V,λi d R=>?_⟩;obtain⟨G,g,M⟩:=P i d R;have H:f≠B:=λe=>by
  subst e;rw[aj S]at g;have Z:off+i*3+1<2:=(Array.getElem?_eq_some_iff.1 g).1;have Q:off+i*3+1=1:=by omega
  rw[Q]at g;simp at g
 have D:∀q,bJ W f q=((W.setCell (aN B 0) u).setCell (aN B 1) C).cell? (aN f q):=λq=>by obtain⟨o,I⟩:∃o,W.heap[f]?=some o:=⟨_,Array.getElem?_eq_getElem<|eH _ _ G⟩;exact(jH<|(aX (aX I H u) H C).trans I.symm).symm
 rw[<-D,<-D,<-D];exact⟨G,g,M⟩
theorem ao8{a:Nat}(h:a<n)(k:n<=b):b≠a:=by omega
theorem EK(KE:bI)(o:Obj)(h:b=KE.heap.size):(KE.alloc o).heap[b]?=some o:=by subst h;exact bF KE o
theorem eG{x:bI}(h:J (bK W x)):J (bK W x.drew):=Y<|h.drew
theorem jU{x:bI}{o:Obj}(h:J (bK W x)):J (bK W<|x.alloc o):=Y<|up h<|aH _ _
theorem agu(h:qo KE b n z o):qo KE.drew b n z o:=h.Cw (bQ _ _).drew
theorem agF(m:Nat)(w:bI)(vn vl vk:aC)(ss:aJ)(G:Nat)(L:Nat->Nat)(Z:aL)(l:List Mo)(name:aS)(U:aJ)(hS:Strs w vn ss)(hR:EX w vl G L Z)(f:xQ w m vk l)(ar:∀x∈l,xH m x<=1048576)(ht:Tab w)(hn:name.size<=maxLen)(hU:nN (dD ss G L Z) m l=0->Uk U ss l):aD 7 #[.agg #[vn,vl],vk,A name] w λe w'=>∃vs vd,e=dz (.tuple #[.agg #[vs,vd],O (Ck.an ⟨m,ss,G,L,Z,l⟩ name).2.2])/\J (eZ Ht w' 0 34 6 vs (Ck.an ⟨m,ss,G,L,Z,l⟩ name).1/\jg w' vd (Ck.an ⟨m,ss,G,L,Z,l⟩ name).2.1/\bK w w'):=by
 obtain⟨c,hc⟩:∃c,c=(⟨m,ss,G,L,Z,l⟩:Cx):=⟨_,rfl⟩;have bf:J (∀b1 b2,nN (dD c.ss c.G c.L c.Z) c.m c.l=0->w.heap.size<=b1->w.heap.size<=b2->b1≠b2->QIn w c vn vl vk b1 b2 U):=Y (λb1 b2 hf h1 h2 h3=>by rw[hc]at hf ⊢;exact⟨hS,hR,f,hf,ar,ht,h1,h2,h3,hU hf⟩);have OI:=Y (λwx (R:bK w wx)=>ae4 m wx vn vl vk ss G L Z l (hS.below R) (hR.below R) (f.mos.below R) ar<|ht.below R);have KZ:=Y (λwx (R:bK w wx) hl=>Cy m wx vk l (f.mos.below R) hl);have Ah:J (∃a n c,vl=X a n c):=Y (by obtain⟨a,b,o,c,H,RB,RO,C,rfl,-⟩:=hR;exact⟨_,_,_,rfl⟩);have bi:J (∃a n c,vn=X a n c):=Y (by obtain⟨a,b,o,c,rfl,-⟩:=hS;exact⟨_,_,_,rfl⟩);have bh:J (∃a n c,vk=X a n c):=Y (by obtain⟨a,b,o,c,rfl,-⟩:=f;exact⟨_,_,_,rfl⟩);have aw:=Y hn;obtain⟨a0,n0,c0,e0⟩:=bi.out;obtain⟨a1,n1,c1,e1⟩:=Ah.out;obtain⟨a2,n2,c2,e2⟩:=bh.out;obtain⟨H,hA⟩:∃H,H=Ck.an c name:=⟨_,rfl⟩;have HA:=Y hA;have ac:dD ss G L Z=dD c.ss c.G c.L c.Z/\m=c.m/\l=c.l:=by rw[hc];exact⟨rfl,rfl,rfl⟩
 rw[<-hc,<-hA];rw[ac.1,ac.2.1,ac.2.2]at OI;rw[ac.2.2]at KZ;obtain⟨E,hE⟩:∃E,E=nN (dD c.ss c.G c.L c.Z) c.m c.l:=⟨_,rfl⟩;have HE:=Y hE;rw[<-hE]at OI;subst e0 e1 e2;clear hc hS hR f ar ht hU hA hE ac hn;obtain⟨W,hW,k0,k1,bv,al⟩:=AL w (aY #[X a0 n0 c0,X a1 n1 c1] 25)<|aY #[aU,aU] 40;obtain⟨x0,x1⟩:=jv k0;obtain⟨lH,jG,iO,a9⟩:=lD k0 k1 al<|OI.out W al;clear k0 k1 bv al;go_enter func7,ntmps7;go_upto_region 1 with fail;rw[<-hW];clear hW;go_wp2_with fail;refine a9.out.mono ?_;rintro e w1 ⟨rfl,ag⟩;obtain⟨ad,oW,mh⟩:=fE (up iO.out ag) (bH lH.out ag)<|bH jG.out ag;clear ag x0 x1;by_cases af:E=0
 ·subst af;have ae:J (nN (dD c.ss c.G c.L c.Z) c.m c.l=0):=Y HE.out.symm;have ax:=Y (kK ae.out).2.1;have Aw:J (bK w1 w1):=Y<|bQ _ _;have bu:=@run_makeMap prog;go_upto_region 4 with fail;go_cut [9]from 13 (λp x=>∃UF b1 b2,p=gK UF/\J (b1≠b2/\w1.heap.size<=UF/\w1.heap.size<=b1/\w1.heap.size<=b2/\dR x UF (aY #[X a0 n0 c0,X a1 n1 c1,X a2 n2 c2,.map<|some b1,.map<|some b2] 63)/\qo x b1 1048576 (O 0) (Ck.fi c.l)/\qo x b2 0 zFi (λ_=>none)/\bK w1 x));case first=>
   rename_i Q9 K9 h9 J9 L9 h8 h7;clear h9;have Vt:J (∀x,J (bK w1 x)->bJ x w.heap.size 0=some (X a0 n0 c0)/\bJ x w.heap.size 1=some (X a1 n1 c1)):=Y (λx I=>⟨(aj (bH oW.out I.out) 0).trans rfl,(aj (bH oW.out I.out) 1).trans rfl⟩);refine dx [some true,some false,some false,none,none,none,none,none] 7 (λx=>bJ x w.heap.size 0=some (X a0 n0 c0)/\bJ x w.heap.size 1=some (X a1 n1 c1)) 5 dw dw (λ_ _ d _ _ h=>(by cases d<;>exact h)) (Vt.out _<|eG Aw) ?_;dsimp only[gB];repeat(first|(refine fO (v:=?_) dH ?_ ?_;rotate_left 1;(focus(intro w;go_simp;try(with_reducible rfl)));simp only[Act.put,dS,dY,eX])|(refine fP (v:=?_) dH ?_ ?_;rotate_left 1;(focus(intro w ao;obtain⟨q0,q1⟩:=ao;go_simp;try(with_reducible rfl)));simp only[Act.put,dS,dY,eX]))
   refine dW ?_;refine nG ?_;intro x I;have M:J (bK w1 x):=by rw[I];exact(by repeat(first|with_reducible exact Aw|with_reducible refine eG ?_))
   clear I;have H0:J (bK x x):=Y<|bQ _ _
   iterate 4 (
    all_goals rename World=>KE
    all_goals first
     | refine aT (i:=6) (by decide +kernel) dH (λK f=>?_)
     | refine aT (i:=5) (by decide +kernel) dH (λK f=>?_)
     | refine aT (i:=4) (by decide +kernel) dH (λK f=>?_)
     | refine aT (i:=3) (by decide +kernel) dH (λK f=>?_)
     | refine gG (i:=5) (k:=6) (by decide +kernel) dH dH (λK f=>?_) (λK f=>?_)
     | refine gG (i:=3) (k:=4) (by decide +kernel) dH dH (λK f=>?_) (λK f=>?_)
     | refine gG (i:=3) (k:=6) (by decide +kernel) dH dH (λK f=>?_) (λK f=>?_)
     | refine gG (i:=4) (k:=6) (by decide +kernel) dH dH (λK f=>?_) (λK f=>?_)
     | refine xC (i:=3) (j:=4) (k:=6) (by decide +kernel) dH dH dH (λK f=>?_) (λK f=>?_) (λK f=>?_)
    all_goals go_simp
    all_goals try(go_at_call 13;refine(KZ.out _ (up ad.out<|gT<|by repeat(first|with_reducible exact M|with_reducible refine eG ?_|with_reducible refine jU ?_)) (by have:=ax.out;omega)).mono ?_;rintro e x ⟨b1,rfl,hh⟩;obtain⟨hm,hg,R⟩:=hh.out;have D:J (bK KE x):=Y (up (gT<|by repeat(first|with_reducible exact H0|with_reducible refine eG ?_|with_reducible refine jU ?_)) R);have HL:=Y hm;replace hg:KE.heap.size<=b1:=bE (gT (by repeat(first|with_reducible exact H0|with_reducible refine eG ?_|with_reducible refine jU ?_)):bK KE _).size hg;have ba:J (w1.heap.size<=b1):=Y<|bE M.out.size hg;(try have lG:=Y<|ao8 HM.out.lt hg);replace M:=Y<|up M.out D.out;(try replace HM:=Y<|HM.out.Cw D.out);(try replace u:=Y<|bH u.out D.out);replace H0:J (bK x x):=Y<|bQ _ _;clear hh hm hg R D;dsimp only)
    all_goals(
     with_reducible refine f.out _ _ (λ_=>Vt.out _<|by repeat(first|with_reducible exact M|with_reducible refine eG ?_|with_reducible refine jU ?_)) ?_
     clear f K
     have av:=Y M.out.size
     rename World=>KE
     refine nG ?_
     intro x I
     have D:J (bK KE x):=by rw[I];repeat(first|with_reducible exact H0|with_reducible refine eG ?_|with_reducible refine jU ?_)
     first
      | (have HM:J (qo x KE.heap.size 0 zFi (λ_=>none)):=Y (by rw[I];with_reducible(first|exact qo.new _ _|exact agu<|qo.new _ _));have bb:=av;try have lG:=Y<|Nat.ne_of_lt HL.out.lt)
      | (have u:J (dR x KE.heap.size<|aY #[aU,aU,aU,.map none,.map none] 63):=Y (by rw[I];with_reducible(first|exact EK _ _ rfl|exact Ll<|EK _ _ rfl));have ai:=av;try replace HM:=Y<|HM.out.Cw D.out)
      | ((try replace HM:=Y<|HM.out.Cw D.out);(try replace u:=Y<|bH u.out D.out))
     try replace HL:=Y<|HL.out.below D.out
     try replace u:=Y<|bH (w:=KE) u.out D.out
     replace M:=Y<|up M.out D.out
     clear I
     replace H0:J (bK x x):=Y<|bQ _ _))
   all_goals(
    refine aT (i:=7) dw dH (λK f=>?_)
    have o0:=aj u.out 0
    have z0:=aF u.out 0
    obtain⟨-,o1⟩:=jv u.out
    have z1:=aF u.out 1
    have o2:=aj u.out 2
    have z2:=aF u.out 2
    have o3:=aj u.out 3
    have z3:=aF u.out 3
    have o4:=aj u.out 4
    have z4:=aF u.out 4
    go_simp
    with_reducible refine f.out _ _ (λh=>aM (h.symm.trans dw) iJ) ?_
    clear f K
    clear o0 o1 o2 o3 o4 z0 z1 z2 z3 z4
    refine dP dw ?_ _
    go_wp2_with fail
    go_meet
    exact⟨_,b1,_,rfl,Y ⟨lG.out,ai.out,ba.out,bb.out,asu u.out _ _ _ _ _,UN (HL.out.caM.mono<|show Ck.cnt c.l c.l.length<=1048576 from bE (KY _ _) (by have:=ax.out;omega)) u.out _ _ _ _ _,UN HM.out u.out _ _ _ _ _,ad6 M.out ai.out _ _ _ _ _⟩⟩)
  case rest=>
   obtain⟨UF,b1,b2,rfl,az⟩:=hcut;obtain⟨a5,a4,aE,a3,ho,aq,ah,ap⟩:=az.out;have mX:J (w.heap.size<=w1.heap.size):=Y ad.out.size;have bp:=Y<|bf.out b1 b2 ae.out (bE mX.out aE) (bE mX.out a3) a5;obtain⟨u,WC⟩:=bV ho<|up ad.out ap;have be:J (Lp w c b1 b2 wc (λ_=>none)):=Y ⟨WC.out,aq,ah.mono<|bN _,λs v hs=>by cases hs⟩;obtain⟨ai,ab⟩:=bV a4<|bH mh.out ap;have bc:J (w.heap.size+1≠b2):=Y (λe=>by have h1:=aR mh.out;omega);have q3:=aj ho 3;have LK:=aq.sS underlying58 Dq aw.out;clear az a5 a4 aE a3 ho aq ah ap bu;cases aa:dQ c.l name with
   | none=>
    have e1:Ck.fi c.l name=none:=by unfold Ck.fi;rw[aa];rfl
    rw[e1]at LK;simp only[lK,nE]at LK;have TH:J (H=([],[],4)):=Y (by rw[HA.out];unfold Ck.an;rw[aI (by rw[ae.out];simp),aK (by rw[aa];rfl)]);obtain⟨r0,r1⟩:=jv ab.out;obtain⟨z0,z1⟩:=eY (aF ab.out 0)<|aF ab.out 1;clear aa e1;go_wp2_with fail;have hs:=CJ ab.out (aU)<|aU;obtain⟨f0,f1⟩:=jv hs;refine cZ (v:=.tuple #[.agg #[aU,aU],O 4]) (by simp[results,results7,go_sem,f0,f1]) rfl ?_;rw[TH.out];exact⟨_,_,rfl,Y ⟨eZ.nil _ _ _ _,Aj _ _,zQ WC.out (dN _) _ _⟩⟩
   | some i=>
    have e1:Ck.fi c.l name=some (O (i:Nat)):=by unfold Ck.fi;rw[aa];rfl
    rw[e1]at LK;simp only[gD,nD]at LK;have au:(dQ c.l name).isSome=true:=by rw[aa];rfl
    have TH:J (H=FD c name):=Y (by rw[HA.out];unfold Ck.an;rw[aI (by rw[ae.out];simp),aI (by rw[au];simp)]);have qL:=Y<|ZO w c _ _ _ b1 b2 U bp.out (Ck.rk c.l name+1) wc (λ_=>none) name be.out au (Nat.lt_succ_self _) aw.out;rw[<-TH.out]at qL;obtain⟨p0,p1,p2,-,p4⟩:=ZC5 u.out;clear aa e1 au;go_wp2_with fail;refine qL.out.mono ?_;rintro e w5 ⟨v5,rfl,lQ⟩;obtain⟨⟨bz,a6,Ol⟩,ak,ay⟩:=lQ.out;obtain⟨bq,br⟩:=bV (ay cK) ak;obtain⟨S,sn,V,N,P,a7⟩:=ak.form;obtain⟨Q,aA⟩:∃n,n=H.2.1.length:=⟨_,rfl⟩;obtain⟨E5,am⟩:∃e,e=H.2.2:=⟨_,rfl⟩;rw[<-aA,<-am]at a7;subst a7;obtain⟨Xb,bs,eD⟩:=fE am (Ol.at bc.out ab.out) a6.base;have rM:J (eZ Ht w5 0 34 6 (X S sn V) H.1):=Y (by
     obtain⟨vs,a,k,e,h⟩:=br.out;injection e with e;have e2:X S sn V=vs:=by have:=congrArg (λa:Array Value=>a[0]?) e;simpa using this
     rw[e2];exact h)
    have bk:J (jg w5 (X N Q P) H.2.1):=Y (by
     obtain⟨vs,vd,e,h⟩:=bq.out;injection e with e;have e2:X N Q P=vd:=by have:=congrArg (λa:Array Value=>a[1]?) e;simpa using this
     rw[e2];exact h)
    clear lQ a6 Ol ak ay aA am p0 p1 p2 p4 q3 LK;obtain⟨eT,EW⟩:=sO w5<|aY #[X S sn V,X N Q P,O E5] 66;go_upto_region 9 with fail;obtain⟨bj,fD,pQ,bm⟩:=lD (bH bs.out eT.out) (up eD.out eT.out) (qK rM.out (mV.below (t:=4) eT.out) bM bM bM)<|bk.out.below eT.out;generalize w5.alloc (aY #[X S sn V,X N Q P,O E5] 66)=W6 at *;generalize w5.heap.size=FB at *;have Vt:J (∀x:bI,dR x FB (aY #[X S sn V,X N Q P,O E5] 66)->bJ x FB 0=some (X S sn V)/\bJ x FB 1=some (X N Q P)/\bJ x FB 2=some (O E5)):=Y (λx g=>⟨(aj g 0).trans rfl,(aj g 1).trans rfl,(aj g 2).trans rfl⟩);refine dx [some false,some true,some false,some true,none,none] 5 (λx=>bJ x FB 0=some (X S sn V)/\bJ x FB 1=some (X N Q P)/\bJ x FB 2=some (O E5)) 2 dw dw (λ_ _ d _ _ h=>(by cases d<;>exact h)) (Vt.out _ EW.out) ?_;dsimp only[gB];repeat(first|(refine fO (v:=?_) dH ?_ ?_;rotate_left 1;(focus(intro w;go_simp;try(with_reducible rfl)));simp only[Act.put,dS,dY,eX])|(refine fP (v:=?_) dH ?_ ?_;rotate_left 1;(focus(intro w ao;obtain⟨q0,q1,q2⟩:=ao;go_simp;try(with_reducible rfl)));simp only[Act.put,dS,dY,eX]))
    refine dW ?_;refine nG ?_;intro w7 a8;have KR:J (bK W6 w7):=Y (by rw[a8];exact(bQ _ _).drew);clear a8;obtain⟨Cc,Lm,kG,MU,bo⟩:=uh (bH EW.out KR.out) (bH bj.out KR.out) (up fD.out KR.out) (qK pQ.out (mV.below (t:=4) KR.out) bM bM bM)<|bm.out.below KR.out;have yM:J (FB≠w.heap.size+1):=Y (λe=>by have h1:=Cc.out;rw[e,Lm.out]at h1;simp at h1);obtain⟨r0,r1⟩:=jv Lm.out;obtain⟨z0,z1⟩:=eY (aF Lm.out 0)<|aF Lm.out 1;refine aT (i:=4) dw dH (λK f=>?_);go_simp;refine f.out _ _ (λ_=>Vt.out _<|aX (aX Cc.out yM.out _) yM.out _) ?_;clear f K;refine aT (i:=5) dw dH (λK f=>?_);go_simp;refine f.out _ _ (λh=>aM (h.symm.trans dw) iJ) ?_;clear f K;refine dP dw ?_ _;go_wp2_with fail;have hs:=CJ Lm.out (X S sn V)<|X N Q P;obtain⟨f0,f1⟩:=jv hs;refine cZ (v:=.tuple #[.agg #[X S sn V,X N Q P],O E5]) (by simp[results,results7,go_sem,f0,f1]) rfl ?_;exact⟨_,_,by rw[<-Xb.out],Y ⟨qK MU.out (ags Lm.out _ _) bM bM bM,agt bo.out Lm.out _ _,zQ kG.out (dN _) _ _⟩⟩
 ·have hz:=eO af;have TH:J (H=([],[],E)):=Y (by rw[HA.out];unfold Ck.an;rw[<-HE.out,aK af]);obtain⟨r0,r1⟩:=jv mh.out;obtain⟨z0,z1⟩:=eY (aF mh.out 0)<|aF mh.out 1;clear af;go_wp2_with fail;have hs:=CJ mh.out (aU)<|aU;obtain⟨f0,f1⟩:=jv hs;refine cZ (v:=.tuple #[.agg #[aU,aU],O E]) (by simp[results,results7,go_sem,f0,f1]) rfl ?_;rw[TH.out];exact⟨_,_,rfl,Y ⟨eZ.nil _ _ _ _,Aj _ _,zQ ad.out (dN _) _ _⟩⟩
