/- part -/
import Derived.Test.YtbgkpehhdibaoaaGreatDoorMZAX
import Derived.Test.YtbgkpehhdibaoaaGreatDoorMZAY
set_option maxHeartbeats 0
set_option maxRecDepth 99999
namespace Go.Proofs.YtbgkpehhdibaoaaGreatDoor
open Fl Sv
open Go.Proofs.Tryz
open Go.RowKit Go.Maps Go.WideMaps
namespace Fl
def Dh(N:Nat)(a:Int):Bool:=decide (0<=a)&&decide (a<N)
def scB(N:Nat)(y:Sc):Bool:=y.bounds.all (Dh N)&&(wZ N y.mask y.level&&Dh N y.pc&&!(aO.BR y.gU ⟨#[]⟩))
end Fl
variable{N j g n:Nat}{fs:List Fu}{ys:List (List Sc)}{x:Fu}{y:List Sc}{w:World}{l:List aZ}
theorem OW(w:World)(va:Option Addr)(vl:Value)(N cap:Nat)(v:Value)(y:Sc)(h:Ey w v y):Calls prog 162 #[.agg #[Y va N cap,vl],v] w λe w'=>e=cO (.bool (scB N y))/\bG w w':=by
 obtain⟨vb,ve,rfl,hB,hE⟩:=h;obtain⟨ab,bb,ob,cb,rfl,ha0,hl63,hel⟩:=hB;have HE:=I hE;obtain⟨ae,be,oe,ce,rfl,-⟩:=hE;obtain⟨nb,hnb⟩:=bC y.bounds.length;obtain⟨ne,hne⟩:=bC y.gU.length;rw[<-hnb]at ha0 hl63 ⊢;rw[<-hne]at HE ⊢;obtain⟨HNB,kg,FZ⟩:=fq hnb hel ha0;obtain⟨W,hW,k0,k1,hsz,hBW⟩:=wG w (aY #[Y va N cap,vl] 25) (aY #[A y.fn,O y.mask,O y.level,Y ab nb cb,O y.pc,Y ae ne ce] 35);have y3:=aj k1 3;obtain⟨lD,jl,iN⟩:=fq k0 k1 hBW;clear ha0 hel hnb hne hBW hsz k0 k1;subst hW;go_enter func162,ntmps162;go_wp2_with fail;generalize (w.alloc (aY #[Y va N cap,vl] 25)).alloc (aY #[A y.fn,O y.mask,O y.level,Y ab nb cb,O y.pc,Y ae ne ce] 35)=W at *;clear y3;go_loopw[10] (λi wr=>∃j:Nat,j<=nb/\i=O j/\(y.bounds.take j).all (Dh N)=true/\bG W wr) (λi _=>nb - (intOf i).toNat);case atStart=>exact⟨0,bI _,rfl,rfl,bN _ _⟩
 case round=>
  obtain⟨j,hj,rfl,hall,hbr⟩:=hrel;obtain⟨dU,BQ⟩:=bT hall hbr;obtain⟨K0,K1⟩:=eD (aU lD hbr) (aU jl hbr);obtain⟨x0,x1⟩:=jm K0;by_cases hjl:j<nb
  ·obtain⟨z,hz⟩:∃z,y.bounds[j]?=some z:=⟨_,bg (by rw[<-HNB];omega)⟩;obtain rfl:=FZ aV;obtain⟨HZ,HC⟩:=bT hz (p8 wr va vl N cap z);have g:=aC (kg j z hz) (up iN hbr);clear hall hbr hz K0 K1;cases hlv:Dh N z
   ·have HV:Hid (scB N y=false):=I (by
     have:y.bounds.all (Dh N)=false:=by
      cases hh:y.bounds.all (Dh N)with
      | false=>rfl
      | true=>rw[gY.1 hh z (dN HZ)]at hlv;cases hlv
     rw[scB,this,Af])
    rw[show(decide (0<=z)&&decide (z<N))=false from hlv]at HC;clear hlv;go_wp2_with fail;refine HC.mono ?_;rintro e w2 ⟨rfl,hb2⟩;have HB2:=I hb2;clear hb2;go_wp2_with fail;go_ret;exact⟨aM HV.symm,up iN (up BQ HB2)⟩
   ·have HN:Hid ((y.bounds.take (j+1)).all (Dh N)=true):=I (by rw[gH,HZ,lM,Qs,dU,lV,List.all_cons,hlv];rfl);rw[show(decide (0<=z)&&decide (z<N))=true from hlv]at HC;clear hlv;go_wp2_with fail;refine HC.mono ?_;rintro e w2 ⟨rfl,hb2⟩;have HB2:=I hb2;clear hb2;go_wp2_with fail;go_roundw;case rel=>exact⟨j+1,by omega,by go_num,HN,up BQ HB2⟩
    case measure=>simp[intOf];omega
  ·obtain rfl:j=nb:=by omega
   have HV:Hid (scB N y=(wZ N y.mask y.level&&Dh N y.pc&&!(aO.BR y.gU ⟨#[]⟩))):=I (by
    have:y.bounds.all (Dh N)=true:=by have:=dU.out;rwa[fJ (by rw[<-HNB];omega)]at this
    rw[scB,this,lV])
   obtain⟨-,y1,y2⟩:=Ql K1;obtain⟨HC,HK0r,HK1r,KE⟩:=mg (FR wr va vl N cap y.mask y.level) K0 K1 (up iN hbr);have HCL:=I (λwx=>p8 wx va vl N cap y.pc);have rY:=I (λwx (hx:bG w wx)=>jA wx _ y.gU ⟨#[]⟩ (HE.below hx));clear hall hbr K0 K1;cases hla:wZ N y.mask y.level;·rw[hla]at HC HV;rw[Af,Af]at HV;clear hla;go_wp2_with fail;refine HC.mono ?_;rintro e w2 ⟨rfl,hb2⟩;have HB2:=I hb2;clear hb2 x0 x1 y1 y2;go_wp2_with fail;go_ret;exact⟨aM HV.symm,up KE HB2⟩
   ·rw[hla]at HC HV;rw[lV]at HV;clear hla;go_wp2_with fail;refine HC.mono ?_;rintro e w2 ⟨rfl,hb2⟩;have HB2:=I (up KE hb2);obtain⟨K0,K1⟩:=eD (aU HK0r hb2) (aU HK1r hb2);clear hb2 x0 x1 y1 y2;obtain⟨x0,x1⟩:=jm K0;have y4:=aj K1 4;obtain⟨QJ,yH⟩:=bT (HCL w2) K1;clear K0 K1;cases hle:Dh N y.pc;·rw[hle,Af]at HV;rw[show(decide (0<=y.pc)&&decide (y.pc<N))=false from hle]at QJ;clear hle;go_wp2_with fail;refine QJ.mono ?_;rintro e w3 ⟨rfl,hb3⟩;have HB3:=I (up HB2 hb3);clear hb3;go_wp2_with fail;go_ret;exact⟨aM HV.symm,HB3⟩
    ·rw[hle,lV]at HV;rw[show(decide (0<=y.pc)&&decide (y.pc<N))=true from hle]at QJ;clear hle;go_wp2_with fail;refine QJ.mono ?_;rintro e w3 ⟨rfl,hb3⟩;have HB3:=I (up HB2 hb3);have K1:=aU yH hb3;have y5:=aj K1 5;have HC3:=I (rY w3 HB3);clear hb3 K1 x0 x1 y4;go_wp2_with fail;refine HC3.mono ?_;rintro e w4 ⟨rfl,rfl⟩;go_wp2_with fail;go_ret;exact⟨aM HV.symm,HB3⟩
namespace Fl
def Bq(N:Nat)(p:Fu × Sc):Bool:=decide (p.2.bounds.length=p.1.params.length)&&scB N p.2
def nT(N:Nat)(fs:List Fu)(ys:List Sc):Bool:=decide (ys.length=fs.length)&&(List.zip fs ys).all (Bq N)
theorem X7{ys:List Sc}{y:Sc}(h1:fs[j]?=some x)(h2:ys[j]?=some y)(h:Bq N (x,y)=false):nT N fs ys=false:=by
 have hz:(List.zip fs ys)[j]?=some (x,y):=X8.2 ⟨h1,h2⟩;have:(List.zip fs ys).all (Bq N)=false:=by
  cases hh:(List.zip fs ys).all (Bq N)with
  | false=>rfl
  | true=>rw[gY.1 hh _ (dN hz)]at h;cases h
 rw[nT,this,Rj]
theorem fitB_next{ys:List Sc}{y:Sc}(h1:fs[j]?=some x)(h2:ys[j]?=some y)(h:Bq N (x,y)=true)(hp:((List.zip fs ys).take j).all (Bq N)=true):((List.zip fs ys).take (j+1)).all (Bq N)=true:=by have hz:(List.zip fs ys)[j]?=some (x,y):=X8.2 ⟨h1,h2⟩;rw[gH,hz,lM,Qs,hp,lV,List.all_cons,h];rfl
end Fl
theorem OX(m:Nat)(w:World)(va:Option Addr)(vl:Value)(N cap:Nat)(vf vs:Value)(fs:List Fu)(ys:List Sc)(hF:lS w m vf fs)(hS:sF w vs ys):Calls prog 105 #[.agg #[Y va N cap,vl],vf,vs] w λe w'=>e=cO (.bool (nT N fs ys))/\bG w w':=by
 obtain⟨af,bf,of,cf,rfl,hf0,hf63,yI⟩:=hF;obtain⟨asx,bs,os,cs,rfl,hs0,hs63,hsel⟩:=hS;obtain⟨nf,hnf⟩:=bC fs.length;obtain⟨ns,hns⟩:=bC ys.length;rw[<-hnf]at hf0 hf63 ⊢;rw[<-hns]at hs0 hs63 ⊢;obtain⟨dO,lD⟩:=sS w (aY #[Y va N cap,vl] 25);obtain⟨uH,G8,vD,UE,uO,DN⟩:=vC hnf hns hf0 hs0 yI hsel;clear hf0 hs0 yI hsel hnf hns;by_cases hln:ns=nf
 ·subst hln;go_enter func105,ntmps105;go_wp2_with fail;generalize w.alloc (aY #[Y va N cap,vl] 25)=W at *;go_loopw[16] (λi wr=>∃j:Nat,j<=ns/\i=O j/\((List.zip fs ys).take j).all (Bq N)=true/\bG W wr) (λi _=>ns - (intOf i).toNat);case atStart=>exact⟨0,bI _,rfl,rfl,bN _ _⟩
  case round=>
   obtain⟨j,hj,rfl,hall,hbr⟩:=hrel;obtain⟨dU,BQ⟩:=bT hall hbr;by_cases hjl:j<ns
   ·obtain⟨x,hx⟩:∃z,fs[j]?=some z:=⟨_,bg (by rw[<-uH];omega)⟩;obtain⟨y,hy⟩:∃z,ys[j]?=some z:=⟨_,bg (by rw[<-G8];omega)⟩;obtain rfl:=vD aV;obtain rfl:=UE aV;obtain⟨_,vp,vb,e0,e1,e2,e3,g0,g1,g2,g3,g4,g5,g6,kp,kb,ke⟩:=uO j x hx;obtain⟨ap,bp,op,cp,rfl,-⟩:=kp;obtain⟨ab,cb,rfl,-⟩:=kb.shape;obtain⟨ar,cr,rfl,rfl,rfl,rfl⟩:=ke.shape;obtain⟨ub,ue,h0,h1,h2,h3,h4,h5,ib,ie⟩:=DN j y hy;have xC:Hid (Ey w (.agg #[A y.fn,O y.mask,O y.level,ub,O y.pc,ue]) y):=I ⟨ub,ue,rfl,ib,ie⟩;obtain⟨au,bu,ou,cu,rfl,-⟩:=ib;obtain⟨aw,bw,ow,cw,rfl,-⟩:=ie;obtain⟨np,hnp⟩:=bC x.params.length;obtain⟨nb,hnb⟩:=bC x.body.length;obtain⟨nr,hnr⟩:=bC x.result.args.length;obtain⟨nu,hnu⟩:=bC y.bounds.length;obtain⟨nw,hnw⟩:=bC y.gU.length;rw[<-hnp]at g1;rw[<-hnb]at g2;rw[<-hnr]at g6;rw[<-hnu]at h3 xC;rw[<-hnw]at h5 xC;obtain⟨HX,HY,FQ,HNU⟩:=mg hx hy hnp hnu;have hwr:=up dO hbr;replace g0:=aC g0 hwr;replace g1:=aC g1 hwr;replace g2:=aC g2 hwr;replace g3:=aC g3 hwr;replace g4:=aC g4 hwr;replace g5:=aC g5 hwr;replace g6:=aC g6 hwr;obtain⟨nR,dW⟩:=bT hwr (aH wr (aY #[A x.name,Y ap np cp,Y ab nb cb,O x.result.kind,O x.result.n,A x.result.name,Y ar nr cr] 109));obtain⟨EI,hb5⟩:=eD (up hwr dW) (bD wr (aY #[A x.name,Y ap np cp,Y ab nb cb,O x.result.kind,O x.result.n,A x.result.name,Y ar nr cr] 109));obtain⟨c1,K0⟩:=eD (aX ((aj hb5 1).trans (rfl:_=some (Y ap np cp)))) (aU lD (up hbr dW));obtain⟨d0,d1⟩:=eD (aX ((aj K0 0).trans (rfl:_=some (Y va N cap)))) (aX ((aj K0 1).trans (rfl:_=some vl)));replace h0:=aX (aC h0 EI);replace h1:=aX (aC h1 EI);replace h2:=aX (aC h2 EI);replace h3:=aX (aC h3 EI);replace h4:=aX (aC h4 EI);replace h5:=aX (aC h5 EI);have HIS:=I (λk os=>OW (gn (wr.alloc (aY #[A x.name,Y ap np cp,Y ab nb cb,O x.result.kind,O x.result.n,A x.result.name,Y ar nr cr] 109)) k os) va vl N cap _ y (xC.below (up EI (bR _ k os))));clear hx hy hall hbr kb ke hnp hnb hnr hnu hnw hwr EI hb5 K0;by_cases hnn:nu=np
    ·obtain rfl:np=nu:=hnn.symm;obtain⟨r,hr⟩:=bC (scB N y);rw[<-hr]at HIS;have HR1:Hid (Bq N (x,y)=r):=I (by rw[Bq,hr];simp only;rw[<-HNU,<-FQ];simp);clear hr;go_wp2_with fail;generalize wr.alloc (aY #[A x.name,Y ap np cp,Y ab nb cb,O x.result.kind,O x.result.n,A x.result.name,Y ar nr cr] 109)=W5 at *;refine bS bU bU ?_;repeat(quiet_step ((exact Calls.pX (HIS.out _ _))))
     refine wpQuiet_nil ?_;intro _ hw';obtain⟨⟨nq,osq⟩,hw''⟩:=hw';subst hw'';have eF:=I (up dW.out (bR W5 nq osq));clear c1 d0 d1 h0 h1 h2 h3 h4 h5 g0 g1 g2 g3 g4 g5 g6;generalize gn W5 nq osq=W6 at *;cases r;·go_wp2_with fail;go_ret;exact⟨aM (X7 HX.out HY.out HR1.out).symm,up nR.out eF.out⟩
     ·go_wp2_with fail;go_roundw;case rel=>exact⟨j+1,by omega,by go_num,fitB_next HX HY HR1 dU,up BQ eF⟩
      case measure=>simp[intOf];omega
    ·have HR1:Hid (Bq N (x,y)=false):=I (by rw[Bq];simp only;rw[<-HNU,<-FQ];simp[hnn]);have hq:((nu:Int)==(np:Int))=false:=by simp;omega
     have hq2:decide ((nu:Int)=(np:Int))=false:=by simp;omega
     have hq3:¬((nu:Int)=(np:Int)):=by omega
     go_wp2_with fail;generalize wr.alloc (aY #[A x.name,Y ap np cp,Y ab nb cb,O x.result.kind,O x.result.n,A x.result.name,Y ar nr cr] 109)=W5 at *;refine bS bU bU ?_;repeat(quiet_step (fail))
     refine wpQuiet_nil ?_;intro _ hw';obtain⟨⟨nq,osq⟩,hw''⟩:=hw';subst hw'';have eF:=I (up dW.out (bR W5 nq osq));clear c1 d0 d1 h0 h1 h2 h3 h4 h5 g0 g1 g2 g3 g4 g5 g6;generalize gn W5 nq osq=W6 at *;go_wp2_with fail;go_ret;exact⟨aM (X7 HX.out HY.out HR1.out).symm,up nR.out eF.out⟩
   ·obtain rfl:j=ns:=by omega
    have HV:Hid (nT N fs ys=true):=I (by have hh:=dU.out;rw[fJ (by rw[List.length_zip,<-uH];omega)]at hh;rw[nT,hh,<-uH,<-G8];simp);clear hall hbr;go_wp2_with fail;go_ret;exact⟨aM HV.symm,up dO BQ⟩
 ·have HV:Hid (nT N fs ys=false):=I (by rw[nT,<-uH,<-G8];simp[hln]);have hq:((ns:Int)==(nf:Int))=false:=by simp;omega
  have hq3:¬((ns:Int)=(nf:Int)):=by omega
  go_enter func105,ntmps105;go_wp2_with fail;go_ret;exact⟨aM HV.symm,dO⟩
namespace Fl
def Di(N:Nat)(p:Mo × List Sc):Bool:=nT N p.1.bq p.2
def iw(N:Nat)(known:List Mo)(bJ:List (List Sc)):Bool:=decide (bJ.length=known.length)&&(List.zip known bJ).all (Di N)
theorem fitsB_no{fs:List Mo}{x:Mo}(h1:fs[j]?=some x)(h2:ys[j]?=some y)(h:Di N (x,y)=false):iw N fs ys=false:=by
 have hz:(List.zip fs ys)[j]?=some (x,y):=X8.2 ⟨h1,h2⟩;have:(List.zip fs ys).all (Di N)=false:=by
  cases hh:(List.zip fs ys).all (Di N)with
  | false=>rfl
  | true=>rw[gY.1 hh _ (dN hz)]at h;cases h
 rw[iw,this,Rj]
theorem Vu{fs:List Mo}{x:Mo}(h1:fs[j]?=some x)(h2:ys[j]?=some y)(h:Di N (x,y)=true)(hp:((List.zip fs ys).take j).all (Di N)=true):((List.zip fs ys).take (j+1)).all (Di N)=true:=by have hz:(List.zip fs ys)[j]?=some (x,y):=X8.2 ⟨h1,h2⟩;rw[gH,hz,lM,Qs,hp,lV,List.all_cons,h];rfl
end Fl
theorem Br(m:Nat)(w:World)(va:Option Addr)(vl:Value)(N cap:Nat)(vk vs:Value)(fs:List Mo)(ys:List (List Sc))(hF:nC w m vk fs)(hS:Bj w vs ys):Calls prog 104 #[.agg #[Y va N cap,vl],vk,vs] w λe w'=>e=cO (.bool (Fl.iw N fs ys))/\bG w w':=by
 obtain⟨ak,bk,ok,ck,rfl,hf0,hf63,yI⟩:=hF;obtain⟨asx,bs,os,cs,rfl,hs0,hs63,hsel⟩:=hS;obtain⟨nk,hnf⟩:=bC fs.length;obtain⟨ns,hns⟩:=bC ys.length;rw[<-hnf]at hf0 hf63 ⊢;rw[<-hns]at hs0 hs63 ⊢;obtain⟨dO,lD⟩:=sS w (aY #[Y va N cap,vl] 25);obtain⟨uH,G8,vD,UE,uO,DN⟩:=vC hnf hns hf0 hs0 yI hsel;clear hf0 hs0 yI hsel hnf hns;by_cases hln:ns=nk
 ·subst hln;go_enter func104,ntmps104;go_wp2_with fail;generalize w.alloc (aY #[Y va N cap,vl] 25)=W at *;go_loopw[16] (λi wr=>∃j:Nat,j<=ns/\i=O j/\((List.zip fs ys).take j).all (Di N)=true/\bG W wr) (λi _=>ns - (intOf i).toNat);case atStart=>exact⟨0,bI _,rfl,rfl,bN _ _⟩
  case round=>
   obtain⟨j,hj,rfl,hall,hbr⟩:=hrel;obtain⟨dU,BQ⟩:=bT hall hbr;by_cases hjl:j<ns
   ·obtain⟨x,hx⟩:∃z,fs[j]?=some z:=⟨_,bg (by rw[<-uH];omega)⟩;obtain⟨y,hy⟩:∃z,ys[j]?=some z:=⟨_,bg (by rw[<-G8];omega)⟩;obtain rfl:=vD aV;obtain rfl:=UE aV;obtain⟨vi,vv,vf,g0,g1,g2,g3,hmo⟩:=uO j x hx;obtain⟨kp,kb,ke⟩:=hmo.split;have HFU:=I ke;obtain⟨ai,bi,oi,ci,rfl,-⟩:=kp;obtain⟨av,bv,ov,cv,rfl,-⟩:=kb;obtain⟨af,bf,of,cf,rfl,-⟩:=ke;obtain⟨u,h0,hu⟩:=DN j y hy;have xC:=I hu;obtain⟨au,bu,ou,cu,rfl,-⟩:=hu;obtain⟨ni,hni⟩:=bC x.imports.length;obtain⟨nv,xg⟩:=bC x.vars.length;obtain⟨nf,hnf⟩:=bC x.bq.length;obtain⟨nu,hnu⟩:=bC y.length;rw[<-hni]at g1;rw[<-xg]at g2;rw[<-hnf]at g3 HFU;rw[<-hnu]at h0 xC;obtain⟨HX,HY⟩:=bT hx hy;have hwr:=up dO hbr;replace g0:=aC g0 hwr;replace g1:=aC g1 hwr;replace g2:=aC g2 hwr;replace g3:=aC g3 hwr;obtain⟨nR,dW⟩:=bT hwr (aH wr (aY #[A x.name,Y ai ni ci,Y av nv cv,Y af nf cf] 58));obtain⟨EI,hb5⟩:=eD (up hwr dW) (bD wr (aY #[A x.name,Y ai ni ci,Y av nv cv,Y af nf cf] 58));obtain⟨c3,K0⟩:=eD (aX ((aj hb5 3).trans (rfl:_=some (Y af nf cf)))) (aU lD (up hbr dW));obtain⟨d0,d1⟩:=eD (aX ((aj K0 0).trans (rfl:_=some (Y va N cap)))) (aX ((aj K0 1).trans (rfl:_=some vl)));replace h0:=aX (aC h0 EI);have HIS:=I (λk os=>OX m (gn (wr.alloc (aY #[A x.name,Y ai ni ci,Y av nv cv,Y af nf cf] 58)) k os) va vl N cap _ _ x.bq y (HFU.below (up EI (bR _ k os))) (xC.below (up EI (bR _ k os))));clear hx hy hall hbr hmo hni xg hnf hnu hwr EI hb5 K0;obtain⟨r,hr⟩:=bC (nT N x.bq y);rw[<-hr]at HIS;have HR1:Hid (Di N (x,y)=r):=I hr.symm;clear hr;go_wp2_with fail;generalize wr.alloc (aY #[A x.name,Y ai ni ci,Y av nv cv,Y af nf cf] 58)=W5 at *;refine bS bU bU ?_;repeat(quiet_step ((exact Calls.pX (HIS.out _ _))))
    refine wpQuiet_nil ?_;intro _ hw';obtain⟨⟨nq,osq⟩,hw''⟩:=hw';subst hw'';have eF:=I (up dW.out (bR W5 nq osq));clear c3 d0 d1 h0 g0 g1 g2 g3;generalize gn W5 nq osq=W6 at *;cases r;·go_wp2_with fail;go_ret;exact⟨aM (fitsB_no HX.out HY.out HR1.out).symm,up nR.out eF.out⟩
    ·go_wp2_with fail;go_roundw;case rel=>exact⟨j+1,by omega,by go_num,Vu HX HY HR1 dU,up BQ eF⟩
     case measure=>simp[intOf];omega
   ·obtain rfl:j=ns:=by omega
    have HV:Hid (Fl.iw N fs ys=true):=I (by have hh:=dU.out;rw[fJ (by rw[List.length_zip,<-uH];omega)]at hh;rw[Fl.iw,hh,<-uH,<-G8];simp);clear hall hbr;go_wp2_with fail;go_ret;exact⟨aM HV.symm,up dO BQ⟩
 ·have HV:Hid (Fl.iw N fs ys=false):=I (by rw[Fl.iw,<-uH,<-G8];simp[hln]);have hq:((ns:Int)==(nk:Int))=false:=by simp;omega
  have hq3:¬((ns:Int)=(nk:Int)):=by omega
  go_enter func104,ntmps104;go_wp2_with fail;go_ret;exact⟨aM HV.symm,dO⟩
namespace aO
end aO
open Go.Shelf
theorem mJ.holds(h:mJ w g l):Sort.Holds encStr w g 0 (l.map (·.data.toList)).toArray:=by
 obtain⟨cur,hc,hsz,hel⟩:=h;intro j hj;have hjl:j<l.length:=by simpa using hj
 refine⟨?_,aG hc _⟩;rw[eu,aj hc,hel j _ (bg hjl)];congr 1;simp[hjl]
theorem mJ.Vg{os:Array Obj}{b:List (List UInt8)}(h:mJ w g l)(hb:b.length=l.length):mJ (Sort.grow (Sort.putRow encStr (Sort.ahead w n) g 0 b.toArray) os) g (b.map λx=>⟨x.toArray⟩):=by
 obtain⟨cur,hc,hsz,hel⟩:=h;have hg:=bE hc;have hblk:(Sort.grow (Sort.putRow encStr (Sort.ahead w n) g 0 b.toArray) os).heap[g]?=some (.cells (Sort.putCells encStr 0 b.toArray cur) 9 (0,0)):=by simp only[Sort.grow,Sort.putRow,Sort.mapBlock,Sort.ahead];rw[ZQ1Z (by simpa using hg)];simp[ZQ3Z,hc,Sort.onCells]
 refine⟨_,hblk,by simp only[Sort.putCells,Array.size_mapIdx,dR];omega,λi d hd=>?_⟩;have hi:i<b.length:=by simpa using(dz.1 hd).1
 rw[pY,bg hi]at hd;simp at hd;subst hd;have hic:i<cur.size:=by omega
 simp[Sort.putCells,hic,hi]
theorem JO(w:World)(p:Option Addr)(cap:Nat):Calls prog 46 #[Y p 0 cap] w λe w'=>e=cO (.tuple #[])/\w'=w:=
 Any.slices_Sort_string_none Tryz.lSoS p cap w
namespace bO
end bO
namespace bO
end bO
section
variable {w w' : World} {base e size n : Nat} {v : Value} {xs : List Value}
end
def oF(vn vo:Value):Nat->Value:=λi=>if i=0 then vn else vo
structure RO(W0 wr:World)(N n k:Nat)(vn:Value)(Z:Nat->Nat->Bool)(vr:Nat->Value)(vo:Value):Prop where
 below:Below (N+2) W0 wr
 size:N+3<=wr.heap.size
 out:wr.rowIs (N+2) 25 2 (oF vn vo)
 outer:wr.ownsRow (N+3) 49 1 vo k ((List.range k).map vr)
 done:∀j,j<k->wr.ownsRow (N+3) 4 1 (vr j) n ((List.range n).map λc=>.bool (Z j c))
namespace bO
variable {Z : Nat → Nat → Bool} {n : Nat}
end bO
namespace bO
end bO
namespace bO
variable {Z : Nat → Nat → Bool} {n : Nat}
end bO
section
variable {w0 w w' : World} {c : Cf} {V : Nat → Nat × Nat} {S : Nat → Nat}
theorem Sv.up_yes{Z:Nat->Nat->Bool}{N i:Nat}{a:Nat × Nat}(h:Sv.le Z a (V i)=true):Sv.up Z N V i a=V:=by unfold Sv.up;rw[aL h]
theorem Sv.up_no{Z:Nat->Nat->Bool}{N i:Nat}{a:Nat × Nat}(h:Sv.le Z a (V i)=false):Sv.up Z N V i a=Sv.put V i (Sv.join Z N (V i) a):=by unfold Sv.up;rw[aJ (by rw[h];simp)]
end
theorem MJ(w0 w:World)(c:Cf)(V:Nat->Nat × Nat)(S:Nat->Nat)(ss:List aZ)(G:Nat)(L:Nat->Nat)(Z:Nat->Nat->Bool)(i:Nat)(a:Nat × Nat)(hL:mK w0 c.vn c.vl ss G L Z)(h:iZ w0 w c V S)(hV:xW ss.length c.n V)(hi:i<c.n)(ha:Sv.Ok ss.length a)(hn:c.n<=40):Calls prog 220 #[jk c.p,O i,.agg #[O (a.1:Nat),O (a.2:Nat)]] w λe w'=>e=cO (.bool (!(Sv.le Z a (V i))))/\Hid (iZ w0 w' c (Sv.up Z ss.length V i a) S/\But c.lb w w'):=by
 obtain⟨p,lb,sb,n,vn,vl⟩:=c;simp only at hL hV hi hn ⊢;obtain⟨W,hW⟩:∃W,W=w.alloc (aY #[O (a.1:Nat),O (a.2:Nat)] 33):=⟨_,rfl⟩;have hB:bG w W:=by rw[hW];exact aH w _
 have bx:W.heap[w.heap.size]?=some (aY #[O (a.1:Nat),O (a.2:Nat)] 33):=by rw[hW];exact bD w _
 have hW1:=h.below hB;obtain⟨c0,c1,c2,c3⟩:=hW1.cell;obtain⟨l0,l1,z0,z1⟩:=hW1.ZG (i:=i) hi;obtain⟨HI,HA,HL,HW1,HB,dO⟩:=vC (hV i hi) ha hL hW1 hB bx;have hii:(0:Int)<=(i:Int):=by omega
 have hin:(i:Int)<(n:Int):=by omega
 obtain⟨x,hx⟩:=bC (V i);have HX:=I hx;rw[<-hx]at l0 l1;obtain⟨r,hr⟩:=bC (Sv.le Z a x);have HR:=I hr;rw[<-hx,<-hr];obtain⟨q0,q1⟩:=jm bx;simp only at c0 c1 c2 c3 l0 l1 z0 z1;replace q0:=aX q0;replace q1:=aX q1;replace c0:=aX c0;replace c1:=aX c1;replace c2:=aX c2;replace c3:=aX c3;replace l0:=aX l0;replace l1:=aX l1;have HFG:=I (λk os=>Rx (gn W k os) vn vl ss.length Z a x ((HL.below (up (HW1.since) (bR W k os))).grid) HL.six HA (by rw[HX];exact HI));rw[<-hr]at HFG;clear h hL hV ha hB bx hW1 hx hr z0 z1;go_enter func220,ntmps220;go_wp2_with fail;rw[<-hW];clear hW;refine bS bU bU ?_;repeat(quiet_step ((exact Calls.pX (HFG.out _ _))))
 refine wpQuiet_nil ?_;intro _ hw';obtain⟨⟨nq,osq⟩,hw''⟩:=hw';subst hw'';obtain⟨HS2,HB2,HBX2⟩:=fq (HW1.out.below (bR W nq osq)) (up HB.out (bR W nq osq)) (aU dO.out (bR W nq osq));clear q0 q1 c0 c1 c2 c3 l0 l1;generalize gn W nq osq=W2 at *;cases r
 ·have HJ:=I (λ(w1:World) (hb:bG W2 w1)=>FV w1 vn vl ss G L Z x a (HL.below (up HS2.since hb)) (by rw[HX];exact HI) HA);obtain⟨c0,c1,c2,c3⟩:=HS2.cell;obtain⟨l0,l1,z0,z1⟩:=HS2.ZG (i:=i) hi;rw[<-HX]at l0 l1;obtain⟨q0,q1⟩:=jm HBX2;simp only at c0 c1 c2 c3 l0 l1 z0 z1;replace q0:=aX q0;replace q1:=aX q1;replace c0:=aX c0;replace c1:=aX c1;replace c2:=aX c2;replace l0:=aX l0;replace l1:=aX l1;obtain⟨aak,hJ⟩:=bC (Sv.join Z ss.length x a);rw[<-hJ]at HJ;have HJE:=I hJ;have HJG:=I (λk os=>HJ (gn W2 k os) (bR W2 k os));clear hJ z0 z1;go_wp2_with fail;refine fI 19 bU bU ?_;dsimp only[List.take,List.drop];repeat(quiet_step ((exact Calls.pX (HJG.out _ _))))
  refine wpQuiet_nil ?_;intro w6 hw';obtain⟨⟨nq,osq⟩,hw''⟩:=hw';have eF:=I (show bG W2 w6 by rw[hw''];exact bR W2 nq osq);have wX:=I (HS2.out.below eF.out);obtain⟨m0,m1,y0,y1⟩:=wX.out.ZG (i:=i) hi;simp only at m0 m1 y0 y1;clear hw'' q0 q1 c0 c1 c2 c3 l0 l1;go_wp2_with fail;go_ret;refine⟨rfl,I ⟨?_,((But.of_below (up HB2.out eF.out)).set (a:=(X lb (i*2))) (aR rfl) _).set (a:=(X lb (i*2+1))) (aR rfl) _⟩⟩;rw[up_no (by rw[<-HX.out,<-HR.out]),<-HX.out,<-HJE.out];exact wX.out.put hi aak
 ·go_wp2_with fail;go_ret;refine⟨rfl,I ⟨?_,But.of_below HB2⟩⟩;rw[up_yes (by rw[<-HX,<-HR])];exact HS2
end Go.Proofs.YtbgkpehhdibaoaaGreatDoor
