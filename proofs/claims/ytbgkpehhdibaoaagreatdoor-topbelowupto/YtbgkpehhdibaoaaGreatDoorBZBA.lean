/- part -/
import Derived.Test.YtbgkpehhdibaoaaGreatDoorBZAX
import Derived.Test.YtbgkpehhdibaoaaGreatDoorBZAY
set_option maxHeartbeats 0
set_option maxRecDepth 99999
namespace Go.Proofs.YtbgkpehhdibaoaaGreatDoor
open Fl Sv
open Go.Proofs.Tryz
open Go.RowKit Go.Maps Go.WideMaps
namespace Fl
def EP(N:Nat)(a:Int):Bool:=decide (0<=a)&&decide (a<N)
def scB(N:Nat)(y:Sc):Bool:=y.bounds.all (EP N)&&(yw N y.mask y.level&&EP N y.pc&&!(bJ.Ce y.gY ⟨#[]⟩))
end Fl
variable{N j g n:Nat}{fs:List Fu}{ys:List (List Sc)}{x:Fu}{y:List Sc}{w:World}{l:List aY}
theorem ML(w:World)(va:Option Addr)(vl:Value)(N cap:Nat)(v:Value)(y:Sc)(h:C8 w v y):Calls prog 162 #[.agg #[Y va N cap,vl],v] w λe w'=>e=dz (.bool (scB N y))/\bG w w':=by
 obtain⟨vb,ve,rfl,hB,hE⟩:=h;obtain⟨ab,bb,ob,cb,rfl,ha0,hl63,hel⟩:=hB;have HE:=I hE;obtain⟨ae,be,oe,ce,rfl,-⟩:=hE;obtain⟨nb,hnb⟩:=bC y.bounds.length;obtain⟨ne,hne⟩:=bC y.gY.length;rw[<-hnb]at ha0 hl63 ⊢;rw[<-hne]at HE ⊢;obtain⟨HNB,lK,Ef⟩:=fD hnb hel ha0;obtain⟨W,hW,k0,k1,hsz,hBW⟩:=wX w (aW #[Y va N cap,vl] 25) (aW #[A y.fn,O y.mask,O y.level,Y ab nb cb,O y.pc,Y ae ne ce] 35);have y3:=aj k1 3;obtain⟨lF,jh,iA⟩:=fD k0 k1 hBW;clear ha0 hel hnb hne hBW hsz k0 k1;subst hW;go_enter func162,ntmps162;go_wp2_with fail;generalize (w.alloc (aW #[Y va N cap,vl] 25)).alloc (aW #[A y.fn,O y.mask,O y.level,Y ab nb cb,O y.pc,Y ae ne ce] 35)=W at *;clear y3;go_loopw[10] (λi wr=>∃j:Nat,j<=nb/\i=O j/\(y.bounds.take j).all (EP N)=true/\bG W wr) (λi _=>nb - (intOf i).toNat);case atStart=>exact⟨0,bL _,rfl,rfl,bP _ _⟩
 case round=>
  obtain⟨j,hj,rfl,hall,hbr⟩:=hrel;obtain⟨fF,AU⟩:=bU hall hbr;obtain⟨K0,K1⟩:=eY (aU lF hbr) (aU jh hbr);obtain⟨x0,x1⟩:=iV K0;by_cases hjl:j<nb
  ·obtain⟨z,hz⟩:∃z,y.bounds[j]?=some z:=⟨_,bD (by rw[<-HNB];omega)⟩;obtain rfl:=Ef aX;obtain⟨HZ,HC⟩:=bU hz (oC wr va vl N cap z);have g:=aD (lK j z hz) (up iA hbr);clear hall hbr hz K0 K1;cases hlv:EP N z
   ·have HV:Hid (scB N y=false):=I (by
     have:y.bounds.all (EP N)=false:=by
      cases hh:y.bounds.all (EP N)with
      | false=>rfl
      | true=>rw[iB.1 hh z (eT HZ)]at hlv;cases hlv
     rw[scB,this,yU])
    rw[show(decide (0<=z)&&decide (z<N))=false from hlv]at HC;clear hlv;go_wp2_with fail;refine HC.mono ?_;rintro e w2 ⟨rfl,hb2⟩;have HB2:=I hb2;clear hb2;go_wp2_with fail;go_ret;exact⟨aP HV.symm,up iA (up AU HB2)⟩
   ·have HN:Hid ((y.bounds.take (j+1)).all (EP N)=true):=I (by rw[gy,HZ,kU,List.all_append,fF,mH,List.all_cons,hlv];rfl);rw[show(decide (0<=z)&&decide (z<N))=true from hlv]at HC;clear hlv;go_wp2_with fail;refine HC.mono ?_;rintro e w2 ⟨rfl,hb2⟩;have HB2:=I hb2;clear hb2;go_wp2_with fail;go_roundw;case rel=>exact⟨j+1,by omega,by go_num,HN,up AU HB2⟩
    case measure=>simp[intOf];omega
  ·obtain rfl:j=nb:=by omega
   have HV:Hid (scB N y=(yw N y.mask y.level&&EP N y.pc&&!(bJ.Ce y.gY ⟨#[]⟩))):=I (by
    have:y.bounds.all (EP N)=true:=by have:=fF.out;rwa[fU (by rw[<-HNB];omega)]at this
    rw[scB,this,mH])
   obtain⟨-,y1,y2⟩:=NY K1;obtain⟨HC,HK0r,HK1r,HAB⟩:=lY (Eb wr va vl N cap y.mask y.level) K0 K1 (up iA hbr);have HCL:=I (λwx=>oC wx va vl N cap y.pc);have qK:=I (λwx (hx:bG w wx)=>jV wx _ y.gY ⟨#[]⟩ (HE.below hx));clear hall hbr K0 K1;cases hla:yw N y.mask y.level;·rw[hla]at HC HV;rw[yU,yU]at HV;clear hla;go_wp2_with fail;refine HC.mono ?_;rintro e w2 ⟨rfl,hb2⟩;have HB2:=I hb2;clear hb2 x0 x1 y1 y2;go_wp2_with fail;go_ret;exact⟨aP HV.symm,up HAB HB2⟩
   ·rw[hla]at HC HV;rw[mH]at HV;clear hla;go_wp2_with fail;refine HC.mono ?_;rintro e w2 ⟨rfl,hb2⟩;have HB2:=I (up HAB hb2);obtain⟨K0,K1⟩:=eY (aU HK0r hb2) (aU HK1r hb2);clear hb2 x0 x1 y1 y2;obtain⟨x0,x1⟩:=iV K0;have y4:=aj K1 4;obtain⟨Xt,xq⟩:=bU (HCL w2) K1;clear K0 K1;cases hle:EP N y.pc;·rw[hle,yU]at HV;rw[show(decide (0<=y.pc)&&decide (y.pc<N))=false from hle]at Xt;clear hle;go_wp2_with fail;refine Xt.mono ?_;rintro e w3 ⟨rfl,hb3⟩;have HB3:=I (up HB2 hb3);clear hb3;go_wp2_with fail;go_ret;exact⟨aP HV.symm,HB3⟩
    ·rw[hle,mH]at HV;rw[show(decide (0<=y.pc)&&decide (y.pc<N))=true from hle]at Xt;clear hle;go_wp2_with fail;refine Xt.mono ?_;rintro e w3 ⟨rfl,hb3⟩;have HB3:=I (up HB2 hb3);have K1:=aU xq hb3;have y5:=aj K1 5;have HC3:=I (qK w3 HB3);clear hb3 K1 x0 x1 y4;go_wp2_with fail;refine HC3.mono ?_;rintro e w4 ⟨rfl,rfl⟩;go_wp2_with fail;go_ret;exact⟨aP HV.symm,HB3⟩
namespace Fl
def Di(N:Nat)(p:Fu × Sc):Bool:=decide (p.2.bounds.length=p.1.params.length)&&scB N p.2
def sD(N:Nat)(fs:List Fu)(ys:List Sc):Bool:=decide (ys.length=fs.length)&&(List.zip fs ys).all (Di N)
theorem Vt{ys:List Sc}{y:Sc}(h1:fs[j]?=some x)(h2:ys[j]?=some y)(h:Di N (x,y)=false):sD N fs ys=false:=by
 have hz:(List.zip fs ys)[j]?=some (x,y):=Vu.2 ⟨h1,h2⟩;have:(List.zip fs ys).all (Di N)=false:=by
  cases hh:(List.zip fs ys).all (Di N)with
  | false=>rfl
  | true=>rw[iB.1 hh _ (eT hz)]at h;cases h
 rw[sD,this,OO]
theorem X4{ys:List Sc}{y:Sc}(h1:fs[j]?=some x)(h2:ys[j]?=some y)(h:Di N (x,y)=true)(hp:((List.zip fs ys).take j).all (Di N)=true):((List.zip fs ys).take (j+1)).all (Di N)=true:=by have hz:(List.zip fs ys)[j]?=some (x,y):=Vu.2 ⟨h1,h2⟩;rw[gy,hz,kU,List.all_append,hp,mH,List.all_cons,h];rfl
end Fl
theorem MN(m:Nat)(w:World)(va:Option Addr)(vl:Value)(N cap:Nat)(vf vs:Value)(fs:List Fu)(ys:List Sc)(hF:kW w m vf fs)(hS:yX w vs ys):Calls prog 105 #[.agg #[Y va N cap,vl],vf,vs] w λe w'=>e=dz (.bool (sD N fs ys))/\bG w w':=by
 obtain⟨af,bf,of,cf,rfl,hf0,hf63,xu⟩:=hF;obtain⟨asx,bs,os,cs,rfl,hs0,SQ,hsel⟩:=hS;obtain⟨nf,hnf⟩:=bC fs.length;obtain⟨ns,hns⟩:=bC ys.length;rw[<-hnf]at hf0 hf63 ⊢;rw[<-hns]at hs0 SQ ⊢;obtain⟨dQ,lF⟩:=rZ w (aW #[Y va N cap,vl] 25);obtain⟨wB,Fz,ug,UG,zO,DT⟩:=vP hnf hns hf0 hs0 xu hsel;clear hf0 hs0 xu hsel hnf hns;by_cases hln:ns=nf
 ·subst hln;go_enter func105,ntmps105;go_wp2_with fail;generalize w.alloc (aW #[Y va N cap,vl] 25)=W at *;go_loopw[16] (λi wr=>∃j:Nat,j<=ns/\i=O j/\((List.zip fs ys).take j).all (Di N)=true/\bG W wr) (λi _=>ns - (intOf i).toNat);case atStart=>exact⟨0,bL _,rfl,rfl,bP _ _⟩
  case round=>
   obtain⟨j,hj,rfl,hall,hbr⟩:=hrel;obtain⟨fF,AU⟩:=bU hall hbr;by_cases hjl:j<ns
   ·obtain⟨x,hx⟩:∃z,fs[j]?=some z:=⟨_,bD (by rw[<-wB];omega)⟩;obtain⟨y,hy⟩:∃z,ys[j]?=some z:=⟨_,bD (by rw[<-Fz];omega)⟩;obtain rfl:=ug aX;obtain rfl:=UG aX;obtain⟨_,vp,vb,e0,e1,e2,e3,g0,g1,g2,g3,g4,g5,g6,kp,kb,ke⟩:=zO j x hx;obtain⟨ap,bp,op,cp,rfl,-⟩:=kp;obtain⟨ab,cb,rfl,-⟩:=kb.shape;obtain⟨ar,cr,rfl,rfl,rfl,rfl⟩:=ke.shape;obtain⟨ub,ue,h0,h1,h2,h3,h4,h5,ib,ie⟩:=DT j y hy;have vC:Hid (C8 w (.agg #[A y.fn,O y.mask,O y.level,ub,O y.pc,ue]) y):=I ⟨ub,ue,rfl,ib,ie⟩;obtain⟨au,bu,ou,cu,rfl,-⟩:=ib;obtain⟨aw,bw,ow,cw,rfl,-⟩:=ie;obtain⟨np,hnp⟩:=bC x.params.length;obtain⟨nb,hnb⟩:=bC x.body.length;obtain⟨nr,hnr⟩:=bC x.result.args.length;obtain⟨nu,hnu⟩:=bC y.bounds.length;obtain⟨nw,hnw⟩:=bC y.gY.length;rw[<-hnp]at g1;rw[<-hnb]at g2;rw[<-hnr]at g6;rw[<-hnu]at h3 vC;rw[<-hnw]at h5 vC;obtain⟨HX,HY,Je,HNU⟩:=lY hx hy hnp hnu;have hwr:=up dQ hbr;replace g0:=aD g0 hwr;replace g1:=aD g1 hwr;replace g2:=aD g2 hwr;replace g3:=aD g3 hwr;replace g4:=aD g4 hwr;replace g5:=aD g5 hwr;replace g6:=aD g6 hwr;obtain⟨oQ,d9⟩:=bU hwr (aH wr (aW #[A x.name,Y ap np cp,Y ab nb cb,O x.result.kind,O x.result.n,A x.result.name,Y ar nr cr] 109));obtain⟨Dj,hb5⟩:=eY (up hwr d9) (aZ wr (aW #[A x.name,Y ap np cp,Y ab nb cb,O x.result.kind,O x.result.n,A x.result.name,Y ar nr cr] 109));obtain⟨c1,K0⟩:=eY (aS ((aj hb5 1).trans (rfl:_=some (Y ap np cp)))) (aU lF (up hbr d9));obtain⟨d0,d1⟩:=eY (aS ((aj K0 0).trans (rfl:_=some (Y va N cap)))) (aS ((aj K0 1).trans (rfl:_=some vl)));replace h0:=aS (aD h0 Dj);replace h1:=aS (aD h1 Dj);replace h2:=aS (aD h2 Dj);replace h3:=aS (aD h3 Dj);replace h4:=aS (aD h4 Dj);replace h5:=aS (aD h5 Dj);have HIS:=I (λk os=>ML (gn (wr.alloc (aW #[A x.name,Y ap np cp,Y ab nb cb,O x.result.kind,O x.result.n,A x.result.name,Y ar nr cr] 109)) k os) va vl N cap _ y (vC.below (up Dj (bQ _ k os))));clear hx hy hall hbr kb ke hnp hnb hnr hnu hnw hwr Dj hb5 K0;by_cases hnn:nu=np
    ·obtain rfl:np=nu:=hnn.symm;obtain⟨r,hr⟩:=bC (scB N y);rw[<-hr]at HIS;have HR1:Hid (Di N (x,y)=r):=I (by rw[Di,hr];simp only;rw[<-HNU,<-Je];simp);clear hr;go_wp2_with fail;generalize wr.alloc (aW #[A x.name,Y ap np cp,Y ab nb cb,O x.result.kind,O x.result.n,A x.result.name,Y ar nr cr] 109)=W5 at *;refine bS bR bR ?_;repeat(quiet_step ((exact Calls.nE (HIS.out _ _))))
     refine wpQuiet_nil ?_;intro _ hw';obtain⟨⟨nq,osq⟩,hw''⟩:=hw';subst hw'';have dX:=I (up d9.out (bQ W5 nq osq));clear c1 d0 d1 h0 h1 h2 h3 h4 h5 g0 g1 g2 g3 g4 g5 g6;generalize gn W5 nq osq=W6 at *;cases r;·go_wp2_with fail;go_ret;exact⟨aP (Vt HX.out HY.out HR1.out).symm,up oQ.out dX.out⟩
     ·go_wp2_with fail;go_roundw;case rel=>exact⟨j+1,by omega,by go_num,X4 HX HY HR1 fF,up AU dX⟩
      case measure=>simp[intOf];omega
    ·have HR1:Hid (Di N (x,y)=false):=I (by rw[Di];simp only;rw[<-HNU,<-Je];simp[hnn]);have hq:((nu:Int)==(np:Int))=false:=by simp;omega
     have hq2:decide ((nu:Int)=(np:Int))=false:=by simp;omega
     have hq3:¬((nu:Int)=(np:Int)):=by omega
     go_wp2_with fail;generalize wr.alloc (aW #[A x.name,Y ap np cp,Y ab nb cb,O x.result.kind,O x.result.n,A x.result.name,Y ar nr cr] 109)=W5 at *;refine bS bR bR ?_;repeat(quiet_step (fail))
     refine wpQuiet_nil ?_;intro _ hw';obtain⟨⟨nq,osq⟩,hw''⟩:=hw';subst hw'';have dX:=I (up d9.out (bQ W5 nq osq));clear c1 d0 d1 h0 h1 h2 h3 h4 h5 g0 g1 g2 g3 g4 g5 g6;generalize gn W5 nq osq=W6 at *;go_wp2_with fail;go_ret;exact⟨aP (Vt HX.out HY.out HR1.out).symm,up oQ.out dX.out⟩
   ·obtain rfl:j=ns:=by omega
    have HV:Hid (sD N fs ys=true):=I (by have hh:=fF.out;rw[fU (by rw[List.length_zip,<-wB];omega)]at hh;rw[sD,hh,<-wB,<-Fz];simp);clear hall hbr;go_wp2_with fail;go_ret;exact⟨aP HV.symm,up dQ AU⟩
 ·have HV:Hid (sD N fs ys=false):=I (by rw[sD,<-wB,<-Fz];simp[hln]);have hq:((ns:Int)==(nf:Int))=false:=by simp;omega
  have hq3:¬((ns:Int)=(nf:Int)):=by omega
  go_enter func105,ntmps105;go_wp2_with fail;go_ret;exact⟨aP HV.symm,dQ⟩
namespace Fl
def Bz(N:Nat)(p:Mo × List Sc):Bool:=sD N p.1.bg p.2
def iN(N:Nat)(known:List Mo)(bK:List (List Sc)):Bool:=decide (bK.length=known.length)&&(List.zip known bK).all (Bz N)
theorem fitsB_no{fs:List Mo}{x:Mo}(h1:fs[j]?=some x)(h2:ys[j]?=some y)(h:Bz N (x,y)=false):iN N fs ys=false:=by
 have hz:(List.zip fs ys)[j]?=some (x,y):=Vu.2 ⟨h1,h2⟩;have:(List.zip fs ys).all (Bz N)=false:=by
  cases hh:(List.zip fs ys).all (Bz N)with
  | false=>rfl
  | true=>rw[iB.1 hh _ (eT hz)]at h;cases h
 rw[iN,this,OO]
theorem SS{fs:List Mo}{x:Mo}(h1:fs[j]?=some x)(h2:ys[j]?=some y)(h:Bz N (x,y)=true)(hp:((List.zip fs ys).take j).all (Bz N)=true):((List.zip fs ys).take (j+1)).all (Bz N)=true:=by have hz:(List.zip fs ys)[j]?=some (x,y):=Vu.2 ⟨h1,h2⟩;rw[gy,hz,kU,List.all_append,hp,mH,List.all_cons,h];rfl
end Fl
theorem zV(m:Nat)(w:World)(va:Option Addr)(vl:Value)(N cap:Nat)(vk vs:Value)(fs:List Mo)(ys:List (List Sc))(hF:nD w m vk fs)(hS:zR w vs ys):Calls prog 104 #[.agg #[Y va N cap,vl],vk,vs] w λe w'=>e=dz (.bool (Fl.iN N fs ys))/\bG w w':=by
 obtain⟨ak,bk,ok,ck,rfl,hf0,hf63,xu⟩:=hF;obtain⟨asx,bs,os,cs,rfl,hs0,SQ,hsel⟩:=hS;obtain⟨nk,hnf⟩:=bC fs.length;obtain⟨ns,hns⟩:=bC ys.length;rw[<-hnf]at hf0 hf63 ⊢;rw[<-hns]at hs0 SQ ⊢;obtain⟨dQ,lF⟩:=rZ w (aW #[Y va N cap,vl] 25);obtain⟨wB,Fz,ug,UG,zO,DT⟩:=vP hnf hns hf0 hs0 xu hsel;clear hf0 hs0 xu hsel hnf hns;by_cases hln:ns=nk
 ·subst hln;go_enter func104,ntmps104;go_wp2_with fail;generalize w.alloc (aW #[Y va N cap,vl] 25)=W at *;go_loopw[16] (λi wr=>∃j:Nat,j<=ns/\i=O j/\((List.zip fs ys).take j).all (Bz N)=true/\bG W wr) (λi _=>ns - (intOf i).toNat);case atStart=>exact⟨0,bL _,rfl,rfl,bP _ _⟩
  case round=>
   obtain⟨j,hj,rfl,hall,hbr⟩:=hrel;obtain⟨fF,AU⟩:=bU hall hbr;by_cases hjl:j<ns
   ·obtain⟨x,hx⟩:∃z,fs[j]?=some z:=⟨_,bD (by rw[<-wB];omega)⟩;obtain⟨y,hy⟩:∃z,ys[j]?=some z:=⟨_,bD (by rw[<-Fz];omega)⟩;obtain rfl:=ug aX;obtain rfl:=UG aX;obtain⟨vi,vv,vf,g0,g1,g2,g3,hmo⟩:=zO j x hx;obtain⟨kp,kb,ke⟩:=hmo.split;have HFU:=I ke;obtain⟨ai,bi,oi,ci,rfl,-⟩:=kp;obtain⟨av,bv,ov,cv,rfl,-⟩:=kb;obtain⟨af,bf,of,cf,rfl,-⟩:=ke;obtain⟨u,h0,hu⟩:=DT j y hy;have vC:=I hu;obtain⟨au,bu,ou,cu,rfl,-⟩:=hu;obtain⟨ni,hni⟩:=bC x.imports.length;obtain⟨nv,D6⟩:=bC x.vars.length;obtain⟨nf,hnf⟩:=bC x.bg.length;obtain⟨nu,hnu⟩:=bC y.length;rw[<-hni]at g1;rw[<-D6]at g2;rw[<-hnf]at g3 HFU;rw[<-hnu]at h0 vC;obtain⟨HX,HY⟩:=bU hx hy;have hwr:=up dQ hbr;replace g0:=aD g0 hwr;replace g1:=aD g1 hwr;replace g2:=aD g2 hwr;replace g3:=aD g3 hwr;obtain⟨oQ,d9⟩:=bU hwr (aH wr (aW #[A x.name,Y ai ni ci,Y av nv cv,Y af nf cf] 58));obtain⟨Dj,hb5⟩:=eY (up hwr d9) (aZ wr (aW #[A x.name,Y ai ni ci,Y av nv cv,Y af nf cf] 58));obtain⟨c3,K0⟩:=eY (aS ((aj hb5 3).trans (rfl:_=some (Y af nf cf)))) (aU lF (up hbr d9));obtain⟨d0,d1⟩:=eY (aS ((aj K0 0).trans (rfl:_=some (Y va N cap)))) (aS ((aj K0 1).trans (rfl:_=some vl)));replace h0:=aS (aD h0 Dj);have HIS:=I (λk os=>MN m (gn (wr.alloc (aW #[A x.name,Y ai ni ci,Y av nv cv,Y af nf cf] 58)) k os) va vl N cap _ _ x.bg y (HFU.below (up Dj (bQ _ k os))) (vC.below (up Dj (bQ _ k os))));clear hx hy hall hbr hmo hni D6 hnf hnu hwr Dj hb5 K0;obtain⟨r,hr⟩:=bC (sD N x.bg y);rw[<-hr]at HIS;have HR1:Hid (Bz N (x,y)=r):=I hr.symm;clear hr;go_wp2_with fail;generalize wr.alloc (aW #[A x.name,Y ai ni ci,Y av nv cv,Y af nf cf] 58)=W5 at *;refine bS bR bR ?_;repeat(quiet_step ((exact Calls.nE (HIS.out _ _))))
    refine wpQuiet_nil ?_;intro _ hw';obtain⟨⟨nq,osq⟩,hw''⟩:=hw';subst hw'';have dX:=I (up d9.out (bQ W5 nq osq));clear c3 d0 d1 h0 g0 g1 g2 g3;generalize gn W5 nq osq=W6 at *;cases r;·go_wp2_with fail;go_ret;exact⟨aP (fitsB_no HX.out HY.out HR1.out).symm,up oQ.out dX.out⟩
    ·go_wp2_with fail;go_roundw;case rel=>exact⟨j+1,by omega,by go_num,SS HX HY HR1 fF,up AU dX⟩
     case measure=>simp[intOf];omega
   ·obtain rfl:j=ns:=by omega
    have HV:Hid (Fl.iN N fs ys=true):=I (by have hh:=fF.out;rw[fU (by rw[List.length_zip,<-wB];omega)]at hh;rw[Fl.iN,hh,<-wB,<-Fz];simp);clear hall hbr;go_wp2_with fail;go_ret;exact⟨aP HV.symm,up dQ AU⟩
 ·have HV:Hid (Fl.iN N fs ys=false):=I (by rw[Fl.iN,<-wB,<-Fz];simp[hln]);have hq:((ns:Int)==(nk:Int))=false:=by simp;omega
  have hq3:¬((ns:Int)=(nk:Int)):=by omega
  go_enter func104,ntmps104;go_wp2_with fail;go_ret;exact⟨aP HV.symm,dQ⟩
namespace bJ
end bJ
open Go.Shelf
theorem lS.holds(h:lS w g l):Sort.Holds encStr w g 0 (l.map (·.data.toList)).toArray:=by
 obtain⟨cur,hc,hsz,hel⟩:=h;intro j hj;have hjl:j<l.length:=by simpa using hj
 refine⟨?_,aG hc _⟩;rw[eD,aj hc,hel j _ (bD hjl)];congr 1;simp[hjl]
theorem lS.Sw{os:Array Obj}{b:List (List UInt8)}(h:lS w g l)(hb:b.length=l.length):lS (Sort.grow (Sort.putRow encStr (Sort.ahead w n) g 0 b.toArray) os) g (b.map λx=>⟨x.toArray⟩):=by
 obtain⟨cur,hc,hsz,hel⟩:=h;have hg:=bq hc;have hblk:(Sort.grow (Sort.putRow encStr (Sort.ahead w n) g 0 b.toArray) os).heap[g]?=some (.cells (Sort.putCells encStr 0 b.toArray cur) 9 (0,0)):=by simp only[Sort.grow,Sort.putRow,Sort.mapBlock,Sort.ahead];rw[ZQ1Z (by simpa using hg)];simp[Zu,hc,Sort.onCells]
 refine⟨_,hblk,by simp only[Sort.putCells,Array.size_mapIdx,dO];omega,λi d hd=>?_⟩;have hi:i<b.length:=by simpa using(dK.1 hd).1
 rw[qA,bD hi]at hd;simp at hd;subst hd;have hic:i<cur.size:=by omega
 simp[Sort.putCells,hic,hi]
theorem Ia(w:World)(p:Option Addr)(cap:Nat):Calls prog 46 #[Y p 0 cap] w λe w'=>e=dz (.tuple #[])/\w'=w:=
 Any.slices_Sort_string_none Tryz.lSoS p cap w
namespace bN
end bN
namespace bN
end bN
section
variable {w w' : World} {base e size n : Nat} {v : Value} {xs : List Value}
end
def oF(vn vo:Value):Nat->Value:=λi=>if i=0 then vn else vo
structure RO(W0 wr:World)(N n k:Nat)(vn:Value)(Z:Nat->Nat->Bool)(vr:Nat->Value)(vo:Value):Prop where
 below:Below (N+2) W0 wr
 size:N+3<=wr.heap.size
 out:wr.rowIs (N+2) 25 2 (oF vn vo)
 outer:wr.ownsRow (N+3) 49 1 vo k ((List.range k).map vr)
 done:∀j,j<k->wr.ownsRow (N+3) 4 1 (vr j) n ((List.range n).map λc=>.bool (Z j c))
namespace bN
variable {Z : Nat → Nat → Bool} {n : Nat}
end bN
namespace bN
end bN
namespace bN
variable {Z : Nat → Nat → Bool} {n : Nat}
end bN
section
variable {w0 w w' : World} {c : Cf} {V : Nat → Nat × Nat} {S : Nat → Nat}
theorem Sv.up_yes{Z:Nat->Nat->Bool}{N i:Nat}{a:Nat × Nat}(h:Sv.le Z a (V i)=true):Sv.up Z N V i a=V:=by unfold Sv.up;rw[aL h]
theorem Sv.up_no{Z:Nat->Nat->Bool}{N i:Nat}{a:Nat × Nat}(h:Sv.le Z a (V i)=false):Sv.up Z N V i a=Sv.put V i (Sv.join Z N (V i) a):=by unfold Sv.up;rw[aJ (by rw[h];simp)]
end
theorem KA(w0 w:World)(c:Cf)(V:Nat->Nat × Nat)(S:Nat->Nat)(ss:List aY)(G:Nat)(L:Nat->Nat)(Z:Nat->Nat->Bool)(i:Nat)(a:Nat × Nat)(hL:lT w0 c.vn c.vl ss G L Z)(h:iK w0 w c V S)(hV:wI ss.length c.n V)(hi:i<c.n)(ha:Sv.Ok ss.length a)(hn:c.n<=40):Calls prog 220 #[iO c.p,O i,.agg #[O (a.1:Nat),O (a.2:Nat)]] w λe w'=>e=dz (.bool (!(Sv.le Z a (V i))))/\Hid (iK w0 w' c (Sv.up Z ss.length V i a) S/\But c.lb w w'):=by
 obtain⟨p,lb,sb,n,vn,vl⟩:=c;simp only at hL hV hi hn ⊢;obtain⟨W,hW⟩:∃W,W=w.alloc (aW #[O (a.1:Nat),O (a.2:Nat)] 33):=⟨_,rfl⟩;have hB:bG w W:=by rw[hW];exact aH w _
 have bx:W.heap[w.heap.size]?=some (aW #[O (a.1:Nat),O (a.2:Nat)] 33):=by rw[hW];exact aZ w _
 have hW1:=h.below hB;obtain⟨c0,c1,c2,c3⟩:=hW1.cell;obtain⟨l0,l1,z0,z1⟩:=hW1.Xq (i:=i) hi;obtain⟨HI,HA,HL,HW1,HB,dQ⟩:=vP (hV i hi) ha hL hW1 hB bx;have hii:(0:Int)<=(i:Int):=by omega
 have hin:(i:Int)<(n:Int):=by omega
 obtain⟨x,hx⟩:=bC (V i);have HX:=I hx;rw[<-hx]at l0 l1;obtain⟨r,hr⟩:=bC (Sv.le Z a x);have HR:=I hr;rw[<-hx,<-hr];obtain⟨q0,q1⟩:=iV bx;simp only at c0 c1 c2 c3 l0 l1 z0 z1;replace q0:=aS q0;replace q1:=aS q1;replace c0:=aS c0;replace c1:=aS c1;replace c2:=aS c2;replace c3:=aS c3;replace l0:=aS l0;replace l1:=aS l1;have HFG:=I (λk os=>O5 (gn W k os) vn vl ss.length Z a x ((HL.below (up (HW1.since) (bQ W k os))).grid) HL.six HA (by rw[HX];exact HI));rw[<-hr]at HFG;clear h hL hV ha hB bx hW1 hx hr z0 z1;go_enter func220,ntmps220;go_wp2_with fail;rw[<-hW];clear hW;refine bS bR bR ?_;repeat(quiet_step ((exact Calls.nE (HFG.out _ _))))
 refine wpQuiet_nil ?_;intro _ hw';obtain⟨⟨nq,osq⟩,hw''⟩:=hw';subst hw'';obtain⟨HS2,HB2,HBX2⟩:=fD (HW1.out.below (bQ W nq osq)) (up HB.out (bQ W nq osq)) (aU dQ.out (bQ W nq osq));clear q0 q1 c0 c1 c2 c3 l0 l1;generalize gn W nq osq=W2 at *;cases r
 ·have HJ:=I (λ(w1:World) (hb:bG W2 w1)=>Ed w1 vn vl ss G L Z x a (HL.below (up HS2.since hb)) (by rw[HX];exact HI) HA);obtain⟨c0,c1,c2,c3⟩:=HS2.cell;obtain⟨l0,l1,z0,z1⟩:=HS2.Xq (i:=i) hi;rw[<-HX]at l0 l1;obtain⟨q0,q1⟩:=iV HBX2;simp only at c0 c1 c2 c3 l0 l1 z0 z1;replace q0:=aS q0;replace q1:=aS q1;replace c0:=aS c0;replace c1:=aS c1;replace c2:=aS c2;replace l0:=aS l0;replace l1:=aS l1;obtain⟨aah,hJ⟩:=bC (Sv.join Z ss.length x a);rw[<-hJ]at HJ;have HJE:=I hJ;have HJG:=I (λk os=>HJ (gn W2 k os) (bQ W2 k os));clear hJ z0 z1;go_wp2_with fail;refine eU 19 bR bR ?_;dsimp only[List.take,List.drop];repeat(quiet_step ((exact Calls.nE (HJG.out _ _))))
  refine wpQuiet_nil ?_;intro w6 hw';obtain⟨⟨nq,osq⟩,hw''⟩:=hw';have dX:=I (show bG W2 w6 by rw[hw''];exact bQ W2 nq osq);have vG:=I (HS2.out.below dX.out);obtain⟨m0,m1,y0,y1⟩:=vG.out.Xq (i:=i) hi;simp only at m0 m1 y0 y1;clear hw'' q0 q1 c0 c1 c2 c3 l0 l1;go_wp2_with fail;go_ret;refine⟨rfl,I ⟨?_,((But.of_below (up HB2.out dX.out)).set (a:=(X lb (i*2))) (aR rfl) _).set (a:=(X lb (i*2+1))) (aR rfl) _⟩⟩;rw[up_no (by rw[<-HX.out,<-HR.out]),<-HX.out,<-HJE.out];exact vG.out.put hi aah
 ·go_wp2_with fail;go_ret;refine⟨rfl,I ⟨?_,But.of_below HB2⟩⟩;rw[up_yes (by rw[<-HX,<-HR])];exact HS2
end Go.Proofs.YtbgkpehhdibaoaaGreatDoor
