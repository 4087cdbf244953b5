import Derived.Test.YtageneidjnbedaaGreatDoorTZAX
import Derived.Test.YtageneidjnbedaaGreatDoorTZAY
set_option maxHeartbeats 0
set_option maxRecDepth 99999
namespace Go.Proofs.YtageneidjnbedaaGreatDoor
open Fl Rn Sv
open Go.Proofs.Tryz
open Go.RowKit Go.Maps Go.WideMaps
namespace Fl
def Iu(N:Nat)(a:Int):Bool:=decide (0<=a)&&decide (a<N)
def scB(N:Nat)(y:Sc):Bool:=y.bounds.all (Iu N)&&(Au N y.mask y.level&&Iu N y.pc&&!(bO.ER y.gY ⟨#[]⟩))
end Fl
variable{N j g n:Nat}{fs:List Fu}{ys:List (List Sc)}{x:Fu}{y:List Sc}{w:bI}{l:aJ}
theorem ad3(w:bI)(va:Option Addr)(t:aC)(N cap:Nat)(v:aC)(y:Sc)(h:FV w v y):aD 157 #[.agg #[X va N cap,t],v] w λe w'=>e=dz (.bool<|Fl.scB N y)/\bK w w':=by
 obtain⟨vb,ve,rfl,hB,hE⟩:=h;obtain⟨ab,bb,ob,cb,rfl,H,al,ad⟩:=hB;have U:=Y hE;obtain⟨ae,be,oe,ce,rfl,-⟩:=hE;obtain⟨nb,K⟩:=aV y.bounds.length;obtain⟨ne,af⟩:=aV y.gY.length;rw[<-K]at H al ⊢;rw[<-af]at U ⊢;obtain⟨aa,j5,ES⟩:=fE K ad H;obtain⟨W,hW,k0,P,am,ac⟩:=AL w (aY #[X va N cap,t] 25)<|aY #[A y.fn,O y.mask,O y.level,X ab nb cb,O y.pc,X ae ne ce] 34;have y3:=aj P 3;obtain⟨lH,jG,M⟩:=fE k0 P ac;clear H ad K af ac am k0 P;subst hW;go_enter func157,ntmps157;go_wp2_with fail;generalize (w.alloc<|aY #[X va N cap,t] 25).alloc (aY #[A y.fn,O y.mask,O y.level,X ab nb cb,O y.pc,X ae ne ce] 34)=W at *;clear y3;go_loopw[10] (λi wr=>∃j:Nat,j<=nb/\i=O j/\(y.bounds.take j).all (Fl.Iu N)=true/\bK W wr) (λi _=>nb - (intOf i).toNat);exact⟨0,bN _,rfl,rfl,bQ _ _⟩
 obtain⟨j,hj,rfl,I,p⟩:=hrel;obtain⟨eP,Q⟩:=bV I p;obtain⟨m,d⟩:=eY (bH lH p)<|bH jG p;obtain⟨F,G⟩:=jv m;by_cases ao:j<nb
 ·obtain⟨z,L⟩:∃z,y.bounds[j]?=some z:=⟨_,aZ (by rw[<-aa];omega)⟩;obtain rfl:=ES bC;obtain⟨HZ,f⟩:=bV L<|qw wr va t N cap z;have g:=aG (j5 j z L)<|up M p;clear I p L m d;cases q:Fl.Iu N z
  ·have b:J (Fl.scB N y=false):=Y (by
    have:y.bounds.all (Fl.Iu N)=false:=by
     cases hh:y.bounds.all (Fl.Iu N)with
     | false=>rfl
     | true=>rw[iB.1 hh z (dG HZ)]at q;cases q
    rw[Fl.scB,this,Bl])
   rw[show(decide (0<=z)&&decide (z<N))=false from q]at f;clear q;go_wp2_with fail;refine f.mono ?_;rintro e D ⟨rfl,a⟩;have k:=Y a;clear a;go_wp2;go_ret;exact⟨aW b.symm,up M<|up Q k⟩
  ·have HN:J ((y.bounds.take<|j+1).all (Fl.Iu N)=true):=Y (by rw[gy,HZ,kI,List.all_append,eP,nX,List.all_cons,q];rfl);rw[show(decide (0<=z)&&decide (z<N))=true from q]at f;clear q;go_wp2_with fail;refine f.mono ?_;rintro e D ⟨rfl,a⟩;have k:=Y a;clear a;go_wp2;go_roundw;exact⟨j+1,by omega,by go_num,HN,up Q k⟩;exact gV
 ·obtain rfl:j=nb:=by omega
  have b:J (Fl.scB N y=(Au N y.mask y.level&&Fl.Iu N y.pc&&!(bO.ER y.gY ⟨#[]⟩))):=Y (by
   have:y.bounds.all (Fl.Iu N)=true:=by have:=eP.out;rwa[fQ (by rw[<-aa];omega)]at this
   rw[Fl.scB,this,nX])
  obtain⟨-,y1,y2⟩:=P5 d;obtain⟨f,ai,ak,R⟩:=lD (G5 wr va t N cap y.mask y.level) m d<|up M p;have ah:=Y (λE=>qw E va t N cap y.pc);have ng:=Y (λE (hx:bK w E)=>kS E _ y.gY ⟨#[]⟩<|U.below hx);clear I p m d;cases C:Au N y.mask y.level;·rw[C]at f b;rw[Bl,Bl]at b;clear C;go_wp2_with fail;refine f.mono ?_;rintro e D ⟨rfl,a⟩;have k:=Y a;clear a F G y1 y2;go_wp2;go_ret;exact⟨aW b.symm,up R k⟩
  ·rw[C]at f b;rw[nX]at b;clear C;go_wp2_with fail;refine f.mono ?_;rintro e D ⟨rfl,a⟩;have k:=Y<|up R a;obtain⟨m,d⟩:=eY (bH ai a)<|bH ak a;clear a F G y1 y2;obtain⟨F,G⟩:=jv m;have y4:=aj d 4;obtain⟨B,zD⟩:=bV (ah D) d;clear m d;cases s:Fl.Iu N y.pc;·rw[s,Bl]at b;rw[show(decide (0<=y.pc)&&decide (y.pc<N))=false from s]at B;clear s;go_wp2_with fail;refine B.mono ?_;rintro e w3 ⟨rfl,r⟩;have u:=Y<|up k r;clear r;go_wp2;go_ret;exact⟨aW b.symm,u⟩
   ·rw[s,nX]at b;rw[show(decide (0<=y.pc)&&decide (y.pc<N))=true from s]at B;clear s;go_wp2_with fail;refine B.mono ?_;rintro e w3 ⟨rfl,r⟩;have u:=Y<|up k r;have d:=bH zD r;have y5:=aj d 5;have ag:=Y<|ng w3 u;clear r d F G y4;go_wp2_with fail;refine ag.mono ?_;rintro e w4 ⟨rfl,rfl⟩;go_wp2;go_ret;exact⟨aW b.symm,u⟩
namespace Fl
def F4(N:Nat)(p:Fu × Sc):Bool:=decide (p.2.bounds.length=p.1.params.length)&&scB N p.2
def vg(N:Nat)(fs:List Fu)(ys:List Sc):Bool:=decide (ys.length=fs.length)&&(List.zip fs ys).all (F4 N)
theorem Zb{ys:List Sc}{y:Sc}(a:fs[j]?=some x)(b:ys[j]?=some y)(h:F4 N (x,y)=false):vg N fs ys=false:=by
 have f:(List.zip fs ys)[j]?=some (x,y):=NP.2 ⟨a,b⟩;have:(List.zip fs ys).all (F4 N)=false:=by
  cases d:(List.zip fs ys).all (F4 N)with
  | false=>rfl
  | true=>rw[iB.1 d _ (dG f)]at h;cases h
 rw[vg,this,Sg]
theorem aa4{ys:List Sc}{y:Sc}(a:fs[j]?=some x)(b:ys[j]?=some y)(h:F4 N (x,y)=true)(d:((List.zip fs ys).take j).all (F4 N)=true):((List.zip fs ys).take (j+1)).all (F4 N)=true:=by have f:(List.zip fs ys)[j]?=some (x,y):=NP.2 ⟨a,b⟩;rw[gy,f,kI,List.all_append,d,nX,List.all_cons,h];rfl
end Fl
theorem P6(m:Nat)(w:bI)(va:Option Addr)(vl:aC)(N cap:Nat)(vf vs:aC)(fs:List Fu)(ys:List Sc)(hF:mE w m vf fs)(hS:xO w vs ys):aD 107 #[.agg #[X va N cap,vl],vf,vs] w λe w'=>e=dz (.bool (Fl.vg N fs ys))/\bK w w':=by
 obtain⟨af,bf,of,cf,rfl,hf0,akS,zF⟩:=hF;obtain⟨asx,bs,os,cs,rfl,hs0,WM,hsel⟩:=hS;obtain⟨nf,hnf⟩:=aV fs.length;obtain⟨ns,hns⟩:=aV ys.length;rw[<-hnf]at hf0 akS ⊢;rw[<-hns]at hs0 WM ⊢;obtain⟨eT,lH⟩:=sO w (aY #[X va N cap,vl] 25);obtain⟨yM,D8,uK,HS0,Az,EO⟩:=vC hnf hns hf0 hs0 zF hsel;clear hf0 hs0 zF hsel hnf hns;by_cases hln:ns=nf
 ·subst hln;go_enter func107,ntmps107;go_wp2_with fail;generalize w.alloc (aY #[X va N cap,vl] 25)=W at *;go_loopw[16] (λi wr=>∃j:Nat,j<=ns/\i=O j/\((List.zip fs ys).take j).all (Fl.F4 N)=true/\bK W wr) (λi _=>ns - (intOf i).toNat);exact⟨0,bN _,rfl,rfl,bQ _ _⟩
  obtain⟨j,hj,rfl,hall,hbr⟩:=hrel;obtain⟨eP,GR⟩:=bV hall hbr;by_cases hjl:j<ns
  ·obtain⟨x,hx⟩:∃z,fs[j]?=some z:=⟨_,aZ (by rw[<-yM];omega)⟩;obtain⟨y,hy⟩:∃z,ys[j]?=some z:=⟨_,aZ (by rw[<-D8];omega)⟩;obtain rfl:=uK bC;obtain rfl:=HS0 bC;obtain⟨_,vp,vb,e0,e1,e2,e3,g0,g1,g2,g3,g4,g5,g6,kp,kb,ke⟩:=Az j x hx;obtain⟨ap,bp,op,cp,rfl,-⟩:=kp;obtain⟨ab,cb,rfl,-⟩:=kb.shape;obtain⟨ar,cr,rfl,rfl,rfl,rfl⟩:=ke.shape;obtain⟨ub,ue,h0,h1,h2,h3,h4,h5,ib,ie⟩:=EO j y hy;have vZ:J (FV w (.agg #[A y.fn,O y.mask,O y.level,ub,O y.pc,ue]) y):=Y ⟨ub,ue,rfl,ib,ie⟩;obtain⟨au,bu,ou,cu,rfl,-⟩:=ib;obtain⟨aw,bw,ow,cw,rfl,-⟩:=ie;obtain⟨np,hnp⟩:=aV x.params.length;obtain⟨nb,hnb⟩:=aV x.body.length;obtain⟨nr,hnr⟩:=aV x.result.args.length;obtain⟨nu,hnu⟩:=aV y.bounds.length;obtain⟨nw,hnw⟩:=aV y.gY.length;rw[<-hnp]at g1;rw[<-hnb]at g2;rw[<-hnr]at g6;rw[<-hnu]at h3 vZ;rw[<-hnw]at h5 vZ;obtain⟨HX,HY,Ee,HNU⟩:=lD hx hy hnp hnu;have hwr:=up eT hbr;replace g0:=aG g0 hwr;replace g1:=aG g1 hwr;replace g2:=aG g2 hwr;replace g3:=aG g3 hwr;replace g4:=aG g4 hwr;replace g5:=aG g5 hwr;replace g6:=aG g6 hwr;obtain⟨qP,eD⟩:=bV hwr (aH wr (aY #[A x.name,X ap np cp,X ab nb cb,O x.result.kind,O x.result.n,A x.result.name,X ar nr cr] 82));obtain⟨ahW,hb5⟩:=eY (up hwr eD) (bF wr (aY #[A x.name,X ap np cp,X ab nb cb,O x.result.kind,O x.result.n,A x.result.name,X ar nr cr] 82));obtain⟨c1,K0⟩:=eY (bD ((aj hb5 1).trans (rfl:_=some (X ap np cp)))) (bH lH (up hbr eD));obtain⟨d0,d1⟩:=eY (bD ((aj K0 0).trans (rfl:_=some (X va N cap)))) (bD ((aj K0 1).trans (rfl:_=some vl)));replace h0:=bD (aG h0 ahW);replace h1:=bD (aG h1 ahW);replace h2:=bD (aG h2 ahW);replace h3:=bD (aG h3 ahW);replace h4:=bD (aG h4 ahW);replace h5:=bD (aG h5 ahW);have HIS:=Y (λk os=>ad3 (gn (wr.alloc (aY #[A x.name,X ap np cp,X ab nb cb,O x.result.kind,O x.result.n,A x.result.name,X ar nr cr] 82)) k os) va vl N cap _ y (vZ.below (up ahW (bU _ k os))));clear hx hy hall hbr kb ke hnp hnb hnr hnu hnw hwr ahW hb5 K0;by_cases hnn:nu=np
   ·obtain rfl:np=nu:=hnn.symm;obtain⟨r,hr⟩:=aV (Fl.scB N y);rw[<-hr]at HIS;have HR1:J (Fl.F4 N (x,y)=r):=Y (by rw[Fl.F4,hr];simp only;rw[<-HNU,<-Ee];simp);clear hr;go_wp2_with fail;generalize wr.alloc (aY #[A x.name,X ap np cp,X ab nb cb,O x.result.kind,O x.result.n,A x.result.name,X ar nr cr] 82)=W5 at *;refine bW dw dw ?_;repeat(quiet_step ((exact Calls.oZ (HIS.out _ _))))
    refine wpQuiet_nil ?_;intro _ hw';obtain⟨⟨nq,osq⟩,hw''⟩:=hw';subst hw'';have fD:=Y (up eD.out (bU W5 nq osq));clear c1 d0 d1 h0 h1 h2 h3 h4 h5 g0 g1 g2 g3 g4 g5 g6;generalize gn W5 nq osq=W6 at *;cases r;·go_wp2;go_ret;exact⟨aW (Zb HX.out HY.out HR1.out).symm,up qP.out fD.out⟩
    ·go_wp2;go_roundw;exact⟨j+1,by omega,by go_num,aa4 HX HY HR1 eP,up GR fD⟩;exact gV
   ·have HR1:J (Fl.F4 N (x,y)=false):=Y (by rw[Fl.F4];simp only;rw[<-HNU,<-Ee];simp[hnn]);have hq:((nu:Int)==(np:Int))=false:=by simp;omega
    have hq2:decide ((nu:Int)=(np:Int))=false:=by simp;omega
    have hq3:¬((nu:Int)=(np:Int)):=by omega
    go_wp2_with fail;generalize wr.alloc (aY #[A x.name,X ap np cp,X ab nb cb,O x.result.kind,O x.result.n,A x.result.name,X ar nr cr] 82)=W5 at *;refine bW dw dw ?_;repeat(quiet_step (fail))
    refine wpQuiet_nil ?_;intro _ hw';obtain⟨⟨nq,osq⟩,hw''⟩:=hw';subst hw'';have fD:=Y (up eD.out (bU W5 nq osq));clear c1 d0 d1 h0 h1 h2 h3 h4 h5 g0 g1 g2 g3 g4 g5 g6;generalize gn W5 nq osq=W6 at *;go_wp2;go_ret;exact⟨aW (Zb HX.out HY.out HR1.out).symm,up qP.out fD.out⟩
  ·obtain rfl:j=ns:=by omega
   have HV:J (Fl.vg N fs ys=true):=Y (by have hh:=eP.out;rw[fQ (by rw[He,<-yM];omega)]at hh;rw[Fl.vg,hh,<-yM,<-D8];simp);clear hall hbr;go_wp2;go_ret;exact⟨aW HV.symm,up eT GR⟩
 ·have HV:J (Fl.vg N fs ys=false):=Y (by rw[Fl.vg,<-yM,<-D8];simp[hln]);have hq:((ns:Int)==(nf:Int))=false:=by simp;omega
  have hq3:¬((ns:Int)=(nf:Int)):=by omega
  go_enter func107,ntmps107;go_wp2;go_ret;exact⟨aW HV.symm,eT⟩
namespace Fl
def Ei(N:Nat)(p:Mo × List Sc):Bool:=vg N p.1.bq p.2
def jw(N:Nat)(known:List Mo)(bL:List (List Sc)):Bool:=decide (bL.length=known.length)&&(List.zip known bL).all (Ei N)
theorem aeD{fs:List Mo}{x:Mo}(a:fs[j]?=some x)(b:ys[j]?=some y)(h:Ei N (x,y)=false):jw N fs ys=false:=by
 have f:(List.zip fs ys)[j]?=some (x,y):=NP.2 ⟨a,b⟩;have:(List.zip fs ys).all (Ei N)=false:=by
  cases d:(List.zip fs ys).all (Ei N)with
  | false=>rfl
  | true=>rw[iB.1 d _ (dG f)]at h;cases h
 rw[jw,this,Sg]
theorem amX{fs:List Mo}{x:Mo}(a:fs[j]?=some x)(b:ys[j]?=some y)(h:Ei N (x,y)=true)(d:((List.zip fs ys).take j).all (Ei N)=true):((List.zip fs ys).take (j+1)).all (Ei N)=true:=by have f:(List.zip fs ys)[j]?=some (x,y):=NP.2 ⟨a,b⟩;rw[gy,f,kI,List.all_append,d,nX,List.all_cons,h];rfl
end Fl
theorem Cj(m:Nat)(w:bI)(va:Option Addr)(vl:aC)(N cap:Nat)(vk vs:aC)(fs:List Mo)(ys:List (List Sc))(hF:jN w m vk fs)(hS:BZ w vs ys):aD 106 #[.agg #[X va N cap,vl],vk,vs] w λe w'=>e=dz (.bool (Fl.jw N fs ys))/\bK w w':=by
 obtain⟨ak,bk,ok,ck,rfl,hf0,akS,zF⟩:=hF;obtain⟨asx,bs,os,cs,rfl,hs0,WM,hsel⟩:=hS;obtain⟨nk,hnf⟩:=aV fs.length;obtain⟨ns,hns⟩:=aV ys.length;rw[<-hnf]at hf0 akS ⊢;rw[<-hns]at hs0 WM ⊢;obtain⟨eT,lH⟩:=sO w (aY #[X va N cap,vl] 25);obtain⟨yM,D8,uK,HS0,Az,EO⟩:=vC hnf hns hf0 hs0 zF hsel;clear hf0 hs0 zF hsel hnf hns;by_cases hln:ns=nk
 ·subst hln;go_enter func106,ntmps106;go_wp2_with fail;generalize w.alloc (aY #[X va N cap,vl] 25)=W at *;go_loopw[16] (λi wr=>∃j:Nat,j<=ns/\i=O j/\((List.zip fs ys).take j).all (Ei N)=true/\bK W wr) (λi _=>ns - (intOf i).toNat);exact⟨0,bN _,rfl,rfl,bQ _ _⟩
  obtain⟨j,hj,rfl,hall,hbr⟩:=hrel;obtain⟨eP,GR⟩:=bV hall hbr;by_cases hjl:j<ns
  ·obtain⟨x,hx⟩:∃z,fs[j]?=some z:=⟨_,aZ (by rw[<-yM];omega)⟩;obtain⟨y,hy⟩:∃z,ys[j]?=some z:=⟨_,aZ (by rw[<-D8];omega)⟩;obtain rfl:=uK bC;obtain rfl:=HS0 bC;obtain⟨vi,vv,vf,g0,g1,g2,g3,hmo⟩:=Az j x hx;obtain⟨kp,kb,ke⟩:=hmo.split;have Ta:=Y ke;obtain⟨ai,bi,oi,ci,rfl,-⟩:=kp;obtain⟨av,bv,ov,cv,rfl,-⟩:=kb;obtain⟨af,bf,of,cf,rfl,-⟩:=ke;obtain⟨u,h0,hu⟩:=EO j y hy;have vZ:=Y hu;obtain⟨au,bu,ou,cu,rfl,-⟩:=hu;obtain⟨ni,hni⟩:=aV x.imports.length;obtain⟨nv,CU⟩:=aV x.vars.length;obtain⟨nf,hnf⟩:=aV x.bq.length;obtain⟨nu,hnu⟩:=aV y.length;rw[<-hni]at g1;rw[<-CU]at g2;rw[<-hnf]at g3 Ta;rw[<-hnu]at h0 vZ;obtain⟨HX,HY⟩:=bV hx hy;have hwr:=up eT hbr;replace g0:=aG g0 hwr;replace g1:=aG g1 hwr;replace g2:=aG g2 hwr;replace g3:=aG g3 hwr;obtain⟨qP,eD⟩:=bV hwr (aH wr (aY #[A x.name,X ai ni ci,X av nv cv,X af nf cf] 47));obtain⟨ahW,hb5⟩:=eY (up hwr eD) (bF wr (aY #[A x.name,X ai ni ci,X av nv cv,X af nf cf] 47));obtain⟨c3,K0⟩:=eY (bD ((aj hb5 3).trans (rfl:_=some (X af nf cf)))) (bH lH (up hbr eD));obtain⟨d0,d1⟩:=eY (bD ((aj K0 0).trans (rfl:_=some (X va N cap)))) (bD ((aj K0 1).trans (rfl:_=some vl)));replace h0:=bD (aG h0 ahW);have HIS:=Y (λk os=>P6 m (gn (wr.alloc (aY #[A x.name,X ai ni ci,X av nv cv,X af nf cf] 47)) k os) va vl N cap _ _ x.bq y (Ta.below (up ahW (bU _ k os))) (vZ.below (up ahW (bU _ k os))));clear hx hy hall hbr hmo hni CU hnf hnu hwr ahW hb5 K0;obtain⟨r,hr⟩:=aV (Fl.vg N x.bq y);rw[<-hr]at HIS;have HR1:J (Ei N (x,y)=r):=Y hr.symm;clear hr;go_wp2_with fail;generalize wr.alloc (aY #[A x.name,X ai ni ci,X av nv cv,X af nf cf] 47)=W5 at *;refine bW dw dw ?_;repeat(quiet_step ((exact Calls.oZ (HIS.out _ _))))
   refine wpQuiet_nil ?_;intro _ hw';obtain⟨⟨nq,osq⟩,hw''⟩:=hw';subst hw'';have fD:=Y (up eD.out (bU W5 nq osq));clear c3 d0 d1 h0 g0 g1 g2 g3;generalize gn W5 nq osq=W6 at *;cases r;·go_wp2;go_ret;exact⟨aW (aeD HX.out HY.out HR1.out).symm,up qP.out fD.out⟩
   ·go_wp2;go_roundw;exact⟨j+1,by omega,by go_num,amX HX HY HR1 eP,up GR fD⟩;exact gV
  ·obtain rfl:j=ns:=by omega
   have HV:J (Fl.jw N fs ys=true):=Y (by have hh:=eP.out;rw[fQ (by rw[He,<-yM];omega)]at hh;rw[Fl.jw,hh,<-yM,<-D8];simp);clear hall hbr;go_wp2;go_ret;exact⟨aW HV.symm,up eT GR⟩
 ·have HV:J (Fl.jw N fs ys=false):=Y (by rw[Fl.jw,<-yM,<-D8];simp[hln]);have hq:((ns:Int)==(nk:Int))=false:=by simp;omega
  have hq3:¬((ns:Int)=(nk:Int)):=by omega
  go_enter func106,ntmps106;go_wp2;go_ret;exact⟨aW HV.symm,eT⟩
namespace bO
end bO
open Go.Shelf
theorem ji.holds(h:ji w g l):Sort.Holds encStr w g 0 (l.map (·.data.toList)).toArray:=by
 obtain⟨cur,hc,hsz,hel⟩:=h;intro j hj;have hjl:j<l.length:=by simpa using hj
 refine⟨?_,aF hc _⟩;rw[d9,aj hc,hel j _ (aZ hjl)];congr 1;simp[hjl]
theorem ji.PG{p:Array Obj}{b:List (List UInt8)}(h:ji w g l)(s:b.length=l.length):ji (Sort.grow (Sort.putRow encStr (Sort.ahead w n) g 0 b.toArray) p) g (b.map λx=>⟨x.toArray⟩):=by
 obtain⟨f,k,u,t⟩:=h;have hg:=aR k;have q:(Sort.grow (Sort.putRow encStr (Sort.ahead w n) g 0 b.toArray) p).heap[g]?=some (.cells (Sort.putCells encStr 0 b.toArray f) 9 (0,0)):=by simp only[Sort.grow,Sort.putRow,Sort.mapBlock,Sort.ahead];rw[Lu (by simpa using hg)];simp[Jg,k,Sort.onCells]
 refine⟨_,q,by simp only[Sort.putCells,Array.size_mapIdx,dV];omega,λi d a=>?_⟩;have m:i<b.length:=by simpa using(cO.1 a).1
 rw[pq,aZ m]at a;simp at a;subst a;have r:i<f.size:=by omega
 simp[Sort.putCells,r,m]
theorem TW(w:bI)(g len cap:Nat)(l:aJ)(h:ji w g l)(hlen:len=l.length)(hl:l.length<=4398046511104):aD 73 #[Tc g len cap] w λe w'=>e=dz (.tuple #[])/\ji w' g (jZ l)/\But g w w':=by
 subst hlen;have h0:=h;obtain⟨cur,hc,hsz,hel⟩:=h;have hcon:=Any.slices_Sort_string Tryz.lSoS g 0 cap (l.map (·.data.toList)) w h0.holds (aR hc) (by simp;omega);rw[dV]at hcon;refine Calls.mono (show aD 73 #[Tc g l.length cap] w _ from hcon) ?_;rintro e w' ⟨he,k,os,rfl⟩;refine⟨he,h0.PG (by rw[SE,dV]),rfl,rfl,rfl,?_,λj hj hp=>?_⟩;·simp[Sort.grow,Sort.putRow,Sort.mapBlock,Sort.ahead]
 ·have hg:=aR hc;simp only[Sort.grow,Sort.putRow,Sort.mapBlock,Sort.ahead];rw[Lu (by simp;omega)];simp[Jg];intro e';exact aM e'.symm hp
theorem Cm(w:bI)(p:Option Addr)(cap:Nat):aD 73 #[X p 0 cap] w λe w'=>e=dz (.tuple #[])/\w'=w:=
 Any.slices_Sort_string_none Tryz.lSoS p cap w
namespace bS
end bS
namespace bS
end bS
section
variable {w w' : World} {base e size n : Nat} {v : Value} {xs : List Value}
end
def oF(a b:Value):Nat->Value:=λi=>if i=0 then a else b
structure RO(W0 wr:World)(N n k:Nat)(vn:Value)(Z:Nat->Nat->Bool)(vr:Nat->Value)(vo:Value):Prop where
 below:Below (N+2) W0 wr
 size:N+3<=wr.heap.size
 out:wr.rowIs (N+2) 25 2 (oF vn vo)
 outer:wr.ownsRow (N+3) 43 1 vo k ((List.range k).map vr)
 done:∀j,j<k->wr.ownsRow (N+3) 4 1 (vr j) n ((List.range n).map λc=>.bool (Z j c))
namespace bS
variable {Z : Nat → Nat → Bool} {n : Nat}
end bS
namespace bS
end bS
namespace bS
variable {Z : Nat → Nat → Bool} {n : Nat}
end bS
section
variable {w0 w w' : World} {c : Cf} {V : Nat → Nat × Nat} {S : Nat → Nat}
theorem Sv.Qe{Z:aL}{N i:Nat}{a:Nat × Nat}(h:Sv.le Z a (V i)=true):Sv.up Z N V i a=V:=by unfold Sv.up;rw[aK h]
theorem Sv.ant{Z:aL}{N i:Nat}{a:Nat × Nat}(h:Sv.le Z a (V i)=false):Sv.up Z N V i a=Sv.put V i (Sv.join Z N (V i) a):=by unfold Sv.up;rw[aI (by rw[h];simp)]
end
theorem NQ(w0 w:bI)(c:Cf)(V:Nat->Nat × Nat)(S:Nat->Nat)(ss:aJ)(G:Nat)(L:Nat->Nat)(Z:aL)(i:Nat)(a:Nat × Nat)(hL:nC w0 c.vn c.vl ss G L Z)(h:jq w0 w c V S)(hV:yS ss.length c.n V)(hi:i<c.n)(ha:Sv.Ok ss.length a)(hn:c.n<=40):aD 215 #[gK c.p,O i,.agg #[O (a.1:Nat),O (a.2:Nat)]] w λe w'=>e=dz (.bool (!(Sv.le Z a (V i))))/\J (jq w0 w' c (Sv.up Z ss.length V i a) S/\But c.lb w w'):=by
 obtain⟨p,lb,sb,n,vn,vl⟩:=c;simp only at hL hV hi hn ⊢;obtain⟨W,hW⟩:∃W,W=w.alloc (aY #[O (a.1:Nat),O (a.2:Nat)] 31):=⟨_,rfl⟩;have hB:bK w W:=by rw[hW];exact aH w _
 have bx:dR W w.heap.size (aY #[O (a.1:Nat),O (a.2:Nat)] 31):=by rw[hW];exact bF w _
 have hW1:=h.below hB;obtain⟨c0,c1,c2,c3⟩:=hW1.cell;obtain⟨l0,l1,z0,z1⟩:=hW1.mJ (i:=i) hi;obtain⟨HI,HA,HL,HW1,HB,eT⟩:=vC (hV i hi) ha hL hW1 hB bx;have hii:(0:Int)<=(i:Int):=by omega
 have hin:(i:Int)<(n:Int):=by omega
 obtain⟨x,hx⟩:=aV (V i);have HX:=Y hx;rw[<-hx]at l0 l1;obtain⟨r,hr⟩:=aV (Sv.le Z a x);have HR:=Y hr;rw[<-hx,<-hr];obtain⟨q0,q1⟩:=jv bx;simp only at c0 c1 c2 c3 l0 l1 z0 z1;replace q0:=bD q0;replace q1:=bD q1;replace c0:=bD c0;replace c1:=bD c1;replace c2:=bD c2;replace c3:=bD c3;replace l0:=bD l0;replace l1:=bD l1;have HFG:=Y (λk os=>adA (gn W k os) vn vl ss.length Z a x ((HL.below (up (HW1.since) (bU W k os))).grid) HL.six HA (by rw[HX];exact HI));rw[<-hr]at HFG;clear h hL hV ha hB bx hW1 hx hr z0 z1;go_enter func215,ntmps215;go_wp2_with fail;rw[<-hW];clear hW;refine bW dw dw ?_;repeat(quiet_step ((exact Calls.oZ (HFG.out _ _))))
 refine wpQuiet_nil ?_;intro _ hw';obtain⟨⟨nq,osq⟩,hw''⟩:=hw';subst hw'';obtain⟨HS2,HB2,yh⟩:=fE (HW1.out.below (bU W nq osq)) (up HB.out (bU W nq osq)) (bH eT.out (bU W nq osq));clear q0 q1 c0 c1 c2 c3 l0 l1;generalize gn W nq osq=W2 at *;cases r
 ·have HJ:=Y (λ(w1:bI) (hb:bK W2 w1)=>G7 w1 vn vl ss G L Z x a (HL.below (up HS2.since hb)) (by rw[HX];exact HI) HA);obtain⟨c0,c1,c2,c3⟩:=HS2.cell;obtain⟨l0,l1,z0,z1⟩:=HS2.mJ (i:=i) hi;rw[<-HX]at l0 l1;obtain⟨q0,q1⟩:=jv yh;simp only at c0 c1 c2 c3 l0 l1 z0 z1;replace q0:=bD q0;replace q1:=bD q1;replace c0:=bD c0;replace c1:=bD c1;replace c2:=bD c2;replace l0:=bD l0;replace l1:=bD l1;obtain⟨atO,hJ⟩:=aV (Sv.join Z ss.length x a);rw[<-hJ]at HJ;have HJE:=Y hJ;have HJG:=Y (λk os=>HJ (gn W2 k os) (bU W2 k os));clear hJ z0 z1;go_wp2_with fail;refine gq 19 dw dw ?_;dsimp only[List.take,List.drop];repeat(quiet_step ((exact Calls.oZ (HJG.out _ _))))
  refine wpQuiet_nil ?_;intro w6 hw';obtain⟨⟨nq,osq⟩,hw''⟩:=hw';have fD:=Y (show bK W2 w6 by rw[hw''];exact bU W2 nq osq);have xS:=Y (HS2.out.below fD.out);obtain⟨m0,m1,y0,y1⟩:=xS.out.mJ (i:=i) hi;simp only at m0 m1 y0 y1;clear hw'' q0 q1 c0 c1 c2 c3 l0 l1;go_wp2;go_ret;refine⟨rfl,Y ⟨?_,((But.of_below (up HB2.out fD.out)).set (a:=(aN lb (i*2))) (aO rfl) _).set (a:=(aN lb (i*2+1))) (aO rfl) _⟩⟩;rw[ant (by rw[<-HX.out,<-HR.out]),<-HX.out,<-HJE.out];exact xS.out.put hi atO
 ·go_wp2;go_ret;refine⟨rfl,Y ⟨?_,But.of_below HB2⟩⟩;rw[Qe (by rw[<-HX,<-HR])];exact HS2
