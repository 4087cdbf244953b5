/- Walks over package flow: a scope while it is made. -/
import Derived.Test.YtfnboapebijcpaaGreatDoorMZAY
import Derived.Test.YtfnboapebijcpaaGreatDoorMZAZ
import Derived.Test.YtfnboapebijcpaaGreatDoorMZAU
set_option maxHeartbeats 16000000
set_option maxRecDepth 100000
namespace Go.Proofs.YtfnboapebijcpaaGreatDoor
open Fl bC aI
open Go.Proofs.Tryz
open Go.RowKit Go.Maps Go.WideMaps
def Sp.ZF(q:Sp)(kX:ByteArray->Option Nat):Sp:={ q with c:={ q.c with kX:=kX } }
theorem gX.relevel{w0 w w8:World}{q:Sp}{nl:List ByteArray}{dn:ByteArray->Option Value}{kc:Nat}{bG:Value}{sets:Nat}{ve:Value}{E:List ByteArray}{kX:ByteArray->Option Nat}(h:gX w0 w q nl dn kc bG sets ve E)(hg:w.grownBy w8 (some q.ml))(hl:oG w8 q.ml 1048576 (λs=>(kX s).map λn:Nat=>(n:Int))):gX w0 w8 (q.ZF kX) nl dn kc bG sets ve E/\Kx w0.heap.size AB w w8:=by
 obtain⟨es,cl,hm⟩:=h.levels.isMap;have hkx:Kx w0.heap.size AB w w8:=Kx.grown hg λk e=>by injection e with e;subst e;exact⟨h.new.2.1,λo ho=>by rw[hm]at ho;cases ho;rfl⟩
 have hcell:∀(p:Nat) cs t,w.heap[p]?=some (.cells cs t (0,0))->w8.heap[p]?=some (.cells cs t (0,0)):=λp cs t hp=>by
  rw[hg.block p (block_lt hp) (λe=>?_)];·exact hp
  ·injection e with e;subst e;rw[hp]at hm;cases hm
 exact⟨⟨hcell _ _ _ h.blk,h.new,hl,h.numbers.kept hg (by have:=h.maps.1;simp;exact λe=>this e.symm),h.called.kept hg (by have:=h.maps.2.1;simp;exact λe=>this e.symm),h.bO,h.xV,h.nodup,h.names.keep λj cur _ hj=>hcell _ _ _ hj,h.fM.keep λj cur _ hj=>hcell _ _ _ hj,h.apart,h.maps,h.base.trans (hkx.below h.base.size)⟩,hkx⟩
namespace Fl
def lU(N:Nat)(p:Fu × Sc):Bool:=decide (p.2.bounds.length=p.1.params.length)&&Zq N p.2
def jH(N:Nat)(fs:List Fu)(ys:List Sc):Bool:=decide (ys.length=fs.length)&&(List.zip fs ys).all (lU N)
theorem UD{N:Nat}{fs:List Fu}{ys:List Sc}{j:Nat}{x:Fu}{y:Sc}(h1:fs[j]?=some x)(h2:ys[j]?=some y)(h:lU N (x,y)=false):jH N fs ys=false:=by
 have hz:(List.zip fs ys)[j]?=some (x,y):=Kc.2 ⟨h1,h2⟩;have:(List.zip fs ys).all (lU N)=false:=by
  cases hh:(List.zip fs ys).all (lU N)with
  | false=>rfl
  | true=>rw[iO.1 hh _ (gD hz)]at h;cases h
 rw[jH,this,Af]
theorem VZ{N:Nat}{fs:List Fu}{ys:List Sc}{j:Nat}{x:Fu}{y:Sc}(h1:fs[j]?=some x)(h2:ys[j]?=some y)(h:lU N (x,y)=true)(hp:((List.zip fs ys).take j).all (lU N)=true):((List.zip fs ys).take (j+1)).all (lU N)=true:=by have hz:(List.zip fs ys)[j]?=some (x,y):=Kc.2 ⟨h1,h2⟩;rw[iY,hz,sj,sU,hp,gV,CW,h];rfl
end Fl
theorem Mk(m:Nat)(w:World)(va:Option Addr)(vl:Value)(N cap:Nat)(vf vs:Value)(fs:List Fu)(ys:List Sc)(hF:mP w m vf fs)(hS:uq w vs ys):Calls prog 186 #[.agg #[.slice va N cap,vl],vf,vs] w λe w'=>e=.returned (.bool (jH N fs ys))/\Below w.heap.size w w':=by
 obtain⟨af,bf,of,cf,rfl,hf0,ZG,tT⟩:=hF;obtain⟨asx,bs,os,cs,rfl,hs0,ZH,hsel⟩:=hS;obtain⟨nf,hnf⟩:=aG fs.length;obtain⟨ns,hns⟩:=aG ys.length;rw[<-hnf]at hf0 ZG ⊢;rw[<-hns]at hs0 ZH ⊢;have og:=hide hnf;have tQ:=hide hns;have qZ:=hide hf0;have Yu:=hide hs0;have zG:=hide tT;have xY:=hide hsel;have dH:=hide (aB w (.cells #[.slice va N cap,vl] 34));have gB:=hide (aJ w (.cells #[.slice va N cap,vl] 34));clear hf0 hs0 tT hsel hnf hns;by_cases hln:ns=nf
 ·subst hln;go_enter func186,ntmps186;go_wp2_with fail;generalize w.alloc (.cells #[.slice va N cap,vl] 34)=W at *;go_loopw[16] (λi wr=>∃j:Nat,j<=ns/\i=.int .i64 j/\((List.zip fs ys).take j).all (lU N)=true/\Below W.heap.size W wr) (λi _=>ns - (intOf i).toNat);case atStart=>exact⟨0,bJ _,rfl,rfl,aX _ _⟩
  case round=>
   obtain⟨j,hj,rfl,hall,hbr⟩:=hrel;have cO:=hide hall;have rU:=hide hbr;by_cases hjl:j<ns
   ·obtain⟨x,hx⟩:∃z,fs[j]?=some z:=⟨_,aU (by rw[<-og];omega)⟩;obtain⟨y,hy⟩:∃z,ys[j]?=some z:=⟨_,aU (by rw[<-tQ];omega)⟩;obtain rfl:=qZ (by omega);obtain rfl:=Yu (by omega);obtain⟨_,vp,vb,e0,e1,e2,e3,g0,g1,g2,g3,g4,g5,g6,kp,kb,ke⟩:=zG j x hx;obtain⟨ap,bp,op,cp,rfl,-⟩:=kp;obtain⟨ab,cb,rfl,-⟩:=kb.shape;obtain⟨ar,cr,rfl,rfl,rfl,rfl⟩:=ke.shape;obtain⟨ub,ue,h0,h1,h2,h3,h4,h5,ib,ie⟩:=xY j y hy;have uH:Hid (xw w (.agg #[.string y.fn,.int .i64 y.mask,.int .i64 y.level,ub,.int .i64 y.pc,ue]) y):=hide ⟨ub,ue,rfl,ib,ie⟩;obtain⟨au,bu,ou,cu,rfl,-⟩:=ib;obtain⟨aw,bw,ow,cw,rfl,-⟩:=ie;obtain⟨np,hnp⟩:=aG x.params.length;obtain⟨nb,hnb⟩:=aG x.body.length;obtain⟨nr,hnr⟩:=aG x.result.args.length;obtain⟨nu,hnu⟩:=aG y.bounds.length;obtain⟨nw,hnw⟩:=aG y.dF.length;rw[<-hnp]at g1;rw[<-hnb]at g2;rw[<-hnr]at g6;rw[<-hnu]at h3 uH;rw[<-hnw]at h5 uH;have HX:=hide hx;have HY:=hide hy;have wM:=hide hnp;have ZI:=hide hnu;have hwr:=up dH hbr;replace g0:=aA g0 hwr;replace g1:=aA g1 hwr;replace g2:=aA g2 hwr;replace g3:=aA g3 hwr;replace g4:=aA g4 hwr;replace g5:=aA g5 hwr;replace g6:=aA g6 hwr;have Iy:=hide hwr;have dw:=hide (aB wr (.cells #[.string x.name,.slice ap np cp,.slice ab nb cb,.int .i64 x.result.kind,.int .i64 x.result.n,.string x.result.name,.slice ar nr cr] 132));have C8:=up hwr dw;have hb5:=aJ wr (.cells #[.string x.name,.slice ap np cp,.slice ab nb cb,.int .i64 x.result.kind,.int .i64 x.result.n,.string x.result.name,.slice ar nr cr] 132);have c1:=aM ((aj hb5 1).trans (rfl:_=some (Value.slice ap np cp)));have K0:=aN gB (up hbr dw);have d0:=aM ((aj K0 0).trans (rfl:_=some (Value.slice va N cap)));have d1:=aM ((aj K0 1).trans (rfl:_=some vl));replace h0:=aM (aA h0 C8);replace h1:=aM (aA h1 C8);replace h2:=aM (aA h2 C8);replace h3:=aM (aA h3 C8);replace h4:=aM (aA h4 C8);replace h5:=aM (aA h5 C8);have HIS:=hide (λk os=>Mc (gn (wr.alloc (.cells #[.string x.name,.slice ap np cp,.slice ab nb cb,.int .i64 x.result.kind,.int .i64 x.result.n,.string x.result.name,.slice ar nr cr] 132)) k os) va vl N cap _ y (uH.below (up C8 (aS _ k os))));clear hx hy hall hbr kb ke hnp hnb hnr hnu hnw hwr C8 hb5 K0;by_cases hnn:nu=np
    ·obtain rfl:np=nu:=hnn.symm;obtain⟨r,hr⟩:=aG (Zq N y);rw[<-hr]at HIS;have HR1:Hid (lU N (x,y)=r):=hide (by rw[lU,hr];simp only;rw[<-ZI,<-wM];simp);clear hr;go_wp2_with fail;generalize wr.alloc (.cells #[.string x.name,.slice ap np cp,.slice ab nb cb,.int .i64 x.result.kind,.int .i64 x.result.n,.string x.result.name,.slice ar nr cr] 132)=W5 at *;refine aO (by kernel_rfl) (by kernel_rfl) ?_;repeat(quiet_step ((exact Calls.fJ (HIS _ _))))
     refine wpQuiet_nil ?_;intro _ hw';obtain⟨⟨nq,osq⟩,hw''⟩:=hw';subst hw'';have dB:=hide (up dw (aS W5 nq osq));clear c1 d0 d1 h0 h1 h2 h3 h4 h5 g0 g1 g2 g3 g4 g5 g6 HIS;generalize gn W5 nq osq=W6 at *;cases r;·go_wp2_with fail;go_ret;exact⟨aH (UD HX HY HR1).symm,up Iy dB⟩
     ·go_wp2_with fail;go_roundw;case rel=>exact⟨j+1,by omega,by go_num,VZ HX HY HR1 cO,up rU dB⟩
      case measure=>simp[intOf];omega
    ·have HR1:Hid (lU N (x,y)=false):=hide (by rw[lU];simp only;rw[<-ZI,<-wM];simp[hnn]);have hq:((nu:Int)==(np:Int))=false:=by simp;omega
     have hq2:decide ((nu:Int)=(np:Int))=false:=by simp;omega
     have hq3:¬((nu:Int)=(np:Int)):=by omega
     go_wp2_with fail;generalize wr.alloc (.cells #[.string x.name,.slice ap np cp,.slice ab nb cb,.int .i64 x.result.kind,.int .i64 x.result.n,.string x.result.name,.slice ar nr cr] 132)=W5 at *;refine aO (by kernel_rfl) (by kernel_rfl) ?_;repeat(quiet_step (fail))
     refine wpQuiet_nil ?_;intro _ hw';obtain⟨⟨nq,osq⟩,hw''⟩:=hw';subst hw'';have dB:=hide (up dw (aS W5 nq osq));clear c1 d0 d1 h0 h1 h2 h3 h4 h5 g0 g1 g2 g3 g4 g5 g6 HIS;generalize gn W5 nq osq=W6 at *;go_wp2_with fail;go_ret;exact⟨aH (UD HX HY HR1).symm,up Iy dB⟩
   ·obtain rfl:j=ns:=by omega
    have HV:Hid (jH N fs ys=true):=hide (by have hh:=cO.out;rw[eP (by rw[C9,<-og];omega)]at hh;rw[jH,hh,<-og,<-tQ];simp);clear hall hbr;go_wp2_with fail;go_ret;exact⟨aH HV.symm,up dH rU⟩
 ·have HV:Hid (jH N fs ys=false):=hide (by rw[jH,<-og,<-tQ];simp[hln]);have hq:((ns:Int)==(nf:Int))=false:=by simp;omega
  have hq3:¬((ns:Int)=(nf:Int)):=by omega
  go_enter func186,ntmps186;go_wp2_with fail;go_ret;exact⟨aH HV.symm,dH⟩
namespace Fl
def xW(N:Nat)(p:Mo × List Sc):Bool:=jH N p.1.aR p.2
def fH(N:Nat)(known:List Mo)(aW:List (List Sc)):Bool:=decide (aW.length=known.length)&&(List.zip known aW).all (xW N)
theorem ZJ{N:Nat}{fs:List Mo}{ys:List (List Sc)}{j:Nat}{x:Mo}{y:List Sc}(h1:fs[j]?=some x)(h2:ys[j]?=some y)(h:xW N (x,y)=false):fH N fs ys=false:=by
 have hz:(List.zip fs ys)[j]?=some (x,y):=Kc.2 ⟨h1,h2⟩;have:(List.zip fs ys).all (xW N)=false:=by
  cases hh:(List.zip fs ys).all (xW N)with
  | false=>rfl
  | true=>rw[iO.1 hh _ (gD hz)]at h;cases h
 rw[fH,this,Af]
theorem Sd{N:Nat}{fs:List Mo}{ys:List (List Sc)}{j:Nat}{x:Mo}{y:List Sc}(h1:fs[j]?=some x)(h2:ys[j]?=some y)(h:xW N (x,y)=true)(hp:((List.zip fs ys).take j).all (xW N)=true):((List.zip fs ys).take (j+1)).all (xW N)=true:=by have hz:(List.zip fs ys)[j]?=some (x,y):=Kc.2 ⟨h1,h2⟩;rw[iY,hz,sj,sU,hp,gV,CW,h];rfl
end Fl
theorem yZ(m:Nat)(w:World)(va:Option Addr)(vl:Value)(N cap:Nat)(vk vs:Value)(fs:List Mo)(ys:List (List Sc))(hF:kV w m vk fs)(hS:vT w vs ys):Calls prog 185 #[.agg #[.slice va N cap,vl],vk,vs] w λe w'=>e=.returned (.bool (Fl.fH N fs ys))/\Below w.heap.size w w':=by
 obtain⟨ak,bk,ok,ck,rfl,hf0,ZG,tT⟩:=hF;obtain⟨asx,bs,os,cs,rfl,hs0,ZH,hsel⟩:=hS;obtain⟨nk,hnf⟩:=aG fs.length;obtain⟨ns,hns⟩:=aG ys.length;rw[<-hnf]at hf0 ZG ⊢;rw[<-hns]at hs0 ZH ⊢;have og:=hide hnf;have tQ:=hide hns;have qZ:=hide hf0;have Yu:=hide hs0;have zG:=hide tT;have xY:=hide hsel;have dH:=hide (aB w (.cells #[.slice va N cap,vl] 34));have gB:=hide (aJ w (.cells #[.slice va N cap,vl] 34));clear hf0 hs0 tT hsel hnf hns;by_cases hln:ns=nk
 ·subst hln;go_enter func185,ntmps185;go_wp2_with fail;generalize w.alloc (.cells #[.slice va N cap,vl] 34)=W at *;go_loopw[16] (λi wr=>∃j:Nat,j<=ns/\i=.int .i64 j/\((List.zip fs ys).take j).all (xW N)=true/\Below W.heap.size W wr) (λi _=>ns - (intOf i).toNat);case atStart=>exact⟨0,bJ _,rfl,rfl,aX _ _⟩
  case round=>
   obtain⟨j,hj,rfl,hall,hbr⟩:=hrel;have cO:=hide hall;have rU:=hide hbr;by_cases hjl:j<ns
   ·obtain⟨x,hx⟩:∃z,fs[j]?=some z:=⟨_,aU (by rw[<-og];omega)⟩;obtain⟨y,hy⟩:∃z,ys[j]?=some z:=⟨_,aU (by rw[<-tQ];omega)⟩;obtain rfl:=qZ (by omega);obtain rfl:=Yu (by omega);obtain⟨vi,vv,vf,g0,g1,g2,g3,hmo⟩:=zG j x hx;obtain⟨kp,kb,ke⟩:=hmo.split;have HFU:=hide ke;obtain⟨ai,bi,oi,ci,rfl,-⟩:=kp;obtain⟨av,bv,ov,cv,rfl,-⟩:=kb;obtain⟨af,bf,of,cf,rfl,-⟩:=ke;obtain⟨u,h0,hu⟩:=xY j y hy;have uH:=hide hu;obtain⟨au,bu,ou,cu,rfl,-⟩:=hu;obtain⟨ni,hni⟩:=aG x.imports.length;obtain⟨nv,mR⟩:=aG x.vars.length;obtain⟨nf,hnf⟩:=aG x.aR.length;obtain⟨nu,hnu⟩:=aG y.length;rw[<-hni]at g1;rw[<-mR]at g2;rw[<-hnf]at g3 HFU;rw[<-hnu]at h0 uH;have HX:=hide hx;have HY:=hide hy;have hwr:=up dH hbr;replace g0:=aA g0 hwr;replace g1:=aA g1 hwr;replace g2:=aA g2 hwr;replace g3:=aA g3 hwr;have Iy:=hide hwr;have dw:=hide (aB wr (.cells #[.string x.name,.slice ai ni ci,.slice av nv cv,.slice af nf cf] 26));have C8:=up hwr dw;have hb5:=aJ wr (.cells #[.string x.name,.slice ai ni ci,.slice av nv cv,.slice af nf cf] 26);have c3:=aM ((aj hb5 3).trans (rfl:_=some (Value.slice af nf cf)));have K0:=aN gB (up hbr dw);have d0:=aM ((aj K0 0).trans (rfl:_=some (Value.slice va N cap)));have d1:=aM ((aj K0 1).trans (rfl:_=some vl));replace h0:=aM (aA h0 C8);have HIS:=hide (λk os=>Mk m (gn (wr.alloc (.cells #[.string x.name,.slice ai ni ci,.slice av nv cv,.slice af nf cf] 26)) k os) va vl N cap _ _ x.aR y (HFU.below (up C8 (aS _ k os))) (uH.below (up C8 (aS _ k os))));clear hx hy hall hbr hmo hni mR hnf hnu hwr C8 hb5 K0;obtain⟨r,hr⟩:=aG (jH N x.aR y);rw[<-hr]at HIS;have HR1:Hid (xW N (x,y)=r):=hide hr.symm;clear hr;go_wp2_with fail;generalize wr.alloc (.cells #[.string x.name,.slice ai ni ci,.slice av nv cv,.slice af nf cf] 26)=W5 at *;refine aO (by kernel_rfl) (by kernel_rfl) ?_;repeat(quiet_step ((exact Calls.fJ (HIS _ _))))
    refine wpQuiet_nil ?_;intro _ hw';obtain⟨⟨nq,osq⟩,hw''⟩:=hw';subst hw'';have dB:=hide (up dw (aS W5 nq osq));clear c3 d0 d1 h0 g0 g1 g2 g3 HIS;generalize gn W5 nq osq=W6 at *;cases r;·go_wp2_with fail;go_ret;exact⟨aH (ZJ HX HY HR1).symm,up Iy dB⟩
    ·go_wp2_with fail;go_roundw;case rel=>exact⟨j+1,by omega,by go_num,Sd HX HY HR1 cO,up rU dB⟩
     case measure=>simp[intOf];omega
   ·obtain rfl:j=ns:=by omega
    have HV:Hid (Fl.fH N fs ys=true):=hide (by have hh:=cO.out;rw[eP (by rw[C9,<-og];omega)]at hh;rw[Fl.fH,hh,<-og,<-tQ];simp);clear hall hbr;go_wp2_with fail;go_ret;exact⟨aH HV.symm,up dH rU⟩
 ·have HV:Hid (Fl.fH N fs ys=false):=hide (by rw[Fl.fH,<-og,<-tQ];simp[hln]);have hq:((ns:Int)==(nk:Int))=false:=by simp;omega
  have hq3:¬((ns:Int)=(nk:Int)):=by omega
  go_enter func185,ntmps185;go_wp2_with fail;go_ret;exact⟨aH HV.symm,dH⟩
theorem set6{W:World}{B:Nat}{t:TypeId}{r0 r1 r2 r3 r4 r5:Value}(h:W.heap[B]?=some (.cells #[r0,r1,r2,r3,r4,r5] t (0,0)))(c0 c1 c2 c3 c4 c5:Value):((((((W.setCell ⟨B,0,none⟩ c0).setCell ⟨B,1,none⟩ c1).setCell ⟨B,2,none⟩ c2).setCell ⟨B,3,none⟩ c3).setCell ⟨B,4,none⟩ c4).setCell ⟨B,5,none⟩ c5).heap[B]?=some (.cells #[c0,c1,c2,c3,c4,c5] t (0,0)):=by have h0:(W.setCell ⟨B,0,none⟩ c0).heap[B]?=some (.cells #[c0,r1,r2,r3,r4,r5] t (0,0)):=aQ h 0 c0;have h1:((W.setCell ⟨B,0,none⟩ c0).setCell ⟨B,1,none⟩ c1).heap[B]?=some (.cells #[c0,c1,r2,r3,r4,r5] t (0,0)):=aQ h0 1 c1;have h2:(((W.setCell ⟨B,0,none⟩ c0).setCell ⟨B,1,none⟩ c1).setCell ⟨B,2,none⟩ c2).heap[B]?=some (.cells #[c0,c1,c2,r3,r4,r5] t (0,0)):=aQ h1 2 c2;have h3:((((W.setCell ⟨B,0,none⟩ c0).setCell ⟨B,1,none⟩ c1).setCell ⟨B,2,none⟩ c2).setCell ⟨B,3,none⟩ c3).heap[B]?=some (.cells #[c0,c1,c2,c3,r4,r5] t (0,0)):=aQ h2 3 c3;have h4:(((((W.setCell ⟨B,0,none⟩ c0).setCell ⟨B,1,none⟩ c1).setCell ⟨B,2,none⟩ c2).setCell ⟨B,3,none⟩ c3).setCell ⟨B,4,none⟩ c4).heap[B]?=some (.cells #[c0,c1,c2,c3,c4,r5] t (0,0)):=aQ h3 4 c4;exact aQ h4 5 c5
def Fl.Ke(x:Mo)(k:Nat)(known:List Mo)(aW:List (List Sc))(own:List Sc)(call:ByteArray)(y:Sc):Prop:=
 ((fO x k call known).1<0/\∃j:Nat,(fO x k call known).2.1=j/\own[j]?=some y)\/∃(i j:Nat) (l:List Sc),(fO x k call known).1=i/\(fO x k call known).2.1=j/\aW[i]?=some l/\l[j]?=some y
theorem Sg(m:Nat)(w0 w:World)(vi vv vf vk vs vo:Value)(x:Mo)(known:List Mo)(aW:List (List Sc))(own:List Sc)(k:Nat)(call:ByteArray)(y:Sc)(hb:Below w0.heap.size w0 w)(h:jK w0 m (.agg #[.string x.name,vi,vv,vf]) x)(hK:kV w0 m vk known)(hC:DW vf)(hk:k<=x.aR.length)(hc:call.size<=maxLen)(IG:x.imports.length<=1048576)(hS:vT w0 vs aW)(hO:uq w0 vo own)(hy:Ke x k known aW own call y):Calls prog 353 #[.agg #[.string x.name,vi,vv,vf,.int .i64 (k:Nat),vk,vs,vo],.string call] w λe w'=>∃v,e=.returned v/\Hid (xw w0 v y/\Below w.heap.size w w'):=by
 have V3:=hide (λwx (hx:Below w0.heap.size w0 wx)=>LG m wx vi vv vf vk x known k call (h.below hx) (hK.below hx) hC hk hc IG);have HS:=hide hS;have HO:=hide hO;have HY:=hide hy;obtain⟨hI,hV,hF⟩:=h.split;obtain⟨ai,bi,oi,ci,rfl,-⟩:=hI;obtain⟨av,bv,ov,cv,rfl,-⟩:=hV;obtain⟨af,bf,of,cf,rfl,-⟩:=hF;obtain⟨ak,bk,ok,ck,rfl,-⟩:=hK;obtain⟨asx,bs,os,cs,rfl,hs0,-,hsel⟩:=hS;obtain⟨ao,bo,oo,co,rfl,ho0,-,ZK⟩:=hO;obtain⟨ni,hni⟩:∃n,n=x.imports.length:=⟨_,rfl⟩;obtain⟨nv,mR⟩:∃n,n=x.vars.length:=⟨_,rfl⟩;obtain⟨nf,hnf⟩:∃n,n=x.aR.length:=⟨_,rfl⟩;obtain⟨nk,hnk⟩:∃n,n=known.length:=⟨_,rfl⟩;obtain⟨ns,hns⟩:∃n,n=aW.length:=⟨_,rfl⟩;obtain⟨no,hno⟩:∃n,n=own.length:=⟨_,rfl⟩;rw[<-hni,<-mR,<-hnf,<-hnk]at V3;rw[<-hni,<-mR,<-hnf,<-hnk,<-hns,<-hno];have tQ:=hide hns;have V4:=hide hno;have gF:=hide (And.intro hs0 (And.intro hsel (And.intro ho0 ZK)));obtain⟨W,hW,k0,k1,hsz,hBW⟩:=yN w (.cells #[.string x.name,.slice ai ni ci,.slice av nv cv,.slice af nf cf,.int .i64 (k:Nat),.slice ak nk ck,.slice asx ns cs,.slice ao no co] 296) (.cells #[.string ⟨#[]⟩,.int .i64 0,.int .i64 0,.slice none 0 0,.int .i64 0,.slice none 0 0] 170);have gB:=hide k0;have iC:=hide k1;have eO:=hide hBW;have HBA:=hide (up hb hBW);have y0:=(aj k0 0).trans rfl;have y1:=(aj k0 1).trans rfl;have y2:=(aj k0 2).trans rfl;have y3:=(aj k0 3).trans rfl;have y4:=(aj k0 4).trans rfl;have y5:=(aj k0 5).trans rfl;have y6:=(aj k0 6).trans rfl;have y7:=(aj k0 7).trans rfl;clear h hC hk hc IG hy hni mR hnf hnk hns hno hs0 hsel ho0 ZK hBW hsz k0 k1;have HT:=hide (V3.out W HBA.out);obtain⟨R,hR⟩:∃R,R=fO x k call known:=⟨_,rfl⟩;unfold Ke at HY;rw[<-hR]at HT HY;clear hR V3;obtain⟨R1,R2,R3⟩:=R;subst hW;go_enter func353,ntmps353;go_wp2_with fail;refine HT.out.mono ?_;rintro e w1 ⟨rfl,hb1⟩;have HB1:=hide hb1;have K0:=aN gB.out hb1;have HW1:=hide (up HBA.out hb1);clear y0 y1 y2 y3 y4 y5 y6 y7 hb1;rcases HY.out with⟨hlt,j,hj,Sj⟩|⟨i,j,l,hi,hj,hyl,Sj⟩
 ·have hjj:R2=(j:Int):=hj;clear hj;subst hjj;have hjl:j<no:=by rw[V4.out];exact(List.getElem?_eq_some_iff.1 Sj).1
  obtain⟨vb,ve,g0,g1,g2,g3,g4,g5,kb,ke⟩:=gF.out.2.2.2 j y Sj;have Ml:=hide (And.intro kb ke);obtain⟨ab,bb,ob,cb,rfl,-⟩:=kb;obtain⟨ae,be,oe,ce,rfl,-⟩:=ke;obtain rfl:=gF.out.2.2.1 (by rw[<-V4.out];omega);obtain⟨nb,hnb⟩:∃n,n=y.bounds.length:=⟨_,rfl⟩;obtain⟨ne,hne⟩:∃n,n=y.dF.length:=⟨_,rfl⟩;rw[<-hnb]at g3 Ml;rw[<-hne]at g5 Ml;clear hnb hne;replace g0:=aA g0 HW1.out;replace g1:=aA g1 HW1.out;replace g2:=aA g2 HW1.out;replace g3:=aA g3 HW1.out;replace g4:=aA g4 HW1.out;replace g5:=aA g5 HW1.out;have y7:=(aj K0 7).trans rfl;clear Sj K0 HY HS HO gF;have hR:=aN iC.out HB1.out;have r0:=(aj hR 0).trans rfl;have r1:=(aj hR 1).trans rfl;have r2:=(aj hR 2).trans rfl;have r3:=(aj hR 3).trans rfl;have r4:=(aj hR 4).trans rfl;have r5:=(aj hR 5).trans rfl;have z0:=aD hR 0;have z1:=aD hR 1;have z2:=aD hR 2;have z3:=aD hR 3;have z4:=aD hR 4;have z5:=aD hR 5;have HR:=hide hR;clear hR;go_wp2_with fail;have hs:=set6 HR.out (.string y.fn) (.int .i64 y.mask) (.int .i64 y.level) (.slice ab nb cb) (.int .i64 y.pc) (.slice ae ne ce);have f0:=(aj hs 0).trans rfl;have f1:=(aj hs 1).trans rfl;have f2:=(aj hs 2).trans rfl;have f3:=(aj hs 3).trans rfl;have f4:=(aj hs 4).trans rfl;have f5:=(aj hs 5).trans rfl;refine bodyPost_ret (v:=.agg #[.string y.fn,.int .i64 y.mask,.int .i64 y.level,.slice ab nb cb,.int .i64 y.pc,.slice ae ne ce]) (by simp[results,results353,go_sem,f0,f1,f2,f3,f4,f5]) rfl ⟨_,rfl,hide ⟨⟨_,_,rfl,Ml.out.1,Ml.out.2⟩,?_⟩⟩;exact(((((((up eO.out HB1.out).setCell (Nat.le_succ _) _).setCell (Nat.le_succ _) _).setCell (Nat.le_succ _) _).setCell (Nat.le_succ _) _).setCell (Nat.le_succ _) _).setCell (Nat.le_succ _) _)
 ·have hii:R1=(i:Int):=hi;have hjj:R2=(j:Int):=hj;clear hj;clear hi;subst hii hjj;have hil:i<ns:=by rw[tQ.out];exact(List.getElem?_eq_some_iff.1 hyl).1
  obtain⟨u,gu,hu⟩:=gF.out.2.1 i l hyl;obtain⟨al,bl,ol,cl,rfl,hl0,-,ZL⟩:=hu;have hjl:j<l.length:=(List.getElem?_eq_some_iff.1 Sj).1;obtain⟨vb,ve,g0,g1,g2,g3,g4,g5,kb,ke⟩:=ZL j y Sj;have Ml:=hide (And.intro kb ke);obtain⟨ab,bb,ob,cb,rfl,-⟩:=kb;obtain⟨ae,be,oe,ce,rfl,-⟩:=ke;obtain rfl:=gF.out.1 (by rw[<-tQ.out];omega);obtain rfl:=hl0 (by omega);obtain⟨nb,hnb⟩:∃n,n=y.bounds.length:=⟨_,rfl⟩;obtain⟨ne,hne⟩:∃n,n=y.dF.length:=⟨_,rfl⟩;obtain⟨nl,hnl⟩:∃n,n=l.length:=⟨_,rfl⟩;rw[<-hnb]at g3 Ml;rw[<-hne]at g5 Ml;rw[<-hnl]at gu hjl;clear hnb hne hnl hl0 ZL;replace gu:=aA gu HW1.out;replace g0:=aA g0 HW1.out;replace g1:=aA g1 HW1.out;replace g2:=aA g2 HW1.out;replace g3:=aA g3 HW1.out;replace g4:=aA g4 HW1.out;replace g5:=aA g5 HW1.out;have y6:=(aj K0 6).trans rfl;clear Sj hyl K0 HY HS HO gF;have hR:=aN iC.out HB1.out;have r0:=(aj hR 0).trans rfl;have r1:=(aj hR 1).trans rfl;have r2:=(aj hR 2).trans rfl;have r3:=(aj hR 3).trans rfl;have r4:=(aj hR 4).trans rfl;have r5:=(aj hR 5).trans rfl;have z0:=aD hR 0;have z1:=aD hR 1;have z2:=aD hR 2;have z3:=aD hR 3;have z4:=aD hR 4;have z5:=aD hR 5;have HR:=hide hR;clear hR;go_wp2_with fail;have hs:=set6 HR.out (.string y.fn) (.int .i64 y.mask) (.int .i64 y.level) (.slice ab nb cb) (.int .i64 y.pc) (.slice ae ne ce);have f0:=(aj hs 0).trans rfl;have f1:=(aj hs 1).trans rfl;have f2:=(aj hs 2).trans rfl;have f3:=(aj hs 3).trans rfl;have f4:=(aj hs 4).trans rfl;have f5:=(aj hs 5).trans rfl;refine bodyPost_ret (v:=.agg #[.string y.fn,.int .i64 y.mask,.int .i64 y.level,.slice ab nb cb,.int .i64 y.pc,.slice ae ne ce]) (by simp[results,results353,go_sem,f0,f1,f2,f3,f4,f5]) rfl ⟨_,rfl,hide ⟨⟨_,_,rfl,Ml.out.1,Ml.out.2⟩,?_⟩⟩;exact(((((((up eO.out HB1.out).setCell (Nat.le_succ _) _).setCell (Nat.le_succ _) _).setCell (Nat.le_succ _) _).setCell (Nat.le_succ _) _).setCell (Nat.le_succ _) _).setCell (Nat.le_succ _) _)
namespace aI
def Mq(m:Nat):List Mo->Int
 | []=>0
 | x::r=>if qA m x=0 then Mq m r else qA m x
def y8(e0:Int)(m:Nat)(x:Mo)(known:List Mo):Int:=if e0=0 then (if qA m x=0 then Mq m known else qA m x)else e0
theorem Pg{m:Nat}{l:List Mo}(h:∀x∈l,qA m x=0):Mq m l=0:=by
 induction l with
 | nil=>rfl
 | cons x r ih =>unfold Mq;rw[if_pos (h x (by simp)),ih (λy hy=>h y (by simp[hy]))]
theorem H8{m:Nat}{l:List Mo}{j:Nat}{x:Mo}(hx:l[j]?=some x)(h:∀(q:Nat) y,q<j->l[q]?=some y->qA m y=0)(he:qA m x≠0):Mq m l=qA m x:=by
 induction l generalizing j with
 | nil=>simp at hx
 | cons y r ih=>
  cases j with
  | zero=>simp at hx;subst hx;unfold Mq;rw[if_neg he]
  | succ j =>unfold Mq;rw[if_pos (h 0 y (by omega) (by simp)),ih (j:=j) (by simpa using hx) (λq z hq hz=>h (q+1) z (by omega) (by simpa using hz))]
end aI
namespace Rn
end Rn
namespace Rn
end Rn
namespace Rn
end Rn
namespace Rn
end Rn
theorem Ph(w:World)(v1 v2:Value)(l:List ByteArray)(h1:Strs w v1 l)(h2:Strs w v2 l):Calls prog 23 #[v1,v2] w λe w'=>e=.returned (.bool true)/\Below w.heap.size w w':=by
 obtain⟨a1,b1,o1,c1,rfl,ha1,hl,_,hc1⟩:=h1;obtain⟨a2,b2,o2,c2,rfl,ha2,_,_,hc2⟩:=h2;have HA1:=hide ha1;have HA2:=hide ha2;have Jl:=hide hc1;have Qj:=hide hc2;clear ha1 ha2 hc1 hc2;generalize hlen:l.length=len at *;go_enter func23,ntmps23;go_wp2;go_loopw[13] (λi wr=>∃k:Nat,k<=len/\i=.int .i64 k/\Below w.heap.size w wr) (λi _=>len - (intOf i).toNat);case atStart=>exact⟨0,bJ _,rfl,aX _ _⟩
 case round=>
  obtain⟨k,hk,rfl,hnx⟩:=hrel;by_cases hlt:k<len
  ·obtain rfl:=HA1 (by omega);obtain rfl:=HA2 (by omega);have g1:=aA (Jl k hlt) hnx;have g2:=aA (Qj k hlt) hnx;generalize l.getD k ByteArray.empty=t at *;have bR:=hide hnx;have i1:(0:Int)<=(k:Int):=by omega
   have i2:(k:Int)<(len:Int):=by omega
   clear hnx;go_wp2_with fail;go_quiet (fail);go_wp2;go_roundw;case rel=>exact⟨k+1,by omega,by go_num,iP bR _⟩
   case measure=>simp[intOf];omega
  ·go_wp2;go_ret;exact⟨rfl,hnx⟩
theorem H9(w:World)(v1 v2:Value)(l:List Int)(h1:Ints w v1 l)(h2:Ints w v2 l):Calls prog 101 #[v1,v2] w λe w'=>e=.returned (.bool true)/\Below w.heap.size w w':=by
 obtain⟨a1,b1,o1,c1,rfl,ha1,hl,hc1⟩:=h1;obtain⟨a2,b2,o2,c2,rfl,ha2,_,hc2⟩:=h2;have HA1:=hide ha1;have HA2:=hide ha2;have Jl:=hide hc1;have Qj:=hide hc2;clear ha1 ha2 hc1 hc2;generalize hlen:l.length=len at *;have HL:=hide hlen;clear hlen;go_enter func101,ntmps101;go_wp2;go_loopw[13] (λi wr=>∃k:Nat,k<=len/\i=.int .i64 k/\Below w.heap.size w wr) (λi _=>len - (intOf i).toNat);case atStart=>exact⟨0,bJ _,rfl,aX _ _⟩
 case round=>
  obtain⟨k,hk,rfl,hnx⟩:=hrel;by_cases hlt:k<len
  ·obtain⟨z,hz⟩:∃z,l[k]?=some z:=⟨_,aU (by rw[HL];exact hlt)⟩;obtain rfl:=HA1 (by omega);obtain rfl:=HA2 (by omega);have g1:=aA (Jl k z hz) hnx;have g2:=aA (Qj k z hz) hnx;have bR:=hide hnx;have i1:(0:Int)<=(k:Int):=by omega
   have i2:(k:Int)<(len:Int):=by omega
   clear hnx hz;go_wp2_with fail;go_quiet (fail);go_wp2;go_roundw;case rel=>exact⟨k+1,by omega,by go_num,iP bR _⟩
   case measure=>simp[intOf];omega
  ·go_wp2;go_ret;exact⟨rfl,hnx⟩
end Go.Proofs.YtfnboapebijcpaaGreatDoor
