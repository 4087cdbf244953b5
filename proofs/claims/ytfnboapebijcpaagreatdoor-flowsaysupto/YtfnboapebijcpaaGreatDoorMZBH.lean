/- What goes where, the document's side: a reader -/
import Derived.Test.YtfnboapebijcpaaGreatDoorMZBG
import Derived.Test.YtfnboapebijcpaaGreatDoorMZBD
set_option maxHeartbeats 16000000
set_option maxRecDepth 100000
namespace Go.Proofs.YtfnboapebijcpaaGreatDoor
open Fl bC aI Rn
open Go.Proofs.Tryz
open Go.RowKit Go.Maps Go.WideMaps
structure Rx where
 p:Nat
 vn:Value
 vl:Value
 vi:Value
 vv:Value
 vf:Value
 vk:Value
 vs:Value
 vo:Value
 ss:List ByteArray
 G:Nat
 L:Nat->Nat
 Z:Nat->Nat->Bool
 m:Nat
 x:Mo
 k:Nat
 known:List Mo
 aW:List (List Sc)
 own:List Sc
 f:Fu
def Rx.c(r:Rx):Fl.Env:=iW r.ss r.Z r.x r.k r.known r.aW r.own r.f
structure EF(w:World)(r:Rx):Prop where
 pre:kF w r.m r.vn r.vl r.vi r.vv r.vf r.vk r.vs r.vo r.ss r.G r.L r.Z r.x r.known r.aW r.own
 lat:dD r.ss r.G r.L r.Z=0
 mo:qA r.m r.x=0
 nm:NmOk r.ss r.x r.known r.m
 fn:r.x.aR[r.k]?=some r.f
 env:r.c.Ok
 ok:FnOk r.c r.x r.k r.known r.aW r.own r.m r.f
theorem EF.below{w w':World}{r:Rx}(h:EF w r)(hb:Below w.heap.size w w'):EF w' r:=⟨h.pre.below hb,h.lat,h.mo,h.nm,h.fn,h.env,h.ok⟩
def qI(r:Rx)(bG vc vs ve:Value):Array Value:=#[r.vn,r.vl,.string r.x.name,r.vi,r.vv,r.vf,.int .i64 (r.k:Nat),r.vk,r.vs,r.vo,.int .i64 (r.c.low:Nat),bG,.slice none 0 0,vc,vs,.slice none 0 0,.int .i64 0,.int .i64 0,ve]
structure EH(w:World)(r:Rx)(bG vc vs ve:Value):Prop where
 blk:w.heap[r.p]?=some (.cells (qI r bG vc vs ve) 174 (0,0))
 ok:EF w r
theorem EH.below{w w':World}{r:Rx}{bG vc vs ve:Value}(h:EH w r bG vc vs ve)(hb:Below w.heap.size w w'):EH w' r bG vc vs ve:=⟨aN h.blk hb,h.ok.below hb⟩
theorem EH.laAt{w:World}{r:Rx}{bG vc vs ve:Value}(h:EH w r bG vc vs ve):rO w r.vn r.vl r.ss r.G r.L r.Z:=⟨h.ok.pre.strs,h.ok.pre.WG,h.ok.lat⟩
namespace Fl
theorem sD(l:List ByteArray)(s:ByteArray):decide (0<=bD l s)=has l s:=by rw[rD,decide_eq_true_eq,Db,oK]
def lvI:Option Nat->Int
 | some n=>n
 | none=>-1
theorem aae{vs:List Va}(h:(vs.map (·.name)).Nodup){i:Nat}{v:Va}(hv:vs[i]?=some v):(vs.reverse.find? λu=>aI.aZ u.name v.name)=some v:=by
 have hu:∀u∈vs,aI.aZ u.name v.name=true->u=v:=λu hm hs=>by
  obtain⟨j,hj,rfl⟩:=eX.1 hm;have e:=dX.1 hs;have h1:(vs.map (·.name))[j]?=some v.name:=by rw[rF,aU hj,vK,e]
  have h2:(vs.map (·.name))[i]?=some v.name:=by rw[rF,hv,vK]
  have:=rT h h1 h2;subst this;rw[aU hj]at hv;exact Option.some.inj hv
 cases hf:vs.reverse.find? λu=>aI.aZ u.name v.name with
 | none =>have:=xH.1 hf v (List.mem_reverse.2 (gD hv));exact absurd (dX.2 rfl) this
 | some u =>rw[hu u (List.mem_reverse.1 (Nc hf)) (Fg (p:=λu:Va=>aI.aZ u.name v.name) hf)]
theorem aaf{ss ps:List ByteArray}{vs:List Va}{s:ByteArray}(h:has ps s=true):nD ss ps vs s=none:=by unfold nD;rw[if_pos h]
theorem aag{ss ps:List ByteArray}{vs:List Va}(hn:(vs.map (·.name)).Nodup){s:ByteArray}(h:has ps s=false){i:Nat}{v:Va}(hv:vs[i]?=some v)(hs:aI.aZ v.name s=true)(hl:0<=bD ss v.level):lvI (nD ss ps vs s)=bD ss v.level:=by have e:=dX.1 hs;subst e;unfold nD;rw[if_neg (by rw[h];simp),aae hn hv];simp only[vK,lvI];omega
theorem Wj{ss ps:List ByteArray}{vs:List Va}{s:ByteArray}(h:∀(d:Nat) (g:Va),vs[d]?=some g->aI.aZ g.name s=false):nD ss ps vs s=none:=by
 unfold nD;split;·rfl
 ·rw[xH.2 λu hu=>?_];·rfl
  ·obtain⟨i,hi,rfl⟩:=eX.1 (List.mem_reverse.1 hu);rw[h i _ (aU hi)];simp
end Fl
theorem lq(w:World)(r:Rx)(bG vc vs ve:Value)(s:ByteArray)(h:EH w r bG vc vs ve):Calls prog 181 #[.pointer (some ⟨r.p,0,none⟩),.string s] w λe w'=>e=.returned (.int .i64 (lvI (r.c.kX s)))/\Below w.heap.size w w':=by
 have HH:=hide h;obtain⟨hI,hV,hF⟩:=h.ok.pre.mo.split;obtain⟨fa,fb,fo,fc,hfe,hfa,hfl,tT⟩:=hF;obtain⟨hfz,vp,vb,e0,e1,e2,e3,g0,g1,g2,g3,g4,g5,g6,hpar,MG,hres⟩:=tT r.k r.f h.ok.fn;have hkf:=(dG.1 h.ok.fn).1;have Wd:=hfa (by omega);subst Wd;obtain⟨av,bv,ov,cv,Zt,Ip,hlv,hcv⟩:=hV;obtain⟨na,nb,no,nc,hne,hna,hnl,hnz,hnc⟩:=h.ok.pre.strs;have Gj:=hide hcv;have Iq:=hide Ip;have Qx:=hide (λwx (hb:Below w.heap.size w wx)=>dh wx vp r.f.params s (hpar.below hb));have U5:=hide (λwx (hb:Below w.heap.size w wx) t=>mg wx r.vn r.ss t (h.ok.pre.strs.below hb));have c0:w.cell? ⟨r.p,0,none⟩=some r.vn:=(aj h.blk 0).trans rfl;have c4:w.cell? ⟨r.p,4,none⟩=some r.vv:=(aj h.blk 4).trans rfl;have c5:w.cell? ⟨r.p,5,none⟩=some r.vf:=(aj h.blk 5).trans rfl;have c6:w.cell? ⟨r.p,6,none⟩=some (.int .i64 (r.k:Nat)):=(aj h.blk 6).trans rfl;obtain⟨pa,pb,po,pc,hpe,-⟩:=hpar;rw[hpe]at g1 Qx;rw[hfe]at c5;rw[Zt]at c4;rw[hne]at c0 U5;obtain⟨nf,hnf⟩:=aG r.x.aR.length;rw[<-hnf]at c5 hkf hfl;obtain⟨nv,mR⟩:=aG r.x.vars.length;have BG:=hide mR;rw[<-mR]at c4 hlv Iq;obtain⟨nn,hnn⟩:=aG r.ss.length;rw[<-hnn]at c0 U5;obtain⟨np,hnp⟩:=aG r.f.params.length;rw[<-hnp]at g1 Qx;obtain⟨R,hR⟩:=aG (lvI (r.c.kX s));have HR:Hid (R=lvI (nD r.ss r.f.params r.x.vars s)):=hide hR;rw[<-hR];have RS:=hide h.ok.nm;rw[sD]at Qx;have TP:=hide c0;have HC4:=hide c4;clear hR h hI tT hfa MG hres Ip hcv hna hnc hnz hnl hnf mR hnn hnp hfz hfe Zt hne hpe g0 g2 g3 g4 g5 g6 HH c0;replace c4:=aM c4;replace c5:=aM c5;replace c6:=aM c6;replace g1:=aM g1;generalize r.k=k at *;generalize r.p=p at *;cases hp:Fl.has r.f.params s with
 | true=>
  have HE:Hid (R=-1):=hide (by rw[HR,aaf hp];rfl);rw[hp]at Qx;clear hp;go_enter func181,ntmps181;go_wp2_with fail;refine aO (by kernel_rfl) (by kernel_rfl) ?_;repeat(quiet_step ((exact Calls.y9 (Qx _ (aS w _ _)))))
  refine wpQuiet_nil ?_;intro w1 hw';obtain⟨⟨nq,osq⟩,hw''⟩:=hw';have HB1:=hide (show Below w.heap.size w w1 by rw[hw''];exact aS w nq osq);clear hw'' c4 c5 c6 g1;go_wp2_with fail;go_ret;exact⟨by rw[HE];rfl,HB1⟩
 | false=>
  have HP:=hide hp;rw[hp]at Qx;clear hp;go_enter func181,ntmps181;go_wp2_with fail;refine aO (by kernel_rfl) (by kernel_rfl) ?_;repeat(quiet_step ((exact Calls.y9 (Qx _ (aS w _ _)))))
  refine wpQuiet_nil ?_;intro w1 hw';obtain⟨⟨nq,osq⟩,hw''⟩:=hw';have HB1:=hide (show Below w.heap.size w w1 by rw[hw''];exact aS w nq osq);clear hw'' c4 c5 c6 g1 Qx;go_wp2_with fail;go_loopw[5] (λi wx=>∃j:Nat,j<=nv/\i=.int .i64 j/\Hid (∀(d:Nat) (g:Va),d<j->r.x.vars[d]?=some g->aI.aZ g.name s=false)/\Hid (Below w.heap.size w wx)) (λi _=>nv - (intOf i).toNat);case atStart=>exact⟨0,bJ _,rfl,hide (λd g hd=>absurd hd (dY _)),HB1⟩
  case round=>
   obtain⟨j,hj,rfl,cO,rU⟩:=hrel;have c4:=aA HC4 rU;by_cases hjl:j<nv
   ·obtain⟨v,hv⟩:∃v,r.x.vars[j]?=some v:=⟨_,aU (by rw[<-BG];exact hjl)⟩;obtain⟨hz0,hz1,u0,u1⟩:=Gj j v hv;obtain rfl:=Iq (by omega);have HVT:=hide hv;have HVI:=hide (RS.levs v (gD hv));replace u0:=aA u0 rU;replace u1:=aA u1 rU;clear hv hz0 hz1;have HQ:Hid (aI.aZ v.name s=(v.name.toList==s.toList)):=rfl;cases hq:(v.name.toList==s.toList)
    ·rw[hq]at HQ;go_wp2_with fail;go_roundw;case rel=>exact⟨j+1,by omega,by go_num,hide (λd g hd hg=>by
      by_cases e:d=j;·subst e;rw[HVT]at hg;cases hg;exact HQ
      ·exact cO d g (by omega) hg),rU⟩
     case measure=>simp[intOf];omega
    ·rw[hq]at HQ;have HE:Hid (R=bD r.ss v.level):=hide (by rw[HR,aag RS.vars HP HVT HQ HVI]);go_wp2_with fail;have c0:=aM (aA TP rU);replace c4:=aM c4;replace u1:=aM u1;clear u0;refine aO (by kernel_rfl) (by kernel_rfl) ?_;repeat(quiet_step ((exact Calls.y9 (U5 _ (up rU (aS wr _ _)) _))))
     refine wpQuiet_nil ?_;intro w3 hw';obtain⟨⟨nq3,osq3⟩,hw''⟩:=hw';have HB3:=hide (up rU (show Below wr.heap.size wr w3 by rw[hw''];exact aS wr nq3 osq3));clear hw'' c4 c0 u1;go_wp2_with fail;go_ret;exact⟨by rw[HE];rfl,HB3⟩
   ·have HE:Hid (R=-1):=hide (by rw[HR,Wj λd g hg=>cO d g (by have:=(dG.1 hg).1;have:=BG.out;omega) hg];rfl);go_wp2_with fail;go_ret;exact⟨by rw[HE];rfl,rU⟩
structure Fl.Tg(r:Rx)(call:ByteArray):Prop where
 size:call.size<=maxLen
 here:(fO r.x r.k call r.known).2.2=true
 means:Ke r.x r.k r.known r.aW r.own call (r.c.bO call)
theorem EF.tg{w:World}{r:Rx}(h:EF w r){s:ByteArray}(hs:s∈jv r.m r.f.body++Fl.cls r.m r.f.result):Tg r s:=by
 obtain⟨h1,h2⟩:=h.ok.means s hs;obtain⟨y,hy,rfl⟩:=Ki hs;refine⟨bS h1 (by decide),?_,h2⟩;have hc:=h.nm.calls r.k r.f h.fn y hy;unfold aI.code at hc;cases hh:(fO r.x r.k y.name r.known).2.2 with
 | true=>rfl
 | false=>rw[hh]at hc;simp at hc
theorem xX(w0 w:World)(r:Rx)(bG vc sP ve:Value)(call:ByteArray)(h0:EF w0 r)(hb0:Below w0.heap.size w0 w)(h:EH w r bG vc sP ve)(ht:Tg r call):Calls prog 184 #[.pointer (some ⟨r.p,0,none⟩),.string call] w λe w'=>∃v,e=.returned v/\Hid (xw w0 v (r.c.bO call)/\Below w.heap.size w w'):=by
 have HH:=hide h;have HB0:=hide hb0;have V3:=hide (λwx (hx:Below w.heap.size w wx)=>Dz r.m wx (.agg #[.string r.x.name,r.vi,r.vv,r.vf]) r.vk r.x r.k call r.known (h.ok.pre.mo.below hx) (Nat.le_of_lt (List.getElem?_eq_some_iff.1 h.ok.fn).1) ht.size (h.ok.pre.kn.below hx));have htt:=GR r.x r.k call r.known;have hte:aI.tgt r.x r.k call r.known=fO r.x r.k call r.known:=htt.2 (by rw[htt.1];exact ht.here);rw[hte]at V3;have HY:=hide ht.means;obtain⟨hI,hV,hF⟩:=h.ok.pre.mo.split;obtain⟨ai,bi,oi,ci,hvi,-⟩:=hI;obtain⟨av,bv,ov,cv,hvv,-⟩:=hV;obtain⟨af,bf,of,cf,hvf,-⟩:=hF;obtain⟨ak,bk,ok,ck,hvk,-⟩:=h.ok.pre.kn;obtain⟨asx,bs,os,cs,hvs,hs0,-,hsel⟩:=h0.pre.sc;obtain⟨ao,bo,oo,co,hvo,ho0,-,ZK⟩:=h0.pre.ow;obtain⟨ni,hni⟩:∃n,n=r.x.imports.length:=⟨_,rfl⟩;obtain⟨nv,mR⟩:∃n,n=r.x.vars.length:=⟨_,rfl⟩;obtain⟨nf,hnf⟩:∃n,n=r.x.aR.length:=⟨_,rfl⟩;obtain⟨nk,hnk⟩:∃n,n=r.known.length:=⟨_,rfl⟩;obtain⟨ns,hns⟩:∃n,n=r.aW.length:=⟨_,rfl⟩;obtain⟨no,hno⟩:∃n,n=r.own.length:=⟨_,rfl⟩;rw[<-hni]at hvi;rw[<-mR]at hvv;rw[<-hnf]at hvf;rw[<-hnk]at hvk;rw[<-hns]at hvs;rw[<-hno]at hvo;have tQ:=hide hns;have V4:=hide hno;have HVS:=hide hvs;have HVO:=hide hvo;have gF:=hide (And.intro hs0 (And.intro hsel (And.intro ho0 ZK)));have eO:=hide (aB w (.cells #[.string ⟨#[]⟩,.int .i64 0,.int .i64 0,.slice none 0 0,.int .i64 0,.slice none 0 0] 170));have iC:=hide (aJ w (.cells #[.string ⟨#[]⟩,.int .i64 0,.int .i64 0,.slice none 0 0,.int .i64 0,.slice none 0 0] 170));obtain⟨W,hW⟩:∃W,W=w.alloc (.cells #[.string ⟨#[]⟩,.int .i64 0,.int .i64 0,.slice none 0 0,.int .i64 0,.slice none 0 0] 170):=⟨_,rfl⟩;rw[<-hW]at eO iC;have gB:=hide (aN h.blk eO.out);have y2:W.cell? ⟨r.p,2,none⟩=some (.string r.x.name):=(aj gB.out 2).trans rfl;have y3:W.cell? ⟨r.p,3,none⟩=some r.vi:=(aj gB.out 3).trans rfl;have y4:W.cell? ⟨r.p,4,none⟩=some r.vv:=(aj gB.out 4).trans rfl;have y5:W.cell? ⟨r.p,5,none⟩=some r.vf:=(aj gB.out 5).trans rfl;have y6:W.cell? ⟨r.p,6,none⟩=some (.int .i64 (r.k:Nat)):=(aj gB.out 6).trans rfl;have y7:W.cell? ⟨r.p,7,none⟩=some r.vk:=(aj gB.out 7).trans rfl;have HT:=hide (λq o=>V3.out (gn W q o) (up eO.out (aS W q o)));rw[hvi,hvv,hvf,hvk]at HT;rw[hvi]at y3;rw[hvv]at y4;rw[hvf]at y5;rw[hvk]at y7;obtain⟨y,hyy⟩:∃y,y=r.c.bO call:=⟨_,rfl⟩;rw[<-hyy]at HY ⊢;clear h ht h0 hb0 hni mR hnf hnk hns hno hs0 hsel ho0 ZK htt hte hvi hvv hvf hvk hvs hvo hyy;obtain⟨R,hR⟩:∃R,R=fO r.x r.k call r.known:=⟨_,rfl⟩;unfold Ke at HY;rw[<-hR]at HT HY;clear hR V3;obtain⟨R1,R2,R3⟩:=R;replace y2:=aM y2;replace y3:=aM y3;replace y4:=aM y4;replace y5:=aM y5;replace y6:=aM y6;replace y7:=aM y7;go_enter func184,ntmps184;go_wp2_with fail;rw[<-hW];clear hW;refine aO (by kernel_rfl) (by kernel_rfl) ?_;repeat(quiet_step ((exact Calls.fJ (HT.out _ _))))
 refine wpQuiet_nil ?_;intro w1 hw';obtain⟨⟨nq,osq⟩,hw''⟩:=hw';have aah:Below W.heap.size W w1:=by rw[hw''];exact aS W nq osq
 have HB1:=hide aah;have K0:=aN gB.out aah;have HW1:=hide (up HB0.out (up eO.out aah));clear hw'' y2 y3 y4 y5 y6 y7 HT;rcases HY.out with⟨hlt,j,hj,Sj⟩|⟨i,j,l,hi,hj,hyl,Sj⟩
 ·have hjj:R2=(j:Int):=hj;clear hj;subst hjj;have hjl:j<no:=by rw[V4.out];exact(List.getElem?_eq_some_iff.1 Sj).1
  obtain⟨vb,ve,g0,g1,g2,g3,g4,g5,kb,ke⟩:=gF.out.2.2.2 j y Sj;have Ml:=hide (And.intro kb ke);obtain⟨ab,bb,ob,cb,rfl,-⟩:=kb;obtain⟨ae,be,oe,ce,rfl,-⟩:=ke;obtain rfl:=gF.out.2.2.1 (by rw[<-V4.out];omega);obtain⟨nb,hnb⟩:∃n,n=y.bounds.length:=⟨_,rfl⟩;obtain⟨ne,hne⟩:∃n,n=y.dF.length:=⟨_,rfl⟩;rw[<-hnb]at g3 Ml;rw[<-hne]at g5 Ml;clear hnb hne;replace g0:=aA g0 HW1.out;replace g1:=aA g1 HW1.out;replace g2:=aA g2 HW1.out;replace g3:=aA g3 HW1.out;replace g4:=aA g4 HW1.out;replace g5:=aA g5 HW1.out;have y7:w1.cell? ⟨r.p,9,none⟩=some (.slice (some ⟨bo,oo,none⟩) no co):=(aj K0 9).trans (by rw[<-HVO.out];rfl);clear Sj K0 HY gF;have hR:=aN iC.out aah;have r0:=(aj hR 0).trans rfl;have r1:=(aj hR 1).trans rfl;have r2:=(aj hR 2).trans rfl;have r3:=(aj hR 3).trans rfl;have r4:=(aj hR 4).trans rfl;have r5:=(aj hR 5).trans rfl;have z0:=aD hR 0;have z1:=aD hR 1;have z2:=aD hR 2;have z3:=aD hR 3;have z4:=aD hR 4;have z5:=aD hR 5;have HR:=hide hR;clear hR;go_wp2_with fail;have hs:=set6 HR.out (.string y.fn) (.int .i64 y.mask) (.int .i64 y.level) (.slice ab nb cb) (.int .i64 y.pc) (.slice ae ne ce);have f0:=(aj hs 0).trans rfl;have f1:=(aj hs 1).trans rfl;have f2:=(aj hs 2).trans rfl;have f3:=(aj hs 3).trans rfl;have f4:=(aj hs 4).trans rfl;have f5:=(aj hs 5).trans rfl;refine bodyPost_ret (v:=.agg #[.string y.fn,.int .i64 y.mask,.int .i64 y.level,.slice ab nb cb,.int .i64 y.pc,.slice ae ne ce]) (by simp[results,results184,go_sem,f0,f1,f2,f3,f4,f5]) rfl ⟨_,rfl,hide ⟨⟨_,_,rfl,Ml.out.1,Ml.out.2⟩,?_⟩⟩;exact(((((((up eO.out HB1.out).setCell (Nat.le_refl _) _).setCell (Nat.le_refl _) _).setCell (Nat.le_refl _) _).setCell (Nat.le_refl _) _).setCell (Nat.le_refl _) _).setCell (Nat.le_refl _) _)
 ·have hii:R1=(i:Int):=hi;have hjj:R2=(j:Int):=hj;clear hj;clear hi;subst hii hjj;have hil:i<ns:=by rw[tQ.out];exact(List.getElem?_eq_some_iff.1 hyl).1
  obtain⟨u,gu,hu⟩:=gF.out.2.1 i l hyl;obtain⟨al,bl,ol,cl,rfl,hl0,-,ZL⟩:=hu;have hjl:j<l.length:=(List.getElem?_eq_some_iff.1 Sj).1;obtain⟨vb,ve,g0,g1,g2,g3,g4,g5,kb,ke⟩:=ZL j y Sj;have Ml:=hide (And.intro kb ke);obtain⟨ab,bb,ob,cb,rfl,-⟩:=kb;obtain⟨ae,be,oe,ce,rfl,-⟩:=ke;obtain rfl:=gF.out.1 (by rw[<-tQ.out];omega);obtain rfl:=hl0 (by omega);obtain⟨nb,hnb⟩:∃n,n=y.bounds.length:=⟨_,rfl⟩;obtain⟨ne,hne⟩:∃n,n=y.dF.length:=⟨_,rfl⟩;obtain⟨nl,hnl⟩:∃n,n=l.length:=⟨_,rfl⟩;rw[<-hnb]at g3 Ml;rw[<-hne]at g5 Ml;rw[<-hnl]at gu hjl;clear hnb hne hnl hl0 ZL;replace gu:=aA gu HW1.out;replace g0:=aA g0 HW1.out;replace g1:=aA g1 HW1.out;replace g2:=aA g2 HW1.out;replace g3:=aA g3 HW1.out;replace g4:=aA g4 HW1.out;replace g5:=aA g5 HW1.out;have y6:w1.cell? ⟨r.p,8,none⟩=some (.slice (some ⟨bs,os,none⟩) ns cs):=(aj K0 8).trans (by rw[<-HVS.out];rfl);clear Sj hyl K0 HY gF;have hR:=aN iC.out aah;have r0:=(aj hR 0).trans rfl;have r1:=(aj hR 1).trans rfl;have r2:=(aj hR 2).trans rfl;have r3:=(aj hR 3).trans rfl;have r4:=(aj hR 4).trans rfl;have r5:=(aj hR 5).trans rfl;have z0:=aD hR 0;have z1:=aD hR 1;have z2:=aD hR 2;have z3:=aD hR 3;have z4:=aD hR 4;have z5:=aD hR 5;have HR:=hide hR;clear hR;go_wp2_with fail;have hs:=set6 HR.out (.string y.fn) (.int .i64 y.mask) (.int .i64 y.level) (.slice ab nb cb) (.int .i64 y.pc) (.slice ae ne ce);have f0:=(aj hs 0).trans rfl;have f1:=(aj hs 1).trans rfl;have f2:=(aj hs 2).trans rfl;have f3:=(aj hs 3).trans rfl;have f4:=(aj hs 4).trans rfl;have f5:=(aj hs 5).trans rfl;refine bodyPost_ret (v:=.agg #[.string y.fn,.int .i64 y.mask,.int .i64 y.level,.slice ab nb cb,.int .i64 y.pc,.slice ae ne ce]) (by simp[results,results184,go_sem,f0,f1,f2,f3,f4,f5]) rfl ⟨_,rfl,hide ⟨⟨_,_,rfl,Ml.out.1,Ml.out.2⟩,?_⟩⟩;exact(((((((up eO.out HB1.out).setCell (Nat.le_refl _) _).setCell (Nat.le_refl _) _).setCell (Nat.le_refl _) _).setCell (Nat.le_refl _) _).setCell (Nat.le_refl _) _).setCell (Nat.le_refl _) _)
theorem MH(w:World)(r:Rx)(bG vc sP ve:Value)(call:ByteArray)(h:EH w r bG vc sP ve)(ht:Tg r call):
  Calls prog 184 #[.pointer (some ⟨r.p,0,none⟩),.string call] w λe w'=>∃v,e=.returned v/\Hid (xw w v (r.c.bO call)/\Below w.heap.size w w'):=
 xX w w r bG vc sP ve call h.ok (aX _ _) h ht
theorem qJ{W:World}{B:Nat}{t:TypeId}{r0 r1 r2:Value}(h:W.heap[B]?=some (.cells #[r0,r1,r2] t (0,0)))(c0 c1 c2:Value):(((W.setCell ⟨B,0,none⟩ c0).setCell ⟨B,1,none⟩ c1).setCell ⟨B,2,none⟩ c2).heap[B]?=some (.cells #[c0,c1,c2] t (0,0)):=
 (aQ (aQ (aQ h 0 c0) 1 c1) 2 c2).trans rfl
theorem fq{n B:Nat}{w W:World}(h:Below n w W)(hB:n<=B)(x y z:Value):Below n w (((W.setCell ⟨B,0,none⟩ x).setCell ⟨B,1,none⟩ y).setCell ⟨B,2,none⟩ z):=((h.setCell hB _).setCell hB _).setCell hB _
theorem Own.qK{w:World}{n B:Nat}{v:Value}{l:List ByteArray}{cs:Array Value}{t:TypeId}(h:Own w n v l)(hB:w.heap[B]?=some (.cells cs t (0,0)))(ht:t≠9)(x y z:Value):Own (((w.setCell ⟨B,0,none⟩ x).setCell ⟨B,1,none⟩ y).setCell ⟨B,2,none⟩ z) n v l:=
 h.keep λj cur _ hj=>by
  have hne:j≠B:=λe=>by rw[e,hB]at hj;injection hj with hj;injection hj with _ hj;exact ht hj
  exact aV (aV (aV hj hne x) hne y) hne z
theorem Own.wC{w:World}{n B i:Nat}{v:Value}{l:List ByteArray}{cs:Array Value}{t:TypeId}(h:Own w n v l)(hB:w.heap[B]?=some (.cells cs t (0,0)))(ht:t≠9)(x:Value):Own (w.setCell ⟨B,i,none⟩ x) n v l:=
 h.keep λj cur _ hj=>by
  have hne:j≠B:=λe=>by rw[e,hB]at hj;injection hj with hj;injection hj with _ hj;exact ht hj
  exact aV hj hne x
theorem zw{w wx wy:World}{v:Value}{l:List ByteArray}(h:Below w.heap.size w wx)(ho:Own wx w.heap.size v l)(hg:wx.grownBy wy v.ownBlock):Below w.heap.size w wy:=⟨hg.os.trans h.os,hg.tape.trans h.tape,hg.output.trans h.output,bS h.size hg.size,λk hk=>by rw[hg.block k (ql hk h.size) (λe=>by have:=(ho.lt k e.symm).1;omega)];exact h.block k hk⟩
theorem SA{wx wy:World}{n q:Nat}{v:Value}{l:List ByteArray}{cs:Array Value}{t:TypeId}(ho:Own wx n v l)(hg:wx.grownBy wy v.ownBlock)(hq:wx.heap[q]?=some (.cells cs t (0,0)))(ht:t≠9):wy.heap[q]?=some (.cells cs t (0,0)):=by
 rw[hg.block q (block_lt hq) (λe=>?_)];·exact hq
 ·obtain⟨cur,hc⟩:=ho.typ q e.symm;rw[hq]at hc;injection hc with hc;injection hc with _ hc;exact ht hc
theorem Dl{w wx wy:World}(h:Below w.heap.size w wx)(hg:wx.grownBy wy none):Below w.heap.size w wy:=⟨hg.os.trans h.os,hg.tape.trans h.tape,hg.output.trans h.output,bS h.size hg.size,λk hk=>by rw[hg.block k (ql hk h.size) (λe=>by cases e)];exact h.block k hk⟩
theorem SC{wx wy:World}(hg:wx.grownBy wy none):Below wx.heap.size wx wy:=Dl (aX _ _) hg
theorem Dm(w:World)(r:Rx)(bG vc sP ve va vb:Value)(a b:Hg)(h:EH w r bG vc sP ve)(ha:Strs w va a.1)(hb:Strs w vb b.1)(la:a.2<r.c.N)(lb:b.2<r.c.N)(hl:a.1.length+b.1.length<=16777216):Calls prog 180 #[.pointer (some ⟨r.p,0,none⟩),.agg #[va,.int .i64 0,.int .i64 (a.2:Nat)],.agg #[vb,.int .i64 0,.int .i64 (b.2:Nat)]] w λe w'=>∃v,e=.returned (.agg #[v,.int .i64 0,.int .i64 ((r.c.and a b).2:Nat)])/\Hid (Own w' w.heap.size v (r.c.and a b).1/\Below w.heap.size w w'):=by
 obtain⟨W,hW,k0,k1,k2,hsz,hBW⟩:=Rl w (.cells #[va,.int .i64 0,.int .i64 (a.2:Nat)] 181) (.cells #[vb,.int .i64 0,.int .i64 (b.2:Nat)] 181) (.cells #[.slice none 0 0,.int .i64 0,.int .i64 0] 181);have HZA:=hide (λs hs=>by obtain⟨_,_,_,_,_,_,_,hz,_⟩:=ha;exact hz s hs:∀s∈a.1,s.size<=maxLen);have HZB:=hide (λs hs=>by obtain⟨_,_,_,_,_,_,_,hz,_⟩:=hb;exact hz s hs:∀s∈b.1,s.size<=maxLen);have HBO:Hid (∀wx,Below W.heap.size W wx->Calls prog 106 #[.agg #[r.vn,r.vl],.agg #[.int .i64 0,.int .i64 (a.2:Nat)],.agg #[.int .i64 0,.int .i64 (b.2:Nat)]] wx λe w'=>e=.returned (.agg #[.int .i64 0,.int .i64 ((r.c.and a b).2:Nat)])/\Below wx.heap.size wx w'):=hide λwx hx=>by have hh:=Z0 wx r.vn r.vl r.ss r.G r.L r.Z (0,a.2) (0,b.2) ((h.below (up hBW hx)).laAt) ⟨by show(0:Nat)<16;omega,la⟩ ⟨by show(0:Nat)<16;omega,lb⟩;have e:Sv.join r.Z r.ss.length (0,a.2) (0,b.2)=(0,(r.c.and a b).2):=Prod.ext (by simp[Sv.join]) rfl;rw[e]at hh;exact hh
 obtain⟨aa,ab,ao,ac,hva,haa,-,-,hca⟩:=ha.below hBW;obtain⟨ba,bb,bo,bc,hvb,hba,-,-,hcb⟩:=hb.below hBW;have p9:=hide hca;have HAA:=hide haa;have pz:=hide hcb;have HBA:=hide hba;subst hva hvb;obtain⟨na,hna⟩:=aG a.1.length;obtain⟨nb,hnb⟩:=aG b.1.length;have kZ:=hide hna;have nR:=hide hnb;rw[<-hna]at k0 HAA p9 hl hW ⊢;rw[<-hnb]at k1 HBA pz hl hW ⊢;have UU:Hid (Strs W (.slice aa na ac) a.1):=hide (by rw[hna];exact ha.below hBW);have HST:=hide (λwx (hx:Below W.heap.size W wx)=>(aj (aN h.blk (up hBW hx))));have HF:Hid (∀wx,Below W.heap.size W wx->wx.cell? ⟨w.heap.size,0,none⟩=some (.slice aa na ac)/\wx.cell? ⟨r.p,0,none⟩=some r.vn/\wx.cell? ⟨r.p,1,none⟩=some r.vl/\wx.cell? ⟨w.heap.size,1,none⟩=some (.int .i64 0)/\wx.cell? ⟨w.heap.size,2,none⟩=some (.int .i64 (a.2:Nat))/\wx.cell? ⟨w.heap.size+1,1,none⟩=some (.int .i64 0)/\wx.cell? ⟨w.heap.size+1,2,none⟩=some (.int .i64 (b.2:Nat))):=hide λwx hx =>⟨(aj (aN k0 hx) 0).trans rfl,(HST wx hx 0).trans rfl,(HST wx hx 1).trans rfl,(aj (aN k0 hx) 1).trans rfl,(aj (aN k0 hx) 2).trans rfl,(aj (aN k1 hx) 1).trans rfl,(aj (aN k1 hx) 2).trans rfl⟩;have NA:=hide (λwx (hx:Below W.heap.size W wx)=>(aj (aN k1 hx) 0).trans (rfl:_=some (Value.slice ba nb bc)));have zu:=hide k2;have eO:=hide hBW;have HL:=hide hl;obtain⟨J,hJ⟩:=aG ((r.c.and a b).2);rw[<-hJ]at HBO ⊢;have HAD:Hid ((r.c.and a b).1=Fl.adds a.1 b.1):=hide rfl;rw[HAD];obtain⟨WS,hWS⟩:=aG W.heap.size;have HWS:=hide hWS;have HNW:Hid (w.heap.size<=W.heap.size):=hide hBW.size;clear h ha hb la lb hl k0 k1 k2 hsz hBW hca haa hcb hba hna hnb hJ hWS HST;go_enter func180,ntmps180;go_upto_region 1 with fail;rw[<-hW];clear hW;go_cut [7]from 8 (λt wx=>∃(B:Nat) (v:Value),t=.pointer (some ⟨B,0,none⟩)/\Hid (W.heap.size<=B/\wx.heap[B]?=some (.cells #[v,.int .i64 0,.int .i64 (J:Nat)] 181 (0,0))/\Own wx W.heap.size v a.1/\Below W.heap.size W wx));case first=>
  obtain⟨w0,hw0⟩:=aG W.drew;have HB0:Hid (Below W.heap.size W w0):=hide (by rw[hw0];exact aK (aX W.heap.size W));have xA:=hide (Hy (w:=W) (b:=ab) (off:=ao) (l:=a.1) (by rw[<-kZ];exact p9));obtain⟨c0,c1,c2,c3,c4,c5,c6⟩:=HF _ HB0;refine bg [some false,some true,none,some false,some false,some false,some true,some false,some true,some false,some true,none,none,none,none] 14 (λw'=>w'.cell? ⟨w.heap.size,0,none⟩=some (.slice aa na ac)/\w'.cell? ⟨r.p,0,none⟩=some r.vn/\w'.cell? ⟨r.p,1,none⟩=some r.vl/\w'.cell? ⟨w.heap.size,1,none⟩=some (.int .i64 0)/\w'.cell? ⟨w.heap.size,2,none⟩=some (.int .i64 (a.2:Nat))/\w'.cell? ⟨w.heap.size+1,1,none⟩=some (.int .i64 0)/\w'.cell? ⟨w.heap.size+1,2,none⟩=some (.int .i64 (b.2:Nat))) 5 (by kernel_rfl) (by kernel_rfl) (λ_ _ d _ _ h=>(by cases d<;>exact h)) (by rw[<-hw0];exact⟨c0,c1,c2,c3,c4,c5,c6⟩) ?_;dsimp only[dO];repeat(first|(refine dx (v:=?_) (by rfl) ?_ ?_;rotate_left 1;(focus(intro w;go_simp;try(with_reducible rfl)));simp only[Act.put,eU,dJ,dQ])|(refine dz (v:=?_) (by rfl) ?_ ?_;rotate_left 1;(focus(intro w hSw;obtain⟨c0,c1,c2,c3,c4,c5,c6⟩:=hSw;go_simp;try(with_reducible rfl)));simp only[Act.put,eU,dJ,dQ]))
  refine bQ ?_;rw[<-hw0];clear hw0;refine kQ (i:=2) (k:=13) (by kernel_rfl) (by rfl) (by rfl) (λK hK=>?_) (λK hK=>?_)
  ·refine nM (by rfl) _ _ 22 9 1 16 _ (by rfl) underlying22 qo (by decide) (by decide) W.heap.size (.slice none 0 0) 0 [] (by rfl) (nP _ _ _ _) aa ab ao na ac (a.1.map Value.string) (by rfl) HAA (by rw[kZ];simp) (λj u hu=>aA (xA.1 j u hu) HB0) xA.2 (by have:=HL.out;unfold maxLen;omega) (by have:=HL.out;omega) HB0.size ?_;intro v1 w1 hown hgrow hz1 hp1;have HO1:Hid (Own w1 W.heap.size v1 a.1):=hide (by rw[fT,ug]at hown;unfold Own;rw[<-kZ];exact hown);have HB1:=hide (Dl HB0 hgrow);obtain⟨N8,vc1,hv1⟩:=HO1.iA;rw[<-kZ]at hv1;subst hv1;clear hown hgrow hz1 hp1;refine hK _ _ (λ_=>HF _ HB1) ?_;clear hK K;refine kQ (i:=11) (k:=13) (by kernel_rfl) (by rfl) (by rfl) (λK hK=>?_) (λK hK=>?_)
   ·go_simp;go_at_call 106;refine(HBO _ HB1).mono ?_;rintro e w2 ⟨rfl,hbb⟩;have HB2:=hide (up HB1 hbb);have JC:Hid (Own w2 W.heap.size (.slice N8 na vc1) a.1):=hide (own_below HO1 hbb);clear hbb;dsimp only;refine hK _ _ (λ_=>HF _ HB2) ?_;clear hK K;refine kQ (i:=12) (k:=13) (by kernel_rfl) (by rfl) (by rfl) (λK hK=>?_) (λK hK=>?_);·go_simp;obtain⟨w3,hnx⟩:=aG w2;rw[<-hnx];rw[<-hnx]at HB2 JC;have HB3:=HB2;have HO3:=JC;clear hnx;refine hK _ _ (λ_=>HF _ HB3) ?_;clear hK K;refine aF (i:=13) (by kernel_rfl) (by rfl) (λK hK=>?_);go_simp;have qY:=hide (up HB3 (aB w3 (.cells #[.slice none 0 0,.int .i64 0,.int .i64 0] 181)));have pX:=hide (aJ w3 (.cells #[.slice none 0 0,.int .i64 0,.int .i64 0] 181));have HXB:Hid (W.heap.size<=w3.heap.size):=hide HB3.out.size;have Ir:Hid (Own (w3.alloc (.cells #[.slice none 0 0,.int .i64 0,.int .i64 0] 181)) W.heap.size (.slice N8 na vc1) a.1):=hide (own_below HO3 (aB w3 (.cells #[.slice none 0 0,.int .i64 0,.int .i64 0] 181)));obtain⟨B,hB⟩:=aG w3.heap.size;obtain⟨w4,hnx⟩:=aG (w3.alloc (.cells #[.slice none 0 0,.int .i64 0,.int .i64 0] 181));rw[<-hnx]at qY pX Ir ⊢;rw[<-hB]at pX HXB ⊢;clear hnx hB;refine hK _ _ (λ_=>HF _ qY) ?_;clear hK K;have r0:=(aj pX 0).trans rfl;have z0:=aD pX 0;have r1:=(aj pX 1).trans rfl;have z1:=aD pX 1;have r2:=(aj pX 2).trans rfl;have z2:=aD pX 2;refine aF (i:=14) (by kernel_rfl) (by rfl) (λK hK=>?_);go_simp;refine hK _ _ (λh=>absurd (h.symm.trans (by kernel_rfl)) dK) ?_;clear hK K;refine bB (by kernel_rfl) ?_ _;go_wp2_with fail;go_meet;case rel=>exact⟨B,.slice N8 na vc1,rfl,hide ⟨HXB,qJ pX _ _ _,Ir.qK pX (by decide) _ _ _,fq qY HXB _ _ _⟩⟩
    ·go_simp;have HB3:=hide (up HB2 (aB w2 (.cells #[.slice none 0 0,.int .i64 0,.int .i64 0] 181)));have HX3:=hide (aJ w2 (.cells #[.slice none 0 0,.int .i64 0,.int .i64 0] 181));have HXB:Hid (W.heap.size<=w2.heap.size):=hide HB2.out.size;have HO3:Hid (Own (w2.alloc (.cells #[.slice none 0 0,.int .i64 0,.int .i64 0] 181)) W.heap.size (.slice N8 na vc1) a.1):=hide (own_below JC (aB w2 (.cells #[.slice none 0 0,.int .i64 0,.int .i64 0] 181)));obtain⟨B,hB⟩:=aG w2.heap.size;obtain⟨w3,hnx⟩:=aG (w2.alloc (.cells #[.slice none 0 0,.int .i64 0,.int .i64 0] 181));rw[<-hnx]at HB3 HX3 HO3 ⊢;rw[<-hB]at HX3 HXB ⊢;clear hnx hB;refine hK _ _ (λ_=>HF _ HB3) ?_;clear hK K;refine aF (i:=12) (by kernel_rfl) (by rfl) (λK hK=>?_);go_simp;obtain⟨w4,hnx⟩:=aG w3;rw[<-hnx];rw[<-hnx]at HB3 HO3 HX3;have qY:=HB3;have Ir:=HO3;have pX:=HX3;clear hnx;refine hK _ _ (λ_=>HF _ qY) ?_;clear hK K;have r0:=(aj pX 0).trans rfl;have z0:=aD pX 0;have r1:=(aj pX 1).trans rfl;have z1:=aD pX 1;have r2:=(aj pX 2).trans rfl;have z2:=aD pX 2;refine aF (i:=14) (by kernel_rfl) (by rfl) (λK hK=>?_);go_simp;refine hK _ _ (λh=>absurd (h.symm.trans (by kernel_rfl)) dK) ?_;clear hK K;refine bB (by kernel_rfl) ?_ _;go_wp2_with fail;go_meet;case rel=>exact⟨B,.slice N8 na vc1,rfl,hide ⟨HXB,qJ pX _ _ _,Ir.qK pX (by decide) _ _ _,fq qY HXB _ _ _⟩⟩
   ·go_simp;have HB2:=hide (up HB1 (aB w1 (.cells #[.slice none 0 0,.int .i64 0,.int .i64 0] 181)));have HX2:=hide (aJ w1 (.cells #[.slice none 0 0,.int .i64 0,.int .i64 0] 181));have HXB:Hid (W.heap.size<=w1.heap.size):=hide HB1.out.size;have JC:Hid (Own (w1.alloc (.cells #[.slice none 0 0,.int .i64 0,.int .i64 0] 181)) W.heap.size (.slice N8 na vc1) a.1):=hide (own_below HO1 (aB w1 (.cells #[.slice none 0 0,.int .i64 0,.int .i64 0] 181)));obtain⟨B,hB⟩:=aG w1.heap.size;obtain⟨w2,hnx⟩:=aG (w1.alloc (.cells #[.slice none 0 0,.int .i64 0,.int .i64 0] 181));rw[<-hnx]at HB2 HX2 JC ⊢;rw[<-hB]at HX2 HXB ⊢;clear hnx hB;refine hK _ _ (λ_=>HF _ HB2) ?_;clear hK K;refine aF (i:=11) (by kernel_rfl) (by rfl) (λK hK=>?_);go_simp;go_at_call 106;refine(HBO _ HB2).mono ?_;rintro e w3 ⟨rfl,hbb⟩;have HB3:=hide (up HB2 hbb);have HO3:Hid (Own w3 W.heap.size (.slice N8 na vc1) a.1):=hide (own_below JC hbb);have HX3:=hide (aN HX2 hbb);clear hbb;dsimp only;refine hK _ _ (λ_=>HF _ HB3) ?_;clear hK K;refine aF (i:=12) (by kernel_rfl) (by rfl) (λK hK=>?_);go_simp;obtain⟨w4,hnx⟩:=aG w3;rw[<-hnx];rw[<-hnx]at HB3 HO3 HX3;have qY:=HB3;have Ir:=HO3;have pX:=HX3;clear hnx;refine hK _ _ (λ_=>HF _ qY) ?_;clear hK K;have r0:=(aj pX 0).trans rfl;have z0:=aD pX 0;have r1:=(aj pX 1).trans rfl;have z1:=aD pX 1;have r2:=(aj pX 2).trans rfl;have z2:=aD pX 2;refine aF (i:=14) (by kernel_rfl) (by rfl) (λK hK=>?_);go_simp;refine hK _ _ (λh=>absurd (h.symm.trans (by kernel_rfl)) dK) ?_;clear hK K;refine bB (by kernel_rfl) ?_ _;go_wp2_with fail;go_meet;case rel=>exact⟨B,.slice N8 na vc1,rfl,hide ⟨HXB,qJ pX _ _ _,Ir.qK pX (by decide) _ _ _,fq qY HXB _ _ _⟩⟩
  ·go_simp;have HB1:=hide (up HB0 (aB w0 (.cells #[.slice none 0 0,.int .i64 0,.int .i64 0] 181)));have HX1:=hide (aJ w0 (.cells #[.slice none 0 0,.int .i64 0,.int .i64 0] 181));have HXB:Hid (W.heap.size<=w0.heap.size):=hide HB0.out.size;obtain⟨B,hB⟩:=aG w0.heap.size;obtain⟨w1,hnx⟩:=aG (w0.alloc (.cells #[.slice none 0 0,.int .i64 0,.int .i64 0] 181));rw[<-hnx]at HB1 HX1 ⊢;rw[<-hB]at HX1 HXB ⊢;clear hnx hB;refine hK _ _ (λ_=>HF _ HB1) ?_;clear hK K;refine aF (i:=2) (by kernel_rfl) (by rfl) (λK hK=>?_);refine nM (by rfl) _ _ 22 9 1 16 _ (by rfl) underlying22 qo (by decide) (by decide) W.heap.size (.slice none 0 0) 0 [] (by rfl) (nP _ _ _ _) aa ab ao na ac (a.1.map Value.string) (by rfl) HAA (by rw[kZ];simp) (λj u hu=>aA (xA.1 j u hu) HB1) xA.2 (by have:=HL.out;unfold maxLen;omega) (by have:=HL.out;omega) HB1.size ?_;intro v1 w2 hown hgrow hz1 hp1;have JC:Hid (Own w2 W.heap.size v1 a.1):=hide (by rw[fT,ug]at hown;unfold Own;rw[<-kZ];exact hown);have HB2:=hide (Dl HB1 hgrow);have HX2:=hide (aN HX1 (SC hgrow));obtain⟨N8,vc1,hv1⟩:=JC.iA;rw[<-kZ]at hv1;subst hv1;clear hown hgrow hz1 hp1;refine hK _ _ (λ_=>HF _ HB2) ?_;clear hK K;refine aF (i:=11) (by kernel_rfl) (by rfl) (λK hK=>?_);go_simp;go_at_call 106;refine(HBO _ HB2).mono ?_;rintro e w3 ⟨rfl,hbb⟩;have HB3:=hide (up HB2 hbb);have HO3:Hid (Own w3 W.heap.size (.slice N8 na vc1) a.1):=hide (own_below JC hbb);have HX3:=hide (aN HX2 hbb);clear hbb;dsimp only;refine hK _ _ (λ_=>HF _ HB3) ?_;clear hK K;refine aF (i:=12) (by kernel_rfl) (by rfl) (λK hK=>?_);go_simp;obtain⟨w4,hnx⟩:=aG w3;rw[<-hnx];rw[<-hnx]at HB3 HO3 HX3;have qY:=HB3;have Ir:=HO3;have pX:=HX3;clear hnx;refine hK _ _ (λ_=>HF _ qY) ?_;clear hK K;have r0:=(aj pX 0).trans rfl;have z0:=aD pX 0;have r1:=(aj pX 1).trans rfl;have z1:=aD pX 1;have r2:=(aj pX 2).trans rfl;have z2:=aD pX 2;refine aF (i:=14) (by kernel_rfl) (by rfl) (λK hK=>?_);go_simp;refine hK _ _ (λh=>absurd (h.symm.trans (by kernel_rfl)) dK) ?_;clear hK K;refine bB (by kernel_rfl) ?_ _;go_wp2_with fail;go_meet;case rel=>exact⟨B,.slice N8 na vc1,rfl,hide ⟨HXB,qJ pX _ _ _,Ir.qK pX (by decide) _ _ _,fq qY HXB _ _ _⟩⟩
 case rest=>
  obtain⟨B,v,rfl,hcc⟩:=hcut;have nQ:=hide hcc.out.1;have HI0:Hid (wc.heap[B]?=some (.cells #[v,.int .i64 0,.int .i64 (J:Nat)] 181 (0,0))/\Own wc W.heap.size v (Fl.adds a.1 (b.1.take 0))/\Below W.heap.size W wc):=hide hcc.out.2;clear hcc;have hnbb:nb<=16777216:=by have:=HL.out;omega
  go_wp2_with fail;go_loopw[8] (λi wx=>∃(j:Nat) (v:Value),j<=nb/\i=.int .i64 j/\Hid (wx.heap[B]?=some (.cells #[v,.int .i64 0,.int .i64 (J:Nat)] 181 (0,0))/\Own wx W.heap.size v (Fl.adds a.1 (b.1.take j))/\Below W.heap.size W wx)) (λi _=>nb - (intOf i).toNat);case atStart=>exact⟨0,v,bJ _,rfl,HI0⟩
  case round=>
   obtain⟨j,v,hj,rfl,HI⟩:=hrel;obtain⟨hblk,hown,hbel⟩:=HI.out;have uG:=hide hblk;have HOWN:=hide hown;have pO:=hide hbel;have kK:Hid ((Fl.adds a.1 (b.1.take j)).length<=16777216):=hide (by have h1:=bN (b.1.take j) a.1;have h2:=HL.out;have h3:=kZ.out;have h4:=nR.out;rw[d9]at h1;omega);obtain⟨oa,oc,rfl⟩:=hown.iA;obtain⟨L,hL⟩:=aG ((Fl.adds a.1 (b.1.take j)).length);have HLL:=hide hL;rw[<-hL]at hblk uG HOWN;have q1:=NA wr hbel;have hZZ:∀s∈Fl.adds a.1 (b.1.take j),s.size<=maxLen:=λs hs=>by
    rcases aY.1 hs with h|h;·exact HZA s h
    ·exact HZB s (nS h)
   have HSTR:Hid (Strs wr (.slice oa L oc) (Fl.adds a.1 (b.1.take j))):=hide (HOWN.strs hZZ (by have:=kK.out;omega));clear hblk hown hbel hL hZZ HI;by_cases hjl:j<nb
   ·have g0:=pz j hjl;obtain rfl:=HBA (by omega);obtain⟨s,hs⟩:∃s,b.1[j]?=some s:=⟨_,aU (by rw[<-nR];exact hjl)⟩;rw[rJ,hs,kr]at g0;have HSJ:Hid (b.1.take (j+1)=b.1.take j++[s]):=hide (by rw[iY,hs,sj]);have F7:=hide (HZB s (gD hs));have HG00:=hide g0;replace g0:=aA g0 pO;have HG0:=hide g0;have nY:=hide (λq os=>dh (gn wr q os) _ _ s (HSTR.below (aS wr q os)));have b0:=aM ((aj uG 0).trans (rfl:_=some (Value.slice oa L oc)));have q2:=aM q1;have g2:=aM g0;simp only[sD]at nY;clear hs;cases hh:Fl.has (Fl.adds a.1 (b.1.take j)) s with
    | true=>
     have HAD2:Hid (Fl.adds a.1 (b.1.take (j+1))=Fl.adds a.1 (b.1.take j)):=hide (by rw[HSJ,aT,mG,jq];unfold Fl.add;rw[if_pos hh]);rw[hh]at nY;clear hh;go_wp2_with fail;refine aO (by kernel_rfl) (by kernel_rfl) ?_;repeat(quiet_step ((exact Calls.y9 (nY _ _))))
     refine wpQuiet_nil ?_;intro w5 hw';obtain⟨⟨nq,osq⟩,hw''⟩:=hw';have dw:=hide (show Below wr.heap.size wr w5 by rw[hw''];exact aS wr nq osq);clear hw'' b0 q2 g2 q1 g0 nY;go_wp2_with fail;go_roundw;case rel=>exact⟨j+1,_,by omega,by go_num,hide ⟨aN uG dw,by rw[HAD2];exact own_below HOWN dw,up pO dw⟩⟩
     case measure=>simp[intOf];omega
    | false=>
     have HAD2:Hid (Fl.adds a.1 (b.1.take (j+1))=Fl.adds a.1 (b.1.take j)++[s]):=hide (by rw[HSJ,aT,mG,jq];unfold Fl.add;rw[if_neg (by rw[hh];simp)]);rw[hh]at nY;clear hh;go_wp2_with fail;refine aO (by kernel_rfl) (by kernel_rfl) ?_;repeat(quiet_step ((exact Calls.y9 (nY _ _))))
     refine wpQuiet_nil ?_;intro w5 hw';obtain⟨⟨nq,osq⟩,hw''⟩:=hw';have hb5:Below wr.heap.size wr w5:=by rw[hw''];exact aS wr nq osq
     have dw:=hide (up pO hb5);have HBLK5:=hide (aN uG hb5);have HOWN5:Hid (Own w5 W.heap.size (.slice oa L oc) (Fl.adds a.1 (b.1.take j))):=hide (own_below HOWN hb5);have HG5:=hide (aA HG0 hb5);have SE:=hide (aA q1 hb5);clear hw'' b0 q2 g2 q1 g0 nY hb5;have d0:=(aj HBLK5 0).trans (rfl:_=some (Value.slice oa L oc));go_wp2_with fail;refine bg [some false,some true,some false,some true,some false,some false,some true,none,none,none,none] 9 (λw'=>w'.cell? ⟨B,0,none⟩=some (.slice oa L oc)/\w'.cell? ⟨w.heap.size+1,0,none⟩=some (.slice (some ⟨bb,bo,none⟩) nb bc)/\w'.cell? ⟨bb,bo+j,none⟩=some (.string s)) 4 (by kernel_rfl) (by kernel_rfl) (λ_ _ d _ _ h=>(by cases d<;>exact h)) ⟨d0,SE,HG5⟩ ?_;dsimp only[dO];repeat(first|(refine dx (v:=?_) (by rfl) ?_ ?_;rotate_left 1;(focus(intro w;go_simp;try(with_reducible rfl)));simp only[Act.put,eU,dJ,dQ])|(refine dz (v:=?_) (by rfl) ?_ ?_;rotate_left 1;(focus(intro w hSw;obtain⟨d0,d1,d2⟩:=hSw;go_simp;try(with_reducible rfl)));simp only[Act.put,eU,dJ,dQ]))
     refine bQ ?_;refine aF (i:=7) (by kernel_rfl) (by rfl) (λK hK=>?_);go_simp;have dH:Hid (Below w5.heap.size w5 (w5.alloc (.cells #[.string s] 9)).drew):=hide (aK (aB _ _));have HXB:Hid ((w5.alloc (.cells #[.string s] 9)).drew.heap[w5.heap.size]?=some (.cells #[.string s] 9 (0,0))):=hide (aJ w5 (.cells #[.string s] 9));generalize (w5.alloc (.cells #[.string s] 9)).drew=w6 at *;refine hK _ _ (λ_=>⟨aA d0 dH,aA SE dH,aA HG5 dH⟩) ?_;clear hK K;have HOWN6:Hid (Own w6 W.heap.size (.slice oa L oc) (Fl.adds a.1 (b.1.take j))):=hide (own_below HOWN5 dH);have HBLK6:=hide (aN HBLK5 dH);have dB:=hide (up dw dH);refine aF (i:=8) (by kernel_rfl) (by rfl) (λK hK=>?_);refine qV (by rfl) _ _ (by rfl) W.heap.size _ _ (by rfl) HOWN6 w5.heap.size s (by rfl) ((aj HXB 0).trans rfl) (by have:=kK.out;omega) dB.size ?_;intro g8 CU w8 fU bV kg;have HOWN8:=hide fU;have iq:=hide (SA HOWN6 bV HBLK6 (by decide));have xg:=hide (zw dB HOWN6 bV);clear fU bV kg;rw[<-HLL]at HOWN8 ⊢;refine hK _ _ (λ_=>⟨(aj iq 0).trans rfl,NA w8 xg,aA HG00 xg⟩) ?_;clear hK K;simp only[Act.put,eU];refine aF (i:=9) (by kernel_rfl) (by rfl) (λK hK=>?_);go_simp;refine hK _ _ (λh=>absurd (h.symm.trans (by kernel_rfl)) dK) ?_;clear hK K;have y0:=(aj iq 0).trans (rfl:_=some (Value.slice oa L oc));have yz:=aD iq 0;refine aF (i:=10) (by kernel_rfl) (by rfl) (λK hK=>?_);go_simp;refine hK _ _ (λh=>absurd (h.symm.trans (by kernel_rfl)) dK) ?_;clear hK K;refine bB (by kernel_rfl) ?_ _;go_wp2_with fail;go_roundw;case rel=>exact⟨j+1,.slice (some ⟨g8,0,none⟩) (L+1) CU,by omega,by go_num,hide ⟨(aQ iq 0 _).trans rfl,by rw[HAD2];exact HOWN8.wC iq (by decide) _,xg.setCell (p:=⟨B,0,none⟩) nQ _⟩⟩
     case measure=>simp[intOf];omega
   ·obtain rfl:j=nb:=by omega
    have HAL:Hid (Fl.adds a.1 (b.1.take j)=Fl.adds a.1 b.1):=hide (by rw[nR,gG]);have iG:=hide (aN zu pO);have b0:=(aj uG 0).trans (rfl:_=some (Value.slice oa L oc));have b1:=(aj uG 1).trans rfl;have b2:=(aj uG 2).trans rfl;have r0:=(aj iG 0).trans rfl;have r1:=(aj iG 1).trans rfl;have r2:=(aj iG 2).trans rfl;have z0:=aD iG 0;have z1:=aD iG 1;have z2:=aD iG 2;go_wp2_with fail;have hs:=qJ iG (.slice oa L oc) (.int .i64 0) (.int .i64 (J:Nat));have f0:=(aj hs 0).trans rfl;have f1:=(aj hs 1).trans rfl;have f2:=(aj hs 2).trans rfl;refine bodyPost_ret (v:=.agg #[.slice oa L oc,.int .i64 0,.int .i64 (J:Nat)]) (by simp[results,results180,go_sem,f0,f1,f2]) rfl ⟨_,rfl,hide ⟨?_,fq (eO.trans (pO.mono HNW)) (bS (bP _) (bP _)) _ _ _⟩⟩;have h1:=HOWN.out;rw[HAL]at h1;exact(h1.Dk HNW).qK iG (by decide) _ _ _
namespace Fl
section
variable {c : Env}
theorem Env.jS:∀{m:Nat} {x:Ex} {v:ByteArray},c.qc m x->v∈c.fQ m x->v.size<=17
 | 0,_,_,hx,_=>False.elim hx
 | m+1,x,v,hx,hv=>by
  obtain⟨h1,_,_,hr⟩:=hx;simp only[Env.fQ,cK,dS]at hv;rcases hv with hv|⟨y,hy,hv⟩
  ·split at hv
   ·unfold Env.BI at hv;split at hv;·simp at hv
    ·rw[iy]at hv;subst hv;exact h1
   ·simp at hv
  ·exact Env.jS (hr y hy) hv
theorem Env.tV{m:Nat}{x:Ex}(h:c.qc m x):∀v∈(c.hg m x).1,v.size<=maxLen:=λ_ hv=>bS (Env.jS h (Env.JO h hv)) (by decide)
theorem Env.UG{f:Ex->Hg}{g:Ex->Nat}{k:Int}{h0:Hg}{args:List Ex}:∀j,j<=args.length->(∀x∈args,(f x).1.length<=g x)->(c.hgA f k h0 args j).1.length<=h0.1.length+((args.take j).map g).sum:=by
 intro j;induction j with
 | zero=>intro _ _;exact Nat.le_add_right _ _
 | succ j ih=>
  intro hj hf;have h1:=ih (by omega) hf;have hl:j<args.length:=by omega
  rw[iY,aU hl,sj,cZ,nT,List.map_singleton,List.sum_singleton];simp only[Env.hgA];split
  ·have h2:=bN (f (args.getD j YK)).1 (c.hgA f k h0 args j).1;have h3:=hf _ (kE hl);have e:args.getD j YK=args[j]:=by rw[List.getD,aU hl];rfl
   rw[e]at h2 h3;rw[e];simp only[Env.and];omega
  ·omega
theorem Env.nN:∀{m:Nat} {x:Ex},c.qc m x->(c.hg m x).1.length<=eu m x
 | 0,_,hx=>False.elim hx
 | m+1,x,hx=>by
  obtain⟨_,h3,_,hr⟩:=hx;simp only[Env.hg,eu];split;·unfold Env.nh;split<;>simp<;>omega
  ·split
   ·rename_i e;obtain⟨p,q,he⟩:∃p q,x.args=[p,q]:=by
     have hl:=h3 e;match x.args,hl with
     | [p,q],_=>exact⟨p,q,rfl⟩
    have hp:=Env.nN (hr p (by rw[he];simp));have hq:=Env.nN (hr q (by rw[he];simp));rw[he];simp only[List.getD_cons_zero,List.getD_cons_succ,dN,iK,jE,List.sum_nil,Env.and];have:=bN (c.hg m q).1 (c.hg m p).1;omega
   ·split;·have:=Env.UG (c:=c) (f:=c.hg m) (k:=(c.bO x.name).mask) (h0:=([],(c.bO x.name).level.toNat)) (g:=eu m) x.args.length (bM _) (λy hy=>Env.nN (hr y hy));rw[gG]at this;simp only[r9]at this;omega
    ·simp
end
end Fl
def wD(w:World)(r:Rx)(bG vc sP ve:Value)(m:Nat)(c0 c1 c2 c3:Value)(x:Ex):Prop:=
 EH w r bG vc sP ve/\gq w m c0 c1 c2 c3 x/\r.c.qc m x/\(∀s∈Fl.cls m x,Tg r s)/\eu m x<=1048576
def HdOk(m:Nat):Prop:=∀(w:World) (r:Rx) (bG vc sP ve c0 c1 c2 c3:Value) (x:Ex),wD w r bG vc sP ve m c0 c1 c2 c3 x->
 Calls prog 96 #[.pointer (some ⟨r.p,0,none⟩),.agg #[c0,c1,c2,c3]] w λe w'=>∃v,e=.returned (.agg #[v,.int .i64 0,.int .i64 ((r.c.hg m x).2:Nat)])/\Hid (Own w' w.heap.size v (r.c.hg m x).1/\Below w.heap.size w w')
theorem wD.arg{w:World}{r:Rx}{bG vc sP ve:Value}{m:Nat}{c0 c1 c2 c3:Value}{x:Ex}(h:wD w r bG vc sP ve (m+1) c0 c1 c2 c3 x){y:Ex}(hy:y∈x.args){d0 d1 d2 d3:Value}(hd:gq w m d0 d1 d2 d3 y):wD w r bG vc sP ve m d0 d1 d2 d3 y:=by
 obtain⟨h1,_,h3,h4,h5⟩:=h;refine⟨h1,hd,h3.2.2.2 y hy,λs hs=>h4 s ?_,?_⟩;·simp only[Fl.cls,cK,dS];exact Or.inr ⟨y,hy,hs⟩
 ·have:=wW (g:=eu m) hy;simp only[eu]at h5;omega
theorem wD.below{w w':World}{r:Rx}{bG vc sP ve:Value}{m:Nat}{c0 c1 c2 c3:Value}{x:Ex}(h:wD w r bG vc sP ve m c0 c1 c2 c3 x)(hb:Below w.heap.size w w'):wD w' r bG vc sP ve m c0 c1 c2 c3 x:=
 ⟨h.1.below hb,h.2.1.below hb,h.2.2⟩
theorem own_oneD{w:World}{B g:Nat}{s:ByteArray}(h:w.heap[g]?=some (.cells #[.string s] 9 (0,0)))(hB:B<=g):Own w B (.slice (some ⟨g,0,none⟩) 1 1) [s]:=
 ⟨by simp,Or.inr ⟨g,1,#[.string s],by simp,hB,h,by simp,by decide,by simp,by simp⟩⟩
theorem bitR16:∀mk:Fin 16,∀j:Fin 5,(Int.tmod (((mk:Nat):Int) / 2 ^ (j:Nat)) 2==1)=Fl.bit ((mk:Nat):Int) j:=by decide +kernel
theorem PL{W:World}{B q:Nat}{ob:Obj}(h:W.heap[q]?=some ob)(hq:q≠B)(c0 c1 c2:Value):(((W.setCell ⟨B,0,none⟩ c0).setCell ⟨B,1,none⟩ c1).setCell ⟨B,2,none⟩ c2).heap[q]?=some ob:=by rw[qm _ _ _ _ hq,qm _ _ _ _ hq,qm _ _ _ _ hq];exact h
theorem PN{W:World}{B q i:Nat}{ob:Obj}(h:W.heap[q]?=some ob)(hq:q≠B)(c0:Value):(W.setCell ⟨B,i,none⟩ c0).heap[q]?=some ob:=by rw[qm _ _ _ _ hq];exact h
end Go.Proofs.YtfnboapebijcpaaGreatDoor
