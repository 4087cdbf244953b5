/- part -/
import Derived.Test.YtbgkpehhdibaoaaGreatDoorMZBF
import Derived.Test.YtbgkpehhdibaoaaGreatDoorMZBI
set_option maxHeartbeats 0
set_option maxRecDepth 99999
namespace Go.Proofs.YtbgkpehhdibaoaaGreatDoor
open Fl bO aO Rn Sv
open Go.Proofs.Tryz
open Go.RowKit Go.Maps Go.WideMaps
variable{w0 w w8 w1 W w':World}{q:Sp}{nl E ss ps l aaj:List aZ}{eP:aZ->Option Value}{kc sets m n k i N j G B c n':Nat}{dZ ve v vb vc vf:Value}{vs:List Va}{f:Fu}{x:Mo}{s fn call:aZ}{known ms:List Mo}{ys bJ:List (List Sc)}{own:List Sc}{Z:Nat->Nat->Bool}
def Sp.relev(q:Sp)(nE:ByteArray->Option Nat):Sp:={ q with c:={ q.c with nE:=nE } }
theorem jc.relevel{nE:aZ->Option Nat}(h:jc w0 w q nl eP kc dZ sets ve E)(hg:w.grownBy w8 (some q.ml))(hl:qV w8 q.ml 1048576 (λs=>(nE s).map λn:Nat=>(n:Int))):jc w0 w8 (q.relev nE) nl eP kc dZ sets ve E/\Kx w0.heap.size Df w w8:=by
 obtain⟨es,cl,hm⟩:=h.levels.isMap;have hkx:Kx w0.heap.size Df w w8:=Kx.grown hg λk e=>by injection e with e;subst e;exact⟨h.new.2.1,λo ho=>by rw[hm]at ho;cases ho;rfl⟩
 have hcell:∀(p:Nat) cs t,w.heap[p]?=some (.cells cs t (0,0))->w8.heap[p]?=some (.cells cs t (0,0)):=λp cs t hp=>by
  rw[hg.block p (bE hp) (λe=>?_)];·exact hp
  ·injection e with e;subst e;rw[hp]at hm;cases hm
 exact⟨⟨hcell _ _ _ h.blk,h.new,hl,h.numbers.kept hg (by have:=h.maps.1;simp;exact λe=>this e.symm),h.called.kept hg (by have:=h.maps.2.1;simp;exact λe=>this e.symm),h.eB,h.Ak,h.nodup,h.names.keep λj cur _ hj=>hcell _ _ _ hj,h.lK.keep λj cur _ hj=>hcell _ _ _ hj,h.apart,h.maps,h.base.trans (hkx.below h.base.size)⟩,hkx⟩
namespace Fl
def uq(ss:List ByteArray)(ps:List ByteArray)(vs:List Va):ByteArray->Option Nat:=λs=>
 if has ps s then none else (vs.reverse.find? λv=>dD v.name s).map λv=>(dF ss v.level).toNat
theorem F9{v:Va}(h:has ps v.name=true):uq ss ps (vs++[v])=uq ss ps vs:=by
 funext s;unfold uq;cases hs:has ps s with
 | true=>rfl
 | false=>
  rw[List.reverse_append,List.reverse_singleton,List.singleton_append,List.find?_cons];cases he:dD v.name s with
  | false=>rfl
  | true =>rw[eO]at he;rw[he,hs]at h;cases h
theorem levV_put{v:Va}(h:has ps v.name=false)(hi:0<=dF ss v.level):(λs=>(uq ss ps (vs++[v]) s).map λn:Nat=>(n:Int))=Rn.put (λs=>(uq ss ps vs s).map λn:Nat=>(n:Int)) v.name (dF ss v.level):=by
 funext s;unfold Rn.put uq;rw[List.reverse_append,List.reverse_singleton,List.singleton_append,List.find?_cons];cases he:dD v.name s with
 | false =>rw[show dD s v.name=false by rw[<-Bool.not_eq_true]at he ⊢;rw[eO]at he ⊢;exact λe=>he e.symm];rfl
 | true =>rw[eO]at he;subst he;rw[show dD v.name v.name=true from eO.2 rfl,h];simp;omega
end Fl
theorem jc.spAt(h:jc w0 w q nl eP kc dZ sets ve E)(hL:mK w0 q.vn q.vl q.ss q.G q.L q.c.Z)(hN:q.c.N=q.ss.length)(hk:kc<=16777216)(hl:nl.length<=1048576):C9 w q nl eP dZ sets ve:=
 ⟨h.blk,hL.below h.base,hN,h.levels,h.numbers,h.called.mono hk,λs v hv=>(h.eB s v hv).below h.base,h.nodup,hl⟩
theorem qV.empty{w:World}{b n:Nat}(h:qV w b n (λ_=>none)):qV w b 0 (λ_=>none):=by
 obtain⟨D,⟨es,cl,hb,F,hs,hD⟩,h2⟩:=h;have he:es.size=0:=by
  by_cases h0:es.size=0;·exact h0
  ·exfalso;have hx:es[0]∈es.toList:=by simp
   obtain⟨y,hy⟩:=F.reads _ hx;have hk:=Go.WideElems.rd_key hy;rw[keyOf_string underlying9]at hk;unfold mapKey at hk;rw[underlying9]at hk;cases hkey:es[0].key with
   | string t=>
    rw[hkey]at hk;simp only at hk;split at hk
    ·rename_i ht;have h3:=(h2 t ht).1;have h4:Maps.has D (.string t.data.toList)=true:=by
      rw[hD,Maps.has_eq,Q8];refine⟨y,mem_sorted.2 ?_,?_⟩;·rw[<-Go.WideElems.rg_of hy];exact List.mem_map_of_mem hx
      ·rw[<-H9 hk];exact WideAt.sameKey_self trivial
     rw[h4]at h3;cases h3
    ·cases hk
   | _=>rw[hkey]at hk;simp at hk
 exact⟨D,⟨es,cl,hb,F,by omega,hD⟩,h2⟩
theorem Sz(w:World)(B:Nat):Own w B (J) []:=kS _ _ _ _
theorem SB(ss:List aZ)(t:aZ)(h:Strs w v ss):LP (dF ss t):=by
 obtain⟨_,_,_,_,_,_,hl,_⟩:=h;unfold dF;split;·next i h=>have:=(bO.find_spec h).1;unfold LP;omega
 ·unfold LP;omega
def MW(B:Nat)(vn vl:Value)(ss:List ByteArray)(G:Nat)(L:Nat->Nat)(Z:Nat->Nat->Bool)(md:ByteArray)(nE:ByteArray->Option Nat)(eB:ByteArray->Sc):Sp:=
 ⟨B+1+1+1,vn,vl,ss,G,L,⟨Z,ss.length,wU Z ss.length,md,nE,λs=>dF ss s,eB⟩,B,B+1,B+1+1⟩
theorem noAt_new(hb:bG w w1)(vn vl:Value)(ss:List aZ)(G:Nat)(L:Nat->Nat)(Z:Nat->Nat->Bool)(md:aZ)(eB:aZ->Sc)(hW:W=(((w1.alloc (.map #[] 0)).alloc (.map #[] 0)).alloc (.map #[] 0)).alloc (aY #[vn,vl,O (wU Z ss.length:Nat),A md,.map (some w1.heap.size),J,.map (some (w1.heap.size+1)),.map (some (w1.heap.size+1+1)),O 0,J] 204)):jc w W (MW w1.heap.size vn vl ss G L Z md (λ_=>none) eB) [] (λ_=>none) 0 (J) 0 (J) []/\bG w1 W:=by
 have s1:(w1.alloc (.map #[] 0)).heap.size=w1.heap.size+1:=Ef _ _;have s2:((w1.alloc (.map #[] 0)).alloc (.map #[] 0)).heap.size=w1.heap.size+1+1:=by rw[Ef,s1]
 have s3:(((w1.alloc (.map #[] 0)).alloc (.map #[] 0)).alloc (.map #[] 0)).heap.size=w1.heap.size+1+1+1:=by rw[Ef,s2]
 obtain⟨m1,m2,m3⟩:=lQ (qV.new w1) (qV.new (w1.alloc (.map #[] 0))) (pK.new ((w1.alloc (.map #[] 0)).alloc (.map #[] 0)) sc0);rw[s1]at m2;rw[s2]at m3;have b3:=bD (((w1.alloc (.map #[] 0)).alloc (.map #[] 0)).alloc (.map #[] 0)) (aY #[vn,vl,O (wU Z ss.length:Nat),A md,.map (some w1.heap.size),J,.map (some (w1.heap.size+1)),.map (some (w1.heap.size+1+1)),O 0,J] 204);rw[s3,<-hW]at b3;have k1:Below (w1.alloc (.map #[] 0)).heap.size (w1.alloc (.map #[] 0)) W:=by rw[hW];exact up (up (aH _ _) (aH _ _)) (aH _ _)
 have k2:Below ((w1.alloc (.map #[] 0)).alloc (.map #[] 0)).heap.size ((w1.alloc (.map #[] 0)).alloc (.map #[] 0)) W:=by rw[hW];exact up (aH _ _) (aH _ _)
 have k3:Below (((w1.alloc (.map #[] 0)).alloc (.map #[] 0)).alloc (.map #[] 0)).heap.size (((w1.alloc (.map #[] 0)).alloc (.map #[] 0)).alloc (.map #[] 0)) W:=by rw[hW];exact aH _ _
 have k0:bG w1 W:=up (aH _ _) k1;have hs:=hb.size;have e1:qV W w1.heap.size 1048576 (λ_=>none):=(m1.below k1).mono (bI _);have e2:qV W (w1.heap.size+1) 0 (λs=>(Fl.idx [] s).map λn:Nat=>(n:Int)):=m2.below k2;have e3:pK W (w1.heap.size+1+1) 0 sc0 (λ_=>none):=m3.below k3;refine⟨⟨b3,⟨by show _<=w1.heap.size+1+1+1;omega,hs,by show _<=w1.heap.size+1;omega,by show _<=w1.heap.size+1+1;omega⟩,e1,e2,e3,λs v h=>by simp at h,λs h=>by simp at h,List.nodup_nil,?_,?_,aR rfl,⟨by show w1.heap.size≠w1.heap.size+1;omega,by show w1.heap.size≠w1.heap.size+1+1;omega,by show w1.heap.size+1≠w1.heap.size+1+1;omega⟩,up hb k0⟩,k0⟩;·exact Sz _ _
 ·exact Sz _ _
theorem Lx(w:World)(vn vl vi vv vf vp:Value)(ss:List aZ)(G:Nat)(L:Nat->Nat)(Z:Nat->Nat->Bool)(x:Mo)(ps:List aZ)(eB:aZ->Sc)(hL:mK w vn vl ss G L Z)(hV:wM w vv x.vars)(hP:Strs w vp ps)(hi:∃a n c,vi=Y a n c)(hf:∃a n c,vf=Y a n c)(hps:ps.Nodup)(hpl:ps.length<=1048576)(hvl:x.vars.length<=1048575)(hlv:∀v∈x.vars,0<=dF ss v.level):Calls prog 106 #[.agg #[vn,vl],.agg #[A x.name,vi,vv,vf],vp] w λe w'=>∃B,e=cO (jk (B+1+1+1))/\Hid (∃dZ,jc w w' (MW B vn vl ss G L Z x.name (Fl.uq ss ps x.vars) eB) ps (λ_=>none) 0 dZ 0 (J) []):=by
 obtain⟨ai,ni,ci,rfl⟩:=hi;obtain⟨af,nf,cf,rfl⟩:=hf;obtain⟨HL,wu,HLV⟩:=fq hL hps hlv;have HE:=I (λwx (hb:bG w wx)=>Oz wx vn vl ss G L Z (hL.strs.below hb) (hL.Qg.below hb) hL.ok);obtain⟨av,bv,ov,cv,rfl,Ub,hvbig,hcv⟩:=hV;obtain⟨ap,bp,op,cp,rfl,hap,hpbig,hpz,hcp⟩:=hP;obtain⟨Uc,HCV,Mt,Ue,HPZ⟩:=tq Ub hcv hap hcp hpz;obtain⟨nv,xg⟩:=bC x.vars.length;have Mg:=I xg;rw[<-xg]at hvbig hvl Uc ⊢;obtain⟨np,hnp⟩:=bC ps.length;have FQ:=I hnp;rw[<-hnp]at hpbig hpl Mt Ue ⊢;obtain⟨W,hW,k0,k1,hsz,hBW⟩:=wG w (aY #[vn,vl] 25) (aY #[A x.name,Y ai ni ci,Y av nv cv,Y af nf cf] 58);obtain⟨x0,x1⟩:=jm k0;obtain⟨lD,jl,iN,HC⟩:=mg k0 k1 hBW (HE W hBW);have HVN:Hid (∃a n c,vn=Y a n c):=I (by obtain⟨a,b,o,c,rfl,-⟩:=hL.strs;exact⟨_,_,_,rfl⟩);have HVL:Hid (∃a n c,vl=Y a n c):=I (by obtain⟨a,b,o,c,aaj,RB,RO,C,rfl,-⟩:=hL.Qg;exact⟨_,_,_,rfl⟩);obtain⟨an,nn,cn,hvn⟩:=HVN.out;obtain⟨al,nl,cl,hvl'⟩:=HVL.out;clear k0 k1 hsz hBW hL hps hlv Ub hcv hap hcp hpz xg hnp HVN HVL HE;subst hvn hvl';rw[hW]at x0 x1;go_enter func106,ntmps106;go_wp2_with fail;rw[<-hW];clear hW x0 x1;refine HC.mono ?_;rintro e w1 ⟨rfl,hb1⟩;have HB1:=I (up iN hb1);obtain⟨K0,K1⟩:=eD (aU lD hb1) (aU jl hb1);obtain⟨x0,x1⟩:=jm K0;have y0:=aj K1 0;have lN:=I K1;have hmm:=@run_makeMap prog;clear K0 K1 HC hb1 lD jl iN;obtain⟨W2,hW2⟩:∃W,W=(((w1.alloc (.map #[] 0)).alloc (.map #[] 0)).alloc (.map #[] 0)).alloc (aY #[Y an nn cn,Y al nl cl,O (wU Z ss.length:Nat),A x.name,.map (some w1.heap.size),J,.map (some (w1.heap.size+1)),.map (some (w1.heap.size+1+1)),O 0,J] 204):=⟨_,rfl⟩;obtain⟨hno,hb2⟩:=noAt_new HB1 (Y an nn cn) (Y al nl cl) ss G L Z x.name eB hW2;have yH:Hid (W2.heap[w.heap.size+1]?=some (aY #[A x.name,Y ai ni ci,Y av nv cv,Y af nf cf] 58)):=I (aU lN hb2);obtain⟨B,hB⟩:=bC w1.heap.size;rw[<-hB]at hno;have HNO:=I hno;obtain⟨M,hM⟩:=bC (w.heap.size+1);rw[<-hM]at yH;have HM:=I hM;clear hb2 hno lN HB1;go_wp2_with fail;rw[<-hW2,<-hB,<-hM];clear hW2 hB hM hmm x0 x1 y0;go_loopw[34] (λi wx=>∃j:Nat,j<=np/\i=O j/\Hid (∃dZ,jc w wx (MW B (Y an nn cn) (Y al nl cl) ss G L Z x.name (λ_=>none) eB) (ps.take j) (λ_=>none) 0 dZ 0 (J) []/\wx.heap[M]?=some (aY #[A x.name,Y ai ni ci,Y av nv cv,Y af nf cf] 58))) (λi _=>np - (intOf i).toNat);case atStart=>exact⟨0,bI _,rfl,I ⟨_,HNO,yH⟩⟩
 case round=>
  obtain⟨j,hj,rfl,HI⟩:=hrel;obtain⟨dZ,hno,hmo⟩:=HI.out;obtain⟨HNO1,HMO1⟩:=bT hno hmo;clear hno hmo HI;by_cases hjl:j<np
  ·have g0:=Ue j hjl;obtain rfl:=Mt aV;have hjp:j<ps.length:=by rw[<-FQ];exact hjl
   obtain⟨s,hs⟩:∃s,ps[j]?=some s:=⟨_,bg hjp⟩;rw[wP,hs,iK]at g0;replace g0:=aC g0 HNO1.base;have hnm:s∉ps.take j:=λhm=>by
    obtain⟨i,hi,e⟩:=gP.1 hm;rw[jO]at hi;have h1:ps[i]?=some s:=by rw[List.getElem_take]at e;rw[bg aV,e]
    have:=Jv wu h1 hs;omega
   have HNU:=I (JN w wr _ (ps.take j) _ _ _ _ _ _ s HNO1 hnm (HPZ s (dN hs)) (by rw[jO];omega));have HSJ:Hid (ps.take (j+1)=ps.take j++[s]):=I (by rw[gH,hs,lM]);clear hs hnm hjp;go_wp2_with fail;refine HNU.mono ?_;rintro e w3 ⟨rfl,hp3⟩;obtain⟨vnm3,hno3,hk3⟩:=hp3.out;obtain⟨HNO3,HMO3⟩:=bT hno3 (hk3.at HMO1 rfl);clear hno3 hk3 hp3 g0 HNU;go_wp2_with fail;go_roundw;case rel=>exact⟨j+1,by omega,by go_num,I ⟨vnm3,by rw[HSJ];exact HNO3,HMO3⟩⟩
   case measure=>simp[intOf];omega
  ·obtain rfl:j=np:=by omega
   have HNO2:Hid (jc w wr ((MW B (Y an nn cn) (Y al nl cl) ss G L Z x.name (λ_=>none) eB).relev (Fl.uq ss ps (x.vars.take 0))) ps (λ_=>none) 0 dZ 0 (J) []):=I (by
    have h1:=HNO1.out;rw[FQ,iL]at h1;have e:Fl.uq ss ps (x.vars.take 0)=λ_=>none:=by funext s;unfold Fl.uq;split<;>rfl
    rw[e];exact h1)
   have HOW0:Hid (qV wr B 0 (λs=>(Fl.uq ss ps (x.vars.take 0) s).map λn:Nat=>(n:Int))):=I (by
    have h1:qV wr B 1048576 (λ_=>none):=HNO1.levels;have e:(λs=>(Fl.uq ss ps (x.vars.take 0) s).map λn:Nat=>(n:Int))=λ_=>none:=by funext s;unfold Fl.uq;split<;>rfl
    rw[e];exact h1.empty)
   have m2:=aj HMO1 2;obtain⟨wo,rfl⟩:=bC wr;go_wp2_with fail;clear m2 HNO1;go_loopw[45] (λi wx=>∃t:Nat,t<=nv/\i=O t/\Hid (jc w wx ((MW B (Y an nn cn) (Y al nl cl) ss G L Z x.name (λ_=>none) eB).relev (Fl.uq ss ps (x.vars.take t))) ps (λ_=>none) 0 dZ 0 (J) [])/\Hid (qV wx B t (λs=>(Fl.uq ss ps (x.vars.take t) s).map λn:Nat=>(n:Int)))) (λi _=>nv - (intOf i).toNat);case atStart=>exact⟨0,bI _,rfl,HNO2,HOW0⟩
   case round=>
    obtain⟨t,ht,rfl,HI,HOW⟩:=hrel;by_cases htn:t<nv
    ·obtain⟨v,hv⟩:∃v,x.vars[t]?=some v:=⟨_,bg (by rw[<-Mg];exact htn)⟩;obtain⟨hz0,hz1,g0,g1⟩:=HCV t v hv;obtain rfl:=Uc aV;have HVT:Hid (x.vars.take (t+1)=x.vars.take t++[v]):=I (by rw[gH,hv,lM]);obtain⟨HVI,HZ0⟩:=bT (HLV v (dN hv)) hz0;replace g0:=aC g0 HI.base;replace g1:=aC g1 HI.base;obtain⟨W5,hW5⟩:=bC (wr.alloc (aY #[A v.name,A v.level] 93));have hb5:bG wr W5:=by rw[hW5];exact aH _ _
     have RG:Hid (W5.heap[wr.heap.size]?=some (aY #[A v.name,A v.level] 93)):=I (by rw[hW5];exact bD _ _);obtain⟨HI5,qR⟩:=bT (HI.below hb5) (HOW.below hb5);clear hv hz0 hz1 hb5;obtain⟨wi,rfl⟩:=bC wr;go_wp2_with fail;rw[<-hW5];clear hW5 g0 g1;have v0:=aX ((aj RG 0).trans rfl);have c6:W5.cell? (X (B+1+1+1) 6)=some (.map (some (B+1))):=HI5.cells.2.2.2.2.2.2.1;replace c6:=aX c6;have LK:∀k os,(Instr.lookup 95 (.map (some (B+1))) (A v.name) true).run prog (gn W5 k os)=.ok (.tuple #[O (((Fl.idx ps v.name).map λn:Nat=>(n:Int)).getD 0),.bool ((Fl.idx ps v.name).map λn:Nat=>(n:Int)).isSome]) (gn W5 k os):=λk os=>(HI5.below (bR W5 k os)).numbers.uh (s:=v.name) HZ0;cases hid:Fl.has ps v.name with
     | true=>
      have HID:=I hid;obtain⟨ix,hix⟩:=Fl.wF (wE.1 hid);simp only[hix,jP,iK,oO]at LK;clear hid hix;refine bS bU bU ?_;repeat(quiet_step (fail))
      refine wpQuiet_nil ?_;intro w6 hw';obtain⟨⟨nq,osq⟩,hw''⟩:=hw';have hb6:bG W5 w6:=by rw[hw''];exact bR W5 nq osq
      obtain⟨HI6,oG⟩:=bT (HI5.below hb6) (qR.below hb6);clear hw'' v0 c6 LK hb6;go_wp2_with fail;go_roundw;case rel=>exact⟨t+1,by omega,by go_num,I (by rw[HVT,F9 HID];exact HI6),I (by rw[HVT,F9 HID];exact oG.mono aV)⟩
      case measure=>simp[intOf];omega
     | false=>
      have HID:=I hid;have hix:=CY (has_not.1 hid);simp only[hix,EB,nG,oP]at LK;clear hid hix;refine bS bU bU ?_;repeat(quiet_step (fail))
      refine wpQuiet_nil ?_;intro w6 hw';obtain⟨⟨nq,osq⟩,hw''⟩:=hw';have hb6:bG W5 w6:=by rw[hw''];exact bR W5 nq osq
      obtain⟨HI6,oG,HE6⟩:=fq (HI5.below hb6) (qR.below hb6) (aU RG hb6);clear hw'' v0 c6 LK hb6;obtain⟨v0,v1⟩:=eD (aX ((aj HE6 0).trans rfl)) (aX ((aj HE6 1).trans rfl));have c4:w6.cell? (X (B+1+1+1) 4)=some (.map (some B)):=HI6.cells.2.2.2.2.1;replace c4:=aX c4;have jR:Hid (∀k os,Calls prog 164 #[jk (B+1+1+1),A v.level] (gn w6 k os) λe w'=>e=cO (O (dF ss v.level))/\Below (gn w6 k os).heap.size (gn w6 k os) w'):=I (λk os=>JH (gn w6 k os) _ ps _ dZ _ _ v.level ((HI6.below (bR w6 k os)).spAt HL rfl aV (by rw[<-FQ];exact hpl)));go_wp2_with fail;refine fI 10 bU bU ?_;dsimp only[List.take,List.drop];repeat(quiet_step ((exact Calls.pX (jR.out _ _))))
      refine wpQuiet_nil ?_;intro w7 hw';obtain⟨⟨nq7,osq7⟩,hw''⟩:=hw';have pW:bG w6 w7:=by rw[hw''];exact bR w6 nq7 osq7
      obtain⟨HI7,LA⟩:=bT (HI6.below pW) (oG.below pW);clear hw'' v0 v1 c4 jR pW;obtain⟨w8,L8,ho8,hg8⟩:=LA.put (s:=v.name) (v:=dF ss v.level) (by unfold maxLen;omega) HZ0 (SB _ _ HL.strs);rw[<-levV_put HID HVI,<-HVT]at ho8;obtain⟨HI8,SC⟩:=bT ((HI7.relevel hg8 (ho8.mono aV)).1) ho8;have lJ:Hid ((Instr.mapUpdate 95 (.map (some B)) (A v.name) (O (dF ss v.level))).run prog w7=.ok () w8):=I L8;clear ho8 hg8 L8;have L8:=lJ.out;go_wp2_with fail;go_roundw;case rel=>exact⟨t+1,by omega,by go_num,HI8,SC⟩
      case measure=>simp[intOf];omega
    ·obtain rfl:t=nv:=by omega
     go_wp2_with fail;go_ret;refine⟨B,rfl,I ⟨dZ,?_⟩⟩;have h1:=HI.out;rw[Mg,iL]at h1;exact h1
namespace aO
theorem uI{α:Type}{f g:α->Nat}:∀{l:List α},(∀x∈l,f x<=g x)->(l.map f).sum<=(l.map g).sum
 | [],_=>bF _
 | x::l,h=>by have h0:=h x cZ;have h1:=uI (l:=l) (λy hy=>h y (by simp[hy]));simp only[fD,iW];omega
theorem ji{α β:Type}{f:α->List β}{g:α->Nat}{l:List α}(h:∀x∈l,(f x).length<=g x):(l.flatMap f).length<=(l.map g).sum:=by rw[List.length_flatMap];exact uI h
theorem calls_len:∀(m:Nat) (x:Ex),(calls m x).length<=iO m x
 | 0,_=>bF _
 | m+1,x=>by
  have h:=ji (f:=calls m) (g:=iO m) (l:=x.args) (λy _=>calls_len m y);simp only[calls,iO,aW];have h2:(if x.kind=4 then [x]else []).length<=1:=by split<;>simp
  omega
theorem BH:∀(m:Nat) (x:Ex),(fG m x).length<=iO m x
 | 0,_=>bF _
 | m+1,x=>by
  have h:=ji (f:=fG m) (g:=iO m) (l:=x.args) (λy _=>BH m y);simp only[fG,iO,aW];have h2:(if x.kind=4 then [x]else []).length<=1:=by split<;>simp
  omega
theorem Du{α β:Type}(f:α->List β)(g:β->Nat):∀(l:List α),((l.flatMap f).map g).sum=(l.map λs=>((f s).map g).sum).sum
 | []=>rfl
 | s::l=>by simp only[IX,fH,kU,fD,iW,Du f g l]
theorem Po(M:Nat):∀{m:Nat} {v:Value} {l:List St},eU w m v l->m<=M->((all m l).map λs=>1+iO M s.e).sum<=dQ m l
 | 0,_,_,h,_=>iG h
 | m+1,v,l,h,hk=>by
  obtain⟨a,b,off,cap,_,_,_,h9⟩:=h;have each:∀s∈l,((within (all m) s).map λs=>1+iO M s.e).sum<=s.name.size+3+iO m s.e+dQ m s.a+dQ m s.b:=λs hs=>by obtain⟨i,hi,rfl⟩:=gP.1 hs;obtain⟨_,_,e0,e1,e2,e3,va,vb,_,_,_,_,_,_,_,_,hx,ha,hb⟩:=h9 i _ (bg hi);obtain⟨k1,k2,k3⟩:=lQ (Po M ha aV) (Po M hb aV) (rR hx M aV);unfold within;simp only[fH,fD,jN,kU,iW,qF];omega
  have hs:=uI each;have e:((all (m+1) l).map λs=>1+iO M s.e).sum=(l.map λs=>((within (all m) s).map λs=>1+iO M s.e).sum).sum:=Du _ _ _;rw[e];simp only[dQ];omega
theorem Ho{α:Type}{f:α->Nat}:∀(l:List α),(∀x,1<=f x)->l.length<=(l.map f).sum
 | [],_=>bF _
 | x::l,h=>by have h0:=h x;have h1:=Ho l h;simp only[fD,iW,zU];omega
theorem SE{l:List St}{β:Type}{f:St->List β}(h:eU w m v l)(hf:∀s,(f s).length<=1+iO m s.e):((all m l).flatMap f).length<=dQ m l:=
 bH (ji λs _=>hf s) (Po m h (bF _))
theorem SF{α β:Type}{f:α->List β}{l:List α}(h:∀x,(f x).length<=1):(l.flatMap f).length<=l.length:=by
 induction l with
 | nil=>exact bF _
 | cons x l ih =>have:=h x;simp only[IX,aW,zU];omega
theorem upto_sum{α:Type}{l:List α}{f:Nat->α->List Dg}{g:α->Nat}(h:∀i x,l[i]?=some x->(f i x).length<=g x):(upto (Zp l f) l.length).length<=(l.map g).sum:=by
 have key:∀n,n<=l.length->(upto (Zp l f) n).length<=((l.take n).map g).sum:=by
  intro n;induction n with
  | zero=>intro _;simp[Mh]
  | succ n ih =>intro hn;obtain⟨h0,h1⟩:=eD (ih aV) (h n _ (bg (show n<l.length by omega)));rw[jr,aW,uL (bg (show n<l.length by omega)),gH,bg (show n<l.length by omega)];simp only[fH,kU,lM,fD,jN,iW,qF];omega
 have:=key l.length (bF _);rwa[iL]at this
theorem upto_n{α:Type}{l:List α}{f:Nat->α->List Dg}(c:Nat)(h:∀i x,l[i]?=some x->(f i x).length<=c)(n:Nat):(upto (Zp l f) n).length<=n*c:=by
 induction n with
 | zero=>simp[Mh]
 | succ n ih=>
  rw[jr,aW,Ay];have:(Zp l f n).length<=c:=by
   unfold Zp;split;·rename_i x hx;exact h n x hx
   ·simp
  omega
theorem Hq(fn:aZ)(l:List aZ):(FM fn l).length<=l.length:=by have:=upto_n (l:=l) (f:=λi s=>if BR (l.take i) s=true then [(⟨2,fn,s⟩:Dg)]else []) 1 (λi x _=>by split<;>simp) l.length;unfold FM;omega
theorem clE_len(x:Mo)(known:List Mo)(k:Nat)(fn:aZ)(y:Ex):(Zn x known k fn y).length<=1:=by unfold Zn;split<;>simp
theorem yO(l:List ByteArray):l.length<=iI l:=by have:=Ho (f:=λs:ByteArray=>s.size+1) l (λx=>by omega);unfold iI;omega
theorem Yj(l:List Va):l.length<=zF l:=by have:=Ho (f:=λs:Va=>s.name.size+s.level.size+3) l (λx=>by omega);unfold zF;omega
theorem Hr(m:Nat)(l:List Fu):l.length<=vT m l:=by have:=Ho (f:=λs:Fu=>s.name.size+2+iI s.params+dQ m s.body+iO m s.result) l (λx=>by omega);unfold vT;omega
theorem SG{l:List Fu}(h:lS w m v l)(hf:f∈l):∃vb,eU w m vb f.body:=by obtain⟨a,b,off,cap,_,_,_,h9⟩:=h;obtain⟨i,hi,rfl⟩:=gP.1 hf;obtain⟨_,vp,vb,e0,e1,e2,e3,_,_,_,_,_,_,_,_,hb,_⟩:=h9 i _ (bg hi);exact⟨vb,hb⟩
theorem VQ(h:eU w m vb f.body):(mI m f).length<=dQ m f.body+iO m f.result:=by have h1:=SE (f:=λs=>fG m s.e) h (λs=>by have:=BH m s.e;omega);have h2:=BH m f.result;unfold mI;rw[aW];omega
theorem prL_len(names:List ByteArray)(known:List Mo)(h:gT w m v x)(hw:qx m x<=1048576):(Aj names x known m).length<=16777216:=by
 obtain⟨vi,vv,vf,rfl,_,hI,hV,hF⟩:=h;obtain⟨a1,a2,a3⟩:=lQ (yO x.imports) (Yj x.vars) (Hr m x.bq);have b1:(imD x known).length<=x.imports.length*1:=upto_n 1 (λi s _=>by split<;>simp) _;obtain⟨b2,b3,b4⟩:=lQ (Hq ⟨#[]⟩ x.imports) (Hq ⟨#[]⟩ (x.vars.map (·.name))) (Hq ⟨#[]⟩ (x.bq.map (·.name)));rw[dR]at b3 b4;have b5:(x.bq.flatMap λf=>FM f.name f.params).length<=vT m x.bq:=by refine bH (ji (g:=λs:Fu=>s.name.size+2+iI s.params+dQ m s.body+iO m s.result) (λf _=>?_)) (dJ _);have:=Hq f.name f.params;have:=yO f.params;omega
 have b6:(x.vars.flatMap λv=>nE names ⟨#[]⟩ v.level).length<=x.vars.length:=SF λv=>Xy _ _ _;have b7:(x.bq.flatMap λf=>(all m f.body).flatMap (zK names f.name)).length<=vT m x.bq:=by refine bH (ji (g:=λs:Fu=>s.name.size+2+iI s.params+dQ m s.body+iO m s.result) (λf hf=>?_)) (dJ _);obtain⟨vb,hb⟩:=SG hF hf;have:=SE (f:=zK names f.name) hb (λs=>by have:=levS_len names f.name s;omega);omega
 have b8:(clD x known m).length<=vT m x.bq:=by refine bH (upto_sum (g:=λs:Fu=>s.name.size+2+iI s.params+dQ m s.body+iO m s.result) (λk f hf=>?_)) (dJ _);obtain⟨vb,hb⟩:=SG hF (dN hf);have h1:=VQ hb;have h2:((mI m f).flatMap (Zn x known k f.name)).length<=(mI m f).length:=SF λy=>clE_len _ _ _ _ _;omega
 unfold qx at hw;unfold Aj twD lvD;simp only[wN,Jd,aW,gK];omega
end aO
namespace Fl
theorem oV:0<=dF l s↔s∈l:=by
 unfold dF;constructor
 ·intro h;split at h;·rename_i i hi;obtain⟨h1,h2⟩:=bO.find_spec hi;unfold Nn at h2;have e:s=l.getD i ByteArray.empty:=eO.1 h2;rw[e,List.getD,bg h1];exact jS h1
  ·omega
 ·intro h;obtain⟨i,hi,rfl⟩:=gP.1 h;split;·omega
  ·rename_i hn;have:=LH.1 hn i (jG.2 hi);exact aN (eO.2 (by rw[List.getD,bg hi];rfl)) this
theorem J7(l:List aZ)(s:aZ):dF l s<l.length\/l=[]:=by
 rcases y9 l s with e|⟨i,e,hi⟩
 ·by_cases h:l=[];·exact aT h
  ·left;have:=uF.2 h;omega
 ·left;omega
theorem SH{g:Nat->List Dg}(h:aO.upto g n=[]):∀i,i<n->g i=[]:=λi hi=>by refine List.eq_nil_iff_forall_not_mem.2 λd hd=>?_;have:d∈aO.upto g n:=mem_upto.2 ⟨i,hi,hd⟩;rw[h]at this;cases this
theorem MX(h:FM fn l=[]):l.Nodup:=by
 rw[List.Nodup,OH];intro i j hi hj hij e;have h1:=SH h j hj;rw[uL (bg hj)]at h1;have h2:aO.BR (l.take j) l[j]=true:=by unfold aO.BR;rw[iA,oV,<-e];refine gP.2 ⟨i,by rw[jO];omega,?_⟩;rw[List.getElem_take]
 rw[aL h2]at h1;cases h1
structure NmOk(ss:List ByteArray)(x:Mo)(known:List Mo)(m:Nat):Prop where
 vars:(x.vars.map (·.name)).Nodup
 uz:∀f∈x.bq,f.params.Nodup
 levs:∀v∈x.vars,0<=dF ss v.level
 prints:∀f∈x.bq,∀s∈aO.all m f.body,s.kind=4->0<=dF ss s.name
 calls:∀(k:Nat) f,x.bq[k]?=some f->∀y∈mI m f,aO.code x known k y.name y.args.length=0
theorem yP{α β:Type}{f:α->List β}{l:List α}(h:l.flatMap f=[]){x:α}(hx:x∈l):f x=[]:=by rw[List.flatMap_eq_nil_iff]at h;exact h x hx
theorem Yk(h:aO.once (aO.Aj ss x known m)=[]):NmOk ss x known m:=by
 have h0:aO.Aj ss x known m=[]:=List.eq_nil_iff_forall_not_mem.2 λd hd=>by have:=(Ig _ d).2 hd;rw[h]at this;cases this
 unfold aO.Aj at h0;simp only[wN,Jd,gK,Xc]at h0;obtain⟨_,h2,h3,h4⟩:=h0;unfold twD at h2;simp only[wN,Jd,gK,Xc]at h2;obtain⟨⟨_,hv,_⟩,hp⟩:=h2;unfold lvD at h3;rw[Xc]at h3;refine⟨MX hv,λf hf=>MX (yP hp hf),λv hvv=>?_,λf hf s hs hk=>?_,λk f hf y hy=>?_⟩
 ·have:=yP h3.1 hvv;unfold aO.nE at this;split at this;·rename_i h;exact iQ h
  ·cases this
 ·have:=yP (yP h3.2 hf) hs;unfold zK aO.nE at this;rw[aL hk]at this;split at this;·rename_i h;exact iQ h
  ·cases this
 ·have h5:=SH h4 k (dz.1 hf).1;rw[uL hf]at h5;have:=yP h5 hy;unfold Zn at this;split at this;·rename_i h;exact h
  ·cases this
theorem sK:∀(m k:Nat) (x y:Ex),m<=k->y∈fG m x->y∈fG k x
 | 0,_,_,_,_,h=>by simp[fG]at h
 | m+1,0,_,_,hk,_=>by omega
 | m+1,k+1,x,y,hk,h=>by
  simp only[fG,bV,iF]at h ⊢;rcases h with h|⟨z,hz,h⟩;·exact aR h
  ·exact aT ⟨z,hz,sK m k z y aV h⟩
theorem Yl:∀(m k:Nat) (l:List St) (s:St),m<=k->s∈aO.all m l->s∈aO.all k l
 | 0,_,_,_,_,h=>by simp[aO.all]at h
 | m+1,0,_,_,hk,_=>by omega
 | m+1,k+1,l,s,hk,h=>by
  simp only[aO.all,aO.within,bV,iF,dG]at h ⊢;obtain⟨t,ht,h⟩:=h;refine⟨t,ht,?_⟩;rcases h with(h|h)|h;·exact aR (aR h)
  ·exact aR (aT (Yl m k _ s aV h))
  ·exact aT (Yl m k _ s aV h)
theorem EN:∀(m:Nat) (x:Ex) (s:aZ),s∈cls m x->∃y∈fG m x,y.name=s
 | 0,_,_,h=>by simp[cls]at h
 | m+1,x,s,h=>by
  simp only[cls,bV,iF]at h;rcases h with h|⟨z,hz,h⟩
  ·split at h;·rename_i hk;simp only[dG]at h;exact⟨x,by simp[fG,hk],h.symm⟩
   ·cases h
  ·obtain⟨y,hy,e⟩:=EN m z s h;exact⟨y,by simp only[fG,bV,iF];exact aT ⟨z,hz,hy⟩,e⟩
theorem BI:∀(m:Nat) (l:List St) (s:aZ),s∈mV m l->∃t∈aO.all m l,∃y∈fG m t.e,y.name=s
 | 0,_,_,h=>by simp[mV]at h
 | m+1,l,s,h=>by
  simp only[mV,bV,iF]at h;obtain⟨t,ht,h⟩:=h;have ha:∀u,u=t\/u∈aO.all m t.a\/u∈aO.all m t.b->u∈aO.all (m+1) l:=λu hu=>by
   simp only[aO.all,aO.within,bV,iF,dG];refine⟨t,ht,?_⟩;rcases hu with h|h|h;·exact aR (aR h)
   ·exact aR (aT h)
   ·exact aT h
  rcases h with(h|h)|h;·obtain⟨y,hy,e⟩:=EN m _ s h;exact⟨t,ha t (aR rfl),y,sK m (m+1) _ _ (dJ _) hy,e⟩
  ·obtain⟨u,hu,y,hy,e⟩:=BI m _ s h;exact⟨u,ha u (aT (aR hu)),y,sK m (m+1) _ _ (dJ _) hy,e⟩
  ·obtain⟨u,hu,y,hy,e⟩:=BI m _ s h;exact⟨u,ha u (aT (aT hu)),y,sK m (m+1) _ _ (dJ _) hy,e⟩
theorem fcalls_of(h:s∈mV m f.body++cls m f.result):∃y∈mI m f,y.name=s:=by
 unfold mI;rcases bV.1 h with h|h;·obtain⟨t,ht,y,hy,e⟩:=BI m _ s h;exact⟨y,bV.2 (aR (iF.2 ⟨t,ht,hy⟩)),e⟩
 ·obtain⟨y,hy,e⟩:=EN m _ s h;exact⟨y,bV.2 (aT hy),e⟩
def LC:Sc:=⟨⟨#[]⟩,0,0,[],0,[]⟩
def oh(x:Mo)(k:Nat)(known:List Mo)(bJ:List (List Sc))(own:List Sc)(call:ByteArray):Sc:=
 if (aO.gq x k call known).2.2=false then LC else if (aO.gq x k call known).1<0 then own.getD (aO.gq x k call known).2.1.toNat LC else (bJ.getD (aO.gq x k call known).1.toNat []).getD (aO.gq x k call known).2.1.toNat LC
theorem ptgt_own(h:aO.gq x k call known=(-1,(i:Int),true)):i<k:=by
 cases hd:jo call with
 | none=>
  have e:aO.gq x k call known=aO.AQ (-1) x.bq call k:=by simp[aO.gq,hd]
  rw[e]at h;unfold aO.AQ at h;cases hf:Ia x.bq call k with
  | none=>rw[hf]at h;simp at h
  | some j =>rw[hf]at h;simp only[qC,true_and,and_true]at h;have:=(Oc hf).1;omega
 | some d=>
  exfalso;rcases y9 x.imports (bO.preS call)with hi|⟨i',hi,_⟩
  ·have e:aO.gq x k call known=(0,0,false):=by simp[aO.gq,hd,hi]
   rw[e]at h;simp at h
  ·cases hm:aO.dw known (x.imports.getD i' ByteArray.empty)with
   | none=>rw[IB hd hi hm]at h;simp at h
   | some a =>obtain⟨y,hy,_⟩:=aO.vV hm;rw[NJ hd hi hm hy]at h;unfold aO.AQ at h;split at h<;>simp at h<;>omega
theorem scB_ok{y:Sc}(h:scB N y=true)(hn:y.bounds.length=n):Vf N y n:=by unfold scB at h;simp only[dS]at h;obtain⟨hb,⟨hl,hp⟩,_⟩:=h;unfold wZ at hl;unfold Dh at hp;simp only[dS,iA]at hl hp;refine⟨hn,λb hb'=>?_,⟨hl.1.1.1,hl.1.1.2⟩,⟨hl.1.2,hl.2⟩,hp⟩;have:=gY.1 hb b hb';unfold Dh at this;simpa using this
theorem Ym{fs:List Fu}{ys:List Sc}(h:nT N fs ys=true){g:Fu}(hg:fs[j]?=some g):∃y,ys[j]?=some y/\y.bounds.length=g.params.length/\scB N y=true:=by
 unfold nT at h;simp only[dS,iA]at h;have hj:=(dz.1 hg).1;have hj':j<ys.length:=by omega
 refine⟨ys[j],bg hj',?_⟩;have hm:(g,ys[j])∈List.zip fs ys:=by refine gP.2 ⟨j,by rw[List.length_zip];omega,?_⟩;rw[List.getElem_zip];obtain⟨h1,h2⟩:=dz.1 hg;rw[h2]
 have:=gY.1 h.2 _ hm;unfold Bq at this;simpa using this
theorem fitsB_at(h:iw N ms ys=true){g:Mo}(hg:ms[j]?=some g):∃y,ys[j]?=some y/\nT N g.bq y=true:=by
 unfold iw at h;simp only[dS,iA]at h;have hj:=(dz.1 hg).1;have hj':j<ys.length:=by omega
 refine⟨ys[j],bg hj',?_⟩;have hm:(g,ys[j])∈List.zip ms ys:=by refine gP.2 ⟨j,by rw[List.length_zip];omega,?_⟩;rw[List.getElem_zip];obtain⟨h1,h2⟩:=dz.1 hg;rw[h2]
 exact gY.1 h.2 _ hm
theorem VR(hk:iw N known bJ=true)(ho:nT N (x.bq.take k) own=true)(hc:aO.code x known k call n=0):Yd x k known bJ own call (oh x k known bJ own call)/\Vf N (oh x k known bJ own call) n:=by
 have ht:(aO.gq x k call known).2.2=true:=by
  unfold aO.code at hc;cases h:(aO.gq x k call known).2.2 with
  | true=>rfl
  | false=>rw[h]at hc;simp at hc
 rcases Ee ht with⟨i,f,e,hf⟩|⟨a,y,j,f,e,hy,hf⟩
 ·have hik:=ptgt_own e;have hf':(x.bq.take k)[i]?=some f:=by rw[rZ hik];exact hf
  obtain⟨s,hs,hb,hsc⟩:=Ym ho hf';have es:oh x k known bJ own call=s:=by unfold oh;rw[e];simp[List.getD,hs]
  rw[es];have hn:f.params.length=n:=by unfold aO.code Rb at hc;rw[e]at hc;simp[hf]at hc;exact hc
  exact⟨aR ⟨by rw[e];show(-1:Int)<0;omega,i,by rw[e],hs⟩,scB_ok hsc (hb.trans hn)⟩
 ·obtain⟨l,hl,hfit⟩:=fitsB_at hk hy;obtain⟨s,hs,hb,hsc⟩:=Ym hfit hf;have es:oh x k known bJ own call=s:=by
   unfold oh;rw[e];have:¬((a:Int)<0):=by omega
   simp[List.getD,hl,hs,this]
  rw[es];have hn:f.params.length=n:=by
   unfold aO.code Rb at hc;rw[e]at hc;have:¬((a:Int)=-1):=by omega
   simp[hy,hf,this]at hc;exact hc
  exact⟨aT ⟨a,j,l,by rw[e],by rw[e],hl,hs⟩,scB_ok hsc (hb.trans hn)⟩
theorem sM(h:dx s.data.toList=true):s.size<=8:=by unfold dx at h;simp only[dS,iA]at h;have:=h.1.2;rwa[gI]at this
theorem BJ(h:s.toList.isEmpty=true):s.size=0:=by rw[zW,List.isEmpty_iff]at h;rw[<-gI,h];rfl
theorem VT(h:rH s=true):s.size<=17:=by
 unfold rH at h;simp only[dS,Iw]at h;have h1:=sM h.1;unfold bO.preS at h1;unfold om at h;cases hd:jo s with
 | none=>rw[hd]at h1;simpa using bH h1 bP
 | some i=>
  rw[hd]at h h1;have hi:=QI hd;rcases h.2 with h2|h2;·simp at h2
  ·have h3:=sM h2;simp at h1 h3;omega
theorem Ht(c:Env):∀(m:Nat) (x:Ex),fA m x=true->(∀y∈fG m x,Vf c.N (c.eB y.name) y.args.length)->c.yx m x
 | 0,_,h,_=>by simp[fA]at h
 | m+1,x,h,hc=>by
  have hp:∀y∈x.args,∀z∈fG m y,Vf c.N (c.eB z.name) z.args.length:=λy hy z hz=>hc z (by simp only[fG,bV,iF];exact aT ⟨y,hy,hz⟩);simp only[fA]at h;by_cases h1:x.kind=1;·rw[aL h1]at h;simp only[dS,beq_iff_eq]at h;have hn:=BJ h.1.2;have ha:x.args=[]:=pQ.1 h.2;exact⟨by omega,λe=>by omega,λe=>by omega,λy hy=>by rw[ha]at hy;cases hy⟩
  ·rw[aJ h1]at h;by_cases h2:x.kind=2;·rw[aL h2]at h;simp only[dS,beq_iff_eq]at h;have hn:=sM h.1.2;have ha:x.args=[]:=pQ.1 h.2;exact⟨by omega,λe=>by omega,λe=>by omega,λy hy=>by rw[ha]at hy;cases hy⟩
   ·rw[aJ h2]at h;by_cases h3:x.kind=3
    ·rw[aL h3]at h;simp only[dS,beq_iff_eq]at h;have hn:x.name.size<=17:=by
      have ho:=h.1.1.2;by_cases hs:x.name.size=1;·omega
      ·rw[ND hs]at ho;cases ho
     exact⟨hn,λ_=>h.1.2,λe=>by omega,λy hy=>Ht c m y (gY.1 h.2 y hy) (hp y hy)⟩
    ·rw[aJ h3]at h;by_cases h4:x.kind=4;·rw[aL h4]at h;simp only[dS,beq_iff_eq,iA]at h;exact⟨VT h.1.1.2,λe=>by omega,λ_=>⟨h.1.2,hc x (by simp[fG,h4])⟩,λy hy=>Ht c m y (gY.1 h.2 y hy) (hp y hy)⟩
     ·rw[aJ h4]at h;cases h
theorem Pp(c:Env):∀(m:Nat) (l:List St),iP m l=true->(∀s∈aO.all m l,(∀y∈fG m s.e,Vf c.N (c.eB y.name) y.args.length)/\(s.kind=4->0<=c.pl s.name))->c.yA m l
 | 0,_,h,_=>by simp[iP]at h
 | m+1,l,h,hc=>by
  intro s hs;rw[vN]at h;have hb:=gY.1 h s hs;unfold uZ at hb;simp only[dS]at hb;obtain⟨⟨⟨hh,he⟩,ha⟩,hbb⟩:=hb;have hall:∀u,u=s\/u∈aO.all m s.a\/u∈aO.all m s.b->u∈aO.all (m+1) l:=λu hu=>by
   simp only[aO.all,aO.within,bV,iF,dG];refine⟨s,hs,?_⟩;rcases hu with h|h|h;·exact aR (aR h)
   ·exact aR (aT h)
   ·exact aT h
  have hsub:∀u,(u=s\/u∈aO.all m s.a\/u∈aO.all m s.b)->(∀y∈fG m u.e,Vf c.N (c.eB y.name) y.args.length)/\(u.kind=4->0<=c.pl u.name):=λu hu =>⟨λy hy=>(hc u (hall u hu)).1 y (sK m (m+1) _ _ (dJ _) hy),(hc u (hall u hu)).2⟩;unfold xI at hh;refine⟨?_,Ht c m s.e he (hsub s (aR rfl)).1,λhk=>?_,(hsub s (aR rfl)).2,Pp c m s.a ha λu hu=>hsub u (aT (aR hu)),Pp c m s.b hbb λu hu=>hsub u (aT (aT hu))⟩
  ·split at hh;·simp only[dS]at hh;exact sM hh.1.1
   ·split at hh;·have:=BJ hh;omega
    ·split at hh;·simp only[dS]at hh;have:=BJ hh.1;omega
     ·cases hh
  ·rw[aL hk]at hh;simp only[dS,beq_iff_eq]at hh;exact⟨pQ.1 hh.2,pQ.1 hh.1.2⟩
theorem J8{c:Env}:∀(m:Nat) (x:Ex),c.yx m x->∀s∈cls m x,s.size<=17
 | 0,_,h,_,_=>iG h
 | m+1,x,h,s,hs=>by
  simp only[cls,bV,iF]at hs;rcases hs with hs|⟨y,hy,hs⟩
  ·split at hs;·rw[dG]at hs;subst hs;exact h.1
   ·cases hs
  ·exact J8 m y (h.2.2.2 y hy) s hs
theorem EO{c:Env}:∀(m:Nat) (l:List St),c.yA m l->∀s∈mV m l,s.size<=17
 | 0,_,h,_,_=>iG h
 | m+1,l,h,s,hs=>by
  simp only[mV,bV,iF]at hs;obtain⟨t,ht,hs⟩:=hs;obtain⟨_,he,_,_,ha,hb⟩:=h t ht;rcases hs with(hs|hs)|hs;·exact J8 m _ he s hs
  ·exact EO m _ ha s hs
  ·exact EO m _ hb s hs
def fP(ss:List ByteArray)(Z:Nat->Nat->Bool)(x:Mo)(k:Nat)(known:List Mo)(bJ:List (List Sc))(own:List Sc)(f:Fu):Env:=
 ⟨Z,ss.length,wU Z ss.length,x.name,uq ss f.params x.vars,λs=>dF ss s,oh x k known bJ own⟩
theorem levV_lt(hp:0<ss.length)(h:∀v∈vs,0<=dF ss v.level)(hs:uq ss ps vs s=some n):n<ss.length:=by
 unfold uq at hs;split at hs;·cases hs
 ·obtain⟨v,hv,rfl⟩:=xJ.1 hs;have hm:=List.mem_reverse.1 (LJ hv);have h1:=h v hm;rcases J7 ss v.level with h2|h2;·omega
  ·rw[h2]at hp;simp at hp
theorem SI{L:Nat->Nat}(hL:dh ss G L Z=0)(hN:NmOk ss x known m)(k:Nat)(bJ:List (List Sc))(own:List Sc)(f:Fu):(fP ss Z x k known bJ own f).Ok:=by have hok:=qj hL;have ho:=Ny hok.order;exact⟨(Ib (xL ho.turn hok.meets) hok.pos).1,λs n hs=>levV_lt hok.pos hN.levs hs,xL ho hok.joins,hok.six⟩
structure FnOk(c:Env)(x:Mo)(k:Nat)(known:List Mo)(bJ:List (List Sc))(own:List Sc)(m:Nat)(f:Fu):Prop where
 st:c.yA m f.body
 ex:c.yx m f.result
 means:∀s∈mV m f.body++cls m f.result,s.size<=17/\Yd x k known bJ own s (c.eB s)
theorem Yn(hN:NmOk ss x known m)(hE:oM m x=0)(hf:x.bq[k]?=some f)(hk:iw ss.length known bJ=true)(ho:nT ss.length (x.bq.take k) own=true):FnOk (fP ss Z x k known bJ own f) x k known bJ own m f:=by
 have hm:=dN hf;obtain⟨hb,hr⟩:=moE_ok hE f hm;have hc:=hN.calls k f hf;have hst:(fP ss Z x k known bJ own f).yA m f.body:=Pp _ m f.body hb λs hs=>⟨λy hy=>(VR hk ho (hc y (bV.2 (aR (iF.2 ⟨s,hs,hy⟩))))).2,λh4=>hN.prints f hm s hs h4⟩;have hex:(fP ss Z x k known bJ own f).yx m f.result:=Ht _ m f.result hr λy hy=>(VR hk ho (hc y (bV.2 (aT hy)))).2;refine⟨hst,hex,λs hs=>?_⟩;obtain⟨y,hy,rfl⟩:=fcalls_of hs;refine⟨?_,(VR hk ho (hc y hy)).1⟩;rcases bV.1 hs with h|h;·exact EO m f.body hst _ h
 ·exact J8 m f.result hex _ h
end Fl
namespace Fl
theorem jF{α:Type}{f g:α->Nat}:∀{l:List α},(∀x∈l,f x<=g x)->(l.map f).sum<=(l.map g).sum
 | [],_=>bF _
 | x::l,h=>by have h0:=h x cZ;have h1:=jF (l:=l) λy hy=>h y (by simp[hy]);simp only[fD,iW];omega
theorem Yo{α:Type}{g:α->Nat}:∀{l:List α} {x:α},x∈l->g x<=(l.map g).sum
 | y::l,x,h=>by
  simp only[fD,iW];rcases gy.1 h with rfl|h;·omega
  ·have:=Yo (g:=g) h;omega
theorem ji{α β:Type}(f:α->List β)(l:List α):(l.flatMap f).length=(l.map λx=>(f x).length).sum:=by
 induction l with
 | nil=>rfl
 | cons x l ih=>simp[List.flatMap_cons,ih]
theorem yQ{α:Type}(k:Nat)(f:α->Nat):∀l:List α,(l.map λx=>k*f x).sum=k*(l.map f).sum
 | []=>rfl
 | x::l=>by simp only[fD,iW,yQ k f l,Nat.mul_add]
section
variable (c : Env)
theorem Pq(s:aZ):(c.Ll s).length<=1:=by unfold Env.Ll;split<;>simp
theorem Pt:∀(m:Nat) (x:Ex),(c.nO m x).length<=iO m x
 | 0,_=>by simp[Env.nO]
 | m+1,x=>by
  simp only[Env.nO,iO,aW,ji];obtain⟨h1,h2⟩:=eD (jF (l:=x.args) λy _=>Pt m y) (Pq c x.name);split;·omega
  ·simp only[F5];omega
theorem Pv:∀(m:Nat) (l:List St),(c.xB m l).length<=dQ m l
 | 0,_=>by simp[Env.xB]
 | m+1,l=>by
  simp only[Env.xB,dQ,ji];refine bH (jF (g:=λs:St=>s.name.size+3+iO m s.e+dQ m s.a+dQ m s.b) λs _=>?_) (dJ _);obtain⟨h1,h2,h3⟩:=lQ (Pt c m s.e) (Pv m s.a) (Pv m s.b);have h4:(c.F4 s).length<=1:=by
   unfold Env.F4;split;·exact Pq c _
   ·simp
  simp only[aW];omega
theorem Pw:∀(m:Nat) (x:Ex),(cls m x).length<=iO m x
 | 0,_=>by simp[cls]
 | m+1,x=>by simp only[cls,iO,aW,ji];have h1:=jF (l:=x.args) λy _=>Pw m y;split<;>simp only[F5,iT]<;>omega
theorem Ka:∀(m:Nat) (l:List St),(mV m l).length<=dQ m l
 | 0,_=>by simp[mV]
 | m+1,l=>by simp only[mV,dQ,ji];refine bH (jF (g:=λs:St=>s.name.size+3+iO m s.e+dQ m s.a+dQ m s.b) λs _=>?_) (dJ _);obtain⟨h1,h2,h3⟩:=lQ (Pw m s.e) (Ka m s.a) (Ka m s.b);simp only[aW];omega
theorem Px:∀(m:Nat) (l:List St),c.uR m l<=dQ m l
 | 0,_=>by simp[Env.uR]
 | m+1,l=>by
  simp only[Env.uR,dQ];refine bH (jF (g:=λs:St=>s.name.size+3+iO m s.e+dQ m s.a+dQ m s.b) λs _=>?_) (dJ _);obtain⟨h2,h3⟩:=eD (Px m s.a) (Px m s.b);have h4:c.xq s<=1:=by
   unfold Env.xq;split;·exact Pq c _
   ·omega
  omega
theorem Py{K:Nat}(hK:1<=K)(hs:∀s,(c.eB s).gU.length<=K):∀(m:Nat) (x:Ex),(c.Bg m x).length<=K*iO m x
 | 0,_=>by simp[Env.Bg]
 | m+1,x=>by
  simp only[Env.Bg,iO,aW,ji];have h1:=jF (l:=x.args) λy _=>Py hK hs m y;rw[yQ]at h1;have h2:(if x.kind=2 then c.XU ⟨#[114,58]⟩ x.name else if x.kind=4 then (c.eB x.name).gU else []).length<=K:=by
   split;·refine bH ?_ hK;unfold Env.XU;split<;>simp
   ·split;·exact hs _
    ·simp
  have h3:K*(x.name.size+4+(x.args.map (iO m)).sum)=K*(x.name.size+4)+K*(x.args.map (iO m)).sum:=Nat.mul_add _ _ _;have h4:K*1<=K*(x.name.size+4):=Nat.mul_le_mul_left _ aV;omega
theorem Pz{K:Nat}(hK:1<=K)(hs:∀s,(c.eB s).gU.length<=K):∀(m:Nat) (l:List St),(c.RN m l).length<=K*dQ m l
 | 0,_=>by simp[Env.RN]
 | m+1,l=>by
  simp only[Env.RN,dQ,ji];refine bH (jF (g:=λs:St=>K*(s.name.size+3+iO m s.e+dQ m s.a+dQ m s.b)) λs _=>?_) (by rw[yQ];exact Nat.mul_le_mul_left _ (dJ _));obtain⟨h1,h2,h3⟩:=lQ (Py c hK hs m s.e) (Pz hK hs m s.a) (Pz hK hs m s.b);have h4:(c.RL s).length<=1:=by
   unfold Env.RL;split;·unfold Env.XU;split<;>simp
   ·split<;>simp
  have h5:K*(s.name.size+3+iO m s.e+dQ m s.a+dQ m s.b)=K*(s.name.size+3)+K*iO m s.e+K*dQ m s.a+K*dQ m s.b:=by rw[Nat.mul_add,Nat.mul_add,Nat.mul_add]
  have h6:K*1<=K*(s.name.size+3):=Nat.mul_le_mul_left _ aV;simp only[aW];omega
theorem Hu:∀(m:Nat) (x:Ex) (pc:Hg),c.yx m x->(c.Ai m x pc).length<=2*iO m x
 | 0,_,_,h=>iG h
 | m+1,x,pc,h=>by
  simp only[Env.Ai,iO,aW,ji];have h1:=jF (l:=x.args) λy hy=>Hu m y pc (h.2.2.2 y hy);rw[yQ]at h1;split;·rename_i h4;have h5:=(h.2.2.1 h4).1;simp only[Env.ZV,aW,dR,tK,iT];omega
  ·simp only[F5];omega
theorem Hw:∀(m:Nat) (l:List St) (pc:Hg),c.yA m l->(c.KS m l pc).length<=2*dQ m l
 | 0,_,_,h=>iG h
 | m+1,l,pc,h=>by
  simp only[Env.KS,dQ,ji];refine bH (jF (g:=λs:St=>2*(s.name.size+3+iO m s.e+dQ m s.a+dQ m s.b)) λs hs=>?_) (by rw[yQ];omega);obtain⟨_,he,_,_,ha,hb⟩:=h s hs;obtain⟨h1,h2,h3⟩:=lQ (Hu c m s.e (c.at m pc s) he) (Hw m s.a (c.here m pc s) ha) (Hw m s.b (c.here m pc s) hb);have h4:(c.XW s (c.here m pc s)).length<=1:=by
   unfold Env.XW;split;·unfold Env.skN;split<;>simp
   ·split<;>simp
  simp only[aW];omega
theorem VU:∀(m:Nat) (l:List St) (pc:Hg),(c.Jw m l pc).length=c.uR m l
 | 0,_,_=>by simp[Env.Jw,Env.uR]
 | m+1,l,pc=>by
  simp only[Env.Jw,Env.uR,ji];congr 1;refine LW λs _=>?_;simp only[aW,VU m];congr 2;unfold Env.ZW Env.xq Env.cnN Env.Ll;split;·split<;>rfl
  ·rfl
end
theorem fun_le(h:f∈x.bq):f.params.length+dQ m f.body+iO m f.result+2<=qx m x:=by have h1:=Yo (g:=λs:Fu=>s.name.size+2+iI s.params+dQ m s.body+iO m s.result) h;have h2:=yO f.params;unfold qx vT;omega
end Fl
theorem j5(h:Below n w W)(hB:n<=B)(a b c d e f g:Value):Below n w (((((((W.setCell (X B 0) a).setCell (X B 1) b).setCell (X B 2) c).setCell (X B 3) d).setCell (X B 4) e).setCell (X B 5) f).setCell (X B 6) g):=
 ((((((h.setCell hB _).setCell hB _).setCell hB _).setCell hB _).setCell hB _).setCell hB _).setCell hB _
namespace Fl
theorem eff_ext{B:List aZ}(h:∀t,t∈aaj↔t∈B):jC (oL aaj)=jC (oL B):=
 J2 (JZ _ (Dp aaj)) (JZ _ (Dp B)) λt=>by rw[CS,yg,CS,yg,h]
def MZ(ss:List ByteArray)(G:Nat)(L:Nat->Nat)(Z:Nat->Nat->Bool)(m:Nat)(x:Mo)(k:Int)(known:List Mo)(bJ:List (List Sc))(own:List Sc):Int:=
 if yK (dh ss G L Z) m x known≠0 then yK (dh ss G L Z) m x known
 else if aO.once (aO.Aj ss x known m)≠[]then 5
 else if k<0\/k>=x.bq.length\/iw ss.length known bJ=false\/nT ss.length (x.bq.take k.toNat) own=false then 1 else 0
end Fl
structure l9(w:World)(m:Nat)(vn vl vi vv vf vk vs vo:Value)(ss:List ByteArray)(G:Nat)(L:Nat->Nat)(Z:Nat->Nat->Bool)(x:Mo)(known:List Mo)(bJ:List (List Sc))(own:List Sc):Prop where
 strs:Strs w vn ss
 Qg:Fb w vl G L Z
 mo:gT w m (.agg #[.string x.name,vi,vv,vf]) x
 cap:nY w vi vf
 kn:nC w m vk known
 sc:Bj w vs bJ
 ow:sF w vo own
 small:qx m x<=1048576
 smalls:∀y∈known,qx m y<=1048576
 tab:Tab w
 lK:∀l∈bJ,∀y∈l,y.gU.length<=1048576
 effo:∀y∈own,y.gU.length<=1048576
section
variable {w w' : World} {m : Nat} {vn vl vi vv vf vk vs vo : Value} {ss : List ByteArray} {G : Nat} {L : Nat → Nat} {Z : Nat → Nat → Bool} {x : Mo} {known : List Mo} {bJ : List (List Sc)} {own : List Sc}
theorem l9.below(h:l9 w m vn vl vi vv vf vk vs vo ss G L Z x known bJ own)(hb:bG w w'):l9 w' m vn vl vi vv vf vk vs vo ss G L Z x known bJ own:=
 ⟨h.strs.below hb,h.Qg.below hb,h.mo.below hb,h.cap.below hb,h.kn.below hb,h.sc.below hb,h.ow.below hb,h.small,h.smalls,h.tab.below hb,h.lK,h.effo⟩
theorem l9.checkO(h:l9 w m vn vl vi vv vf vk vs vo ss G L Z x known bJ own):Calls prog 53 #[.agg #[vn,vl],.agg #[A x.name,vi,vv,vf],vk] w λe w'=>∃u,e=cO (.tuple #[u,O (yK (dh ss G L Z) m x known)])/\iE w' u (EC (yK (dh ss G L Z) m x known) ss x known m)/\(EC (yK (dh ss G L Z) m x known) ss x known m=[]->u=J)/\bG w w':=by
 have hlens:x.imports.length<=1048576/\x.vars.length<=1048576/\x.bq.length<=1048576:=by have a1:=yO x.imports;obtain⟨a2,a3,hw⟩:=lQ (Yj x.vars) (Hr m x.bq) h.small;unfold qx at hw;omega
 exact Vj m w vn vl vi vv vf vk ss x known _ h.strs h.mo h.kn h.cap (λwx hb=>J3 m wx vn vl vi vv vf vk ss G L Z x known (h.strs.below hb) (h.Qg.below hb) (h.mo.below hb) (h.kn.below hb) h.small h.smalls (h.tab.below hb)) hlens.2.1 hlens.2.2 hlens.1 (prL_len ss known h.mo h.small)
theorem l9.check(h:l9 w m vn vl vi vv vf vk vs vo ss G L Z x known bJ own):Calls prog 53 #[.agg #[vn,vl],.agg #[A x.name,vi,vv,vf],vk] w λe w'=>∃u,e=cO (.tuple #[u,O (yK (dh ss G L Z) m x known)])/\iE w' u (EC (yK (dh ss G L Z) m x known) ss x known m)/\bG w w':=by refine h.checkO.mono ?_;rintro e w' ⟨u,rfl,h1,_,h2⟩;exact⟨u,rfl,h1,h2⟩
theorem l9.forms(h:l9 w m vn vl vi vv vf vk vs vo ss G L Z x known bJ own):(∃a c,vn=Y a ss.length c)/\(∃a n c,vl=Y a n c)/\(∃a n c,vi=Y a n c)/\(∃a n c,vv=Y a n c)/\(∃a c,vf=Y a x.bq.length c/\x.bq.length<=c)/\(∃a n c,vk=Y a n c)/\(∃a n c,vs=Y a n c)/\(∃a n c,vo=Y a n c):=by obtain⟨h1,h2,h3⟩:=h.mo.split;obtain⟨a0,_,_,c0,e0,_⟩:=h.strs;obtain⟨a1,_,_,c1,_,_,_,_,e1,_⟩:=h.Qg;obtain⟨a2,_,_,c2,e2,_⟩:=h1;obtain⟨a3,_,_,c3,e3,_⟩:=h2;obtain⟨a4,_,_,c4,e4,_⟩:=h3;obtain⟨a5,_,_,c5,e5,_⟩:=h.kn;obtain⟨a6,_,_,c6,e6,_⟩:=h.sc;obtain⟨a7,_,_,c7,e7,_⟩:=h.ow;exact⟨⟨_,_,e0⟩,⟨_,_,_,e1⟩,⟨_,_,_,e2⟩,⟨_,_,_,e3⟩,⟨_,_,e4,h.cap.fus _ _ _ e4⟩,⟨_,_,_,e5⟩,⟨_,_,_,e6⟩,⟨_,_,_,e7⟩⟩
end
theorem SL(m:Nat)(w:World)(vn vl vi vv vf vk vs vo:Value)(ss:List aZ)(G:Nat)(L:Nat->Nat)(Z:Nat->Nat->Bool)(x:Mo)(known:List Mo)(bJ:List (List Sc))(own:List Sc)(k mn mc:Int)(hP:l9 w m vn vl vi vv vf vk vs vo ss G L Z x known bJ own)(hE:yK (dh ss G L Z) m x known≠0):Calls prog 54 #[.agg #[vn,vl],.agg #[A x.name,vi,vv,vf],O k,vk,vs,vo,O mn,O mc] w λe w'=>e=cO (.tuple #[.agg #[J,J,J,J,O 0,O 0,J],O (yK (dh ss G L Z) m x known)])/\bG w w':=by obtain⟨⟨a0,c0,e0⟩,⟨a1,n1,c1,e1⟩,⟨a2,n2,c2,e2⟩,⟨a3,n3,c3,e3⟩,⟨a4,c4,e4,hcap⟩,⟨a5,n5,c5,e5⟩,⟨a6,n6,c6,e6⟩,⟨a7,n7,c7,e7⟩⟩:=hP.forms;obtain⟨n0,hn0⟩:=bC ss.length;obtain⟨n4,tZ⟩:=bC x.bq.length;obtain⟨GJ,zQ⟩:=bT hn0 tZ;rw[<-hn0]at e0;rw[<-tZ]at e4 hcap;clear hn0 tZ;subst e0 e1 e2 e3 e4 e5 e6 e7;have HP:=I hP;obtain⟨W,hW,k0,k1,k2,hsz,hBW⟩:=al3 w (aY #[Y a0 n0 c0,Y a1 n1 c1] 25) (aY #[A x.name,Y a2 n2 c2,Y a3 n3 c3,Y a4 n4 c4] 58) (aY #[J,J,J,J,O 0,O 0,J] 128);obtain⟨x0,x1⟩:=jm k0;obtain⟨y0,y1,y2,y3⟩:=Js k1;obtain⟨lD,jl,Kc,iN,vW⟩:=tq k0 k1 k2 hBW ((hP.below hBW).check);clear k0 k1 k2 hsz hBW hP;rw[hW]at x0 x1 y0 y1 y2 y3;obtain⟨E,hEE⟩:=bC (yK (dh ss G L Z) m x known);rw[<-hEE]at vW hE ⊢;have hz:=dY hE;clear hEE hE;go_enter func54,ntmps54;go_wp2_with fail;rw[<-hW];clear hW x0 x1 y0 y1 y2 y3;refine vW.mono ?_;rintro e w1 ⟨u,rfl,hu,hb1⟩;obtain⟨HR1,HB1⟩:=bT (aU Kc hb1) (up iN hb1);clear hu hb1;obtain⟨r0,r1,r2,r3,r4,r5,r6⟩:=BX HR1;obtain⟨z0,z1,z2,z3,z4,z5,z6⟩:=Iz (aG HR1 0) (aG HR1 1) (aG HR1 2) (aG HR1 3) (aG HR1 4) (aG HR1 5) (aG HR1 6);go_wp2_with fail;have hs:=Lr HR1 (J) (J) (J) (J) (O 0) (O 0) (J);obtain⟨f0,f1,f2,f3,f4,f5,f6⟩:=BX hs;refine bW (v:=.tuple #[.agg #[J,J,J,J,O 0,O 0,J],O (E)]) (by simp[results,results54,go_sem,f0,f1,f2,f3,f4,f5,f6]) rfl ⟨rfl,?_⟩;exact j5 HB1 (bH (dJ _) (dJ _)) _ _ _ _ _ _ _
theorem SN(m:Nat)(w:World)(vn vl vi vv vf vk vs vo:Value)(ss:List aZ)(G:Nat)(L:Nat->Nat)(Z:Nat->Nat->Bool)(x:Mo)(known:List Mo)(bJ:List (List Sc))(own:List Sc)(k mn mc:Int)(hP:l9 w m vn vl vi vv vf vk vs vo ss G L Z x known bJ own)(hE:yK (dh ss G L Z) m x known=0)(hD:aO.once (aO.Aj ss x known m)≠[]):Calls prog 54 #[.agg #[vn,vl],.agg #[A x.name,vi,vv,vf],O k,vk,vs,vo,O mn,O mc] w λe w'=>e=cO (.tuple #[.agg #[J,J,J,J,O 0,O 0,J],O 5])/\bG w w':=by
 obtain⟨⟨a0,c0,e0⟩,⟨a1,n1,c1,e1⟩,⟨a2,n2,c2,e2⟩,⟨a3,n3,c3,e3⟩,⟨a4,c4,e4,hcap⟩,⟨a5,n5,c5,e5⟩,⟨a6,n6,c6,e6⟩,⟨a7,n7,c7,e7⟩⟩:=hP.forms;obtain⟨n0,hn0⟩:=bC ss.length;obtain⟨n4,tZ⟩:=bC x.bq.length;obtain⟨GJ,zQ⟩:=bT hn0 tZ;rw[<-hn0]at e0;rw[<-tZ]at e4 hcap;clear hn0 tZ;subst e0 e1 e2 e3 e4 e5 e6 e7;have HP:=I hP;obtain⟨W,hW,k0,k1,k2,hsz,hBW⟩:=al3 w (aY #[Y a0 n0 c0,Y a1 n1 c1] 25) (aY #[A x.name,Y a2 n2 c2,Y a3 n3 c3,Y a4 n4 c4] 58) (aY #[J,J,J,J,O 0,O 0,J] 128);obtain⟨x0,x1⟩:=jm k0;obtain⟨y0,y1,y2,y3⟩:=Js k1;obtain⟨lD,jl,Kc,iN,vW⟩:=tq k0 k1 k2 hBW ((hP.below hBW).check);clear k0 k1 k2 hsz hBW hP;rw[hW]at x0 x1 y0 y1 y2 y3;rw[hE]at vW;have HD:Hid (0<(EC 0 ss x known m).length):=I (by unfold EC;rw[aL rfl];exact uF.2 hD);clear hE hD;go_enter func54,ntmps54;go_wp2_with fail;rw[<-hW];clear hW x0 x1 y0 y1 y2 y3;refine vW.mono ?_;rintro e w1 ⟨u,rfl,hu,hb1⟩;obtain⟨HR1,HB1⟩:=bT (aU Kc hb1) (up iN hb1);obtain⟨ua,ub,uo,uc,rfl,-⟩:=hu;obtain⟨nd,hnd⟩:=bC ((EC 0 ss x known m).length);have hpos:0<nd:=by rw[hnd];exact HD
 rw[<-hnd];clear hnd hb1;obtain⟨r0,r1,r2,r3,r4,r5,r6⟩:=BX HR1;obtain⟨z0,z1,z2,z3,z4,z5,z6⟩:=Iz (aG HR1 0) (aG HR1 1) (aG HR1 2) (aG HR1 3) (aG HR1 4) (aG HR1 5) (aG HR1 6);go_wp2_with fail;have hs:=Lr HR1 (J) (J) (J) (J) (O 0) (O 0) (J);obtain⟨f0,f1,f2,f3,f4,f5,f6⟩:=BX hs;refine bW (v:=.tuple #[.agg #[J,J,J,J,O 0,O 0,J],O (5)]) (by simp[results,results54,go_sem,f0,f1,f2,f3,f4,f5,f6]) rfl ⟨rfl,?_⟩;exact j5 HB1 (bH (dJ _) (dJ _)) _ _ _ _ _ _ _
theorem lS.takeF{a:Option Addr}{l:List Fu}(h:lS w m (Y a n c) l)(hk:k<=l.length):lS w m (Y a k c) (l.take k):=by
 obtain⟨a',b,off,cap,e,h0,hl,h1⟩:=h;injection e with e0 e1 e2;subst e0 e2;have hlen:(l.take k).length=k:=by rw[jO];omega
 refine⟨a,b,off,c,by rw[hlen],λhp=>h0 (by rw[hlen]at hp;omega),by rw[hlen];omega,λi s hs=>h1 i s ?_⟩;have hi:=(dz.1 hs).1;rw[hlen]at hi;rw[rZ hi]at hs;exact hs
theorem SQ(m:Nat)(w:World)(vn vl vi vv vf vk vs vo:Value)(ss:List aZ)(G:Nat)(L:Nat->Nat)(Z:Nat->Nat->Bool)(x:Mo)(known:List Mo)(bJ:List (List Sc))(own:List Sc)(k mn mc:Int)(hP:l9 w m vn vl vi vv vf vk vs vo ss G L Z x known bJ own)(hE:yK (dh ss G L Z) m x known=0)(hD:aO.once (aO.Aj ss x known m)=[])(hk:k<0):Calls prog 54 #[.agg #[vn,vl],.agg #[A x.name,vi,vv,vf],O k,vk,vs,vo,O mn,O mc] w λe w'=>e=cO (.tuple #[.agg #[J,J,J,J,O 0,O 0,J],O 1])/\bG w w':=by
 obtain⟨⟨a0,c0,e0⟩,⟨a1,n1,c1,e1⟩,⟨a2,n2,c2,e2⟩,⟨a3,n3,c3,e3⟩,⟨a4,c4,e4,hcap⟩,⟨a5,n5,c5,e5⟩,⟨a6,n6,c6,e6⟩,⟨a7,n7,c7,e7⟩⟩:=hP.forms;obtain⟨n0,hn0⟩:=bC ss.length;obtain⟨n4,tZ⟩:=bC x.bq.length;obtain⟨GJ,zQ⟩:=bT hn0 tZ;rw[<-hn0]at e0;rw[<-tZ]at e4 hcap;clear hn0 tZ;subst e0 e1 e2 e3 e4 e5 e6 e7;have HP:=I hP;obtain⟨W,hW,k0,k1,k2,hsz,hBW⟩:=al3 w (aY #[Y a0 n0 c0,Y a1 n1 c1] 25) (aY #[A x.name,Y a2 n2 c2,Y a3 n3 c3,Y a4 n4 c4] 58) (aY #[J,J,J,J,O 0,O 0,J] 128);obtain⟨x0,x1⟩:=jm k0;obtain⟨y0,y1,y2,y3⟩:=Js k1;obtain⟨lD,jl,Kc,iN,vW⟩:=tq k0 k1 k2 hBW ((hP.below hBW).check);clear k0 k1 k2 hsz hBW hP;rw[hW]at x0 x1 y0 y1 y2 y3;rw[hE]at vW;have HD:Hid ((EC 0 ss x known m).length=0):=I (by unfold EC;rw[aL rfl,hD];rfl);have hk1:decide (k<0)=true:=fQ hk;clear hE hD;go_enter func54,ntmps54;go_wp2_with fail;rw[<-hW];clear hW x0 x1 y0 y1 y2 y3;refine vW.mono ?_;rintro e w1 ⟨u,rfl,hu,hb1⟩;obtain⟨nV,lN,HR1,HB1⟩:=mg (aU lD hb1) (aU jl hb1) (aU Kc hb1) (up iN hb1);obtain⟨ua,ub,uo,uc,rfl,-⟩:=hu;rw[HD];obtain⟨x0,x1,y3⟩:=lQ (aX ((aj nV 0).trans rfl)) (aX ((aj nV 1).trans rfl)) (aX ((aj lN 3).trans rfl));clear hb1;go_wp2_with fail;refine bS bU bU ?_;repeat(with_reducible(refine wpQuiet_step (λKQ oW=>?_));go_simp;first|(with_reducible(refine oW _ ?_);clear oW KQ)|(rw[aJ (by simp[undef])];with_reducible(refine oW _ ?_);clear oW KQ)|(apply Exists.intro;refine⟨λ_=>?_,oW _ ?_⟩;(fail);clear oW KQ))
 with_reducible(refine wpQuiet_nil ?_)
 intro w2 hw';obtain⟨⟨nq,osq⟩,hw''⟩:=hw';have hb2:bG w1 w2:=by rw[hw''];exact bR w1 nq osq
 obtain⟨HB2,HR2⟩:=bT (up HB1 hb2) (aU HR1 hb2);clear hw'' hb2 x0 x1 y3;obtain⟨r0,r1,r2,r3,r4,r5,r6⟩:=BX HR2;obtain⟨z0,z1,z2,z3,z4,z5,z6⟩:=Iz (aG HR2 0) (aG HR2 1) (aG HR2 2) (aG HR2 3) (aG HR2 4) (aG HR2 5) (aG HR2 6);go_wp2_with fail;have hs:=Lr HR2 (J) (J) (J) (J) (O 0) (O 0) (J);obtain⟨f0,f1,f2,f3,f4,f5,f6⟩:=BX hs;refine bW (v:=.tuple #[.agg #[J,J,J,J,O 0,O 0,J],O (1)]) (by simp[results,results54,go_sem,f0,f1,f2,f3,f4,f5,f6]) rfl ⟨rfl,?_⟩;exact j5 HB2 (bH (dJ _) (dJ _)) _ _ _ _ _ _ _
theorem SS(m:Nat)(w:World)(vn vl vi vv vf vk vs vo:Value)(ss:List aZ)(G:Nat)(L:Nat->Nat)(Z:Nat->Nat->Bool)(x:Mo)(known:List Mo)(bJ:List (List Sc))(own:List Sc)(k mn mc:Int)(hP:l9 w m vn vl vi vv vf vk vs vo ss G L Z x known bJ own)(hE:yK (dh ss G L Z) m x known=0)(hD:aO.once (aO.Aj ss x known m)=[])(hk0:¬k<0)(hk:k>=x.bq.length):Calls prog 54 #[.agg #[vn,vl],.agg #[A x.name,vi,vv,vf],O k,vk,vs,vo,O mn,O mc] w λe w'=>e=cO (.tuple #[.agg #[J,J,J,J,O 0,O 0,J],O 1])/\bG w w':=by
 obtain⟨⟨a0,c0,e0⟩,⟨a1,n1,c1,e1⟩,⟨a2,n2,c2,e2⟩,⟨a3,n3,c3,e3⟩,⟨a4,c4,e4,hcap⟩,⟨a5,n5,c5,e5⟩,⟨a6,n6,c6,e6⟩,⟨a7,n7,c7,e7⟩⟩:=hP.forms;obtain⟨n0,hn0⟩:=bC ss.length;obtain⟨n4,tZ⟩:=bC x.bq.length;obtain⟨GJ,zQ⟩:=bT hn0 tZ;rw[<-hn0]at e0;rw[<-tZ]at e4 hcap;clear hn0 tZ;subst e0 e1 e2 e3 e4 e5 e6 e7;have HP:=I hP;obtain⟨W,hW,k0,k1,k2,hsz,hBW⟩:=al3 w (aY #[Y a0 n0 c0,Y a1 n1 c1] 25) (aY #[A x.name,Y a2 n2 c2,Y a3 n3 c3,Y a4 n4 c4] 58) (aY #[J,J,J,J,O 0,O 0,J] 128);obtain⟨x0,x1⟩:=jm k0;obtain⟨y0,y1,y2,y3⟩:=Js k1;obtain⟨lD,jl,Kc,iN,vW⟩:=tq k0 k1 k2 hBW ((hP.below hBW).check);clear k0 k1 k2 hsz hBW hP;rw[hW]at x0 x1 y0 y1 y2 y3;rw[hE]at vW;have HD:Hid ((EC 0 ss x known m).length=0):=I (by unfold EC;rw[aL rfl,hD];rfl);rw[<-zQ]at hk;have hk1:decide (k>=(n4:Int))=true:=fQ hk;clear hE hD;go_enter func54,ntmps54;go_wp2_with fail;rw[<-hW];clear hW x0 x1 y0 y1 y2 y3;refine vW.mono ?_;rintro e w1 ⟨u,rfl,hu,hb1⟩;obtain⟨nV,lN,HR1,HB1⟩:=mg (aU lD hb1) (aU jl hb1) (aU Kc hb1) (up iN hb1);obtain⟨ua,ub,uo,uc,rfl,-⟩:=hu;rw[HD];obtain⟨x0,x1,y3⟩:=lQ (aX ((aj nV 0).trans rfl)) (aX ((aj nV 1).trans rfl)) (aX ((aj lN 3).trans rfl));clear hb1;go_wp2_with fail;refine bS bU bU ?_;repeat(with_reducible(refine wpQuiet_step (λKQ oW=>?_));go_simp;first|(with_reducible(refine oW _ ?_);clear oW KQ)|(rw[aJ (by simp[undef])];with_reducible(refine oW _ ?_);clear oW KQ)|(apply Exists.intro;refine⟨λ_=>?_,oW _ ?_⟩;(fail);clear oW KQ))
 with_reducible(refine wpQuiet_nil ?_)
 intro w2 hw';obtain⟨⟨nq,osq⟩,hw''⟩:=hw';have hb2:bG w1 w2:=by rw[hw''];exact bR w1 nq osq
 obtain⟨HB2,HR2⟩:=bT (up HB1 hb2) (aU HR1 hb2);clear hw'' hb2 x0 x1 y3;obtain⟨r0,r1,r2,r3,r4,r5,r6⟩:=BX HR2;obtain⟨z0,z1,z2,z3,z4,z5,z6⟩:=Iz (aG HR2 0) (aG HR2 1) (aG HR2 2) (aG HR2 3) (aG HR2 4) (aG HR2 5) (aG HR2 6);go_wp2_with fail;have hs:=Lr HR2 (J) (J) (J) (J) (O 0) (O 0) (J);obtain⟨f0,f1,f2,f3,f4,f5,f6⟩:=BX hs;refine bW (v:=.tuple #[.agg #[J,J,J,J,O 0,O 0,J],O (1)]) (by simp[results,results54,go_sem,f0,f1,f2,f3,f4,f5,f6]) rfl ⟨rfl,?_⟩;exact j5 HB2 (bH (dJ _) (dJ _)) _ _ _ _ _ _ _
theorem SV(m:Nat)(w:World)(vn vl vi vv vf vk vs vo:Value)(ss:List aZ)(G:Nat)(L:Nat->Nat)(Z:Nat->Nat->Bool)(x:Mo)(known:List Mo)(bJ:List (List Sc))(own:List Sc)(k mn mc:Int)(hP:l9 w m vn vl vi vv vf vk vs vo ss G L Z x known bJ own)(hE:yK (dh ss G L Z) m x known=0)(hD:aO.once (aO.Aj ss x known m)=[])(kn:Nat)(hkk:k=kn)(hkn:kn<x.bq.length)(hf:Fl.iw ss.length known bJ=false):Calls prog 54 #[.agg #[vn,vl],.agg #[A x.name,vi,vv,vf],O k,vk,vs,vo,O mn,O mc] w λe w'=>e=cO (.tuple #[.agg #[J,J,J,J,O 0,O 0,J],O 1])/\bG w w':=by
 obtain⟨⟨a0,c0,e0⟩,⟨a1,n1,c1,e1⟩,⟨a2,n2,c2,e2⟩,⟨a3,n3,c3,e3⟩,⟨a4,c4,e4,hcap⟩,⟨a5,n5,c5,e5⟩,⟨a6,n6,c6,e6⟩,⟨a7,n7,c7,e7⟩⟩:=hP.forms;obtain⟨n0,hn0⟩:∃n,n=ss.length:=⟨_,rfl⟩;obtain⟨n4,tZ⟩:∃n,n=x.bq.length:=⟨_,rfl⟩;obtain⟨GJ,zQ⟩:=bT hn0 tZ;rw[<-hn0]at e0;rw[<-tZ]at e4 hcap;clear hn0 tZ;subst e0 e1 e2 e3 e4 e5 e6 e7;have HP:=I hP;obtain⟨W,hW,k0,k1,k2,hsz,hBW⟩:=al3 w (aY #[Y a0 n0 c0,Y a1 n1 c1] 25) (aY #[A x.name,Y a2 n2 c2,Y a3 n3 c3,Y a4 n4 c4] 58) (aY #[J,J,J,J,O 0,O 0,J] 128);obtain⟨x0,x1⟩:=jm k0;obtain⟨y0,y1,y2,y3⟩:=Js k1;obtain⟨lD,jl,Kc,iN,vW⟩:=tq k0 k1 k2 hBW ((hP.below hBW).check);clear k0 k1 k2 hsz hBW hP;rw[hW]at x0 x1 y0 y1 y2 y3;rw[hE]at vW;have HD:Hid ((EC 0 ss x known m).length=0):=I (by unfold EC;rw[if_pos rfl,hD];rfl);subst hkk;have HKL:=I (Nat.le_of_lt hkn);have hkn':kn<n4:=by rw[zQ.out];exact hkn
 have hkc:kn<=c4:=by omega
 clear hkn;have HF:=I hf;clear hf;clear hE hD;go_enter func54,ntmps54;go_wp2_with fail;rw[<-hW];clear hW x0 x1 y0 y1 y2 y3;refine vW.out.mono ?_;rintro e w1 ⟨u,rfl,hu,hb1⟩;obtain⟨nV,lN,HR1,HB1⟩:=mg (aU lD.out hb1) (aU jl.out hb1) (aU Kc.out hb1) (up iN.out hb1);obtain⟨ua,ub,uo,uc,rfl,-⟩:=hu;rw[HD.out];obtain⟨x0,x1,y3⟩:=lQ (aX ((aj nV.out 0).trans rfl)) (aX ((aj nV.out 1).trans rfl)) (aX ((aj lN.out 3).trans rfl));clear hb1;have PE:=I (λq os=>Br m (gn w1 q os) a0 (Y a1 n1 c1) n0 c0 (Y a5 n5 c5) (Y a6 n6 c6) known bJ (HP.out.kn.below (up HB1.out (bR w1 q os))) (HP.out.sc.below (up HB1.out (bR w1 q os))));rw[GJ.out]at PE;rw[HF.out]at PE;rw[<-GJ.out]at PE;go_wp2_with fail;refine bS bU bU ?_;repeat(with_reducible(refine wpQuiet_step (λKQ oW=>?_));go_simp;first|(with_reducible(refine oW _ ?_);clear oW KQ)|(rw[if_neg (by simp[undef])];with_reducible(refine oW _ ?_);clear oW KQ)|(apply Exists.intro;refine⟨λ_=>?_,oW _ ?_⟩;((exact Calls.pX (PE.out _ _)));clear oW KQ))
 with_reducible(refine wpQuiet_nil ?_)
 intro w2 hw';obtain⟨⟨nq,osq⟩,hw''⟩:=hw';have hb2:bG w1 w2:=by rw[hw''];exact bR w1 nq osq
 obtain⟨HB2,HR2⟩:=bT (up HB1.out hb2) (aU HR1.out hb2);clear hw'' hb2 x0 x1 y3;obtain⟨r0,r1,r2,r3,r4,r5,r6⟩:=BX HR2.out;obtain⟨z0,z1,z2,z3,z4,z5,z6⟩:=Iz (aG HR2.out 0) (aG HR2.out 1) (aG HR2.out 2) (aG HR2.out 3) (aG HR2.out 4) (aG HR2.out 5) (aG HR2.out 6);go_wp2_with fail;have hs:=Lr HR2.out (J) (J) (J) (J) (O 0) (O 0) (J);obtain⟨f0,f1,f2,f3,f4,f5,f6⟩:=BX hs;refine bodyPost_ret (v:=.tuple #[.agg #[J,J,J,J,O 0,O 0,J],O (1)]) (by simp[results,results54,go_sem,f0,f1,f2,f3,f4,f5,f6]) rfl ⟨rfl,?_⟩;exact j5 HB2.out (Nat.le_trans (Nat.le_succ _) (Nat.le_succ _)) _ _ _ _ _ _ _
theorem SX(m:Nat)(w:World)(vn vl vi vv vf vk vs vo:Value)(ss:List aZ)(G:Nat)(L:Nat->Nat)(Z:Nat->Nat->Bool)(x:Mo)(known:List Mo)(bJ:List (List Sc))(own:List Sc)(k mn mc:Int)(hP:l9 w m vn vl vi vv vf vk vs vo ss G L Z x known bJ own)(hE:yK (dh ss G L Z) m x known=0)(hD:aO.once (aO.Aj ss x known m)=[])(kn:Nat)(hkk:k=kn)(hkn:kn<x.bq.length)(hf:Fl.iw ss.length known bJ=true)(ho:nT ss.length (x.bq.take kn) own=false):Calls prog 54 #[.agg #[vn,vl],.agg #[A x.name,vi,vv,vf],O k,vk,vs,vo,O mn,O mc] w λe w'=>e=cO (.tuple #[.agg #[J,J,J,J,O 0,O 0,J],O 1])/\bG w w':=by
 obtain⟨⟨a0,c0,e0⟩,⟨a1,n1,c1,e1⟩,⟨a2,n2,c2,e2⟩,⟨a3,n3,c3,e3⟩,⟨a4,c4,e4,hcap⟩,⟨a5,n5,c5,e5⟩,⟨a6,n6,c6,e6⟩,⟨a7,n7,c7,e7⟩⟩:=hP.forms;obtain⟨n0,hn0⟩:∃n,n=ss.length:=⟨_,rfl⟩;obtain⟨n4,tZ⟩:∃n,n=x.bq.length:=⟨_,rfl⟩;obtain⟨GJ,zQ⟩:=bT hn0 tZ;rw[<-hn0]at e0;rw[<-tZ]at e4 hcap;clear hn0 tZ;subst e0 e1 e2 e3 e4 e5 e6 e7;have HP:=I hP;obtain⟨W,hW,k0,k1,k2,hsz,hBW⟩:=al3 w (aY #[Y a0 n0 c0,Y a1 n1 c1] 25) (aY #[A x.name,Y a2 n2 c2,Y a3 n3 c3,Y a4 n4 c4] 58) (aY #[J,J,J,J,O 0,O 0,J] 128);obtain⟨x0,x1⟩:=jm k0;obtain⟨y0,y1,y2,y3⟩:=Js k1;obtain⟨lD,jl,Kc,iN,vW⟩:=tq k0 k1 k2 hBW ((hP.below hBW).check);clear k0 k1 k2 hsz hBW hP;rw[hW]at x0 x1 y0 y1 y2 y3;rw[hE]at vW;have HD:Hid ((EC 0 ss x known m).length=0):=I (by unfold EC;rw[if_pos rfl,hD];rfl);subst hkk;have HKL:=I (Nat.le_of_lt hkn);have hkn':kn<n4:=by rw[zQ.out];exact hkn
 have hkc:kn<=c4:=by omega
 clear hkn;obtain⟨HF,HO⟩:=bT hf ho;clear hf ho;clear hE hD;go_enter func54,ntmps54;go_wp2_with fail;rw[<-hW];clear hW x0 x1 y0 y1 y2 y3;refine vW.out.mono ?_;rintro e w1 ⟨u,rfl,hu,hb1⟩;obtain⟨nV,lN,HR1,HB1⟩:=mg (aU lD.out hb1) (aU jl.out hb1) (aU Kc.out hb1) (up iN.out hb1);obtain⟨ua,ub,uo,uc,rfl,-⟩:=hu;rw[HD.out];obtain⟨x0,x1,y3⟩:=lQ (aX ((aj nV.out 0).trans rfl)) (aX ((aj nV.out 1).trans rfl)) (aX ((aj lN.out 3).trans rfl));clear hb1;have PE:=I (λq os=>Br m (gn w1 q os) a0 (Y a1 n1 c1) n0 c0 (Y a5 n5 c5) (Y a6 n6 c6) known bJ (HP.out.kn.below (up HB1.out (bR w1 q os))) (HP.out.sc.below (up HB1.out (bR w1 q os))));rw[GJ.out]at PE;rw[HF.out]at PE;rw[<-GJ.out]at PE;have MV:=I (λq os=>OX m (gn w1 q os) a0 (Y a1 n1 c1) n0 c0 (Y a4 kn c4) (Y a7 n7 c7) (x.bq.take kn) own ((HP.out.mo.split.2.2.takeF HKL.out).below (up HB1.out (bR w1 q os))) (HP.out.ow.below (up HB1.out (bR w1 q os))));rw[GJ.out]at MV;rw[HO.out]at MV;rw[<-GJ.out]at MV;go_wp2_with fail;refine bS bU bU ?_;repeat(with_reducible(refine wpQuiet_step (λKQ oW=>?_));go_simp;first|(with_reducible(refine oW _ ?_);clear oW KQ)|(rw[if_neg (by simp[undef])];with_reducible(refine oW _ ?_);clear oW KQ)|(apply Exists.intro;refine⟨λ_=>?_,oW _ ?_⟩;(first|(exact Calls.pX (PE.out _ _))|(exact Calls.pX (MV.out _ _)));clear oW KQ))
 with_reducible(refine wpQuiet_nil ?_)
 intro w2 hw';obtain⟨⟨nq,osq⟩,hw''⟩:=hw';have hb2:bG w1 w2:=by rw[hw''];exact bR w1 nq osq
 obtain⟨HB2,HR2⟩:=bT (up HB1.out hb2) (aU HR1.out hb2);clear hw'' hb2 x0 x1 y3;obtain⟨r0,r1,r2,r3,r4,r5,r6⟩:=BX HR2.out;obtain⟨z0,z1,z2,z3,z4,z5,z6⟩:=Iz (aG HR2.out 0) (aG HR2.out 1) (aG HR2.out 2) (aG HR2.out 3) (aG HR2.out 4) (aG HR2.out 5) (aG HR2.out 6);go_wp2_with fail;have hs:=Lr HR2.out (J) (J) (J) (J) (O 0) (O 0) (J);obtain⟨f0,f1,f2,f3,f4,f5,f6⟩:=BX hs;refine bodyPost_ret (v:=.tuple #[.agg #[J,J,J,J,O 0,O 0,J],O (1)]) (by simp[results,results54,go_sem,f0,f1,f2,f3,f4,f5,f6]) rfl ⟨rfl,?_⟩;exact j5 HB2.out (Nat.le_trans (Nat.le_succ _) (Nat.le_succ _)) _ _ _ _ _ _ _
structure xu(w:World)(n:Nat)(dZ vc vs vf ve:Value)(P:Pb):Prop where
 names:Own w n dZ P.names
 cons:d9 CoT w n 261 4 vc P.cons
 sinks:d9 SiC w n 209 6 vs P.sinks
 fr:cK w vf P.fr
 gU:og w n ve P.gU
theorem Own.oldF(h:Own w n v l)(hn:n'<=n):Own w n' v l:=by
 obtain⟨h0,h1⟩:=h;refine⟨h0,?_⟩;rcases h1 with h1|⟨g,cap,cur,e,hg,rest⟩;·exact aR h1
 ·exact aT ⟨g,cap,cur,e,bH hn hg,rest⟩
theorem og.oldF(h:og w n v l)(hn:n'<=n):og w n' v l:=by
 rcases h with h|⟨g,cap,e,hg,hr⟩;·exact aR h
 ·exact aT ⟨g,cap,e,bH hn hg,hr⟩
theorem xu.keep{vs:Value}{P:Pb}(h:xu w n dZ vc vs vf ve P)(hk:Kx B muP w w'):xu w' n dZ vc vs vf ve P:=by
 refine⟨h.names.keep λ_ _ _ hj=>hk.at hj rfl,h.cons.keep (λ_ _ _ hj=>hk.at hj rfl) λc y hc=>hc.mono λv l hi=>hk.cells (λ_ _=>rfl) hi,h.sinks.keep (λ_ _ _ hj=>hk.at hj rfl) λc y hc=>hc.mono λv l hi=>hk.cells (λ_ _=>rfl) hi,hk.cells (λ_ _=>rfl) h.fr,?_⟩;rcases h.gU with h1|⟨g,cap,e,hg,cur,hc,hr⟩;·exact aR h1
 ·exact aT ⟨g,cap,e,hg,cur,hk.at hc rfl,hr⟩
theorem kx_set7{r0 r1 r2 r3 r4 r5 r6:Value}(h:W.heap[B]?=some (aY #[r0,r1,r2,r3,r4,r5,r6] 128))(hB:n<=B)(a b c d e f g:Value):Kx n muP W (((((((W.setCell (X B 0) a).setCell (X B 1) b).setCell (X B 2) c).setCell (X B 3) d).setCell (X B 4) e).setCell (X B 5) f).setCell (X B 6) g):=by have t1:=aP h 0 a;have t2:=aP t1 1 b;have t3:=aP t2 2 c;have t4:=aP t3 3 d;have t5:=aP t4 4 e;have t6:=aP t5 5 f;exact(Kx.set h rfl hB 0 _).trans ((Kx.set t1 rfl hB 1 _).trans ((Kx.set t2 rfl hB 2 _).trans ((Kx.set t3 rfl hB 3 _).trans ((Kx.set t4 rfl hB 4 _).trans ((Kx.set t5 rfl hB 5 _).trans (Kx.set t6 rfl hB 6 _))))))
theorem VF.spAt(h:VF w0 w q nl eP kc dZ sets ve E)(hL:mK w0 q.vn q.vl q.ss q.G q.L q.c.Z)(hN:q.c.N=q.ss.length)(hk:kc<=16777216)(hl:nl.length<=1048576):C9 w q nl eP dZ sets ve:=
 ⟨h.blk,hL.below h.base,hN,h.levels,h.numbers,h.called.mono hk,λs v hv=>(h.eB s v hv).below h.base,h.nodup,hl⟩
theorem VF.below(h:VF w0 w q nl eP kc dZ sets ve E)(hb:bG w w'):VF w0 w' q nl eP kc dZ sets ve E:=
 ⟨aU h.blk hb,h.new,h.levels.below hb,h.numbers.below hb,h.called.below hb,h.eB,h.nodup,fC h.names hb,h.lK.below hb,up h.base hb⟩
namespace Fl
def Ke(c:Env)(m:Nat)(f:Fu)(mn mc:Int):Bool:=decide (((c.names m f).length:Int) > mn)||decide (((f.params.length+c.uR m f.body:Nat):Int) > mc)
theorem schOf_eff(hs:∀l∈bJ,∀y∈l,y.gU.length<=1048576)(ho:∀y∈own,y.gU.length<=1048576)(s:aZ):(oh x k known bJ own s).gU.length<=1048576:=by
 have hd:∀(l:List Sc) (i:Nat),(∀y∈l,y.gU.length<=1048576)->(l.getD i LC).gU.length<=1048576:=λl i hl=>by
  rw[List.getD];cases h:l[i]? with
  | none=>simp[LC]
  | some y=>exact hl y (dN h)
 unfold oh;split;·simp[LC]
 ·split;·exact hd _ _ ho
  ·refine hd _ _ λy hy=>?_;rw[List.getD]at hy;cases h:bJ[(aO.gq x k s known).1.toNat]? with
   | none=>rw[h]at hy;cases hy
   | some l=>rw[h]at hy;exact hs l (dN h) y hy
structure Lens(c:Env)(m:Nat)(f:Fu):Prop where
 names:f.params.length+(c.xB m f.body++c.nO m f.result).length<=1048576
 lK:(c.RN m f.body++c.Bg m f.result).length<=4398046511103
 cls:(mV m f.body++Fl.cls m f.result).length<=16777216
 sets:c.uR m f.body<=1048576
 sinks:((c.KS m f.body ([],c.low))++c.Ai m f.result ([],c.low)).length<=16777216
 cons:f.params.length+(c.Jw m f.body ([],c.low)).length<=16777216
 all:f.params.length+c.uR m f.body<=1048576
theorem lens_of{c:Env}(hf:f∈x.bq)(hw:qx m x<=1048576)(hs:∀s,(c.eB s).gU.length<=1048576)(h1:c.yA m f.body)(h2:c.yx m f.result):Lens c m f:=by have h:=fun_le (m:=m) hf;obtain⟨a1,a2,b1,b2,c1,c2,d1⟩:=Iz (Pv c m f.body) (Pt c m f.result) (Pz c bP hs m f.body) (Py c bP hs m f.result) (Ka m f.body) (Pw m f.result) (Px c m f.body);obtain⟨s1,s2,k1⟩:=lQ (Hw c m f.body ([],c.low) h1) (Hu c m f.result ([],c.low) h2) (VU c m f.body ([],c.low));refine⟨by rw[aW];omega,by rw[aW];omega,by rw[aW];omega,by omega,by rw[aW];omega,by omega,by omega⟩
end Fl
theorem within_ok(m:Nat)(w:World)(vn vl vi vv vf vk vs vo:Value)(ss:List ByteArray)(G:Nat)(L:Nat->Nat)(Z:Nat->Nat->Bool)(x:Mo)(known:List Mo)(bJ:List (List Sc))(own:List Sc)(k mn mc:Int)(hP:l9 w m vn vl vi vv vf vk vs vo ss G L Z x known bJ own)(hE:yK (dh ss G L Z) m x known=0)(hD:aO.once (aO.Aj ss x known m)=[])(kn:Nat)(f:Fu)(hkk:k=kn)(hfn:x.bq[kn]?=some f)(hf:Fl.iw ss.length known bJ=true)(ho:nT ss.length (x.bq.take kn) own=true):Calls prog 54 #[.agg #[vn,vl],.agg #[A x.name,vi,vv,vf],O k,vk,vs,vo,O mn,O mc] w λe w'=>Hid ((Fl.Ke (Fl.fP ss Z x kn known bJ own f) m f mn mc=true/\e=cO (.tuple #[.agg #[J,J,J,J,O 0,O 0,J],O 2])/\bG w w')\/(Fl.Ke (Fl.fP ss Z x kn known bJ own f) m f mn mc=false/\∃dZ vc vs vf ve,e=cO (.tuple #[.agg #[dZ,vc,vs,vf,O 0,O ((Fl.fP ss Z x kn known bJ own f).jq m f).level,ve],O 0])/\xu w' w.heap.size dZ vc vs vf ve ((Fl.fP ss Z x kn known bJ own f).jq m f)/\bG w w')):=by
 have hm0:dh ss G L Z=0/\oM m x=0:=by
  unfold yK at hE;by_cases h0:dh ss G L Z=0
  ·rw[if_pos h0]at hE;by_cases h1:oM m x=0;·exact⟨h0,h1⟩
   ·rw[if_neg h1]at hE;exact absurd hE h1
  ·rw[if_neg h0]at hE;exact absurd hE h0
 have hnm:=Fl.Yk hD;obtain⟨hfo,hen,hfm⟩:=lQ (Fl.Yn (Z:=Z) hnm hm0.2 hfn hf ho) (Fl.SI hm0.1 hnm kn bJ own f) (List.mem_of_getElem? hfn);have hlen:=lens_of (c:=Fl.fP ss Z x kn known bJ own f) hfm hP.small (schOf_eff hP.lK hP.effo) hfo.st hfo.ex;have hp4:f.params.length<=4/\x.vars.length<=8/\x.imports.length<=8:=by
  have h1:=hm0.2;unfold oM at h1;by_cases h2:8<x.imports.length\/8<x.vars.length\/8<x.bq.length;·rw[if_pos h2]at h1;omega
  ·rw[if_neg h2]at h1;refine⟨?_,by omega,by omega⟩;by_cases h3:((fU x.name&&x.imports.all fU)&&x.vars.all KP)=false;·rw[if_pos h3]at h1;omega
   ·rw[if_neg h3]at h1;by_cases h4:uj m x.bq≠0;·rw[if_pos h4]at h1;exact absurd h1 h4
    ·have h5:=Dk (Classical.not_not.1 h4) f hfm;unfold Jr at h5;by_cases h6:4<f.params.length;·rw[if_pos h6]at h5;omega
     ·omega
 have hmd:x.name.size<=8:=by
  have h1:=hm0.2;unfold oM at h1;by_cases h2:8<x.imports.length\/8<x.vars.length\/8<x.bq.length;·rw[if_pos h2]at h1;omega
  ·rw[if_neg h2]at h1;by_cases h3:((fU x.name&&x.imports.all fU)&&x.vars.all KP)=false;·rw[if_pos h3]at h1;omega
   ·have h4:((fU x.name&&x.imports.all fU)&&x.vars.all KP)=true:=by
     cases h:((fU x.name&&x.imports.all fU)&&x.vars.all KP)with
     | true=>rfl
     | false=>exact absurd h h3
    simp only[Bool.and_eq_true]at h4;exact sM h4.1.1
 obtain⟨c,hc⟩:∃c,c=Fl.fP ss Z x kn known bJ own f:=⟨_,rfl⟩;have vg:=I hc;rw[<-hc]at hfo hen hlen ⊢;obtain⟨Qi,HEN,HLEN,HP4,Gx,HNM⟩:=vC hfo hen hlen hp4 hmd hnm;obtain⟨HM0,HFM⟩:=bT hm0 hfm;have hnf:x.bq.length<=1048576:=by have:=Hr m x.bq;have hw:=hP.small;unfold qx at hw;omega
 have HKL:Hid (kn<=x.bq.length):=I (Nat.le_of_lt (List.getElem?_eq_some_iff.1 hfn).1);have hkn0:=(List.getElem?_eq_some_iff.1 hfn).1;obtain⟨fa,fb,fo,fc,hfe,hfa,hfl,yI⟩:=hP.mo.split.2.2;obtain⟨hfz,vp,vb,e0',e1',e2',e3',g0,g1,g2,g3,g4,g5,g6,hpar,PG,hres⟩:=yI kn f hfn;have hfa':=hfa aV;obtain⟨HPAR,HBOD,HRES,HFN,HFI1,HFI2⟩:=vC hpar PG hres hfn hf ho;clear yI hfa hfo hen hlen hp4 hmd hnm hm0 hfm hf ho hfn hfz;obtain⟨⟨a0,c0,e0⟩,⟨a1,n1,c1,e1⟩,⟨a2,n2,c2,e2⟩,⟨a3,n3,c3,e3⟩,⟨a4,c4,e4,hcap⟩,⟨a5,n5,c5,e5⟩,⟨a6,n6,c6,e6⟩,⟨a7,n7,c7,e7⟩⟩:=hP.forms;obtain⟨n0,hn0⟩:∃n,n=ss.length:=⟨_,rfl⟩;obtain⟨n4,tZ⟩:∃n,n=x.bq.length:=⟨_,rfl⟩;obtain⟨GJ,zQ⟩:=bT hn0 tZ;rw[<-hn0]at e0;rw[<-tZ]at e4 hcap;clear hn0 tZ;subst e0 e1 e2 e3 e4 e5 e6 e7;have HP:=I hP;obtain⟨W,hW,k0,k1,k2,hsz,hBW⟩:=al3 w (aY #[Y a0 n0 c0,Y a1 n1 c1] 25) (aY #[A x.name,Y a2 n2 c2,Y a3 n3 c3,Y a4 n4 c4] 58) (aY #[J,J,J,J,O 0,O 0,J] 128);obtain⟨x0,x1⟩:=jm k0;obtain⟨y0,y1,y2,y3⟩:=Js k1;obtain⟨lD,jl,Kc,iN,vW⟩:=tq k0 k1 k2 hBW ((hP.below hBW).check);clear k0 k1 k2 hsz hBW hP;rw[hW]at x0 x1 y0 y1 y2 y3;injection hfe with ee1 ee2 ee3;subst ee1 hfa';subst hkk;have hkn':kn<n4:=by rw[zQ.out];exact hkn0
 have hkc:kn<=c4:=by omega
 have tZ:n4<=1048576:=by rw[zQ.out];exact hnf
 clear hkn0 ee2 ee3 hfl hnf hc;obtain⟨pa,pb,po,pc,rfl,-⟩:=hpar;obtain⟨ba,bc,rfl⟩:=eU.tV PG;obtain⟨ra,rc,rfl,rfl,rfl,rfl⟩:=hres.shape;obtain⟨np,hnp⟩:∃n,n=f.params.length:=⟨_,rfl⟩;obtain⟨nb,hnb⟩:∃n,n=f.body.length:=⟨_,rfl⟩;obtain⟨nr,hnr⟩:∃n,n=f.result.args.length:=⟨_,rfl⟩;have FQ:=I hnp;rw[<-hnp]at g1 HPAR;rw[<-hnb]at g2 HBOD;rw[<-hnr]at g6 HRES;rw[hE]at vW;have HD:Hid ((EC 0 ss x known m).length=0):=I (by unfold EC;rw[if_pos rfl,hD];rfl);clear hE hD PG hres hnp hnb hnr;go_enter func54,ntmps54;go_wp2_with fail;rw[<-hW];clear hW x0 x1 y0 y1 y2 y3;refine vW.out.mono ?_;rintro e w1 ⟨u,rfl,hu,hb1⟩;obtain⟨nV,lN,HR1,HB1⟩:=mg (aU lD.out hb1) (aU jl.out hb1) (aU Kc.out hb1) (up iN.out hb1);obtain⟨ua,ub,uo,uc,rfl,-⟩:=hu;rw[HD.out];have PE:=I (λq os=>Br m (gn w1 q os) a0 (Y a1 n1 c1) n0 c0 (Y a5 n5 c5) (Y a6 n6 c6) known bJ (HP.out.kn.below (up HB1.out (bR w1 q os))) (HP.out.sc.below (up HB1.out (bR w1 q os))));obtain⟨x0,x1,y3⟩:=lQ (aX ((aj nV.out 0).trans rfl)) (aX ((aj nV.out 1).trans rfl)) (aX ((aj lN.out 3).trans rfl));rw[GJ.out]at PE;rw[HFI1.out]at PE;rw[<-GJ.out]at PE;have MV:=I (λq os=>OX m (gn w1 q os) a0 (Y a1 n1 c1) n0 c0 (Y (some (X fb fo)) kn c4) (Y a7 n7 c7) (x.bq.take kn) own ((HP.out.mo.split.2.2.takeF HKL.out).below (up HB1.out (bR w1 q os))) (HP.out.ow.below (up HB1.out (bR w1 q os))));rw[GJ.out]at MV;rw[HFI2.out]at MV;rw[<-GJ.out]at MV;clear hb1;go_wp2_with fail;refine bS bU bU ?_;repeat(with_reducible(refine wpQuiet_step (λKQ oW=>?_));go_simp;first|(with_reducible(refine oW _ ?_);clear oW KQ)|(rw[if_neg (by simp[undef])];with_reducible(refine oW _ ?_);clear oW KQ)|(apply Exists.intro;refine⟨λ_=>?_,oW _ ?_⟩;(first|(exact Calls.pX (PE.out _ _))|(exact Calls.pX (MV.out _ _)));clear oW KQ))
 with_reducible(refine wpQuiet_nil ?_)
 intro w2 hw';obtain⟨⟨nq,osq⟩,hw''⟩:=hw';have hb2:bG w1 w2:=by rw[hw''];exact bR w1 nq osq
 obtain⟨HB2,SY,yH,HR2⟩:=mg (up HB1.out hb2) (aU nV.out hb2) (aU lN.out hb2) (aU HR1.out hb2);clear hw'' hb2 x0 x1 y3;replace g0:=aC g0 HB2.out;replace g1:=aC g1 HB2.out;replace g2:=aC g2 HB2.out;replace g3:=aC g3 HB2.out;replace g4:=aC g4 HB2.out;replace g5:=aC g5 HB2.out;replace g6:=aC g6 HB2.out;obtain⟨W3,hW3⟩:∃W,W=w2.alloc (aY #[A f.name,Y pa np pc,Y ba nb bc,O f.result.kind,O f.result.n,A f.result.name,Y ra nr rc] 109):=⟨_,rfl⟩;have hb3:bG w2 W3:=by rw[hW3];exact aH _ _
 have HB3:=I (up HB2.out hb3);have HF3:Hid (W3.heap[w2.heap.size]?=some (aY #[A f.name,Y pa np pc,Y ba nb bc,O f.result.kind,O f.result.n,A f.result.name,Y ra nr rc] 109)):=I (by rw[hW3];exact bD _ _);have m3:=aj yH.out 3;obtain⟨HK03,HK13,HR3⟩:=fq (aU SY.out hb3) (aU yH.out hb3) (aU HR2.out hb3);obtain⟨x0,x1⟩:=jm HK03.out;obtain⟨y0,y1,y2,y3⟩:=Js HK13.out;obtain⟨-,p1⟩:=jm HF3.out;have Cg:Hid (mK W3 (Y a0 n0 c0) (Y a1 n1 c1) ss G L Z):=I ⟨HP.out.strs.below HB3.out,HP.out.Qg.below HB3.out,HM0.out.1⟩;have G8:=I (Lx W3 (Y a0 n0 c0) (Y a1 n1 c1) (Y a2 n2 c2) (Y a3 n3 c3) (Y (some (X fb fo)) n4 c4) (Y pa np pc) ss G L Z x f.params (Fl.oh x kn known bJ own) Cg.out (HP.out.mo.split.2.1.below HB3.out) (HPAR.out.below HB3.out) ⟨_,_,_,rfl⟩ ⟨_,_,_,rfl⟩ (HNM.out.uz f HFM.out) (by have:=HP4.out.1;omega) (by have:=HP4.out.2.1;omega) HNM.out.levs);clear hb3;rw[hW3]at x0 x1 y0 y1 y2 y3 p1;go_wp2_with fail;rw[<-hW3];clear m3 x0 x1 y0 y1 y2 y3 p1 hW3 g0 g1 g2 g3 g4 g5 g6;obtain⟨FB,hFB⟩:∃b,b=w2.heap.size:=⟨_,rfl⟩;rw[<-hFB]at HF3 ⊢;clear hFB;refine G8.out.mono ?_;rintro e w4 ⟨B,rfl,hno4⟩;obtain⟨vnm4,hno⟩:=hno4.out;obtain⟨q,hq⟩:∃q,q=MW B (Y a0 n0 c0) (Y a1 n1 c1) ss G L Z x.name (Fl.uq ss f.params x.vars) (Fl.oh x kn known bJ own):=⟨_,rfl⟩;have HQP:Hid (q.p=B+1+1+1):=I (by rw[hq];rfl);have S9:Hid (q.c=c):=I (by rw[hq,vg.out];rfl);have HQL:Hid (mK W3 q.vn q.vl q.ss q.G q.L q.c.Z/\q.c.N=q.ss.length/\∀s,q.c.pl s=dF q.ss s):=I (by rw[hq];exact⟨Cg.out,rfl,λ_=>rfl⟩);rw[<-hq]at hno;have HNO:=I hno;clear hq hno hno4;obtain⟨HK04,HK14,HF4⟩:=fq (aU HK03.out HNO.out.base) (aU HK13.out HNO.out.base) (aU HF3.out HNO.out.base);obtain⟨y0,y1,y2,y3⟩:=Js HK14.out;obtain⟨p0,p1,p2,p3,p4,p5,p6⟩:=BX HF4.out;have HT:Hid (CeOk W3 q #[A x.name,Y a2 n2 c2,Y a3 n3 c3,Y (some (X fb fo)) n4 c4,O kn,Y a5 n5 c5,Y a6 n6 c6,Y a7 n7 c7] (λs=>s∈mV m f.body++Fl.cls m f.result)):=I (λwx s hb hs=>by obtain⟨hsz,hmn⟩:=Qi.out.means s hs;rw[S9.out];exact Vy m W3 wx (Y a2 n2 c2) (Y a3 n3 c3) (Y (some (X fb fo)) n4 c4) (Y a5 n5 c5) (Y a6 n6 c6) (Y a7 n7 c7) x known bJ own kn s (c.eB s) hb (HP.out.mo.below HB3.out) (HP.out.kn.below HB3.out) HP.out.cap.fus HKL.out (Nat.le_trans hsz bP) (by have:=HP4.out.2.2;omega) (HP.out.sc.below HB3.out) (HP.out.ow.below HB3.out) hmn);have HNT:=I (note_any m W3 w4 q f.params (λ_=>none) 0 vnm4 0 (J) [] x.name (kn:Int) a2 a3 (some (X fb fo)) a5 a6 a7 n2 n3 n4 n5 n6 n7 c2 c3 c4 c5 c6 c7 (λs=>s∈mV m f.body++Fl.cls m f.result) f pa np pc (Y ba nb bc) (O f.result.kind) (O f.result.n) (A f.result.name) (Y ra nr rc) HNO.out HT.out (HBOD.out.below HB3.out) (HRES.out.below HB3.out) (by rw[S9.out];exact Qi.out.st) (by rw[S9.out];exact Qi.out.ex) (λs hs=>hs) (by rw[S9.out,vg.out];exact Gx.out) (by rw[S9.out];exact HLEN.out.names) (by rw[S9.out];have:=HLEN.out.lK;simpa using this) (by have:=HLEN.out.cls;omega) (by rw[S9.out];have:=HLEN.out.sets;omega));rw[HQP.out]at HNT;go_wp2_with fail;clear y0 y1 y2 y3 p0 p1 p2 p3 p4 p5 p6;refine HNT.out.mono ?_;rintro e w5 ⟨rfl,hnt5⟩;obtain⟨Gz,kc5,vnm5,ve5,E5,hnt,hkc5,hcal5,heff5,-⟩:=hnt5.out;rw[S9.out]at hnt heff5;rw[show Fl.adds f.params (c.xB m f.body++c.nO m f.result)=c.names m f from rfl,Nat.zero_add]at hnt;have HEFF:Hid (jC (oL E5)=(c.jq m f).gU):=I (eff_ext λt=>by rw[heff5.1];simp[Fl.Env.gU]);rw[HEFF.out]at hnt;obtain⟨Ta,HCAL,HKC5⟩:=fq hnt hcal5 hkc5;clear hnt5 hnt hkc5 hcal5 heff5;obtain⟨HK05,HF5,vZ,dW⟩:=mg (aU HK03.out Ta.out.base) (aU HF3.out Ta.out.base) (aU HR3.out Ta.out.base) (HB3.out.trans (Ta.out.base.mono HB3.out.size));obtain⟨na5,nc5,hvn5⟩:=Ta.out.names.MI;obtain⟨ea5,ec5,hve5⟩:=Ta.out.lK.form;have hbk:=Ta.out.blk;rw[HQP.out,hvn5]at hbk;obtain⟨s5,s8,p1⟩:=lQ (aX ((aj hbk 5).trans rfl)) (aX ((aj hbk 8).trans rfl)) (aX ((aj HF5.out 1).trans rfl));obtain⟨nnm,hnnm⟩:∃n,n=(c.names m f).length:=⟨_,rfl⟩;obtain⟨nst,hnst⟩:∃n,n=c.uR m f.body:=⟨_,rfl⟩;have HLR:Hid (Fl.Ke c m f mn mc=(decide ((nnm:Int) > mn)||decide (((np+nst:Nat):Int) > mc))):=I (by rw[hnnm,hnst,FQ.out];rfl);have hsum:np+nst<=1048576:=by rw[hnst,FQ.out];exact HLEN.out.all
 rw[<-hnnm]at s5 hvn5;rw[<-hnst]at s8;clear hbk;clear hnst hnnm;by_cases hl1:mn<(nnm:Int)
 ·have Ea:Hid (Fl.Ke c m f mn mc=true):=I (by rw[HLR.out];simp[hl1]);go_wp2_with fail;refine bS bU bU ?_;repeat(with_reducible(refine wpQuiet_step (λKQ oW=>?_));go_simp;first|(with_reducible(refine oW _ ?_);clear oW KQ)|(rw[if_neg (by simp[undef])];with_reducible(refine oW _ ?_);clear oW KQ)|(apply Exists.intro;refine⟨λ_=>?_,oW _ ?_⟩;(fail);clear oW KQ))
  with_reducible(refine wpQuiet_nil ?_)
  intro w6 hw';obtain⟨⟨nq6,osq6⟩,hw''⟩:=hw';have hb6:bG w5 w6:=by rw[hw''];exact bR w5 nq6 osq6
  obtain⟨eF,mG⟩:=bT (up dW.out hb6) (aU vZ.out hb6);clear hw'' hb6 s5 s8 p1;obtain⟨r0,r1,r2,r3,r4,r5,r6⟩:=BX mG.out;obtain⟨z0,z1,z2,z3,z4,z5,z6⟩:=Iz (aG mG.out 0) (aG mG.out 1) (aG mG.out 2) (aG mG.out 3) (aG mG.out 4) (aG mG.out 5) (aG mG.out 6);go_wp2_with fail;have hs:=Lr mG.out (J) (J) (J) (J) (O 0) (O 0) (J);obtain⟨f0,f1,f2,f3,f4,f5,f6⟩:=BX hs;refine bodyPost_ret (v:=.tuple #[.agg #[J,J,J,J,O 0,O 0,J],O (2)]) (by simp[results,results54,go_sem,f0,f1,f2,f3,f4,f5,f6]) rfl (I (Or.inl ⟨Ea.out,rfl,?_⟩));exact j5 eF.out (Nat.le_trans (Nat.le_succ _) (Nat.le_succ _)) _ _ _ _ _ _ _
 ·by_cases hl2:mc<((np+nst:Nat):Int)
  ·have Ea:Hid (Fl.Ke c m f mn mc=true):=I (by rw[HLR.out];simp only[gt_iff_lt,hl2,decide_true,Bool.or_true]);have hl3:mc<(np:Int)+(nst:Int):=by omega
   have hwr:IntKind.i64.wrap ((np:Int)+(nst:Int))=(np:Int)+(nst:Int):=wrap_small aV aV;have hl5:(nnm:Int)<=mn:=by omega
   go_wp2_with fail;refine bS bU bU ?_;repeat(with_reducible(refine wpQuiet_step (λKQ oW=>?_));go_simp;first|(with_reducible(refine oW _ ?_);clear oW KQ)|(rw[if_neg (by simp[undef])];with_reducible(refine oW _ ?_);clear oW KQ)|(apply Exists.intro;refine⟨λ_=>?_,oW _ ?_⟩;(fail);clear oW KQ))
   with_reducible(refine wpQuiet_nil ?_)
   intro w6 hw';obtain⟨⟨nq6,osq6⟩,hw''⟩:=hw';have hb6:bG w5 w6:=by rw[hw''];exact bR w5 nq6 osq6
   obtain⟨eF,mG⟩:=bT (up dW.out hb6) (aU vZ.out hb6);clear hw'' hb6 s5 s8 p1;obtain⟨r0,r1,r2,r3,r4,r5,r6⟩:=BX mG.out;obtain⟨z0,z1,z2,z3,z4,z5,z6⟩:=Iz (aG mG.out 0) (aG mG.out 1) (aG mG.out 2) (aG mG.out 3) (aG mG.out 4) (aG mG.out 5) (aG mG.out 6);go_wp2_with fail;have hs:=Lr mG.out (J) (J) (J) (J) (O 0) (O 0) (J);obtain⟨f0,f1,f2,f3,f4,f5,f6⟩:=BX hs;refine bodyPost_ret (v:=.tuple #[.agg #[J,J,J,J,O 0,O 0,J],O (2)]) (by simp[results,results54,go_sem,f0,f1,f2,f3,f4,f5,f6]) rfl (I (Or.inl ⟨Ea.out,rfl,?_⟩));exact j5 eF.out (Nat.le_trans (Nat.le_succ _) (Nat.le_succ _)) _ _ _ _ _ _ _
  ·have Ea:Hid (Fl.Ke c m f mn mc=false):=I (by rw[HLR.out];simp only[gt_iff_lt,hl1,hl2,decide_false,Bool.or_false]);have hl3:(np:Int)+(nst:Int)<=mc:=by omega
   have hwr:IntKind.i64.wrap ((np:Int)+(nst:Int))=(np:Int)+(nst:Int):=wrap_small aV aV;have hl5:(nnm:Int)<=mn:=by omega
   go_wp2_with fail;refine bS bU bU ?_;repeat(with_reducible(refine wpQuiet_step (λKQ oW=>?_));go_simp;first|(with_reducible(refine oW _ ?_);clear oW KQ)|(rw[if_neg (by simp[undef])];with_reducible(refine oW _ ?_);clear oW KQ)|(apply Exists.intro;refine⟨λ_=>?_,oW _ ?_⟩;(fail);clear oW KQ))
   with_reducible(refine wpQuiet_nil ?_)
   intro w6 hw';obtain⟨⟨nq6,osq6⟩,hw''⟩:=hw';have hb6:bG w5 w6:=by rw[hw''];exact bR w5 nq6 osq6
   obtain⟨eF,mG,HNT6,HF6⟩:=mg (up dW.out hb6) (aU vZ.out hb6) (Ta.out.below hb6) (aU HF5.out hb6);clear hw'' hb6 s5 s8 p1;have hsp:=HNT6.out.spAt HQL.out.1 HQL.out.2.1 (by have h1:=HKC5.out;have h2:=HLEN.out.cls;omega) (by have h1:=kX (c.xB m f.body++c.nO m f.result) f.params;have h2:=HLEN.out.names;exact Nat.le_trans h1 h2);have hpre:FuPre w6 q (c.names m f) Gz vnm5 (c.uR m f.body:Nat) ve5 m f (Y ba nb bc) (O f.result.kind) (O f.result.n) (A f.result.name) (Y ra nr rc):=by
    refine⟨⟨hsp,by rw[S9.out];exact HEN.out,(HBOD.out.below eF.out),by rw[S9.out];exact Qi.out.st,λv hv=>?_,λs hs=>?_,HQL.out.2.2⟩,⟨hsp,by rw[S9.out];exact HEN.out,(HRES.out.below eF.out),by rw[S9.out];exact Qi.out.ex,λv hv=>?_,λs hs=>?_⟩,HP4.out.1⟩;·rw[S9.out]at hv;exact Fl.sw.2 (Or.inr (List.mem_append.2 (Or.inl hv)))
    ·exact(HCAL.out s).2 (Or.inr (List.mem_append.2 (Or.inl hs)))
    ·rw[S9.out]at hv;exact Fl.sw.2 (Or.inr (List.mem_append.2 (Or.inr hv)))
    ·exact(HCAL.out s).2 (Or.inr (List.mem_append.2 (Or.inr hs)))
   rw[hvn5,hve5]at hpre;have HPB:=I (RZ m w6 q (c.names m f) Gz na5 nnm nc5 _ ea5 _ ec5 f (Y pa np pc) (Y ba nb bc) (O f.result.kind) (O f.result.n) (A f.result.name) (Y ra nr rc) hpre (HPAR.out.below eF.out) (by rw[S9.out];exact HLEN.out.sinks) (by rw[S9.out];exact HLEN.out.cons));rw[HQP.out,S9.out]at HPB;obtain⟨HVN5,HVE5⟩:=bT hvn5 hve5;clear hpre hsp;obtain⟨neff,hneff⟩:∃n,n=(c.jq m f).gU.length:=⟨_,rfl⟩;rw[<-hneff]at HPB HVE5;clear hvn5 hve5 hneff;obtain⟨p0,p1,p2,p3,p4,p5,p6⟩:=BX HF6.out;go_wp2_with fail;clear p0 p1 p2 p3 p4 p5 p6;refine HPB.out.mono ?_;rintro e w7 ⟨vc7,vs7,vf7,rfl,hp7⟩;obtain⟨hcons,VW,hhg,pW⟩:=hp7.out;have HPBA:Hid (xu w7 w.heap.size vnm5 vc7 vs7 vf7 ve5 (c.jq m f)):=I ⟨fC (HNT6.out.names.oldF HB3.out.size) pW,d9.old hcons eF.out.size,d9.old VW eF.out.size,hhg,(HNT6.out.lK.oldF HB3.out.size).below pW⟩;obtain⟨zJ,jB⟩:=bT (aU mG.out pW) (up eF.out pW);obtain⟨ac7,cc7,rfl⟩:=hcons.form;obtain⟨as7,cs7,rfl⟩:=VW.form;obtain⟨af7,cf7,rfl⟩:=cK.form hhg;have HLV:Hid ((c.jq m f).level=((c.hg m f.result).2:Nat)):=I rfl;generalize ((List.range f.params.length).map (Fl.CZ c.low)++(c.Jw m f.body ([],c.low)).map (Fl.Bh (c.names m f))).length=ncn at *;generalize ((c.KS m f.body ([],c.low)++c.Ai m f.result ([],c.low)).map (oN (c.names m f))).length=nsk at *;generalize (Fl.nums (c.names m f) (c.hg m f.result).1).length=nfr at *;rw[HVN5.out,HVE5.out]at HPBA;obtain⟨hg2,hhg2⟩:∃n,n=(c.hg m f.result).2:=⟨_,rfl⟩;rw[<-hhg2]at HLV ⊢;clear hhg2 hcons VW hhg pW hp7;obtain⟨r0,r1,r2,r3,r4,r5,r6⟩:=BX zJ.out;obtain⟨z0,z1,z2,z3,z4,z5,z6⟩:=Iz (aG zJ.out 0) (aG zJ.out 1) (aG zJ.out 2) (aG zJ.out 3) (aG zJ.out 4) (aG zJ.out 5) (aG zJ.out 6);go_wp2_with fail;have hs:=Lr zJ.out (Y na5 nnm nc5) (Y ac7 ncn cc7) (Y as7 nsk cs7) (Y af7 nfr cf7) (O 0) (O hg2) (Y ea5 neff ec5);obtain⟨f0,f1,f2,f3,f4,f5,f6⟩:=BX hs;refine bodyPost_ret (v:=.tuple #[.agg #[Y na5 nnm nc5,Y ac7 ncn cc7,Y as7 nsk cs7,Y af7 nfr cf7,O 0,O hg2,Y ea5 neff ec5],O 0]) (by simp[results,results54,go_sem,f0,f1,f2,f3,f4,f5,f6]) rfl (I (Or.inr ⟨Ea.out,_,_,_,_,_,by rw[HLV.out],HPBA.out.keep (kx_set7 (n:=w.heap.size) zJ.out (Nat.le_trans (Nat.le_succ _) (Nat.le_succ _)) _ _ _ _ _ _ _),j5 jB.out (Nat.le_trans (Nat.le_succ _) (Nat.le_succ _)) _ _ _ _ _ _ _⟩))
end Go.Proofs.YtbgkpehhdibaoaaGreatDoor
