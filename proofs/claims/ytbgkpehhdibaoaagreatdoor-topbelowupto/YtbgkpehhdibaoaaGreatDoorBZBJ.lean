/- part -/
import Derived.Test.YtbgkpehhdibaoaaGreatDoorBZBF
import Derived.Test.YtbgkpehhdibaoaaGreatDoorBZBI
set_option maxHeartbeats 0
set_option maxRecDepth 99999
namespace Go.Proofs.YtbgkpehhdibaoaaGreatDoor
open Fl bN bJ Rn Sv
open Go.Proofs.Tryz
open Go.RowKit Go.Maps Go.WideMaps
variable{w0 w w8 w1 W w':World}{q:Sp}{nl E ss ps l aag:List aY}{eB:aY->Option Value}{kc sets m n k i N j G B c n':Nat}{dS ve v vb vc vf:Value}{vs:List Va}{f:Fu}{x:Mo}{s fn call:aY}{known ms:List Mo}{ys bK:List (List Sc)}{own:List Sc}{Z:Nat->Nat->Bool}
def Sp.relev(q:Sp)(mX:ByteArray->Option Nat):Sp:={ q with c:={ q.c with mX:=mX } }
theorem iL.relevel{mX:aY->Option Nat}(h:iL w0 w q nl eB kc dS sets ve E)(hg:w.grownBy w8 (some q.ml))(hl:qd w8 q.ml 1048576 (λs=>(mX s).map λn:Nat=>(n:Int))):iL w0 w8 (q.relev mX) nl eB kc dS sets ve E/\Kx w0.heap.size Bw w w8:=by
 obtain⟨es,cl,hm⟩:=h.levels.isMap;have hkx:Kx w0.heap.size Bw w w8:=Kx.grown hg λk e=>by injection e with e;subst e;exact⟨h.new.2.1,λo ho=>by rw[hm]at ho;cases ho;rfl⟩
 have hcell:∀(p:Nat) cs t,w.heap[p]?=some (.cells cs t (0,0))->w8.heap[p]?=some (.cells cs t (0,0)):=λp cs t hp=>by
  rw[hg.block p (bq hp) (λe=>?_)];·exact hp
  ·injection e with e;subst e;rw[hp]at hm;cases hm
 exact⟨⟨hcell _ _ _ h.blk,h.new,hl,h.numbers.kept hg (by have:=h.maps.1;simp;exact λe=>this e.symm),h.called.kept hg (by have:=h.maps.2.1;simp;exact λe=>this e.symm),h.dW,h.yY,h.nodup,h.names.keep λj cur _ hj=>hcell _ _ _ hj,h.kT.keep λj cur _ hj=>hcell _ _ _ hj,h.apart,h.maps,h.base.trans (hkx.below h.base.size)⟩,hkx⟩
namespace Fl
def sG(ss:List ByteArray)(ps:List ByteArray)(vs:List Va):ByteArray->Option Nat:=λs=>
 if has ps s then none else (vs.reverse.find? λv=>dA v.name s).map λv=>(dR ss v.level).toNat
theorem Ep{v:Va}(h:has ps v.name=true):sG ss ps (vs++[v])=sG ss ps vs:=by
 funext s;unfold sG;cases hs:has ps s with
 | true=>rfl
 | false=>
  rw[List.reverse_append,List.reverse_singleton,List.singleton_append,List.find?_cons];cases he:dA v.name s with
  | false=>rfl
  | true =>rw[eu]at he;rw[he,hs]at h;cases h
theorem levV_put{v:Va}(h:has ps v.name=false)(hi:0<=dR ss v.level):(λs=>(sG ss ps (vs++[v]) s).map λn:Nat=>(n:Int))=Rn.put (λs=>(sG ss ps vs s).map λn:Nat=>(n:Int)) v.name (dR ss v.level):=by
 funext s;unfold Rn.put sG;rw[List.reverse_append,List.reverse_singleton,List.singleton_append,List.find?_cons];cases he:dA v.name s with
 | false =>rw[show dA s v.name=false by rw[<-Bool.not_eq_true]at he ⊢;rw[eu]at he ⊢;exact λe=>he e.symm];rfl
 | true =>rw[eu]at he;subst he;rw[show dA v.name v.name=true from eu.2 rfl,h];simp;omega
end Fl
theorem iL.spAt(h:iL w0 w q nl eB kc dS sets ve E)(hL:lT w0 q.vn q.vl q.ss q.G q.L q.c.Z)(hN:q.c.N=q.ss.length)(hk:kc<=16777216)(hl:nl.length<=1048576):Bq w q nl eB dS sets ve:=
 ⟨h.blk,hL.below h.base,hN,h.levels,h.numbers,h.called.mono hk,λs v hv=>(h.dW s v hv).below h.base,h.nodup,hl⟩
theorem qd.empty{w:World}{b n:Nat}(h:qd w b n (λ_=>none)):qd w b 0 (λ_=>none):=by
 obtain⟨D,⟨es,cl,hb,F,hs,hD⟩,h2⟩:=h;have he:es.size=0:=by
  by_cases h0:es.size=0;·exact h0
  ·exfalso;have hx:es[0]∈es.toList:=by simp
   obtain⟨y,hy⟩:=F.reads _ hx;have hk:=Go.WideElems.rd_key hy;rw[keyOf_string underlying9]at hk;unfold mapKey at hk;rw[underlying9]at hk;cases hkey:es[0].key with
   | string t=>
    rw[hkey]at hk;simp only at hk;split at hk
    ·rename_i ht;have h3:=(h2 t ht).1;have h4:Maps.has D (.string t.data.toList)=true:=by
      rw[hD,Maps.has_eq,OG];refine⟨y,mem_sorted.2 ?_,?_⟩;·rw[<-Go.WideElems.rg_of hy];exact List.mem_map_of_mem hx
      ·rw[<-Option.some.inj hk];exact WideAt.sameKey_self trivial
     rw[h4]at h3;cases h3
    ·cases hk
   | _=>rw[hkey]at hk;simp at hk
 exact⟨D,⟨es,cl,hb,F,by omega,hD⟩,h2⟩
theorem P5(w:World)(B:Nat):Own w B (J) []:=kg _ _ _ _
theorem P6(ss:List aY)(t:aY)(h:Strs w v ss):K5 (dR ss t):=by
 obtain⟨_,_,_,_,_,_,hl,_⟩:=h;unfold dR;split;·next i h=>have:=(bN.find_spec h).1;unfold K5;omega
 ·unfold K5;omega
def KN(B:Nat)(vn vl:Value)(ss:List ByteArray)(G:Nat)(L:Nat->Nat)(Z:Nat->Nat->Bool)(md:ByteArray)(mX:ByteArray->Option Nat)(dW:ByteArray->Sc):Sp:=
 ⟨B+1+1+1,vn,vl,ss,G,L,⟨Z,ss.length,vE Z ss.length,md,mX,λs=>dR ss s,dW⟩,B,B+1,B+1+1⟩
theorem noAt_new(hb:bG w w1)(vn vl:Value)(ss:List aY)(G:Nat)(L:Nat->Nat)(Z:Nat->Nat->Bool)(md:aY)(dW:aY->Sc)(hW:W=(((w1.alloc (.map #[] 0)).alloc (.map #[] 0)).alloc (.map #[] 0)).alloc (aW #[vn,vl,O (vE Z ss.length:Nat),A md,.map (some w1.heap.size),J,.map (some (w1.heap.size+1)),.map (some (w1.heap.size+1+1)),O 0,J] 204)):iL w W (KN w1.heap.size vn vl ss G L Z md (λ_=>none) dW) [] (λ_=>none) 0 (J) 0 (J) []/\bG w1 W:=by
 have s1:(w1.alloc (.map #[] 0)).heap.size=w1.heap.size+1:=CK _ _;have s2:((w1.alloc (.map #[] 0)).alloc (.map #[] 0)).heap.size=w1.heap.size+1+1:=by rw[CK,s1]
 have s3:(((w1.alloc (.map #[] 0)).alloc (.map #[] 0)).alloc (.map #[] 0)).heap.size=w1.heap.size+1+1+1:=by rw[CK,s2]
 obtain⟨m1,m2,m3⟩:=l9 (qd.new w1) (qd.new (w1.alloc (.map #[] 0))) (mV.new ((w1.alloc (.map #[] 0)).alloc (.map #[] 0)) sc0);rw[s1]at m2;rw[s2]at m3;have b3:=aZ (((w1.alloc (.map #[] 0)).alloc (.map #[] 0)).alloc (.map #[] 0)) (aW #[vn,vl,O (vE Z ss.length:Nat),A md,.map (some w1.heap.size),J,.map (some (w1.heap.size+1)),.map (some (w1.heap.size+1+1)),O 0,J] 204);rw[s3,<-hW]at b3;have k1:Below (w1.alloc (.map #[] 0)).heap.size (w1.alloc (.map #[] 0)) W:=by rw[hW];exact up (up (aH _ _) (aH _ _)) (aH _ _)
 have k2:Below ((w1.alloc (.map #[] 0)).alloc (.map #[] 0)).heap.size ((w1.alloc (.map #[] 0)).alloc (.map #[] 0)) W:=by rw[hW];exact up (aH _ _) (aH _ _)
 have k3:Below (((w1.alloc (.map #[] 0)).alloc (.map #[] 0)).alloc (.map #[] 0)).heap.size (((w1.alloc (.map #[] 0)).alloc (.map #[] 0)).alloc (.map #[] 0)) W:=by rw[hW];exact aH _ _
 have k0:bG w1 W:=up (aH _ _) k1;have hs:=hb.size;have e1:qd W w1.heap.size 1048576 (λ_=>none):=(m1.below k1).mono (bL _);have e2:qd W (w1.heap.size+1) 0 (λs=>(Fl.idx [] s).map λn:Nat=>(n:Int)):=m2.below k2;have e3:mV W (w1.heap.size+1+1) 0 sc0 (λ_=>none):=m3.below k3;refine⟨⟨b3,⟨by show _<=w1.heap.size+1+1+1;omega,hs,by show _<=w1.heap.size+1;omega,by show _<=w1.heap.size+1+1;omega⟩,e1,e2,e3,λs v h=>by simp at h,λs h=>by simp at h,List.nodup_nil,?_,?_,aR rfl,⟨by show w1.heap.size≠w1.heap.size+1;omega,by show w1.heap.size≠w1.heap.size+1+1;omega,by show w1.heap.size+1≠w1.heap.size+1+1;omega⟩,up hb k0⟩,k0⟩;·exact P5 _ _
 ·exact P5 _ _
theorem JI(w:World)(vn vl vi vv vf vp:Value)(ss:List aY)(G:Nat)(L:Nat->Nat)(Z:Nat->Nat->Bool)(x:Mo)(ps:List aY)(dW:aY->Sc)(hL:lT w vn vl ss G L Z)(hV:uX w vv x.vars)(hP:Strs w vp ps)(hi:∃a n c,vi=Y a n c)(hf:∃a n c,vf=Y a n c)(hps:ps.Nodup)(hpl:ps.length<=1048576)(hvl:x.vars.length<=1048575)(hlv:∀v∈x.vars,0<=dR ss v.level):Calls prog 106 #[.agg #[vn,vl],.agg #[A x.name,vi,vv,vf],vp] w λe w'=>∃B,e=dz (iO (B+1+1+1))/\Hid (∃dS,iL w w' (KN B vn vl ss G L Z x.name (Fl.sG ss ps x.vars) dW) ps (λ_=>none) 0 dS 0 (J) []):=by
 obtain⟨ai,ni,ci,rfl⟩:=hi;obtain⟨af,nf,cf,rfl⟩:=hf;obtain⟨HL,vR,HLV⟩:=fD hL hps hlv;have HE:=I (λwx (hb:bG w wx)=>Mj wx vn vl ss G L Z (hL.strs.below hb) (hL.NS.below hb) hL.ok);obtain⟨av,bv,ov,cv,rfl,hav,hvbig,hcv⟩:=hV;obtain⟨ap,bp,op,cp,rfl,hap,hpbig,hpz,hcp⟩:=hP;obtain⟨HAV,HCV,Vl,HCP,HPZ⟩:=rO hav hcv hap hcp hpz;obtain⟨nv,D6⟩:=bC x.vars.length;have U1:=I D6;rw[<-D6]at hvbig hvl HAV ⊢;obtain⟨np,hnp⟩:=bC ps.length;have Je:=I hnp;rw[<-hnp]at hpbig hpl Vl HCP ⊢;obtain⟨W,hW,k0,k1,hsz,hBW⟩:=wX w (aW #[vn,vl] 25) (aW #[A x.name,Y ai ni ci,Y av nv cv,Y af nf cf] 58);obtain⟨x0,x1⟩:=iV k0;obtain⟨lF,jh,iA,HC⟩:=lY k0 k1 hBW (HE W hBW);have HVN:Hid (∃a n c,vn=Y a n c):=I (by obtain⟨a,b,o,c,rfl,-⟩:=hL.strs;exact⟨_,_,_,rfl⟩);have HVL:Hid (∃a n c,vl=Y a n c):=I (by obtain⟨a,b,o,c,aag,RB,RO,C,rfl,-⟩:=hL.NS;exact⟨_,_,_,rfl⟩);obtain⟨an,nn,cn,XZ⟩:=HVN.out;obtain⟨al,nl,cl,hvl'⟩:=HVL.out;clear k0 k1 hsz hBW hL hps hlv hav hcv hap hcp hpz D6 hnp HVN HVL HE;subst XZ hvl';rw[hW]at x0 x1;go_enter func106,ntmps106;go_wp2_with fail;rw[<-hW];clear hW x0 x1;refine HC.mono ?_;rintro e w1 ⟨rfl,hb1⟩;have HB1:=I (up iA hb1);obtain⟨K0,K1⟩:=eY (aU lF hb1) (aU jh hb1);obtain⟨x0,x1⟩:=iV K0;have y0:=aj K1 0;have kV:=I K1;have hmm:=@run_makeMap prog;clear K0 K1 HC hb1 lF jh iA;obtain⟨W2,hW2⟩:∃W,W=(((w1.alloc (.map #[] 0)).alloc (.map #[] 0)).alloc (.map #[] 0)).alloc (aW #[Y an nn cn,Y al nl cl,O (vE Z ss.length:Nat),A x.name,.map (some w1.heap.size),J,.map (some (w1.heap.size+1)),.map (some (w1.heap.size+1+1)),O 0,J] 204):=⟨_,rfl⟩;obtain⟨hno,hb2⟩:=noAt_new HB1 (Y an nn cn) (Y al nl cl) ss G L Z x.name dW hW2;have xq:Hid (W2.heap[w.heap.size+1]?=some (aW #[A x.name,Y ai ni ci,Y av nv cv,Y af nf cf] 58)):=I (aU kV hb2);obtain⟨B,hB⟩:=bC w1.heap.size;rw[<-hB]at hno;have Zi:=I hno;obtain⟨M,hM⟩:=bC (w.heap.size+1);rw[<-hM]at xq;have HM:=I hM;clear hb2 hno kV HB1;go_wp2_with fail;rw[<-hW2,<-hB,<-hM];clear hW2 hB hM hmm x0 x1 y0;go_loopw[34] (λi wx=>∃j:Nat,j<=np/\i=O j/\Hid (∃dS,iL w wx (KN B (Y an nn cn) (Y al nl cl) ss G L Z x.name (λ_=>none) dW) (ps.take j) (λ_=>none) 0 dS 0 (J) []/\wx.heap[M]?=some (aW #[A x.name,Y ai ni ci,Y av nv cv,Y af nf cf] 58))) (λi _=>np - (intOf i).toNat);case atStart=>exact⟨0,bL _,rfl,I ⟨_,Zi,xq⟩⟩
 case round=>
  obtain⟨j,hj,rfl,HI⟩:=hrel;obtain⟨dS,hno,hmo⟩:=HI.out;obtain⟨HNO1,HMO1⟩:=bU hno hmo;clear hno hmo HI;by_cases hjl:j<np
  ·have g0:=HCP j hjl;obtain rfl:=Vl aX;have hjp:j<ps.length:=by rw[<-Je];exact hjl
   obtain⟨s,hs⟩:∃s,ps[j]?=some s:=⟨_,bD hjp⟩;rw[DV,hs,iw]at g0;replace g0:=aD g0 HNO1.base;have hnm:s∉ps.take j:=λhm=>by
    obtain⟨i,hi,e⟩:=gZ.1 hm;rw[jB]at hi;have h1:ps[i]?=some s:=by rw[List.getElem_take]at e;rw[bD aX,e]
    have:=G5 vR h1 hs;omega
   have HNU:=I (H9 w wr _ (ps.take j) _ _ _ _ _ _ s HNO1 hnm (HPZ s (eT hs)) (by rw[jB];omega));have HSJ:Hid (ps.take (j+1)=ps.take j++[s]):=I (by rw[gy,hs,kU]);clear hs hnm hjp;go_wp2_with fail;refine HNU.mono ?_;rintro e w3 ⟨rfl,hp3⟩;obtain⟨vnm3,hno3,hk3⟩:=hp3.out;obtain⟨HNO3,HMO3⟩:=bU hno3 (hk3.at HMO1 rfl);clear hno3 hk3 hp3 g0 HNU;go_wp2_with fail;go_roundw;case rel=>exact⟨j+1,by omega,by go_num,I ⟨vnm3,by rw[HSJ];exact HNO3,HMO3⟩⟩
   case measure=>simp[intOf];omega
  ·obtain rfl:j=np:=by omega
   have HNO2:Hid (iL w wr ((KN B (Y an nn cn) (Y al nl cl) ss G L Z x.name (λ_=>none) dW).relev (Fl.sG ss ps (x.vars.take 0))) ps (λ_=>none) 0 dS 0 (J) []):=I (by
    have h1:=HNO1.out;rw[Je,jC]at h1;have e:Fl.sG ss ps (x.vars.take 0)=λ_=>none:=by funext s;unfold Fl.sG;split<;>rfl
    rw[e];exact h1)
   have HOW0:Hid (qd wr B 0 (λs=>(Fl.sG ss ps (x.vars.take 0) s).map λn:Nat=>(n:Int))):=I (by
    have h1:qd wr B 1048576 (λ_=>none):=HNO1.levels;have e:(λs=>(Fl.sG ss ps (x.vars.take 0) s).map λn:Nat=>(n:Int))=λ_=>none:=by funext s;unfold Fl.sG;split<;>rfl
    rw[e];exact h1.empty)
   have m2:=aj HMO1 2;obtain⟨wo,rfl⟩:=bC wr;go_wp2_with fail;clear m2 HNO1;go_loopw[45] (λi wx=>∃t:Nat,t<=nv/\i=O t/\Hid (iL w wx ((KN B (Y an nn cn) (Y al nl cl) ss G L Z x.name (λ_=>none) dW).relev (Fl.sG ss ps (x.vars.take t))) ps (λ_=>none) 0 dS 0 (J) [])/\Hid (qd wx B t (λs=>(Fl.sG ss ps (x.vars.take t) s).map λn:Nat=>(n:Int)))) (λi _=>nv - (intOf i).toNat);case atStart=>exact⟨0,bL _,rfl,HNO2,HOW0⟩
   case round=>
    obtain⟨t,ht,rfl,HI,HOW⟩:=hrel;by_cases htn:t<nv
    ·obtain⟨v,hv⟩:∃v,x.vars[t]?=some v:=⟨_,bD (by rw[<-U1];exact htn)⟩;obtain⟨hz0,hz1,g0,g1⟩:=HCV t v hv;obtain rfl:=HAV aX;have HVT:Hid (x.vars.take (t+1)=x.vars.take t++[v]):=I (by rw[gy,hv,kU]);obtain⟨HVI,HZ0⟩:=bU (HLV v (eT hv)) hz0;replace g0:=aD g0 HI.base;replace g1:=aD g1 HI.base;obtain⟨W5,hW5⟩:=bC (wr.alloc (aW #[A v.name,A v.level] 93));have hb5:bG wr W5:=by rw[hW5];exact aH _ _
     have Td:Hid (W5.heap[wr.heap.size]?=some (aW #[A v.name,A v.level] 93)):=I (by rw[hW5];exact aZ _ _);obtain⟨HI5,qb⟩:=bU (HI.below hb5) (HOW.below hb5);clear hv hz0 hz1 hb5;obtain⟨wi,rfl⟩:=bC wr;go_wp2_with fail;rw[<-hW5];clear hW5 g0 g1;have v0:=aS ((aj Td 0).trans rfl);have c6:W5.cell? (X (B+1+1+1) 6)=some (.map (some (B+1))):=HI5.cells.2.2.2.2.2.2.1;replace c6:=aS c6;have LK:∀k os,(Instr.lookup 95 (.map (some (B+1))) (A v.name) true).run prog (gn W5 k os)=.ok (.tuple #[O (((Fl.idx ps v.name).map λn:Nat=>(n:Int)).getD 0),.bool ((Fl.idx ps v.name).map λn:Nat=>(n:Int)).isSome]) (gn W5 k os):=λk os=>(HI5.below (bQ W5 k os)).numbers.sw (s:=v.name) HZ0;cases hid:Fl.has ps v.name with
     | true=>
      have HID:=I hid;obtain⟨ix,hix⟩:=Fl.uR (uQ.1 hid);simp only[hix,pz,iw,nP]at LK;clear hid hix;refine bS bR bR ?_;repeat(quiet_step (fail))
      refine wpQuiet_nil ?_;intro w6 hw';obtain⟨⟨nq,osq⟩,hw''⟩:=hw';have hb6:bG W5 w6:=by rw[hw''];exact bQ W5 nq osq
      obtain⟨Zd,nJ⟩:=bU (HI5.below hb6) (qb.below hb6);clear hw'' v0 c6 LK hb6;go_wp2_with fail;go_roundw;case rel=>exact⟨t+1,by omega,by go_num,I (by rw[HVT,Ep HID];exact Zd),I (by rw[HVT,Ep HID];exact nJ.mono aX)⟩
      case measure=>simp[intOf];omega
     | false=>
      have HID:=I hid;have hix:=Bl (has_not.1 hid);simp only[hix,Da,mJ,nQ]at LK;clear hid hix;refine bS bR bR ?_;repeat(quiet_step (fail))
      refine wpQuiet_nil ?_;intro w6 hw';obtain⟨⟨nq,osq⟩,hw''⟩:=hw';have hb6:bG W5 w6:=by rw[hw''];exact bQ W5 nq osq
      obtain⟨Zd,nJ,HE6⟩:=fD (HI5.below hb6) (qb.below hb6) (aU Td hb6);clear hw'' v0 c6 LK hb6;obtain⟨v0,v1⟩:=eY (aS ((aj HE6 0).trans rfl)) (aS ((aj HE6 1).trans rfl));have c4:w6.cell? (X (B+1+1+1) 4)=some (.map (some B)):=Zd.cells.2.2.2.2.1;replace c4:=aS c4;have jH:Hid (∀k os,Calls prog 164 #[iO (B+1+1+1),A v.level] (gn w6 k os) λe w'=>e=dz (O (dR ss v.level))/\Below (gn w6 k os).heap.size (gn w6 k os) w'):=I (λk os=>Hu (gn w6 k os) _ ps _ dS _ _ v.level ((Zd.below (bQ w6 k os)).spAt HL rfl aX (by rw[<-Je];exact hpl)));go_wp2_with fail;refine eU 10 bR bR ?_;dsimp only[List.take,List.drop];repeat(quiet_step ((exact Calls.nE (jH.out _ _))))
      refine wpQuiet_nil ?_;intro w7 hw';obtain⟨⟨nq7,osq7⟩,hw''⟩:=hw';have sW:bG w6 w7:=by rw[hw''];exact bQ w6 nq7 osq7
      obtain⟨HI7,JJ⟩:=bU (Zd.below sW) (nJ.below sW);clear hw'' v0 v1 c4 jH sW;obtain⟨w8,L8,ho8,hg8⟩:=JJ.put (s:=v.name) (v:=dR ss v.level) (by unfold maxLen;omega) HZ0 (P6 _ _ HL.strs);rw[<-levV_put HID HVI,<-HVT]at ho8;obtain⟨HI8,P7⟩:=bU ((HI7.relevel hg8 (ho8.mono aX)).1) ho8;have kS:Hid ((Instr.mapUpdate 95 (.map (some B)) (A v.name) (O (dR ss v.level))).run prog w7=.ok () w8):=I L8;clear ho8 hg8 L8;have L8:=kS.out;go_wp2_with fail;go_roundw;case rel=>exact⟨t+1,by omega,by go_num,HI8,P7⟩
      case measure=>simp[intOf];omega
    ·obtain rfl:t=nv:=by omega
     go_wp2_with fail;go_ret;refine⟨B,rfl,I ⟨dS,?_⟩⟩;have h1:=HI.out;rw[U1,jC]at h1;exact h1
namespace bJ
theorem wD{α:Type}{f g:α->Nat}:∀{l:List α},(∀x∈l,f x<=g x)->(l.map f).sum<=(l.map g).sum
 | [],_=>bE _
 | x::l,h=>by have h0:=h x dx;have h1:=wD (l:=l) (λy hy=>h y (by simp[hy]));simp only[fG,iZ];omega
theorem iU{α β:Type}{f:α->List β}{g:α->Nat}{l:List α}(h:∀x∈l,(f x).length<=g x):(l.flatMap f).length<=(l.map g).sum:=by rw[List.length_flatMap];exact wD h
theorem Yl:∀(m:Nat) (x:Ex),(calls m x).length<=iX m x
 | 0,_=>bE _
 | m+1,x=>by
  have h:=iU (f:=calls m) (g:=iX m) (l:=x.args) (λy _=>Yl m y);simp only[calls,iX,aT];have h2:(if x.kind=4 then [x]else []).length<=1:=by split<;>simp
  omega
theorem Ae:∀(m:Nat) (x:Ex),(fC m x).length<=iX m x
 | 0,_=>bE _
 | m+1,x=>by
  have h:=iU (f:=fC m) (g:=iX m) (l:=x.args) (λy _=>Ae m y);simp only[fC,iX,aT];have h2:(if x.kind=4 then [x]else []).length<=1:=by split<;>simp
  omega
theorem BO{α β:Type}(f:α->List β)(g:β->Nat):∀(l:List α),((l.flatMap f).map g).sum=(l.map λs=>((f s).map g).sum).sum
 | []=>rfl
 | s::l=>by simp only[Gv,fQ,qU,fG,iZ,BO f g l]
theorem Nb(M:Nat):∀{m:Nat} {v:Value} {l:List St},fB w m v l->m<=M->((all m l).map λs=>1+iX M s.e).sum<=dY m l
 | 0,_,_,h,_=>iW h
 | m+1,v,l,h,hk=>by
  obtain⟨a,b,off,cap,_,_,_,h9⟩:=h;have each:∀s∈l,((within (all m) s).map λs=>1+iX M s.e).sum<=s.name.size+3+iX m s.e+dY m s.a+dY m s.b:=λs hs=>by obtain⟨i,hi,rfl⟩:=gZ.1 hs;obtain⟨_,_,e0,e1,e2,e3,va,vb,_,_,_,_,_,_,_,_,hx,ha,hb⟩:=h9 i _ (bD hi);obtain⟨k1,k2,k3⟩:=l9 (Nb M ha aX) (Nb M hb aX) (qF hx M aX);unfold within;simp only[fQ,fG,jA,qU,iZ,pK];omega
  have hs:=wD each;have e:((all (m+1) l).map λs=>1+iX M s.e).sum=(l.map λs=>((within (all m) s).map λs=>1+iX M s.e).sum).sum:=BO _ _ _;rw[e];simp only[dY];omega
theorem FJ{α:Type}{f:α->Nat}:∀(l:List α),(∀x,1<=f x)->l.length<=(l.map f).sum
 | [],_=>bE _
 | x::l,h=>by have h0:=h x;have h1:=FJ l h;simp only[fG,iZ,yI];omega
theorem P8{l:List St}{β:Type}{f:St->List β}(h:fB w m v l)(hf:∀s,(f s).length<=1+iX m s.e):((all m l).flatMap f).length<=dY m l:=
 bF (iU λs _=>hf s) (Nb m h (bE _))
theorem P9{α β:Type}{f:α->List β}{l:List α}(h:∀x,(f x).length<=1):(l.flatMap f).length<=l.length:=by
 induction l with
 | nil=>exact bE _
 | cons x l ih =>have:=h x;simp only[Gv,aT,yI];omega
theorem upto_sum{α:Type}{l:List α}{f:Nat->α->List Dg}{g:α->Nat}(h:∀i x,l[i]?=some x->(f i x).length<=g x):(upto (Xb l f) l.length).length<=(l.map g).sum:=by
 have key:∀n,n<=l.length->(upto (Xb l f) n).length<=((l.take n).map g).sum:=by
  intro n;induction n with
  | zero=>intro _;simp[Kh]
  | succ n ih =>intro hn;obtain⟨h0,h1⟩:=eY (ih aX) (h n _ (bD (show n<l.length by omega)));rw[jc,aT,sZ (bD (show n<l.length by omega)),gy,bD (show n<l.length by omega)];simp only[fQ,qU,kU,fG,jA,iZ,pK];omega
 have:=key l.length (bE _);rwa[jC]at this
theorem upto_n{α:Type}{l:List α}{f:Nat->α->List Dg}(c:Nat)(h:∀i x,l[i]?=some x->(f i x).length<=c)(n:Nat):(upto (Xb l f) n).length<=n*c:=by
 induction n with
 | zero=>simp[Kh]
 | succ n ih=>
  rw[jc,aT,zw];have:(Xb l f n).length<=c:=by
   unfold Xb;split;·rename_i x hx;exact h n x hx
   ·simp
  omega
theorem FL(fn:aY)(l:List aY):(D8 fn l).length<=l.length:=by have:=upto_n (l:=l) (f:=λi s=>if Ce (l.take i) s=true then [(⟨2,fn,s⟩:Dg)]else []) 1 (λi x _=>by split<;>simp) l.length;unfold D8;omega
theorem clE_len(x:Mo)(known:List Mo)(k:Nat)(fn:aY)(y:Ex):(clE x known k fn y).length<=1:=by unfold clE;split<;>simp
theorem xC(l:List ByteArray):l.length<=lV l:=by have:=FJ (f:=λs:ByteArray=>s.size+1) l (λx=>by omega);unfold lV;omega
theorem VI(l:List Va):l.length<=Rs l:=by have:=FJ (f:=λs:Va=>s.name.size+s.level.size+3) l (λx=>by omega);unfold Rs;omega
theorem FM(m:Nat)(l:List Fu):l.length<=zG m l:=by have:=FJ (f:=λs:Fu=>s.name.size+2+lV s.params+dY m s.body+iX m s.result) l (λx=>by omega);unfold zG;omega
theorem Qa{l:List Fu}(h:kW w m v l)(hf:f∈l):∃vb,fB w m vb f.body:=by obtain⟨a,b,off,cap,_,_,_,h9⟩:=h;obtain⟨i,hi,rfl⟩:=gZ.1 hf;obtain⟨_,vp,vb,e0,e1,e2,e3,_,_,_,_,_,_,_,_,hb,_⟩:=h9 i _ (bD hi);exact⟨vb,hb⟩
theorem Tx(h:fB w m vb f.body):(lQ m f).length<=dY m f.body+iX m f.result:=by have h1:=P8 (f:=λs=>fC m s.e) h (λs=>by have:=Ae m s.e;omega);have h2:=Ae m f.result;unfold lQ;rw[aT];omega
theorem prL_len(names:List ByteArray)(known:List Mo)(h:iY w m v x)(hw:vF m x<=1048576):(Ei names x known m).length<=16777216:=by
 obtain⟨vi,vv,vf,rfl,_,hI,hV,hF⟩:=h;obtain⟨a1,a2,a3⟩:=l9 (xC x.imports) (VI x.vars) (FM m x.bg);have b1:(imD x known).length<=x.imports.length*1:=upto_n 1 (λi s _=>by split<;>simp) _;obtain⟨b2,b3,b4⟩:=l9 (FL ⟨#[]⟩ x.imports) (FL ⟨#[]⟩ (x.vars.map (·.name))) (FL ⟨#[]⟩ (x.bg.map (·.name)));rw[dO]at b3 b4;have b5:(x.bg.flatMap λf=>D8 f.name f.params).length<=zG m x.bg:=by refine bF (iU (g:=λs:Fu=>s.name.size+2+lV s.params+dY m s.body+iX m s.result) (λf _=>?_)) (dF _);have:=FL f.name f.params;have:=xC f.params;omega
 have b6:(x.vars.flatMap λv=>mX names ⟨#[]⟩ v.level).length<=x.vars.length:=P9 λv=>U0 _ _ _;have b7:(x.bg.flatMap λf=>(all m f.body).flatMap (yx names f.name)).length<=zG m x.bg:=by refine bF (iU (g:=λs:Fu=>s.name.size+2+lV s.params+dY m s.body+iX m s.result) (λf hf=>?_)) (dF _);obtain⟨vb,hb⟩:=Qa hF hf;have:=P8 (f:=yx names f.name) hb (λs=>by have:=levS_len names f.name s;omega);omega
 have b8:(clD x known m).length<=zG m x.bg:=by refine bF (upto_sum (g:=λs:Fu=>s.name.size+2+lV s.params+dY m s.body+iX m s.result) (λk f hf=>?_)) (dF _);obtain⟨vb,hb⟩:=Qa hF (eT hf);have h1:=Tx hb;have h2:((lQ m f).flatMap (clE x known k f.name)).length<=(lQ m f).length:=P9 λy=>clE_len _ _ _ _ _;omega
 unfold vF at hw;unfold Ei twD lvD;simp only[uY,GL,aT,gB];omega
end bJ
namespace Fl
theorem tN:0<=dR l s↔s∈l:=by
 unfold dR;constructor
 ·intro h;split at h;·rename_i i hi;obtain⟨h1,h2⟩:=bN.find_spec hi;unfold K7 at h2;have e:s=l.getD i ByteArray.empty:=eu.1 h2;rw[e,List.getD,bD h1];exact kP h1
  ·omega
 ·intro h;obtain⟨i,hi,rfl⟩:=gZ.1 h;split;·omega
  ·rename_i hn;have:=JO.1 hn i (jr.2 hi);exact aM (eu.2 (by rw[List.getD,bD hi];rfl)) this
theorem Qb(l:List aY)(s:aY):dR l s<l.length\/l=[]:=by
 rcases xP l s with e|⟨i,e,hi⟩
 ·by_cases h:l=[];·exact aV h
  ·left;have:=sQ.2 h;omega
 ·left;omega
theorem Qc{g:Nat->List Dg}(h:bJ.upto g n=[]):∀i,i<n->g i=[]:=λi hi=>by refine List.eq_nil_iff_forall_not_mem.2 λd hd=>?_;have:d∈bJ.upto g n:=mem_upto.2 ⟨i,hi,hd⟩;rw[h]at this;cases this
theorem KO(h:D8 fn l=[]):l.Nodup:=by
 rw[List.Nodup,Mt];intro i j hi hj hij e;have h1:=Qc h j hj;rw[sZ (bD hj)]at h1;have h2:bJ.Ce (l.take j) l[j]=true:=by unfold bJ.Ce;rw[gP,tN,<-e];refine gZ.2 ⟨i,by rw[jB];omega,?_⟩;rw[List.getElem_take]
 rw[aL h2]at h1;cases h1
structure NmOk(ss:List ByteArray)(x:Mo)(known:List Mo)(m:Nat):Prop where
 vars:(x.vars.map (·.name)).Nodup
 sN:∀f∈x.bg,f.params.Nodup
 levs:∀v∈x.vars,0<=dR ss v.level
 prints:∀f∈x.bg,∀s∈bJ.all m f.body,s.kind=4->0<=dR ss s.name
 calls:∀(k:Nat) f,x.bg[k]?=some f->∀y∈lQ m f,bJ.code x known k y.name y.args.length=0
theorem xD{α β:Type}{f:α->List β}{l:List α}(h:l.flatMap f=[]){x:α}(hx:x∈l):f x=[]:=by rw[List.flatMap_eq_nil_iff]at h;exact h x hx
theorem VJ(h:bJ.once (Ei ss x known m)=[]):NmOk ss x known m:=by
 have h0:Ei ss x known m=[]:=List.eq_nil_iff_forall_not_mem.2 λd hd=>by have:=(Az _ d).2 hd;rw[h]at this;cases this
 unfold Ei at h0;simp only[uY,GL,gB,Ut]at h0;obtain⟨_,h2,h3,h4⟩:=h0;unfold twD at h2;simp only[uY,GL,gB,Ut]at h2;obtain⟨⟨_,hv,_⟩,hp⟩:=h2;unfold lvD at h3;rw[Ut]at h3;refine⟨KO hv,λf hf=>KO (xD hp hf),λv hvv=>?_,λf hf s hs hk=>?_,λk f hf y hy=>?_⟩
 ·have:=xD h3.1 hvv;unfold bJ.mX at this;split at this;·rename_i h;exact jw h
  ·cases this
 ·have:=xD (xD h3.2 hf) hs;unfold yx bJ.mX at this;rw[aL hk]at this;split at this;·rename_i h;exact jw h
  ·cases this
 ·have h5:=Qc h4 k (dK.1 hf).1;rw[sZ hf]at h5;have:=xD h5 hy;unfold clE at this;split at this;·rename_i h;exact h
  ·cases this
theorem qV:∀(m k:Nat) (x y:Ex),m<=k->y∈fC m x->y∈fC k x
 | 0,_,_,_,_,h=>by simp[fC]at h
 | m+1,0,_,_,hk,_=>by omega
 | m+1,k+1,x,y,hk,h=>by
  simp only[fC,bZ,iC]at h ⊢;rcases h with h|⟨z,hz,h⟩;·exact aR h
  ·exact aV ⟨z,hz,qV m k z y aX h⟩
theorem VK:∀(m k:Nat) (l:List St) (s:St),m<=k->s∈bJ.all m l->s∈bJ.all k l
 | 0,_,_,_,_,h=>by simp[bJ.all]at h
 | m+1,0,_,_,hk,_=>by omega
 | m+1,k+1,l,s,hk,h=>by
  simp only[bJ.all,bJ.within,bZ,iC,dD]at h ⊢;obtain⟨t,ht,h⟩:=h;refine⟨t,ht,?_⟩;rcases h with(h|h)|h;·exact aR (aR h)
  ·exact aR (aV (VK m k _ s aX h))
  ·exact aV (VK m k _ s aX h)
theorem Dq:∀(m:Nat) (x:Ex) (s:aY),s∈cls m x->∃y∈fC m x,y.name=s
 | 0,_,_,h=>by simp[cls]at h
 | m+1,x,s,h=>by
  simp only[cls,bZ,iC]at h;rcases h with h|⟨z,hz,h⟩
  ·split at h;·rename_i hk;simp only[dD]at h;exact⟨x,by simp[fC,hk],h.symm⟩
   ·cases h
  ·obtain⟨y,hy,e⟩:=Dq m z s h;exact⟨y,by simp only[fC,bZ,iC];exact aV ⟨z,hz,hy⟩,e⟩
theorem Af:∀(m:Nat) (l:List St) (s:aY),s∈mg m l->∃t∈bJ.all m l,∃y∈fC m t.e,y.name=s
 | 0,_,_,h=>by simp[mg]at h
 | m+1,l,s,h=>by
  simp only[mg,bZ,iC]at h;obtain⟨t,ht,h⟩:=h;have ha:∀u,u=t\/u∈bJ.all m t.a\/u∈bJ.all m t.b->u∈bJ.all (m+1) l:=λu hu=>by
   simp only[bJ.all,bJ.within,bZ,iC,dD];refine⟨t,ht,?_⟩;rcases hu with h|h|h;·exact aR (aR h)
   ·exact aR (aV h)
   ·exact aV h
  rcases h with(h|h)|h;·obtain⟨y,hy,e⟩:=Dq m _ s h;exact⟨t,ha t (aR rfl),y,qV m (m+1) _ _ (dF _) hy,e⟩
  ·obtain⟨u,hu,y,hy,e⟩:=Af m _ s h;exact⟨u,ha u (aV (aR hu)),y,qV m (m+1) _ _ (dF _) hy,e⟩
  ·obtain⟨u,hu,y,hy,e⟩:=Af m _ s h;exact⟨u,ha u (aV (aV hu)),y,qV m (m+1) _ _ (dF _) hy,e⟩
theorem Ym(h:s∈mg m f.body++cls m f.result):∃y∈lQ m f,y.name=s:=by
 unfold lQ;rcases bZ.1 h with h|h;·obtain⟨t,ht,y,hy,e⟩:=Af m _ s h;exact⟨y,bZ.2 (aR (iC.2 ⟨t,ht,hy⟩)),e⟩
 ·obtain⟨y,hy,e⟩:=Dq m _ s h;exact⟨y,bZ.2 (aV hy),e⟩
def JK:Sc:=⟨⟨#[]⟩,0,0,[],0,[]⟩
def tO(x:Mo)(k:Nat)(known:List Mo)(bK:List (List Sc))(own:List Sc)(call:ByteArray):Sc:=
 if (iQ x k call known).2.2=false then JK else if (iQ x k call known).1<0 then own.getD (iQ x k call known).2.1.toNat JK else (bK.getD (iQ x k call known).1.toNat []).getD (iQ x k call known).2.1.toNat JK
theorem ptgt_own(h:iQ x k call known=(-1,(i:Int),true)):i<k:=by
 cases hd:kM call with
 | none=>
  have e:iQ x k call known=bJ.AA (-1) x.bg call k:=by simp[iQ,hd]
  rw[e]at h;unfold bJ.AA at h;cases hf:FZ x.bg call k with
  | none=>rw[hf]at h;simp at h
  | some j =>rw[hf]at h;simp only[pq,true_and,and_true]at h;have:=(LQ hf).1;omega
 | some d=>
  exfalso;rcases xP x.imports (bN.preS call)with hi|⟨i',hi,_⟩
  ·have e:iQ x k call known=(0,0,false):=by simp[iQ,hd,hi]
   rw[e]at h;simp at h
  ·cases hm:dI known (x.imports.getD i' ByteArray.empty)with
   | none=>rw[Gn hd hi hm]at h;simp at h
   | some a =>obtain⟨y,hy,_⟩:=bJ.uH hm;rw[Ll hd hi hm hy]at h;unfold bJ.AA at h;split at h<;>simp at h<;>omega
theorem scB_ok{y:Sc}(h:scB N y=true)(hn:y.bounds.length=n):Sq N y n:=by unfold scB at h;simp only[dJ]at h;obtain⟨hb,⟨hl,hp⟩,_⟩:=h;unfold yw at hl;unfold EP at hp;simp only[dJ,gP]at hl hp;refine⟨hn,λb hb'=>?_,⟨hl.1.1.1,hl.1.1.2⟩,⟨hl.1.2,hl.2⟩,hp⟩;have:=iB.1 hb b hb';unfold EP at this;simpa using this
theorem VL{fs:List Fu}{ys:List Sc}(h:sD N fs ys=true){g:Fu}(hg:fs[j]?=some g):∃y,ys[j]?=some y/\y.bounds.length=g.params.length/\scB N y=true:=by
 unfold sD at h;simp only[dJ,gP]at h;have hj:=(dK.1 hg).1;have hj':j<ys.length:=by omega
 refine⟨ys[j],bD hj',?_⟩;have hm:(g,ys[j])∈List.zip fs ys:=by refine gZ.2 ⟨j,by rw[List.length_zip];omega,?_⟩;rw[List.getElem_zip];obtain⟨h1,h2⟩:=dK.1 hg;rw[h2]
 have:=iB.1 h.2 _ hm;unfold Di at this;simpa using this
theorem fitsB_at(h:iN N ms ys=true){g:Mo}(hg:ms[j]?=some g):∃y,ys[j]?=some y/\sD N g.bg y=true:=by
 unfold iN at h;simp only[dJ,gP]at h;have hj:=(dK.1 hg).1;have hj':j<ys.length:=by omega
 refine⟨ys[j],bD hj',?_⟩;have hm:(g,ys[j])∈List.zip ms ys:=by refine gZ.2 ⟨j,by rw[List.length_zip];omega,?_⟩;rw[List.getElem_zip];obtain⟨h1,h2⟩:=dK.1 hg;rw[h2]
 exact iB.1 h.2 _ hm
theorem Tz(hk:iN N known bK=true)(ho:sD N (x.bg.take k) own=true)(hc:bJ.code x known k call n=0):Vz x k known bK own call (tO x k known bK own call)/\Sq N (tO x k known bK own call) n:=by
 have ht:(iQ x k call known).2.2=true:=by
  unfold bJ.code at hc;cases h:(iQ x k call known).2.2 with
  | true=>rfl
  | false=>rw[h]at hc;simp at hc
 rcases Ke ht with⟨i,f,e,hf⟩|⟨a,y,j,f,e,hy,hf⟩
 ·have hik:=ptgt_own e;have hf':(x.bg.take k)[i]?=some f:=by rw[qL hik];exact hf
  obtain⟨s,hs,hb,hsc⟩:=VL ho hf';have es:tO x k known bK own call=s:=by unfold tO;rw[e];simp[List.getD,hs]
  rw[es];have hn:f.params.length=n:=by unfold bJ.code pfun at hc;rw[e]at hc;simp[hf]at hc;exact hc
  exact⟨aR ⟨by rw[e];show(-1:Int)<0;omega,i,by rw[e],hs⟩,scB_ok hsc (hb.trans hn)⟩
 ·obtain⟨l,hl,hfit⟩:=fitsB_at hk hy;obtain⟨s,hs,hb,hsc⟩:=VL hfit hf;have es:tO x k known bK own call=s:=by
   unfold tO;rw[e];have:¬((a:Int)<0):=by omega
   simp[List.getD,hl,hs,this]
  rw[es];have hn:f.params.length=n:=by
   unfold bJ.code pfun at hc;rw[e]at hc;have:¬((a:Int)=-1):=by omega
   simp[hy,hf,this]at hc;exact hc
  exact⟨aV ⟨a,j,l,by rw[e],by rw[e],hl,hs⟩,scB_ok hsc (hb.trans hn)⟩
theorem qW(h:dP s.data.toList=true):s.size<=8:=by unfold dP at h;simp only[dJ,gP]at h;have:=h.1.2;rwa[gM]at this
theorem Ag(h:s.toList.isEmpty=true):s.size=0:=by rw[yK,List.isEmpty_iff]at h;rw[<-gM,h];rfl
theorem TA(h:vU s=true):s.size<=17:=by
 unfold vU at h;simp only[dJ,Gl]at h;have h1:=qW h.1;unfold bN.preS at h1;unfold sP at h;cases hd:kM s with
 | none=>rw[hd]at h1;simpa using bF h1 bO
 | some i=>
  rw[hd]at h h1;have hi:=Oj hd;rcases h.2 with h2|h2;·simp at h2
  ·have h3:=qW h2;simp at h1 h3;omega
theorem FN(c:Env):∀(m:Nat) (x:Ex),kN m x=true->(∀y∈fC m x,Sq c.N (c.dW y.name) y.args.length)->c.wT m x
 | 0,_,h,_=>by simp[kN]at h
 | m+1,x,h,hc=>by
  have hp:∀y∈x.args,∀z∈fC m y,Sq c.N (c.dW z.name) z.args.length:=λy hy z hz=>hc z (by simp only[fC,bZ,iC];exact aV ⟨y,hy,hz⟩);simp only[kN]at h;by_cases h1:x.kind=1;·rw[aL h1]at h;simp only[dJ,beq_iff_eq]at h;have hn:=Ag h.1.2;have ha:x.args=[]:=om.1 h.2;exact⟨by omega,λe=>by omega,λe=>by omega,λy hy=>by rw[ha]at hy;cases hy⟩
  ·rw[aJ h1]at h;by_cases h2:x.kind=2;·rw[aL h2]at h;simp only[dJ,beq_iff_eq]at h;have hn:=qW h.1.2;have ha:x.args=[]:=om.1 h.2;exact⟨by omega,λe=>by omega,λe=>by omega,λy hy=>by rw[ha]at hy;cases hy⟩
   ·rw[aJ h2]at h;by_cases h3:x.kind=3
    ·rw[aL h3]at h;simp only[dJ,beq_iff_eq]at h;have hn:x.name.size<=17:=by
      have ho:=h.1.1.2;by_cases hs:x.name.size=1;·omega
      ·rw[Lh hs]at ho;cases ho
     exact⟨hn,λ_=>h.1.2,λe=>by omega,λy hy=>FN c m y (iB.1 h.2 y hy) (hp y hy)⟩
    ·rw[aJ h3]at h;by_cases h4:x.kind=4;·rw[aL h4]at h;simp only[dJ,beq_iff_eq,gP]at h;exact⟨TA h.1.1.2,λe=>by omega,λ_=>⟨h.1.2,hc x (by simp[fC,h4])⟩,λy hy=>FN c m y (iB.1 h.2 y hy) (hp y hy)⟩
     ·rw[aJ h4]at h;cases h
theorem Nc(c:Env):∀(m:Nat) (l:List St),mG m l=true->(∀s∈bJ.all m l,(∀y∈fC m s.e,Sq c.N (c.dW y.name) y.args.length)/\(s.kind=4->0<=c.pl s.name))->c.wU m l
 | 0,_,h,_=>by simp[mG]at h
 | m+1,l,h,hc=>by
  intro s hs;rw[zB]at h;have hb:=iB.1 h s hs;unfold stB at hb;simp only[dJ]at hb;obtain⟨⟨⟨hh,he⟩,ha⟩,hbb⟩:=hb;have hall:∀u,u=s\/u∈bJ.all m s.a\/u∈bJ.all m s.b->u∈bJ.all (m+1) l:=λu hu=>by
   simp only[bJ.all,bJ.within,bZ,iC,dD];refine⟨s,hs,?_⟩;rcases hu with h|h|h;·exact aR (aR h)
   ·exact aR (aV h)
   ·exact aV h
  have hsub:∀u,(u=s\/u∈bJ.all m s.a\/u∈bJ.all m s.b)->(∀y∈fC m u.e,Sq c.N (c.dW y.name) y.args.length)/\(u.kind=4->0<=c.pl u.name):=λu hu =>⟨λy hy=>(hc u (hall u hu)).1 y (qV m (m+1) _ _ (dF _) hy),(hc u (hall u hu)).2⟩;unfold stH at hh;refine⟨?_,FN c m s.e he (hsub s (aR rfl)).1,λhk=>?_,(hsub s (aR rfl)).2,Nc c m s.a ha λu hu=>hsub u (aV (aR hu)),Nc c m s.b hbb λu hu=>hsub u (aV (aV hu))⟩
  ·split at hh;·simp only[dJ]at hh;exact qW hh.1.1
   ·split at hh;·have:=Ag hh;omega
    ·split at hh;·simp only[dJ]at hh;have:=Ag hh.1;omega
     ·cases hh
  ·rw[aL hk]at hh;simp only[dJ,beq_iff_eq]at hh;exact⟨om.1 hh.2,om.1 hh.1.2⟩
theorem Iu{c:Env}:∀(m:Nat) (x:Ex),c.wT m x->∀s∈cls m x,s.size<=17
 | 0,_,h,_,_=>iW h
 | m+1,x,h,s,hs=>by
  simp only[cls,bZ,iC]at hs;rcases hs with hs|⟨y,hy,hs⟩
  ·split at hs;·rw[dD]at hs;subst hs;exact h.1
   ·cases hs
  ·exact Iu m y (h.2.2.2 y hy) s hs
theorem Dr{c:Env}:∀(m:Nat) (l:List St),c.wU m l->∀s∈mg m l,s.size<=17
 | 0,_,h,_,_=>iW h
 | m+1,l,h,s,hs=>by
  simp only[mg,bZ,iC]at hs;obtain⟨t,ht,hs⟩:=hs;obtain⟨_,he,_,_,ha,hb⟩:=h t ht;rcases hs with(hs|hs)|hs;·exact Iu m _ he s hs
  ·exact Dr m _ ha s hs
  ·exact Dr m _ hb s hs
def gH(ss:List ByteArray)(Z:Nat->Nat->Bool)(x:Mo)(k:Nat)(known:List Mo)(bK:List (List Sc))(own:List Sc)(f:Fu):Env:=
 ⟨Z,ss.length,vE Z ss.length,x.name,sG ss f.params x.vars,λs=>dR ss s,tO x k known bK own⟩
theorem levV_lt(hp:0<ss.length)(h:∀v∈vs,0<=dR ss v.level)(hs:sG ss ps vs s=some n):n<ss.length:=by
 unfold sG at hs;split at hs;·cases hs
 ·obtain⟨v,hv,rfl⟩:=vX.1 hs;have hm:=List.mem_reverse.1 (JQ hv);have h1:=h v hm;rcases Qb ss v.level with h2|h2;·omega
  ·rw[h2]at hp;simp at hp
theorem Qd{L:Nat->Nat}(hL:bX ss G L Z=0)(hN:NmOk ss x known m)(k:Nat)(bK:List (List Sc))(own:List Sc)(f:Fu):(gH ss Z x k known bK own f).Ok:=by have hok:=pU hL;have ho:=Lf hok.order;exact⟨(F3 (vZ ho.turn hok.meets) hok.pos).1,λs n hs=>levV_lt hok.pos hN.levs hs,vZ ho hok.joins,hok.six⟩
structure FnOk(c:Env)(x:Mo)(k:Nat)(known:List Mo)(bK:List (List Sc))(own:List Sc)(m:Nat)(f:Fu):Prop where
 st:c.wU m f.body
 ex:c.wT m f.result
 means:∀s∈mg m f.body++cls m f.result,s.size<=17/\Vz x k known bK own s (c.dW s)
theorem VN(hN:NmOk ss x known m)(hE:sI m x=0)(hf:x.bg[k]?=some f)(hk:iN ss.length known bK=true)(ho:sD ss.length (x.bg.take k) own=true):FnOk (gH ss Z x k known bK own f) x k known bK own m f:=by
 have hm:=eT hf;obtain⟨hb,hr⟩:=moE_ok hE f hm;have hc:=hN.calls k f hf;have hst:(gH ss Z x k known bK own f).wU m f.body:=Nc _ m f.body hb λs hs=>⟨λy hy=>(Tz hk ho (hc y (bZ.2 (aR (iC.2 ⟨s,hs,hy⟩))))).2,λh4=>hN.prints f hm s hs h4⟩;have hex:(gH ss Z x k known bK own f).wT m f.result:=FN _ m f.result hr λy hy=>(Tz hk ho (hc y (bZ.2 (aV hy)))).2;refine⟨hst,hex,λs hs=>?_⟩;obtain⟨y,hy,rfl⟩:=Ym hs;refine⟨?_,(Tz hk ho (hc y hy)).1⟩;rcases bZ.1 hs with h|h;·exact Dr m f.body hst _ h
 ·exact Iu m f.result hex _ h
end Fl
namespace Fl
theorem jo{α:Type}{f g:α->Nat}:∀{l:List α},(∀x∈l,f x<=g x)->(l.map f).sum<=(l.map g).sum
 | [],_=>bE _
 | x::l,h=>by have h0:=h x dx;have h1:=jo (l:=l) λy hy=>h y (by simp[hy]);simp only[fG,iZ];omega
theorem VO{α:Type}{g:α->Nat}:∀{l:List α} {x:α},x∈l->g x<=(l.map g).sum
 | y::l,x,h=>by
  simp only[fG,iZ];rcases fK.1 h with rfl|h;·omega
  ·have:=VO (g:=g) h;omega
theorem iU{α β:Type}(f:α->List β)(l:List α):(l.flatMap f).length=(l.map λx=>(f x).length).sum:=by
 induction l with
 | nil=>rfl
 | cons x l ih=>simp[List.flatMap_cons,ih]
theorem xE{α:Type}(k:Nat)(f:α->Nat):∀l:List α,(l.map λx=>k*f x).sum=k*(l.map f).sum
 | []=>rfl
 | x::l=>by simp only[fG,iZ,xE k f l,Nat.mul_add]
section
variable (c : Env)
theorem Nf(s:aY):(c.JA s).length<=1:=by unfold Env.JA;split<;>simp
theorem Ng:∀(m:Nat) (x:Ex),(c.mW m x).length<=iX m x
 | 0,_=>by simp[Env.mW]
 | m+1,x=>by
  simp only[Env.mW,iX,aT,iU];obtain⟨h1,h2⟩:=eY (jo (l:=x.args) λy _=>Ng m y) (Nf c x.name);split;·omega
  ·simp only[Em];omega
theorem Ni:∀(m:Nat) (l:List St),(c.vS m l).length<=dY m l
 | 0,_=>by simp[Env.vS]
 | m+1,l=>by
  simp only[Env.vS,dY,iU];refine bF (jo (g:=λs:St=>s.name.size+3+iX m s.e+dY m s.a+dY m s.b) λs _=>?_) (dF _);obtain⟨h1,h2,h3⟩:=l9 (Ng c m s.e) (Ni m s.a) (Ni m s.b);have h4:(c.Eh s).length<=1:=by
   unfold Env.Eh;split;·exact Nf c _
   ·simp
  simp only[aT];omega
theorem Nj:∀(m:Nat) (x:Ex),(cls m x).length<=iX m x
 | 0,_=>by simp[cls]
 | m+1,x=>by simp only[cls,iX,aT,iU];have h1:=jo (l:=x.args) λy _=>Nj m y;split<;>simp only[Em,iF]<;>omega
theorem Iw:∀(m:Nat) (l:List St),(mg m l).length<=dY m l
 | 0,_=>by simp[mg]
 | m+1,l=>by simp only[mg,dY,iU];refine bF (jo (g:=λs:St=>s.name.size+3+iX m s.e+dY m s.a+dY m s.b) λs _=>?_) (dF _);obtain⟨h1,h2,h3⟩:=l9 (Nj m s.e) (Iw m s.a) (Iw m s.b);simp only[aT];omega
theorem Nk:∀(m:Nat) (l:List St),c.tH m l<=dY m l
 | 0,_=>by simp[Env.tH]
 | m+1,l=>by
  simp only[Env.tH,dY];refine bF (jo (g:=λs:St=>s.name.size+3+iX m s.e+dY m s.a+dY m s.b) λs _=>?_) (dF _);obtain⟨h2,h3⟩:=eY (Nk m s.a) (Nk m s.b);have h4:c.vM s<=1:=by
   unfold Env.vM;split;·exact Nf c _
   ·omega
  omega
theorem Nl{K:Nat}(hK:1<=K)(hs:∀s,(c.dW s).gY.length<=K):∀(m:Nat) (x:Ex),(c.zP m x).length<=K*iX m x
 | 0,_=>by simp[Env.zP]
 | m+1,x=>by
  simp only[Env.zP,iX,aT,iU];have h1:=jo (l:=x.args) λy _=>Nl hK hs m y;rw[xE]at h1;have h2:(if x.kind=2 then c.Vh ⟨#[114,58]⟩ x.name else if x.kind=4 then (c.dW x.name).gY else []).length<=K:=by
   split;·refine bF ?_ hK;unfold Env.Vh;split<;>simp
   ·split;·exact hs _
    ·simp
  have h3:K*(x.name.size+4+(x.args.map (iX m)).sum)=K*(x.name.size+4)+K*(x.args.map (iX m)).sum:=Nat.mul_add _ _ _;have h4:K*1<=K*(x.name.size+4):=Nat.mul_le_mul_left _ aX;omega
theorem Nn{K:Nat}(hK:1<=K)(hs:∀s,(c.dW s).gY.length<=K):∀(m:Nat) (l:List St),(c.Pm m l).length<=K*dY m l
 | 0,_=>by simp[Env.Pm]
 | m+1,l=>by
  simp only[Env.Pm,dY,iU];refine bF (jo (g:=λs:St=>K*(s.name.size+3+iX m s.e+dY m s.a+dY m s.b)) λs _=>?_) (by rw[xE];exact Nat.mul_le_mul_left _ (dF _));obtain⟨h1,h2,h3⟩:=l9 (Nl c hK hs m s.e) (Nn hK hs m s.a) (Nn hK hs m s.b);have h4:(c.Pk s).length<=1:=by
   unfold Env.Pk;split;·unfold Env.Vh;split<;>simp
   ·split<;>simp
  have h5:K*(s.name.size+3+iX m s.e+dY m s.a+dY m s.b)=K*(s.name.size+3)+K*iX m s.e+K*dY m s.a+K*dY m s.b:=by rw[Nat.mul_add,Nat.mul_add,Nat.mul_add]
  have h6:K*1<=K*(s.name.size+3):=Nat.mul_le_mul_left _ aX;simp only[aT];omega
theorem FP:∀(m:Nat) (x:Ex) (pc:Hg),c.wT m x->(c.yV m x pc).length<=2*iX m x
 | 0,_,_,h=>iW h
 | m+1,x,pc,h=>by
  simp only[Env.yV,iX,aT,iU];have h1:=jo (l:=x.args) λy hy=>FP m y pc (h.2.2.2 y hy);rw[xE]at h1;split;·rename_i h4;have h5:=(h.2.2.1 h4).1;simp only[Env.XI,aT,dO,rM,iF];omega
  ·simp only[Em];omega
theorem FQ:∀(m:Nat) (l:List St) (pc:Hg),c.wU m l->(c.Jd m l pc).length<=2*dY m l
 | 0,_,_,h=>iW h
 | m+1,l,pc,h=>by
  simp only[Env.Jd,dY,iU];refine bF (jo (g:=λs:St=>2*(s.name.size+3+iX m s.e+dY m s.a+dY m s.b)) λs hs=>?_) (by rw[xE];omega);obtain⟨_,he,_,_,ha,hb⟩:=h s hs;obtain⟨h1,h2,h3⟩:=l9 (FP c m s.e (c.at m pc s) he) (FQ m s.a (c.here m pc s) ha) (FQ m s.b (c.here m pc s) hb);have h4:(c.Vi s (c.here m pc s)).length<=1:=by
   unfold Env.Vi;split;·unfold Env.skN;split<;>simp
   ·split<;>simp
  simp only[aT];omega
theorem TB:∀(m:Nat) (l:List St) (pc:Hg),(c.G6 m l pc).length=c.tH m l
 | 0,_,_=>by simp[Env.G6,Env.tH]
 | m+1,l,pc=>by
  simp only[Env.G6,Env.tH,iU];congr 1;refine JY λs _=>?_;simp only[aT,TB m];congr 2;unfold Env.XJ Env.vM Env.cnN Env.JA;split;·split<;>rfl
  ·rfl
end
theorem fun_le(h:f∈x.bg):f.params.length+dY m f.body+iX m f.result+2<=vF m x:=by have h1:=VO (g:=λs:Fu=>s.name.size+2+lV s.params+dY m s.body+iX m s.result) h;have h2:=xC f.params;unfold vF zG;omega
end Fl
theorem jO(h:Below n w W)(hB:n<=B)(a b c d e f g:Value):Below n w (((((((W.setCell (X B 0) a).setCell (X B 1) b).setCell (X B 2) c).setCell (X B 3) d).setCell (X B 4) e).setCell (X B 5) f).setCell (X B 6) g):=
 ((((((h.setCell hB _).setCell hB _).setCell hB _).setCell hB _).setCell hB _).setCell hB _).setCell hB _
namespace Fl
theorem eff_ext{B:List aY}(h:∀t,t∈aag↔t∈B):ji (nN aag)=ji (nN B):=
 Il (Ik _ (BJ aag)) (Ik _ (BJ B)) λt=>by rw[Bf,wM,Bf,wM,h]
def Np(ss:List ByteArray)(G:Nat)(L:Nat->Nat)(Z:Nat->Nat->Bool)(m:Nat)(x:Mo)(k:Int)(known:List Mo)(bK:List (List Sc))(own:List Sc):Int:=
 if yZ (bX ss G L Z) m x known≠0 then yZ (bX ss G L Z) m x known
 else if bJ.once (Ei ss x known m)≠[]then 5
 else if k<0\/k>=x.bg.length\/iN ss.length known bK=false\/sD ss.length (x.bg.take k.toNat) own=false then 1 else 0
end Fl
structure lZ(w:World)(m:Nat)(vn vl vi vv vf vk vs vo:Value)(ss:List ByteArray)(G:Nat)(L:Nat->Nat)(Z:Nat->Nat->Bool)(x:Mo)(known:List Mo)(bK:List (List Sc))(own:List Sc):Prop where
 strs:Strs w vn ss
 NS:Fg w vl G L Z
 mo:iY w m (.agg #[.string x.name,vi,vv,vf]) x
 cap:yR w vi vf
 kn:nD w m vk known
 sc:zR w vs bK
 ow:yX w vo own
 small:vF m x<=1048576
 smalls:∀y∈known,vF m y<=1048576
 tab:Tab w
 kT:∀l∈bK,∀y∈l,y.gY.length<=1048576
 effo:∀y∈own,y.gY.length<=1048576
section
variable {w w' : World} {m : Nat} {vn vl vi vv vf vk vs vo : Value} {ss : List ByteArray} {G : Nat} {L : Nat → Nat} {Z : Nat → Nat → Bool} {x : Mo} {known : List Mo} {bK : List (List Sc)} {own : List Sc}
theorem lZ.below(h:lZ w m vn vl vi vv vf vk vs vo ss G L Z x known bK own)(hb:bG w w'):lZ w' m vn vl vi vv vf vk vs vo ss G L Z x known bK own:=
 ⟨h.strs.below hb,h.NS.below hb,h.mo.below hb,h.cap.below hb,h.kn.below hb,h.sc.below hb,h.ow.below hb,h.small,h.smalls,h.tab.below hb,h.kT,h.effo⟩
theorem lZ.checkO(h:lZ w m vn vl vi vv vf vk vs vo ss G L Z x known bK own):Calls prog 53 #[.agg #[vn,vl],.agg #[A x.name,vi,vv,vf],vk] w λe w'=>∃u,e=dz (.tuple #[u,O (yZ (bX ss G L Z) m x known)])/\jf w' u (Db (yZ (bX ss G L Z) m x known) ss x known m)/\(Db (yZ (bX ss G L Z) m x known) ss x known m=[]->u=J)/\bG w w':=by
 have hlens:x.imports.length<=1048576/\x.vars.length<=1048576/\x.bg.length<=1048576:=by have a1:=xC x.imports;obtain⟨a2,a3,hw⟩:=l9 (VI x.vars) (FM m x.bg) h.small;unfold vF at hw;omega
 exact SC m w vn vl vi vv vf vk ss x known _ h.strs h.mo h.kn h.cap (λwx hb=>Im m wx vn vl vi vv vf vk ss G L Z x known (h.strs.below hb) (h.NS.below hb) (h.mo.below hb) (h.kn.below hb) h.small h.smalls (h.tab.below hb)) hlens.2.1 hlens.2.2 hlens.1 (prL_len ss known h.mo h.small)
theorem lZ.check(h:lZ w m vn vl vi vv vf vk vs vo ss G L Z x known bK own):Calls prog 53 #[.agg #[vn,vl],.agg #[A x.name,vi,vv,vf],vk] w λe w'=>∃u,e=dz (.tuple #[u,O (yZ (bX ss G L Z) m x known)])/\jf w' u (Db (yZ (bX ss G L Z) m x known) ss x known m)/\bG w w':=by refine h.checkO.mono ?_;rintro e w' ⟨u,rfl,h1,_,h2⟩;exact⟨u,rfl,h1,h2⟩
theorem lZ.forms(h:lZ w m vn vl vi vv vf vk vs vo ss G L Z x known bK own):(∃a c,vn=Y a ss.length c)/\(∃a n c,vl=Y a n c)/\(∃a n c,vi=Y a n c)/\(∃a n c,vv=Y a n c)/\(∃a c,vf=Y a x.bg.length c/\x.bg.length<=c)/\(∃a n c,vk=Y a n c)/\(∃a n c,vs=Y a n c)/\(∃a n c,vo=Y a n c):=by obtain⟨h1,h2,h3⟩:=h.mo.split;obtain⟨a0,_,_,c0,e0,_⟩:=h.strs;obtain⟨a1,_,_,c1,_,_,_,_,e1,_⟩:=h.NS;obtain⟨a2,_,_,c2,e2,_⟩:=h1;obtain⟨a3,_,_,c3,e3,_⟩:=h2;obtain⟨a4,_,_,c4,e4,_⟩:=h3;obtain⟨a5,_,_,c5,e5,_⟩:=h.kn;obtain⟨a6,_,_,c6,e6,_⟩:=h.sc;obtain⟨a7,_,_,c7,e7,_⟩:=h.ow;exact⟨⟨_,_,e0⟩,⟨_,_,_,e1⟩,⟨_,_,_,e2⟩,⟨_,_,_,e3⟩,⟨_,_,e4,h.cap.fus _ _ _ e4⟩,⟨_,_,_,e5⟩,⟨_,_,_,e6⟩,⟨_,_,_,e7⟩⟩
end
theorem Qe(m:Nat)(w:World)(vn vl vi vv vf vk vs vo:Value)(ss:List aY)(G:Nat)(L:Nat->Nat)(Z:Nat->Nat->Bool)(x:Mo)(known:List Mo)(bK:List (List Sc))(own:List Sc)(k mn mc:Int)(hP:lZ w m vn vl vi vv vf vk vs vo ss G L Z x known bK own)(hE:yZ (bX ss G L Z) m x known≠0):Calls prog 54 #[.agg #[vn,vl],.agg #[A x.name,vi,vv,vf],O k,vk,vs,vo,O mn,O mc] w λe w'=>e=dz (.tuple #[.agg #[J,J,J,J,O 0,O 0,J],O (yZ (bX ss G L Z) m x known)])/\bG w w':=by obtain⟨⟨a0,c0,e0⟩,⟨a1,n1,c1,e1⟩,⟨a2,n2,c2,e2⟩,⟨a3,n3,c3,e3⟩,⟨a4,c4,e4,hcap⟩,⟨a5,n5,c5,e5⟩,⟨a6,n6,c6,e6⟩,⟨a7,n7,c7,e7⟩⟩:=hP.forms;obtain⟨n0,hn0⟩:=bC ss.length;obtain⟨n4,rW⟩:=bC x.bg.length;obtain⟨EZ,yF⟩:=bU hn0 rW;rw[<-hn0]at e0;rw[<-rW]at e4 hcap;clear hn0 rW;subst e0 e1 e2 e3 e4 e5 e6 e7;have HP:=I hP;obtain⟨W,hW,k0,k1,k2,hsz,hBW⟩:=Za w (aW #[Y a0 n0 c0,Y a1 n1 c1] 25) (aW #[A x.name,Y a2 n2 c2,Y a3 n3 c3,Y a4 n4 c4] 58) (aW #[J,J,J,J,O 0,O 0,J] 128);obtain⟨x0,x1⟩:=iV k0;obtain⟨y0,y1,y2,y3⟩:=Mq k1;obtain⟨lF,jh,Fa,iA,uI⟩:=rO k0 k1 k2 hBW ((hP.below hBW).check);clear k0 k1 k2 hsz hBW hP;rw[hW]at x0 x1 y0 y1 y2 y3;obtain⟨E,hEE⟩:=bC (yZ (bX ss G L Z) m x known);rw[<-hEE]at uI hE ⊢;have hz:=eP hE;clear hEE hE;go_enter func54,ntmps54;go_wp2_with fail;rw[<-hW];clear hW x0 x1 y0 y1 y2 y3;refine uI.mono ?_;rintro e w1 ⟨u,rfl,hu,hb1⟩;obtain⟨HR1,HB1⟩:=bU (aU Fa hb1) (up iA hb1);clear hu hb1;obtain⟨r0,r1,r2,r3,r4,r5,r6⟩:=Ap HR1;obtain⟨z0,z1,z2,z3,z4,z5,z6⟩:=J5 (aG HR1 0) (aG HR1 1) (aG HR1 2) (aG HR1 3) (aG HR1 4) (aG HR1 5) (aG HR1 6);go_wp2_with fail;have hs:=JD HR1 (J) (J) (J) (J) (O 0) (O 0) (J);obtain⟨f0,f1,f2,f3,f4,f5,f6⟩:=Ap hs;refine bV (v:=.tuple #[.agg #[J,J,J,J,O 0,O 0,J],O (E)]) (by simp[results,results54,go_sem,f0,f1,f2,f3,f4,f5,f6]) rfl ⟨rfl,?_⟩;exact jO HB1 (bF (dF _) (dF _)) _ _ _ _ _ _ _
theorem Qf(m:Nat)(w:World)(vn vl vi vv vf vk vs vo:Value)(ss:List aY)(G:Nat)(L:Nat->Nat)(Z:Nat->Nat->Bool)(x:Mo)(known:List Mo)(bK:List (List Sc))(own:List Sc)(k mn mc:Int)(hP:lZ w m vn vl vi vv vf vk vs vo ss G L Z x known bK own)(hE:yZ (bX ss G L Z) m x known=0)(hD:bJ.once (Ei ss x known m)≠[]):Calls prog 54 #[.agg #[vn,vl],.agg #[A x.name,vi,vv,vf],O k,vk,vs,vo,O mn,O mc] w λe w'=>e=dz (.tuple #[.agg #[J,J,J,J,O 0,O 0,J],O 5])/\bG w w':=by
 obtain⟨⟨a0,c0,e0⟩,⟨a1,n1,c1,e1⟩,⟨a2,n2,c2,e2⟩,⟨a3,n3,c3,e3⟩,⟨a4,c4,e4,hcap⟩,⟨a5,n5,c5,e5⟩,⟨a6,n6,c6,e6⟩,⟨a7,n7,c7,e7⟩⟩:=hP.forms;obtain⟨n0,hn0⟩:=bC ss.length;obtain⟨n4,rW⟩:=bC x.bg.length;obtain⟨EZ,yF⟩:=bU hn0 rW;rw[<-hn0]at e0;rw[<-rW]at e4 hcap;clear hn0 rW;subst e0 e1 e2 e3 e4 e5 e6 e7;have HP:=I hP;obtain⟨W,hW,k0,k1,k2,hsz,hBW⟩:=Za w (aW #[Y a0 n0 c0,Y a1 n1 c1] 25) (aW #[A x.name,Y a2 n2 c2,Y a3 n3 c3,Y a4 n4 c4] 58) (aW #[J,J,J,J,O 0,O 0,J] 128);obtain⟨x0,x1⟩:=iV k0;obtain⟨y0,y1,y2,y3⟩:=Mq k1;obtain⟨lF,jh,Fa,iA,uI⟩:=rO k0 k1 k2 hBW ((hP.below hBW).check);clear k0 k1 k2 hsz hBW hP;rw[hW]at x0 x1 y0 y1 y2 y3;rw[hE]at uI;have HD:Hid (0<(Db 0 ss x known m).length):=I (by unfold Db;rw[aL rfl];exact sQ.2 hD);clear hE hD;go_enter func54,ntmps54;go_wp2_with fail;rw[<-hW];clear hW x0 x1 y0 y1 y2 y3;refine uI.mono ?_;rintro e w1 ⟨u,rfl,hu,hb1⟩;obtain⟨HR1,HB1⟩:=bU (aU Fa hb1) (up iA hb1);obtain⟨ua,ub,uo,uc,rfl,-⟩:=hu;obtain⟨nd,hnd⟩:=bC ((Db 0 ss x known m).length);have hpos:0<nd:=by rw[hnd];exact HD
 rw[<-hnd];clear hnd hb1;obtain⟨r0,r1,r2,r3,r4,r5,r6⟩:=Ap HR1;obtain⟨z0,z1,z2,z3,z4,z5,z6⟩:=J5 (aG HR1 0) (aG HR1 1) (aG HR1 2) (aG HR1 3) (aG HR1 4) (aG HR1 5) (aG HR1 6);go_wp2_with fail;have hs:=JD HR1 (J) (J) (J) (J) (O 0) (O 0) (J);obtain⟨f0,f1,f2,f3,f4,f5,f6⟩:=Ap hs;refine bV (v:=.tuple #[.agg #[J,J,J,J,O 0,O 0,J],O (5)]) (by simp[results,results54,go_sem,f0,f1,f2,f3,f4,f5,f6]) rfl ⟨rfl,?_⟩;exact jO HB1 (bF (dF _) (dF _)) _ _ _ _ _ _ _
theorem kW.takeF{a:Option Addr}{l:List Fu}(h:kW w m (Y a n c) l)(hk:k<=l.length):kW w m (Y a k c) (l.take k):=by
 obtain⟨a',b,off,cap,e,h0,hl,h1⟩:=h;injection e with e0 e1 e2;subst e0 e2;have hlen:(l.take k).length=k:=by rw[jB];omega
 refine⟨a,b,off,c,by rw[hlen],λhp=>h0 (by rw[hlen]at hp;omega),by rw[hlen];omega,λi s hs=>h1 i s ?_⟩;have hi:=(dK.1 hs).1;rw[hlen]at hi;rw[qL hi]at hs;exact hs
theorem Qg(m:Nat)(w:World)(vn vl vi vv vf vk vs vo:Value)(ss:List aY)(G:Nat)(L:Nat->Nat)(Z:Nat->Nat->Bool)(x:Mo)(known:List Mo)(bK:List (List Sc))(own:List Sc)(k mn mc:Int)(hP:lZ w m vn vl vi vv vf vk vs vo ss G L Z x known bK own)(hE:yZ (bX ss G L Z) m x known=0)(hD:bJ.once (Ei ss x known m)=[])(hk:k<0):Calls prog 54 #[.agg #[vn,vl],.agg #[A x.name,vi,vv,vf],O k,vk,vs,vo,O mn,O mc] w λe w'=>e=dz (.tuple #[.agg #[J,J,J,J,O 0,O 0,J],O 1])/\bG w w':=by
 obtain⟨⟨a0,c0,e0⟩,⟨a1,n1,c1,e1⟩,⟨a2,n2,c2,e2⟩,⟨a3,n3,c3,e3⟩,⟨a4,c4,e4,hcap⟩,⟨a5,n5,c5,e5⟩,⟨a6,n6,c6,e6⟩,⟨a7,n7,c7,e7⟩⟩:=hP.forms;obtain⟨n0,hn0⟩:=bC ss.length;obtain⟨n4,rW⟩:=bC x.bg.length;obtain⟨EZ,yF⟩:=bU hn0 rW;rw[<-hn0]at e0;rw[<-rW]at e4 hcap;clear hn0 rW;subst e0 e1 e2 e3 e4 e5 e6 e7;have HP:=I hP;obtain⟨W,hW,k0,k1,k2,hsz,hBW⟩:=Za w (aW #[Y a0 n0 c0,Y a1 n1 c1] 25) (aW #[A x.name,Y a2 n2 c2,Y a3 n3 c3,Y a4 n4 c4] 58) (aW #[J,J,J,J,O 0,O 0,J] 128);obtain⟨x0,x1⟩:=iV k0;obtain⟨y0,y1,y2,y3⟩:=Mq k1;obtain⟨lF,jh,Fa,iA,uI⟩:=rO k0 k1 k2 hBW ((hP.below hBW).check);clear k0 k1 k2 hsz hBW hP;rw[hW]at x0 x1 y0 y1 y2 y3;rw[hE]at uI;have HD:Hid ((Db 0 ss x known m).length=0):=I (by unfold Db;rw[aL rfl,hD];rfl);have hk1:decide (k<0)=true:=gq hk;clear hE hD;go_enter func54,ntmps54;go_wp2_with fail;rw[<-hW];clear hW x0 x1 y0 y1 y2 y3;refine uI.mono ?_;rintro e w1 ⟨u,rfl,hu,hb1⟩;obtain⟨nC,kV,HR1,HB1⟩:=lY (aU lF hb1) (aU jh hb1) (aU Fa hb1) (up iA hb1);obtain⟨ua,ub,uo,uc,rfl,-⟩:=hu;rw[HD];obtain⟨x0,x1,y3⟩:=l9 (aS ((aj nC 0).trans rfl)) (aS ((aj nC 1).trans rfl)) (aS ((aj kV 3).trans rfl));clear hb1;go_wp2_with fail;refine bS bR bR ?_;repeat(with_reducible(refine wpQuiet_step (λKQ nT=>?_));go_simp;first|(with_reducible(refine nT _ ?_);clear nT KQ)|(rw[aJ (by simp[undef])];with_reducible(refine nT _ ?_);clear nT KQ)|(apply Exists.intro;refine⟨λ_=>?_,nT _ ?_⟩;(fail);clear nT KQ))
 with_reducible(refine wpQuiet_nil ?_)
 intro w2 hw';obtain⟨⟨nq,osq⟩,hw''⟩:=hw';have hb2:bG w1 w2:=by rw[hw''];exact bQ w1 nq osq
 obtain⟨HB2,HR2⟩:=bU (up HB1 hb2) (aU HR1 hb2);clear hw'' hb2 x0 x1 y3;obtain⟨r0,r1,r2,r3,r4,r5,r6⟩:=Ap HR2;obtain⟨z0,z1,z2,z3,z4,z5,z6⟩:=J5 (aG HR2 0) (aG HR2 1) (aG HR2 2) (aG HR2 3) (aG HR2 4) (aG HR2 5) (aG HR2 6);go_wp2_with fail;have hs:=JD HR2 (J) (J) (J) (J) (O 0) (O 0) (J);obtain⟨f0,f1,f2,f3,f4,f5,f6⟩:=Ap hs;refine bV (v:=.tuple #[.agg #[J,J,J,J,O 0,O 0,J],O (1)]) (by simp[results,results54,go_sem,f0,f1,f2,f3,f4,f5,f6]) rfl ⟨rfl,?_⟩;exact jO HB2 (bF (dF _) (dF _)) _ _ _ _ _ _ _
theorem Qh(m:Nat)(w:World)(vn vl vi vv vf vk vs vo:Value)(ss:List aY)(G:Nat)(L:Nat->Nat)(Z:Nat->Nat->Bool)(x:Mo)(known:List Mo)(bK:List (List Sc))(own:List Sc)(k mn mc:Int)(hP:lZ w m vn vl vi vv vf vk vs vo ss G L Z x known bK own)(hE:yZ (bX ss G L Z) m x known=0)(hD:bJ.once (Ei ss x known m)=[])(hk0:¬k<0)(hk:k>=x.bg.length):Calls prog 54 #[.agg #[vn,vl],.agg #[A x.name,vi,vv,vf],O k,vk,vs,vo,O mn,O mc] w λe w'=>e=dz (.tuple #[.agg #[J,J,J,J,O 0,O 0,J],O 1])/\bG w w':=by
 obtain⟨⟨a0,c0,e0⟩,⟨a1,n1,c1,e1⟩,⟨a2,n2,c2,e2⟩,⟨a3,n3,c3,e3⟩,⟨a4,c4,e4,hcap⟩,⟨a5,n5,c5,e5⟩,⟨a6,n6,c6,e6⟩,⟨a7,n7,c7,e7⟩⟩:=hP.forms;obtain⟨n0,hn0⟩:=bC ss.length;obtain⟨n4,rW⟩:=bC x.bg.length;obtain⟨EZ,yF⟩:=bU hn0 rW;rw[<-hn0]at e0;rw[<-rW]at e4 hcap;clear hn0 rW;subst e0 e1 e2 e3 e4 e5 e6 e7;have HP:=I hP;obtain⟨W,hW,k0,k1,k2,hsz,hBW⟩:=Za w (aW #[Y a0 n0 c0,Y a1 n1 c1] 25) (aW #[A x.name,Y a2 n2 c2,Y a3 n3 c3,Y a4 n4 c4] 58) (aW #[J,J,J,J,O 0,O 0,J] 128);obtain⟨x0,x1⟩:=iV k0;obtain⟨y0,y1,y2,y3⟩:=Mq k1;obtain⟨lF,jh,Fa,iA,uI⟩:=rO k0 k1 k2 hBW ((hP.below hBW).check);clear k0 k1 k2 hsz hBW hP;rw[hW]at x0 x1 y0 y1 y2 y3;rw[hE]at uI;have HD:Hid ((Db 0 ss x known m).length=0):=I (by unfold Db;rw[aL rfl,hD];rfl);rw[<-yF]at hk;have hk1:decide (k>=(n4:Int))=true:=gq hk;clear hE hD;go_enter func54,ntmps54;go_wp2_with fail;rw[<-hW];clear hW x0 x1 y0 y1 y2 y3;refine uI.mono ?_;rintro e w1 ⟨u,rfl,hu,hb1⟩;obtain⟨nC,kV,HR1,HB1⟩:=lY (aU lF hb1) (aU jh hb1) (aU Fa hb1) (up iA hb1);obtain⟨ua,ub,uo,uc,rfl,-⟩:=hu;rw[HD];obtain⟨x0,x1,y3⟩:=l9 (aS ((aj nC 0).trans rfl)) (aS ((aj nC 1).trans rfl)) (aS ((aj kV 3).trans rfl));clear hb1;go_wp2_with fail;refine bS bR bR ?_;repeat(with_reducible(refine wpQuiet_step (λKQ nT=>?_));go_simp;first|(with_reducible(refine nT _ ?_);clear nT KQ)|(rw[aJ (by simp[undef])];with_reducible(refine nT _ ?_);clear nT KQ)|(apply Exists.intro;refine⟨λ_=>?_,nT _ ?_⟩;(fail);clear nT KQ))
 with_reducible(refine wpQuiet_nil ?_)
 intro w2 hw';obtain⟨⟨nq,osq⟩,hw''⟩:=hw';have hb2:bG w1 w2:=by rw[hw''];exact bQ w1 nq osq
 obtain⟨HB2,HR2⟩:=bU (up HB1 hb2) (aU HR1 hb2);clear hw'' hb2 x0 x1 y3;obtain⟨r0,r1,r2,r3,r4,r5,r6⟩:=Ap HR2;obtain⟨z0,z1,z2,z3,z4,z5,z6⟩:=J5 (aG HR2 0) (aG HR2 1) (aG HR2 2) (aG HR2 3) (aG HR2 4) (aG HR2 5) (aG HR2 6);go_wp2_with fail;have hs:=JD HR2 (J) (J) (J) (J) (O 0) (O 0) (J);obtain⟨f0,f1,f2,f3,f4,f5,f6⟩:=Ap hs;refine bV (v:=.tuple #[.agg #[J,J,J,J,O 0,O 0,J],O (1)]) (by simp[results,results54,go_sem,f0,f1,f2,f3,f4,f5,f6]) rfl ⟨rfl,?_⟩;exact jO HB2 (bF (dF _) (dF _)) _ _ _ _ _ _ _
theorem Qi(m:Nat)(w:World)(vn vl vi vv vf vk vs vo:Value)(ss:List aY)(G:Nat)(L:Nat->Nat)(Z:Nat->Nat->Bool)(x:Mo)(known:List Mo)(bK:List (List Sc))(own:List Sc)(k mn mc:Int)(hP:lZ w m vn vl vi vv vf vk vs vo ss G L Z x known bK own)(hE:yZ (bX ss G L Z) m x known=0)(hD:bJ.once (Ei ss x known m)=[])(kn:Nat)(hkk:k=kn)(hkn:kn<x.bg.length)(hf:Fl.iN ss.length known bK=false):Calls prog 54 #[.agg #[vn,vl],.agg #[A x.name,vi,vv,vf],O k,vk,vs,vo,O mn,O mc] w λe w'=>e=dz (.tuple #[.agg #[J,J,J,J,O 0,O 0,J],O 1])/\bG w w':=by
 obtain⟨⟨a0,c0,e0⟩,⟨a1,n1,c1,e1⟩,⟨a2,n2,c2,e2⟩,⟨a3,n3,c3,e3⟩,⟨a4,c4,e4,hcap⟩,⟨a5,n5,c5,e5⟩,⟨a6,n6,c6,e6⟩,⟨a7,n7,c7,e7⟩⟩:=hP.forms;obtain⟨n0,hn0⟩:∃n,n=ss.length:=⟨_,rfl⟩;obtain⟨n4,rW⟩:∃n,n=x.bg.length:=⟨_,rfl⟩;obtain⟨EZ,yF⟩:=bU hn0 rW;rw[<-hn0]at e0;rw[<-rW]at e4 hcap;clear hn0 rW;subst e0 e1 e2 e3 e4 e5 e6 e7;have HP:=I hP;obtain⟨W,hW,k0,k1,k2,hsz,hBW⟩:=Za w (aW #[Y a0 n0 c0,Y a1 n1 c1] 25) (aW #[A x.name,Y a2 n2 c2,Y a3 n3 c3,Y a4 n4 c4] 58) (aW #[J,J,J,J,O 0,O 0,J] 128);obtain⟨x0,x1⟩:=iV k0;obtain⟨y0,y1,y2,y3⟩:=Mq k1;obtain⟨lF,jh,Fa,iA,uI⟩:=rO k0 k1 k2 hBW ((hP.below hBW).check);clear k0 k1 k2 hsz hBW hP;rw[hW]at x0 x1 y0 y1 y2 y3;rw[hE]at uI;have HD:Hid ((Db 0 ss x known m).length=0):=I (by unfold Db;rw[if_pos rfl,hD];rfl);subst hkk;have HKL:=I (Nat.le_of_lt hkn);have hkn':kn<n4:=by rw[yF.out];exact hkn
 have hkc:kn<=c4:=by omega
 clear hkn;have HF:=I hf;clear hf;clear hE hD;go_enter func54,ntmps54;go_wp2_with fail;rw[<-hW];clear hW x0 x1 y0 y1 y2 y3;refine uI.out.mono ?_;rintro e w1 ⟨u,rfl,hu,hb1⟩;obtain⟨nC,kV,HR1,HB1⟩:=lY (aU lF.out hb1) (aU jh.out hb1) (aU Fa.out hb1) (up iA.out hb1);obtain⟨ua,ub,uo,uc,rfl,-⟩:=hu;rw[HD.out];obtain⟨x0,x1,y3⟩:=l9 (aS ((aj nC.out 0).trans rfl)) (aS ((aj nC.out 1).trans rfl)) (aS ((aj kV.out 3).trans rfl));clear hb1;have Nq:=I (λq os=>zV m (gn w1 q os) a0 (Y a1 n1 c1) n0 c0 (Y a5 n5 c5) (Y a6 n6 c6) known bK (HP.out.kn.below (up HB1.out (bQ w1 q os))) (HP.out.sc.below (up HB1.out (bQ w1 q os))));rw[EZ.out]at Nq;rw[HF.out]at Nq;rw[<-EZ.out]at Nq;go_wp2_with fail;refine bS bR bR ?_;repeat(with_reducible(refine wpQuiet_step (λKQ nT=>?_));go_simp;first|(with_reducible(refine nT _ ?_);clear nT KQ)|(rw[if_neg (by simp[undef])];with_reducible(refine nT _ ?_);clear nT KQ)|(apply Exists.intro;refine⟨λ_=>?_,nT _ ?_⟩;((exact Calls.nE (Nq.out _ _)));clear nT KQ))
 with_reducible(refine wpQuiet_nil ?_)
 intro w2 hw';obtain⟨⟨nq,osq⟩,hw''⟩:=hw';have hb2:bG w1 w2:=by rw[hw''];exact bQ w1 nq osq
 obtain⟨HB2,HR2⟩:=bU (up HB1.out hb2) (aU HR1.out hb2);clear hw'' hb2 x0 x1 y3;obtain⟨r0,r1,r2,r3,r4,r5,r6⟩:=Ap HR2.out;obtain⟨z0,z1,z2,z3,z4,z5,z6⟩:=J5 (aG HR2.out 0) (aG HR2.out 1) (aG HR2.out 2) (aG HR2.out 3) (aG HR2.out 4) (aG HR2.out 5) (aG HR2.out 6);go_wp2_with fail;have hs:=JD HR2.out (J) (J) (J) (J) (O 0) (O 0) (J);obtain⟨f0,f1,f2,f3,f4,f5,f6⟩:=Ap hs;refine bodyPost_ret (v:=.tuple #[.agg #[J,J,J,J,O 0,O 0,J],O (1)]) (by simp[results,results54,go_sem,f0,f1,f2,f3,f4,f5,f6]) rfl ⟨rfl,?_⟩;exact jO HB2.out (Nat.le_trans (Nat.le_succ _) (Nat.le_succ _)) _ _ _ _ _ _ _
theorem Qj(m:Nat)(w:World)(vn vl vi vv vf vk vs vo:Value)(ss:List aY)(G:Nat)(L:Nat->Nat)(Z:Nat->Nat->Bool)(x:Mo)(known:List Mo)(bK:List (List Sc))(own:List Sc)(k mn mc:Int)(hP:lZ w m vn vl vi vv vf vk vs vo ss G L Z x known bK own)(hE:yZ (bX ss G L Z) m x known=0)(hD:bJ.once (Ei ss x known m)=[])(kn:Nat)(hkk:k=kn)(hkn:kn<x.bg.length)(hf:Fl.iN ss.length known bK=true)(ho:sD ss.length (x.bg.take kn) own=false):Calls prog 54 #[.agg #[vn,vl],.agg #[A x.name,vi,vv,vf],O k,vk,vs,vo,O mn,O mc] w λe w'=>e=dz (.tuple #[.agg #[J,J,J,J,O 0,O 0,J],O 1])/\bG w w':=by
 obtain⟨⟨a0,c0,e0⟩,⟨a1,n1,c1,e1⟩,⟨a2,n2,c2,e2⟩,⟨a3,n3,c3,e3⟩,⟨a4,c4,e4,hcap⟩,⟨a5,n5,c5,e5⟩,⟨a6,n6,c6,e6⟩,⟨a7,n7,c7,e7⟩⟩:=hP.forms;obtain⟨n0,hn0⟩:∃n,n=ss.length:=⟨_,rfl⟩;obtain⟨n4,rW⟩:∃n,n=x.bg.length:=⟨_,rfl⟩;obtain⟨EZ,yF⟩:=bU hn0 rW;rw[<-hn0]at e0;rw[<-rW]at e4 hcap;clear hn0 rW;subst e0 e1 e2 e3 e4 e5 e6 e7;have HP:=I hP;obtain⟨W,hW,k0,k1,k2,hsz,hBW⟩:=Za w (aW #[Y a0 n0 c0,Y a1 n1 c1] 25) (aW #[A x.name,Y a2 n2 c2,Y a3 n3 c3,Y a4 n4 c4] 58) (aW #[J,J,J,J,O 0,O 0,J] 128);obtain⟨x0,x1⟩:=iV k0;obtain⟨y0,y1,y2,y3⟩:=Mq k1;obtain⟨lF,jh,Fa,iA,uI⟩:=rO k0 k1 k2 hBW ((hP.below hBW).check);clear k0 k1 k2 hsz hBW hP;rw[hW]at x0 x1 y0 y1 y2 y3;rw[hE]at uI;have HD:Hid ((Db 0 ss x known m).length=0):=I (by unfold Db;rw[if_pos rfl,hD];rfl);subst hkk;have HKL:=I (Nat.le_of_lt hkn);have hkn':kn<n4:=by rw[yF.out];exact hkn
 have hkc:kn<=c4:=by omega
 clear hkn;obtain⟨HF,HO⟩:=bU hf ho;clear hf ho;clear hE hD;go_enter func54,ntmps54;go_wp2_with fail;rw[<-hW];clear hW x0 x1 y0 y1 y2 y3;refine uI.out.mono ?_;rintro e w1 ⟨u,rfl,hu,hb1⟩;obtain⟨nC,kV,HR1,HB1⟩:=lY (aU lF.out hb1) (aU jh.out hb1) (aU Fa.out hb1) (up iA.out hb1);obtain⟨ua,ub,uo,uc,rfl,-⟩:=hu;rw[HD.out];obtain⟨x0,x1,y3⟩:=l9 (aS ((aj nC.out 0).trans rfl)) (aS ((aj nC.out 1).trans rfl)) (aS ((aj kV.out 3).trans rfl));clear hb1;have Nq:=I (λq os=>zV m (gn w1 q os) a0 (Y a1 n1 c1) n0 c0 (Y a5 n5 c5) (Y a6 n6 c6) known bK (HP.out.kn.below (up HB1.out (bQ w1 q os))) (HP.out.sc.below (up HB1.out (bQ w1 q os))));rw[EZ.out]at Nq;rw[HF.out]at Nq;rw[<-EZ.out]at Nq;have KM:=I (λq os=>MN m (gn w1 q os) a0 (Y a1 n1 c1) n0 c0 (Y a4 kn c4) (Y a7 n7 c7) (x.bg.take kn) own ((HP.out.mo.split.2.2.takeF HKL.out).below (up HB1.out (bQ w1 q os))) (HP.out.ow.below (up HB1.out (bQ w1 q os))));rw[EZ.out]at KM;rw[HO.out]at KM;rw[<-EZ.out]at KM;go_wp2_with fail;refine bS bR bR ?_;repeat(with_reducible(refine wpQuiet_step (λKQ nT=>?_));go_simp;first|(with_reducible(refine nT _ ?_);clear nT KQ)|(rw[if_neg (by simp[undef])];with_reducible(refine nT _ ?_);clear nT KQ)|(apply Exists.intro;refine⟨λ_=>?_,nT _ ?_⟩;(first|(exact Calls.nE (Nq.out _ _))|(exact Calls.nE (KM.out _ _)));clear nT KQ))
 with_reducible(refine wpQuiet_nil ?_)
 intro w2 hw';obtain⟨⟨nq,osq⟩,hw''⟩:=hw';have hb2:bG w1 w2:=by rw[hw''];exact bQ w1 nq osq
 obtain⟨HB2,HR2⟩:=bU (up HB1.out hb2) (aU HR1.out hb2);clear hw'' hb2 x0 x1 y3;obtain⟨r0,r1,r2,r3,r4,r5,r6⟩:=Ap HR2.out;obtain⟨z0,z1,z2,z3,z4,z5,z6⟩:=J5 (aG HR2.out 0) (aG HR2.out 1) (aG HR2.out 2) (aG HR2.out 3) (aG HR2.out 4) (aG HR2.out 5) (aG HR2.out 6);go_wp2_with fail;have hs:=JD HR2.out (J) (J) (J) (J) (O 0) (O 0) (J);obtain⟨f0,f1,f2,f3,f4,f5,f6⟩:=Ap hs;refine bodyPost_ret (v:=.tuple #[.agg #[J,J,J,J,O 0,O 0,J],O (1)]) (by simp[results,results54,go_sem,f0,f1,f2,f3,f4,f5,f6]) rfl ⟨rfl,?_⟩;exact jO HB2.out (Nat.le_trans (Nat.le_succ _) (Nat.le_succ _)) _ _ _ _ _ _ _
structure vN(w:World)(n:Nat)(dS vc vs vf ve:Value)(P:Pb):Prop where
 names:Own w n dS P.names
 cons:dV CoT w n 261 4 vc P.cons
 sinks:dV SiC w n 209 6 vs P.sinks
 fr:cO w vf P.fr
 gY:nH w n ve P.gY
theorem Own.oldF(h:Own w n v l)(hn:n'<=n):Own w n' v l:=by
 obtain⟨h0,h1⟩:=h;refine⟨h0,?_⟩;rcases h1 with h1|⟨g,cap,cur,e,hg,rest⟩;·exact aR h1
 ·exact aV ⟨g,cap,cur,e,bF hn hg,rest⟩
theorem nH.oldF(h:nH w n v l)(hn:n'<=n):nH w n' v l:=by
 rcases h with h|⟨g,cap,e,hg,hr⟩;·exact aR h
 ·exact aV ⟨g,cap,e,bF hn hg,hr⟩
theorem vN.keep{vs:Value}{P:Pb}(h:vN w n dS vc vs vf ve P)(hk:Kx B muP w w'):vN w' n dS vc vs vf ve P:=by
 refine⟨h.names.keep λ_ _ _ hj=>hk.at hj rfl,h.cons.keep (λ_ _ _ hj=>hk.at hj rfl) λc y hc=>hc.mono λv l hi=>hk.cells (λ_ _=>rfl) hi,h.sinks.keep (λ_ _ _ hj=>hk.at hj rfl) λc y hc=>hc.mono λv l hi=>hk.cells (λ_ _=>rfl) hi,hk.cells (λ_ _=>rfl) h.fr,?_⟩;rcases h.gY with h1|⟨g,cap,e,hg,cur,hc,hr⟩;·exact aR h1
 ·exact aV ⟨g,cap,e,hg,cur,hk.at hc rfl,hr⟩
theorem kx_set7{r0 r1 r2 r3 r4 r5 r6:Value}(h:W.heap[B]?=some (aW #[r0,r1,r2,r3,r4,r5,r6] 128))(hB:n<=B)(a b c d e f g:Value):Kx n muP W (((((((W.setCell (X B 0) a).setCell (X B 1) b).setCell (X B 2) c).setCell (X B 3) d).setCell (X B 4) e).setCell (X B 5) f).setCell (X B 6) g):=by have t1:=aO h 0 a;have t2:=aO t1 1 b;have t3:=aO t2 2 c;have t4:=aO t3 3 d;have t5:=aO t4 4 e;have t6:=aO t5 5 f;exact(Kx.set h rfl hB 0 _).trans ((Kx.set t1 rfl hB 1 _).trans ((Kx.set t2 rfl hB 2 _).trans ((Kx.set t3 rfl hB 3 _).trans ((Kx.set t4 rfl hB 4 _).trans ((Kx.set t5 rfl hB 5 _).trans (Kx.set t6 rfl hB 6 _))))))
theorem Ti.spAt(h:Ti w0 w q nl eB kc dS sets ve E)(hL:lT w0 q.vn q.vl q.ss q.G q.L q.c.Z)(hN:q.c.N=q.ss.length)(hk:kc<=16777216)(hl:nl.length<=1048576):Bq w q nl eB dS sets ve:=
 ⟨h.blk,hL.below h.base,hN,h.levels,h.numbers,h.called.mono hk,λs v hv=>(h.dW s v hv).below h.base,h.nodup,hl⟩
theorem Ti.below(h:Ti w0 w q nl eB kc dS sets ve E)(hb:bG w w'):Ti w0 w' q nl eB kc dS sets ve E:=
 ⟨aU h.blk hb,h.new,h.levels.below hb,h.numbers.below hb,h.called.below hb,h.dW,h.nodup,eZ h.names hb,h.kT.below hb,up h.base hb⟩
namespace Fl
def Iy(c:Env)(m:Nat)(f:Fu)(mn mc:Int):Bool:=decide (((c.names m f).length:Int) > mn)||decide (((f.params.length+c.tH m f.body:Nat):Int) > mc)
theorem Yn(hs:∀l∈bK,∀y∈l,y.gY.length<=1048576)(ho:∀y∈own,y.gY.length<=1048576)(s:aY):(tO x k known bK own s).gY.length<=1048576:=by
 have hd:∀(l:List Sc) (i:Nat),(∀y∈l,y.gY.length<=1048576)->(l.getD i JK).gY.length<=1048576:=λl i hl=>by
  rw[List.getD];cases h:l[i]? with
  | none=>simp[JK]
  | some y=>exact hl y (eT h)
 unfold tO;split;·simp[JK]
 ·split;·exact hd _ _ ho
  ·refine hd _ _ λy hy=>?_;rw[List.getD]at hy;cases h:bK[(iQ x k s known).1.toNat]? with
   | none=>rw[h]at hy;cases hy
   | some l=>rw[h]at hy;exact hs l (eT h) y hy
structure Lens(c:Env)(m:Nat)(f:Fu):Prop where
 names:f.params.length+(c.vS m f.body++c.mW m f.result).length<=1048576
 kT:(c.Pm m f.body++c.zP m f.result).length<=4398046511103
 cls:(mg m f.body++Fl.cls m f.result).length<=16777216
 sets:c.tH m f.body<=1048576
 sinks:((c.Jd m f.body ([],c.low))++c.yV m f.result ([],c.low)).length<=16777216
 cons:f.params.length+(c.G6 m f.body ([],c.low)).length<=16777216
 all:f.params.length+c.tH m f.body<=1048576
theorem lens_of{c:Env}(hf:f∈x.bg)(hw:vF m x<=1048576)(hs:∀s,(c.dW s).gY.length<=1048576)(h1:c.wU m f.body)(h2:c.wT m f.result):Lens c m f:=by have h:=fun_le (m:=m) hf;obtain⟨a1,a2,b1,b2,c1,c2,d1⟩:=J5 (Ni c m f.body) (Ng c m f.result) (Nn c bO hs m f.body) (Nl c bO hs m f.result) (Iw m f.body) (Nj m f.result) (Nk c m f.body);obtain⟨s1,s2,k1⟩:=l9 (FQ c m f.body ([],c.low) h1) (FP c m f.result ([],c.low) h2) (TB c m f.body ([],c.low));refine⟨by rw[aT];omega,by rw[aT];omega,by rw[aT];omega,by omega,by rw[aT];omega,by omega,by omega⟩
end Fl
theorem Yo(m:Nat)(w:World)(vn vl vi vv vf vk vs vo:Value)(ss:List ByteArray)(G:Nat)(L:Nat->Nat)(Z:Nat->Nat->Bool)(x:Mo)(known:List Mo)(bK:List (List Sc))(own:List Sc)(k mn mc:Int)(hP:lZ w m vn vl vi vv vf vk vs vo ss G L Z x known bK own)(hE:yZ (bX ss G L Z) m x known=0)(hD:bJ.once (Ei ss x known m)=[])(kn:Nat)(f:Fu)(hkk:k=kn)(hfn:x.bg[kn]?=some f)(hf:Fl.iN ss.length known bK=true)(ho:sD ss.length (x.bg.take kn) own=true):Calls prog 54 #[.agg #[vn,vl],.agg #[A x.name,vi,vv,vf],O k,vk,vs,vo,O mn,O mc] w λe w'=>Hid ((Fl.Iy (Fl.gH ss Z x kn known bK own f) m f mn mc=true/\e=dz (.tuple #[.agg #[J,J,J,J,O 0,O 0,J],O 2])/\bG w w')\/(Fl.Iy (Fl.gH ss Z x kn known bK own f) m f mn mc=false/\∃dS vc vs vf ve,e=dz (.tuple #[.agg #[dS,vc,vs,vf,O 0,O ((Fl.gH ss Z x kn known bK own f).jq m f).level,ve],O 0])/\vN w' w.heap.size dS vc vs vf ve ((Fl.gH ss Z x kn known bK own f).jq m f)/\bG w w')):=by
 have hm0:bX ss G L Z=0/\sI m x=0:=by
  unfold yZ at hE;by_cases h0:bX ss G L Z=0
  ·rw[if_pos h0]at hE;by_cases h1:sI m x=0;·exact⟨h0,h1⟩
   ·rw[if_neg h1]at hE;exact absurd hE h1
  ·rw[if_neg h0]at hE;exact absurd hE h0
 have hnm:=Fl.VJ hD;obtain⟨hfo,hen,hfm⟩:=l9 (Fl.VN (Z:=Z) hnm hm0.2 hfn hf ho) (Fl.Qd hm0.1 hnm kn bK own f) (List.mem_of_getElem? hfn);have hlen:=lens_of (c:=Fl.gH ss Z x kn known bK own f) hfm hP.small (Yn hP.kT hP.effo) hfo.st hfo.ex;have hp4:f.params.length<=4/\x.vars.length<=8/\x.imports.length<=8:=by
  have h1:=hm0.2;unfold sI at h1;by_cases h2:8<x.imports.length\/8<x.vars.length\/8<x.bg.length;·rw[if_pos h2]at h1;omega
  ·rw[if_neg h2]at h1;refine⟨?_,by omega,by omega⟩;by_cases h3:((oK x.name&&x.imports.all oK)&&x.vars.all XB)=false;·rw[if_pos h3]at h1;omega
   ·rw[if_neg h3]at h1;by_cases h4:uP m x.bg≠0;·rw[if_pos h4]at h1;exact absurd h1 h4
    ·have h5:=BD (Classical.not_not.1 h4) f hfm;unfold Q8 at h5;by_cases h6:4<f.params.length;·rw[if_pos h6]at h5;omega
     ·omega
 have hmd:x.name.size<=8:=by
  have h1:=hm0.2;unfold sI at h1;by_cases h2:8<x.imports.length\/8<x.vars.length\/8<x.bg.length;·rw[if_pos h2]at h1;omega
  ·rw[if_neg h2]at h1;by_cases h3:((oK x.name&&x.imports.all oK)&&x.vars.all XB)=false;·rw[if_pos h3]at h1;omega
   ·have h4:((oK x.name&&x.imports.all oK)&&x.vars.all XB)=true:=by
     cases h:((oK x.name&&x.imports.all oK)&&x.vars.all XB)with
     | true=>rfl
     | false=>exact absurd h h3
    simp only[Bool.and_eq_true]at h4;exact qW h4.1.1
 obtain⟨c,hc⟩:∃c,c=Fl.gH ss Z x kn known bK own f:=⟨_,rfl⟩;have uf:=I hc;rw[<-hc]at hfo hen hlen ⊢;obtain⟨NU,HEN,HLEN,Yc,ES,HNM⟩:=vP hfo hen hlen hp4 hmd hnm;obtain⟨Zn,HFM⟩:=bU hm0 hfm;have hnf:x.bg.length<=1048576:=by have:=FM m x.bg;have hw:=hP.small;unfold vF at hw;omega
 have HKL:Hid (kn<=x.bg.length):=I (Nat.le_of_lt (List.getElem?_eq_some_iff.1 hfn).1);have hkn0:=(List.getElem?_eq_some_iff.1 hfn).1;obtain⟨fa,fb,fo,fc,hfe,hfa,hfl,xu⟩:=hP.mo.split.2.2;obtain⟨hfz,vp,vb,e0',e1',e2',e3',g0,g1,g2,g3,g4,g5,g6,hpar,Nr,hres⟩:=xu kn f hfn;have hfa':=hfa aX;obtain⟨HPAR,HBOD,HRES,Zb,HFI1,HFI2⟩:=vP hpar Nr hres hfn hf ho;clear xu hfa hfo hen hlen hp4 hmd hnm hm0 hfm hf ho hfn hfz;obtain⟨⟨a0,c0,e0⟩,⟨a1,n1,c1,e1⟩,⟨a2,n2,c2,e2⟩,⟨a3,n3,c3,e3⟩,⟨a4,c4,e4,hcap⟩,⟨a5,n5,c5,e5⟩,⟨a6,n6,c6,e6⟩,⟨a7,n7,c7,e7⟩⟩:=hP.forms;obtain⟨n0,hn0⟩:∃n,n=ss.length:=⟨_,rfl⟩;obtain⟨n4,rW⟩:∃n,n=x.bg.length:=⟨_,rfl⟩;obtain⟨EZ,yF⟩:=bU hn0 rW;rw[<-hn0]at e0;rw[<-rW]at e4 hcap;clear hn0 rW;subst e0 e1 e2 e3 e4 e5 e6 e7;have HP:=I hP;obtain⟨W,hW,k0,k1,k2,hsz,hBW⟩:=Za w (aW #[Y a0 n0 c0,Y a1 n1 c1] 25) (aW #[A x.name,Y a2 n2 c2,Y a3 n3 c3,Y a4 n4 c4] 58) (aW #[J,J,J,J,O 0,O 0,J] 128);obtain⟨x0,x1⟩:=iV k0;obtain⟨y0,y1,y2,y3⟩:=Mq k1;obtain⟨lF,jh,Fa,iA,uI⟩:=rO k0 k1 k2 hBW ((hP.below hBW).check);clear k0 k1 k2 hsz hBW hP;rw[hW]at x0 x1 y0 y1 y2 y3;injection hfe with ee1 ee2 ee3;subst ee1 hfa';subst hkk;have hkn':kn<n4:=by rw[yF.out];exact hkn0
 have hkc:kn<=c4:=by omega
 have rW:n4<=1048576:=by rw[yF.out];exact hnf
 clear hkn0 ee2 ee3 hfl hnf hc;obtain⟨pa,pb,po,pc,rfl,-⟩:=hpar;obtain⟨ba,bc,rfl⟩:=fB.rT Nr;obtain⟨ra,rc,rfl,rfl,rfl,rfl⟩:=hres.shape;obtain⟨np,hnp⟩:∃n,n=f.params.length:=⟨_,rfl⟩;obtain⟨nb,hnb⟩:∃n,n=f.body.length:=⟨_,rfl⟩;obtain⟨nr,hnr⟩:∃n,n=f.result.args.length:=⟨_,rfl⟩;have Je:=I hnp;rw[<-hnp]at g1 HPAR;rw[<-hnb]at g2 HBOD;rw[<-hnr]at g6 HRES;rw[hE]at uI;have HD:Hid ((Db 0 ss x known m).length=0):=I (by unfold Db;rw[if_pos rfl,hD];rfl);clear hE hD Nr hres hnp hnb hnr;go_enter func54,ntmps54;go_wp2_with fail;rw[<-hW];clear hW x0 x1 y0 y1 y2 y3;refine uI.out.mono ?_;rintro e w1 ⟨u,rfl,hu,hb1⟩;obtain⟨nC,kV,HR1,HB1⟩:=lY (aU lF.out hb1) (aU jh.out hb1) (aU Fa.out hb1) (up iA.out hb1);obtain⟨ua,ub,uo,uc,rfl,-⟩:=hu;rw[HD.out];have Nq:=I (λq os=>zV m (gn w1 q os) a0 (Y a1 n1 c1) n0 c0 (Y a5 n5 c5) (Y a6 n6 c6) known bK (HP.out.kn.below (up HB1.out (bQ w1 q os))) (HP.out.sc.below (up HB1.out (bQ w1 q os))));obtain⟨x0,x1,y3⟩:=l9 (aS ((aj nC.out 0).trans rfl)) (aS ((aj nC.out 1).trans rfl)) (aS ((aj kV.out 3).trans rfl));rw[EZ.out]at Nq;rw[HFI1.out]at Nq;rw[<-EZ.out]at Nq;have KM:=I (λq os=>MN m (gn w1 q os) a0 (Y a1 n1 c1) n0 c0 (Y (some (X fb fo)) kn c4) (Y a7 n7 c7) (x.bg.take kn) own ((HP.out.mo.split.2.2.takeF HKL.out).below (up HB1.out (bQ w1 q os))) (HP.out.ow.below (up HB1.out (bQ w1 q os))));rw[EZ.out]at KM;rw[HFI2.out]at KM;rw[<-EZ.out]at KM;clear hb1;go_wp2_with fail;refine bS bR bR ?_;repeat(with_reducible(refine wpQuiet_step (λKQ nT=>?_));go_simp;first|(with_reducible(refine nT _ ?_);clear nT KQ)|(rw[if_neg (by simp[undef])];with_reducible(refine nT _ ?_);clear nT KQ)|(apply Exists.intro;refine⟨λ_=>?_,nT _ ?_⟩;(first|(exact Calls.nE (Nq.out _ _))|(exact Calls.nE (KM.out _ _)));clear nT KQ))
 with_reducible(refine wpQuiet_nil ?_)
 intro w2 hw';obtain⟨⟨nq,osq⟩,hw''⟩:=hw';have hb2:bG w1 w2:=by rw[hw''];exact bQ w1 nq osq
 obtain⟨HB2,Qk,xq,HR2⟩:=lY (up HB1.out hb2) (aU nC.out hb2) (aU kV.out hb2) (aU HR1.out hb2);clear hw'' hb2 x0 x1 y3;replace g0:=aD g0 HB2.out;replace g1:=aD g1 HB2.out;replace g2:=aD g2 HB2.out;replace g3:=aD g3 HB2.out;replace g4:=aD g4 HB2.out;replace g5:=aD g5 HB2.out;replace g6:=aD g6 HB2.out;obtain⟨W3,hW3⟩:∃W,W=w2.alloc (aW #[A f.name,Y pa np pc,Y ba nb bc,O f.result.kind,O f.result.n,A f.result.name,Y ra nr rc] 109):=⟨_,rfl⟩;have hb3:bG w2 W3:=by rw[hW3];exact aH _ _
 have HB3:=I (up HB2.out hb3);have HF3:Hid (W3.heap[w2.heap.size]?=some (aW #[A f.name,Y pa np pc,Y ba nb bc,O f.result.kind,O f.result.n,A f.result.name,Y ra nr rc] 109)):=I (by rw[hW3];exact aZ _ _);have m3:=aj xq.out 3;obtain⟨Yp,HK13,HR3⟩:=fD (aU Qk.out hb3) (aU xq.out hb3) (aU HR2.out hb3);obtain⟨x0,x1⟩:=iV Yp.out;obtain⟨y0,y1,y2,y3⟩:=Mq HK13.out;obtain⟨-,p1⟩:=iV HF3.out;have Fy:Hid (lT W3 (Y a0 n0 c0) (Y a1 n1 c1) ss G L Z):=I ⟨HP.out.strs.below HB3.out,HP.out.NS.below HB3.out,Zn.out.1⟩;have Fz:=I (JI W3 (Y a0 n0 c0) (Y a1 n1 c1) (Y a2 n2 c2) (Y a3 n3 c3) (Y (some (X fb fo)) n4 c4) (Y pa np pc) ss G L Z x f.params (Fl.tO x kn known bK own) Fy.out (HP.out.mo.split.2.1.below HB3.out) (HPAR.out.below HB3.out) ⟨_,_,_,rfl⟩ ⟨_,_,_,rfl⟩ (HNM.out.sN f HFM.out) (by have:=Yc.out.1;omega) (by have:=Yc.out.2.1;omega) HNM.out.levs);clear hb3;rw[hW3]at x0 x1 y0 y1 y2 y3 p1;go_wp2_with fail;rw[<-hW3];clear m3 x0 x1 y0 y1 y2 y3 p1 hW3 g0 g1 g2 g3 g4 g5 g6;obtain⟨FB,hFB⟩:∃b,b=w2.heap.size:=⟨_,rfl⟩;rw[<-hFB]at HF3 ⊢;clear hFB;refine Fz.out.mono ?_;rintro e w4 ⟨B,rfl,hno4⟩;obtain⟨vnm4,hno⟩:=hno4.out;obtain⟨q,hq⟩:∃q,q=KN B (Y a0 n0 c0) (Y a1 n1 c1) ss G L Z x.name (Fl.sG ss f.params x.vars) (Fl.tO x kn known bK own):=⟨_,rfl⟩;have HQP:Hid (q.p=B+1+1+1):=I (by rw[hq];rfl);have Ql:Hid (q.c=c):=I (by rw[hq,uf.out];rfl);have HQL:Hid (lT W3 q.vn q.vl q.ss q.G q.L q.c.Z/\q.c.N=q.ss.length/\∀s,q.c.pl s=dR q.ss s):=I (by rw[hq];exact⟨Fy.out,rfl,λ_=>rfl⟩);rw[<-hq]at hno;have Zi:=I hno;clear hq hno hno4;obtain⟨HK04,Yq,HF4⟩:=fD (aU Yp.out Zi.out.base) (aU HK13.out Zi.out.base) (aU HF3.out Zi.out.base);obtain⟨y0,y1,y2,y3⟩:=Mq Yq.out;obtain⟨p0,p1,p2,p3,p4,p5,p6⟩:=Ap HF4.out;have HT:Hid (CeOk W3 q #[A x.name,Y a2 n2 c2,Y a3 n3 c3,Y (some (X fb fo)) n4 c4,O kn,Y a5 n5 c5,Y a6 n6 c6,Y a7 n7 c7] (λs=>s∈mg m f.body++Fl.cls m f.result)):=I (λwx s hb hs=>by obtain⟨hsz,hmn⟩:=NU.out.means s hs;rw[Ql.out];exact S9 m W3 wx (Y a2 n2 c2) (Y a3 n3 c3) (Y (some (X fb fo)) n4 c4) (Y a5 n5 c5) (Y a6 n6 c6) (Y a7 n7 c7) x known bK own kn s (c.dW s) hb (HP.out.mo.below HB3.out) (HP.out.kn.below HB3.out) HP.out.cap.fus HKL.out (Nat.le_trans hsz bO) (by have:=Yc.out.2.2;omega) (HP.out.sc.below HB3.out) (HP.out.ow.below HB3.out) hmn);have HNT:=I (note_any m W3 w4 q f.params (λ_=>none) 0 vnm4 0 (J) [] x.name (kn:Int) a2 a3 (some (X fb fo)) a5 a6 a7 n2 n3 n4 n5 n6 n7 c2 c3 c4 c5 c6 c7 (λs=>s∈mg m f.body++Fl.cls m f.result) f pa np pc (Y ba nb bc) (O f.result.kind) (O f.result.n) (A f.result.name) (Y ra nr rc) Zi.out HT.out (HBOD.out.below HB3.out) (HRES.out.below HB3.out) (by rw[Ql.out];exact NU.out.st) (by rw[Ql.out];exact NU.out.ex) (λs hs=>hs) (by rw[Ql.out,uf.out];exact ES.out) (by rw[Ql.out];exact HLEN.out.names) (by rw[Ql.out];have:=HLEN.out.kT;simpa using this) (by have:=HLEN.out.cls;omega) (by rw[Ql.out];have:=HLEN.out.sets;omega));rw[HQP.out]at HNT;go_wp2_with fail;clear y0 y1 y2 y3 p0 p1 p2 p3 p4 p5 p6;refine HNT.out.mono ?_;rintro e w5 ⟨rfl,hnt5⟩;obtain⟨EU,kc5,vnm5,ve5,E5,hnt,hkc5,hcal5,heff5,-⟩:=hnt5.out;rw[Ql.out]at hnt heff5;rw[show Fl.adds f.params (c.vS m f.body++c.mW m f.result)=c.names m f from rfl,Nat.zero_add]at hnt;have HEFF:Hid (ji (nN E5)=(c.jq m f).gY):=I (eff_ext λt=>by rw[heff5.1];simp[Fl.Env.gY]);rw[HEFF.out]at hnt;obtain⟨Qm,HCAL,HKC5⟩:=fD hnt hcal5 hkc5;clear hnt5 hnt hkc5 hcal5 heff5;obtain⟨HK05,HF5,sV,d9⟩:=lY (aU Yp.out Qm.out.base) (aU HF3.out Qm.out.base) (aU HR3.out Qm.out.base) (HB3.out.trans (Qm.out.base.mono HB3.out.size));obtain⟨na5,nc5,hvn5⟩:=Qm.out.names.Kz;obtain⟨ea5,ec5,hve5⟩:=Qm.out.kT.form;have hbk:=Qm.out.blk;rw[HQP.out,hvn5]at hbk;obtain⟨s5,s8,p1⟩:=l9 (aS ((aj hbk 5).trans rfl)) (aS ((aj hbk 8).trans rfl)) (aS ((aj HF5.out 1).trans rfl));obtain⟨nnm,hnnm⟩:∃n,n=(c.names m f).length:=⟨_,rfl⟩;obtain⟨nst,hnst⟩:∃n,n=c.tH m f.body:=⟨_,rfl⟩;have HLR:Hid (Fl.Iy c m f mn mc=(decide ((nnm:Int) > mn)||decide (((np+nst:Nat):Int) > mc))):=I (by rw[hnnm,hnst,Je.out];rfl);have hsum:np+nst<=1048576:=by rw[hnst,Je.out];exact HLEN.out.all
 rw[<-hnnm]at s5 hvn5;rw[<-hnst]at s8;clear hbk;clear hnst hnnm;by_cases hl1:mn<(nnm:Int)
 ·have CF:Hid (Fl.Iy c m f mn mc=true):=I (by rw[HLR.out];simp[hl1]);go_wp2_with fail;refine bS bR bR ?_;repeat(with_reducible(refine wpQuiet_step (λKQ nT=>?_));go_simp;first|(with_reducible(refine nT _ ?_);clear nT KQ)|(rw[if_neg (by simp[undef])];with_reducible(refine nT _ ?_);clear nT KQ)|(apply Exists.intro;refine⟨λ_=>?_,nT _ ?_⟩;(fail);clear nT KQ))
  with_reducible(refine wpQuiet_nil ?_)
  intro w6 hw';obtain⟨⟨nq6,osq6⟩,hw''⟩:=hw';have hb6:bG w5 w6:=by rw[hw''];exact bQ w5 nq6 osq6
  obtain⟨dX,lg⟩:=bU (up d9.out hb6) (aU sV.out hb6);clear hw'' hb6 s5 s8 p1;obtain⟨r0,r1,r2,r3,r4,r5,r6⟩:=Ap lg.out;obtain⟨z0,z1,z2,z3,z4,z5,z6⟩:=J5 (aG lg.out 0) (aG lg.out 1) (aG lg.out 2) (aG lg.out 3) (aG lg.out 4) (aG lg.out 5) (aG lg.out 6);go_wp2_with fail;have hs:=JD lg.out (J) (J) (J) (J) (O 0) (O 0) (J);obtain⟨f0,f1,f2,f3,f4,f5,f6⟩:=Ap hs;refine bodyPost_ret (v:=.tuple #[.agg #[J,J,J,J,O 0,O 0,J],O (2)]) (by simp[results,results54,go_sem,f0,f1,f2,f3,f4,f5,f6]) rfl (I (Or.inl ⟨CF.out,rfl,?_⟩));exact jO dX.out (Nat.le_trans (Nat.le_succ _) (Nat.le_succ _)) _ _ _ _ _ _ _
 ·by_cases hl2:mc<((np+nst:Nat):Int)
  ·have CF:Hid (Fl.Iy c m f mn mc=true):=I (by rw[HLR.out];simp only[gt_iff_lt,hl2,decide_true,Bool.or_true]);have hl3:mc<(np:Int)+(nst:Int):=by omega
   have hwr:IntKind.i64.wrap ((np:Int)+(nst:Int))=(np:Int)+(nst:Int):=wrap_small aX aX;have hl5:(nnm:Int)<=mn:=by omega
   go_wp2_with fail;refine bS bR bR ?_;repeat(with_reducible(refine wpQuiet_step (λKQ nT=>?_));go_simp;first|(with_reducible(refine nT _ ?_);clear nT KQ)|(rw[if_neg (by simp[undef])];with_reducible(refine nT _ ?_);clear nT KQ)|(apply Exists.intro;refine⟨λ_=>?_,nT _ ?_⟩;(fail);clear nT KQ))
   with_reducible(refine wpQuiet_nil ?_)
   intro w6 hw';obtain⟨⟨nq6,osq6⟩,hw''⟩:=hw';have hb6:bG w5 w6:=by rw[hw''];exact bQ w5 nq6 osq6
   obtain⟨dX,lg⟩:=bU (up d9.out hb6) (aU sV.out hb6);clear hw'' hb6 s5 s8 p1;obtain⟨r0,r1,r2,r3,r4,r5,r6⟩:=Ap lg.out;obtain⟨z0,z1,z2,z3,z4,z5,z6⟩:=J5 (aG lg.out 0) (aG lg.out 1) (aG lg.out 2) (aG lg.out 3) (aG lg.out 4) (aG lg.out 5) (aG lg.out 6);go_wp2_with fail;have hs:=JD lg.out (J) (J) (J) (J) (O 0) (O 0) (J);obtain⟨f0,f1,f2,f3,f4,f5,f6⟩:=Ap hs;refine bodyPost_ret (v:=.tuple #[.agg #[J,J,J,J,O 0,O 0,J],O (2)]) (by simp[results,results54,go_sem,f0,f1,f2,f3,f4,f5,f6]) rfl (I (Or.inl ⟨CF.out,rfl,?_⟩));exact jO dX.out (Nat.le_trans (Nat.le_succ _) (Nat.le_succ _)) _ _ _ _ _ _ _
  ·have CF:Hid (Fl.Iy c m f mn mc=false):=I (by rw[HLR.out];simp only[gt_iff_lt,hl1,hl2,decide_false,Bool.or_false]);have hl3:(np:Int)+(nst:Int)<=mc:=by omega
   have hwr:IntKind.i64.wrap ((np:Int)+(nst:Int))=(np:Int)+(nst:Int):=wrap_small aX aX;have hl5:(nnm:Int)<=mn:=by omega
   go_wp2_with fail;refine bS bR bR ?_;repeat(with_reducible(refine wpQuiet_step (λKQ nT=>?_));go_simp;first|(with_reducible(refine nT _ ?_);clear nT KQ)|(rw[if_neg (by simp[undef])];with_reducible(refine nT _ ?_);clear nT KQ)|(apply Exists.intro;refine⟨λ_=>?_,nT _ ?_⟩;(fail);clear nT KQ))
   with_reducible(refine wpQuiet_nil ?_)
   intro w6 hw';obtain⟨⟨nq6,osq6⟩,hw''⟩:=hw';have hb6:bG w5 w6:=by rw[hw''];exact bQ w5 nq6 osq6
   obtain⟨dX,lg,HNT6,HF6⟩:=lY (up d9.out hb6) (aU sV.out hb6) (Qm.out.below hb6) (aU HF5.out hb6);clear hw'' hb6 s5 s8 p1;have hsp:=HNT6.out.spAt HQL.out.1 HQL.out.2.1 (by have h1:=HKC5.out;have h2:=HLEN.out.cls;omega) (by have h1:=kD (c.vS m f.body++c.mW m f.result) f.params;have h2:=HLEN.out.names;exact Nat.le_trans h1 h2);have hpre:FuPre w6 q (c.names m f) EU vnm5 (c.tH m f.body:Nat) ve5 m f (Y ba nb bc) (O f.result.kind) (O f.result.n) (A f.result.name) (Y ra nr rc):=by
    refine⟨⟨hsp,by rw[Ql.out];exact HEN.out,(HBOD.out.below dX.out),by rw[Ql.out];exact NU.out.st,λv hv=>?_,λs hs=>?_,HQL.out.2.2⟩,⟨hsp,by rw[Ql.out];exact HEN.out,(HRES.out.below dX.out),by rw[Ql.out];exact NU.out.ex,λv hv=>?_,λs hs=>?_⟩,Yc.out.1⟩;·rw[Ql.out]at hv;exact Fl.qN.2 (Or.inr (List.mem_append.2 (Or.inl hv)))
    ·exact(HCAL.out s).2 (Or.inr (List.mem_append.2 (Or.inl hs)))
    ·rw[Ql.out]at hv;exact Fl.qN.2 (Or.inr (List.mem_append.2 (Or.inr hv)))
    ·exact(HCAL.out s).2 (Or.inr (List.mem_append.2 (Or.inr hs)))
   rw[hvn5,hve5]at hpre;have HPB:=I (Pw m w6 q (c.names m f) EU na5 nnm nc5 _ ea5 _ ec5 f (Y pa np pc) (Y ba nb bc) (O f.result.kind) (O f.result.n) (A f.result.name) (Y ra nr rc) hpre (HPAR.out.below dX.out) (by rw[Ql.out];exact HLEN.out.sinks) (by rw[Ql.out];exact HLEN.out.cons));rw[HQP.out,Ql.out]at HPB;obtain⟨HVN5,HVE5⟩:=bU hvn5 hve5;clear hpre hsp;obtain⟨neff,hneff⟩:∃n,n=(c.jq m f).gY.length:=⟨_,rfl⟩;rw[<-hneff]at HPB HVE5;clear hvn5 hve5 hneff;obtain⟨p0,p1,p2,p3,p4,p5,p6⟩:=Ap HF6.out;go_wp2_with fail;clear p0 p1 p2 p3 p4 p5 p6;refine HPB.out.mono ?_;rintro e w7 ⟨vc7,vs7,vf7,rfl,hp7⟩;obtain⟨hcons,TD,hhg,sW⟩:=hp7.out;have HPBA:Hid (vN w7 w.heap.size vnm5 vc7 vs7 vf7 ve5 (c.jq m f)):=I ⟨eZ (HNT6.out.names.oldF HB3.out.size) sW,dV.old hcons dX.out.size,dV.old TD dX.out.size,hhg,(HNT6.out.kT.oldF HB3.out.size).below sW⟩;obtain⟨wG,jG⟩:=bU (aU lg.out sW) (up dX.out sW);obtain⟨ac7,cc7,rfl⟩:=hcons.form;obtain⟨as7,cs7,rfl⟩:=TD.form;obtain⟨af7,cf7,rfl⟩:=cO.form hhg;have HLV:Hid ((c.jq m f).level=((c.hg m f.result).2:Nat)):=I rfl;generalize ((List.range f.params.length).map (Fl.Bo c.low)++(c.G6 m f.body ([],c.low)).map (Fl.zQ (c.names m f))).length=ncn at *;generalize ((c.Jd m f.body ([],c.low)++c.yV m f.result ([],c.low)).map (nO (c.names m f))).length=nsk at *;generalize (Fl.nums (c.names m f) (c.hg m f.result).1).length=nfr at *;rw[HVN5.out,HVE5.out]at HPBA;obtain⟨hg2,hhg2⟩:∃n,n=(c.hg m f.result).2:=⟨_,rfl⟩;rw[<-hhg2]at HLV ⊢;clear hhg2 hcons TD hhg sW hp7;obtain⟨r0,r1,r2,r3,r4,r5,r6⟩:=Ap wG.out;obtain⟨z0,z1,z2,z3,z4,z5,z6⟩:=J5 (aG wG.out 0) (aG wG.out 1) (aG wG.out 2) (aG wG.out 3) (aG wG.out 4) (aG wG.out 5) (aG wG.out 6);go_wp2_with fail;have hs:=JD wG.out (Y na5 nnm nc5) (Y ac7 ncn cc7) (Y as7 nsk cs7) (Y af7 nfr cf7) (O 0) (O hg2) (Y ea5 neff ec5);obtain⟨f0,f1,f2,f3,f4,f5,f6⟩:=Ap hs;refine bodyPost_ret (v:=.tuple #[.agg #[Y na5 nnm nc5,Y ac7 ncn cc7,Y as7 nsk cs7,Y af7 nfr cf7,O 0,O hg2,Y ea5 neff ec5],O 0]) (by simp[results,results54,go_sem,f0,f1,f2,f3,f4,f5,f6]) rfl (I (Or.inr ⟨CF.out,_,_,_,_,_,by rw[HLV.out],HPBA.out.keep (kx_set7 (n:=w.heap.size) wG.out (Nat.le_trans (Nat.le_succ _) (Nat.le_succ _)) _ _ _ _ _ _ _),jO jG.out (Nat.le_trans (Nat.le_succ _) (Nat.le_succ _)) _ _ _ _ _ _ _⟩))
end Go.Proofs.YtbgkpehhdibaoaaGreatDoor
