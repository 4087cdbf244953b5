/- Walks over package flow: newScope. -/
import Derived.Test.YtfnboapebijcpaaGreatDoorMZBA
import Derived.Test.YtfnboapebijcpaaGreatDoorMZBC
import Derived.Test.YtfnboapebijcpaaGreatDoorMZAX
set_option maxHeartbeats 16000000
set_option maxRecDepth 100000
namespace Go.Proofs.YtfnboapebijcpaaGreatDoor
open Fl bC aI Rn Sv
open Go.Proofs.Tryz
open Go.RowKit Go.Maps Go.WideMaps
namespace Fl
def nD(ss:List ByteArray)(ps:List ByteArray)(vs:List Va):ByteArray->Option Nat:=λs=>
 if has ps s then none else (vs.reverse.find? λv=>aI.aZ v.name s).map λv=>(bD ss v.level).toNat
theorem Ec{ss ps:List ByteArray}{vs:List Va}{v:Va}(h:has ps v.name=true):nD ss ps (vs++[v])=nD ss ps vs:=by
 funext s;unfold nD;cases hs:has ps s with
 | true=>rfl
 | false=>
  rw[List.reverse_append,List.reverse_singleton,List.singleton_append,List.find?_cons];cases he:aI.aZ v.name s with
  | false=>rfl
  | true =>rw[dX]at he;rw[he,hs]at h;cases h
theorem ZM{ss ps:List ByteArray}{vs:List Va}{v:Va}(h:has ps v.name=false)(hi:0<=bD ss v.level):(λs=>(nD ss ps (vs++[v]) s).map λn:Nat=>(n:Int))=Rn.put (λs=>(nD ss ps vs s).map λn:Nat=>(n:Int)) v.name (bD ss v.level):=by
 funext s;unfold Rn.put nD;rw[List.reverse_append,List.reverse_singleton,List.singleton_append,List.find?_cons];cases he:aI.aZ v.name s with
 | false =>rw[show aI.aZ s v.name=false by rw[<-Bool.not_eq_true]at he ⊢;rw[dX]at he ⊢;exact λe=>he e.symm];rfl
 | true =>rw[dX]at he;subst he;rw[show aI.aZ v.name v.name=true from dX.2 rfl,h];simp;omega
end Fl
theorem gX.spAt{w0 w:World}{q:Sp}{nl:List ByteArray}{dn:ByteArray->Option Value}{kc:Nat}{bG:Value}{sets:Nat}{ve:Value}{E:List ByteArray}(h:gX w0 w q nl dn kc bG sets ve E)(hL:rO w0 q.vn q.vl q.ss q.G q.L q.c.Z)(hN:q.c.N=q.ss.length)(hk:kc<=16777216)(hl:nl.length<=1048576):Au w q nl dn bG sets ve:=
 ⟨h.blk,hL.below h.base,hN,h.levels,h.numbers,h.called.mono hk,λs v hv=>(h.bO s v hv).below h.base,h.nodup,hl⟩
theorem oG.empty{w:World}{b n:Nat}(h:oG w b n (λ_=>none)):oG w b 0 (λ_=>none):=by
 obtain⟨D,⟨es,cl,hb,F,hs,hD⟩,h2⟩:=h;have he:es.size=0:=by
  by_cases h0:es.size=0;·exact h0
  ·exfalso;have hx:es[0]∈es.toList:=by simp
   obtain⟨y,hy⟩:=F.reads _ hx;have hk:=Go.WideElems.rd_key hy;rw[keyOf_string underlying9]at hk;unfold mapKey at hk;rw[underlying9]at hk;cases hkey:es[0].key with
   | string t=>
    rw[hkey]at hk;simp only at hk;split at hk
    ·rename_i ht;have h3:=(h2 t ht).1;have h4:Maps.has D (.string t.data.toList)=true:=by
      rw[hD,Maps.has_eq,Cv];refine⟨y,mem_sorted.2 ?_,?_⟩;·rw[<-Go.WideElems.rg_of hy];exact List.mem_map_of_mem hx
      ·rw[<-Option.some.inj hk];exact WideAt.sameKey_self trivial
     rw[h4]at h3;cases h3
    ·cases hk
   | _=>rw[hkey]at hk;simp at hk
 exact⟨D,⟨es,cl,hb,F,by omega,hD⟩,h2⟩
theorem Ba(w:World)(B:Nat):Own w B (.slice none 0 0) []:=nP _ _ _ _
theorem Pj{w:World}{v:Value}(ss:List ByteArray)(t:ByteArray)(h:Strs w v ss):Qr (bD ss t):=by
 obtain⟨_,_,_,_,_,_,hl,_⟩:=h;unfold bD;split;·next i h=>have:=(bC.find_spec h).1;unfold Qr;omega
 ·unfold Qr;omega
def Kg(B:Nat)(vn vl:Value)(ss:List ByteArray)(G:Nat)(L:Nat->Nat)(Z:Nat->Nat->Bool)(md:ByteArray)(kX:ByteArray->Option Nat)(bO:ByteArray->Sc):Sp:=
 ⟨B+1+1+1,vn,vl,ss,G,L,⟨Z,ss.length,sQ Z ss.length,md,kX,λs=>bD ss s,bO⟩,B,B+1,B+1+1⟩
theorem ZN{w w1:World}(hb:Below w.heap.size w w1)(vn vl:Value)(ss:List ByteArray)(G:Nat)(L:Nat->Nat)(Z:Nat->Nat->Bool)(md:ByteArray)(bO:ByteArray->Sc){W:World}(hW:W=(((w1.alloc (.map #[] 0)).alloc (.map #[] 0)).alloc (.map #[] 0)).alloc (.cells #[vn,vl,.int .i64 (sQ Z ss.length:Nat),.string md,.map (some w1.heap.size),.slice none 0 0,.map (some (w1.heap.size+1)),.map (some (w1.heap.size+1+1)),.int .i64 0,.slice none 0 0] 299)):gX w W (Kg w1.heap.size vn vl ss G L Z md (λ_=>none) bO) [] (λ_=>none) 0 (.slice none 0 0) 0 (.slice none 0 0) []/\Below w1.heap.size w1 W:=by
 have s1:(w1.alloc (.map #[] 0)).heap.size=w1.heap.size+1:=Jv _ _;have s2:((w1.alloc (.map #[] 0)).alloc (.map #[] 0)).heap.size=w1.heap.size+1+1:=by rw[Jv,s1]
 have s3:(((w1.alloc (.map #[] 0)).alloc (.map #[] 0)).alloc (.map #[] 0)).heap.size=w1.heap.size+1+1+1:=by rw[Jv,s2]
 have m1:=oG.new w1;have m2:=oG.new (w1.alloc (.map #[] 0));have m3:=xu.new ((w1.alloc (.map #[] 0)).alloc (.map #[] 0)) sc0;rw[s1]at m2;rw[s2]at m3;have b3:=aJ (((w1.alloc (.map #[] 0)).alloc (.map #[] 0)).alloc (.map #[] 0)) (.cells #[vn,vl,.int .i64 (sQ Z ss.length:Nat),.string md,.map (some w1.heap.size),.slice none 0 0,.map (some (w1.heap.size+1)),.map (some (w1.heap.size+1+1)),.int .i64 0,.slice none 0 0] 299);rw[s3,<-hW]at b3;have k1:Below (w1.alloc (.map #[] 0)).heap.size (w1.alloc (.map #[] 0)) W:=by rw[hW];exact up (up (aB _ _) (aB _ _)) (aB _ _)
 have k2:Below ((w1.alloc (.map #[] 0)).alloc (.map #[] 0)).heap.size ((w1.alloc (.map #[] 0)).alloc (.map #[] 0)) W:=by rw[hW];exact up (aB _ _) (aB _ _)
 have k3:Below (((w1.alloc (.map #[] 0)).alloc (.map #[] 0)).alloc (.map #[] 0)).heap.size (((w1.alloc (.map #[] 0)).alloc (.map #[] 0)).alloc (.map #[] 0)) W:=by rw[hW];exact aB _ _
 have k0:Below w1.heap.size w1 W:=up (aB _ _) k1;have hs:=hb.size;have e1:oG W w1.heap.size 1048576 (λ_=>none):=(m1.below k1).mono (bJ _);have e2:oG W (w1.heap.size+1) 0 (λs=>(Fl.idx [] s).map λn:Nat=>(n:Int)):=m2.below k2;have e3:xu W (w1.heap.size+1+1) 0 sc0 (λ_=>none):=m3.below k3;refine⟨⟨b3,⟨by show _<=w1.heap.size+1+1+1;omega,hs,by show _<=w1.heap.size+1;omega,by show _<=w1.heap.size+1+1;omega⟩,e1,e2,e3,λs v h=>by simp at h,λs h=>by simp at h,List.nodup_nil,?_,?_,Or.inl rfl,⟨by show w1.heap.size≠w1.heap.size+1;omega,by show w1.heap.size≠w1.heap.size+1+1;omega,by show w1.heap.size+1≠w1.heap.size+1+1;omega⟩,up hb k0⟩,k0⟩;·exact Ba _ _
 ·exact Ba _ _
theorem I6(w:World)(vn vl vi vv vf vp:Value)(ss:List ByteArray)(G:Nat)(L:Nat->Nat)(Z:Nat->Nat->Bool)(x:Mo)(ps:List ByteArray)(bO:ByteArray->Sc)(hL:rO w vn vl ss G L Z)(hV:Dv w vv x.vars)(hP:Strs w vp ps)(hi:∃a n c,vi=.slice a n c)(hf:∃a n c,vf=.slice a n c)(hps:ps.Nodup)(hpl:ps.length<=1048576)(hvl:x.vars.length<=1048575)(hlv:∀v∈x.vars,0<=bD ss v.level):Calls prog 187 #[.agg #[vn,vl],.agg #[.string x.name,vi,vv,vf],vp] w λe w'=>∃B,e=.returned (.pointer (some ⟨B+1+1+1,0,none⟩))/\Hid (∃bG,gX w w' (Kg B vn vl ss G L Z x.name (nD ss ps x.vars) bO) ps (λ_=>none) 0 bG 0 (.slice none 0 0) []):=by
 obtain⟨ai,ni,ci,rfl⟩:=hi;obtain⟨af,nf,cf,rfl⟩:=hf;have HL:=hide hL;have Qx:=hide hps;have OX:=hide hlv;have HE:=hide (λwx (hb:Below w.heap.size w wx)=>ends_ok wx vn vl ss G L Z (hL.strs.below hb) (hL.WG.below hb) hL.ok);obtain⟨av,bv,ov,cv,rfl,Ip,hvbig,hcv⟩:=hV;obtain⟨ap,bp,op,cp,rfl,hap,hpbig,hpz,hcp⟩:=hP;have Iq:=hide Ip;have Gj:=hide hcv;have DY:=hide hap;have Qi:=hide hcp;have HPZ:=hide hpz;obtain⟨nv,mR⟩:=aG x.vars.length;have BG:=hide mR;rw[<-mR]at hvbig hvl Iq ⊢;obtain⟨np,hnp⟩:=aG ps.length;have wM:=hide hnp;rw[<-hnp]at hpbig hpl DY Qi ⊢;obtain⟨W,hW,k0,k1,hsz,hBW⟩:=yN w (.cells #[vn,vl] 34) (.cells #[.string x.name,.slice ai ni ci,.slice av nv cv,.slice af nf cf] 26);have gB:=hide k0;have iC:=hide k1;have eO:=hide hBW;have x0:=(aj k0 0).trans rfl;have x1:=(aj k0 1).trans rfl;have HC:=hide (HE W hBW);have HVN:Hid (∃a n c,vn=.slice a n c):=hide (by obtain⟨a,b,o,c,rfl,-⟩:=hL.strs;exact⟨_,_,_,rfl⟩);have HVL:Hid (∃a n c,vl=.slice a n c):=hide (by obtain⟨a,b,o,c,A,RB,RO,C,rfl,-⟩:=hL.WG;exact⟨_,_,_,rfl⟩);obtain⟨an,nn,cn,WO⟩:=HVN.out;obtain⟨al,nl,cl,hvl'⟩:=HVL.out;clear k0 k1 hsz hBW hL hps hlv Ip hcv hap hcp hpz mR hnp HVN HVL HE;subst WO hvl';rw[hW]at x0 x1;go_enter func187,ntmps187;go_wp2_with fail;rw[<-hW];clear hW x0 x1;refine HC.mono ?_;rintro e w1 ⟨rfl,hb1⟩;have K0:=aN gB hb1;have K1:=aN iC hb1;have HB1:=hide (up eO hb1);have j3:=hide K1;have x0:=(aj K0 0).trans rfl;have x1:=(aj K0 1).trans rfl;have y0:=(aj K1 0).trans rfl;have hmm:=@run_makeMap prog;clear K0 K1 HC hb1 gB iC eO;obtain⟨W2,hW2⟩:∃W,W=(((w1.alloc (.map #[] 0)).alloc (.map #[] 0)).alloc (.map #[] 0)).alloc (.cells #[.slice an nn cn,.slice al nl cl,.int .i64 (sQ Z ss.length:Nat),.string x.name,.map (some w1.heap.size),.slice none 0 0,.map (some (w1.heap.size+1)),.map (some (w1.heap.size+1+1)),.int .i64 0,.slice none 0 0] 299):=⟨_,rfl⟩;obtain⟨hno,hb2⟩:=ZN HB1 (.slice an nn cn) (.slice al nl cl) ss G L Z x.name bO hW2;have O8:Hid (W2.heap[w.heap.size+1]?=some (.cells #[.string x.name,.slice ai ni ci,.slice av nv cv,.slice af nf cf] 26 (0,0))):=hide (aN j3 hb2);obtain⟨B,hB⟩:=aG w1.heap.size;rw[<-hB]at hno;have V4:=hide hno;obtain⟨M,hM⟩:=aG (w.heap.size+1);rw[<-hM]at O8;have HM:=hide hM;clear hb2 hno j3 HB1;go_wp2_with fail;rw[<-hW2,<-hB,<-hM];clear hW2 hB hM hmm x0 x1 y0;go_loopw[34] (λi wx=>∃j:Nat,j<=np/\i=.int .i64 j/\Hid (∃bG,gX w wx (Kg B (.slice an nn cn) (.slice al nl cl) ss G L Z x.name (λ_=>none) bO) (ps.take j) (λ_=>none) 0 bG 0 (.slice none 0 0) []/\wx.heap[M]?=some (.cells #[.string x.name,.slice ai ni ci,.slice av nv cv,.slice af nf cf] 26 (0,0)))) (λi _=>np - (intOf i).toNat);case atStart=>exact⟨0,bJ _,rfl,hide ⟨_,V4,O8⟩⟩
 case round=>
  obtain⟨j,hj,rfl,HI⟩:=hrel;obtain⟨bG,hno,hmo⟩:=HI.out;have ZO:=hide hno;have HMO1:=hide hmo;clear hno hmo HI;by_cases hjl:j<np
  ·have g0:=Qi j hjl;obtain rfl:=DY (by omega);have hjp:j<ps.length:=by rw[<-wM];exact hjl
   obtain⟨s,hs⟩:∃s,ps[j]?=some s:=⟨_,aU hjp⟩;rw[rJ,hs,kr]at g0;replace g0:=aA g0 ZO.base;have hnm:s∉ps.take j:=λhm=>by
    obtain⟨i,hi,e⟩:=eX.1 hm;rw[d9]at hi;have h1:ps[i]?=some s:=by rw[List.getElem_take]at e;rw[aU (by omega),e]
    have:=rT Qx h1 hs;omega
   have ZI:=hide (Hf w wr _ (ps.take j) _ _ _ _ _ _ s ZO hnm (HPZ s (gD hs)) (by rw[d9];omega));have HSJ:Hid (ps.take (j+1)=ps.take j++[s]):=hide (by rw[iY,hs,sj]);clear hs hnm hjp;go_wp2_with fail;refine ZI.mono ?_;rintro e w3 ⟨rfl,hp3⟩;obtain⟨vnm3,hno3,hk3⟩:=hp3.out;have HNO3:=hide hno3;have HMO3:=hide (hk3.at HMO1 rfl);clear hno3 hk3 hp3 g0 ZI;go_wp2_with fail;go_roundw;case rel=>exact⟨j+1,by omega,by go_num,hide ⟨vnm3,by rw[HSJ];exact HNO3,HMO3⟩⟩
   case measure=>simp[intOf];omega
  ·obtain rfl:j=np:=by omega
   have HNO2:Hid (gX w wr ((Kg B (.slice an nn cn) (.slice al nl cl) ss G L Z x.name (λ_=>none) bO).ZF (nD ss ps (x.vars.take 0))) ps (λ_=>none) 0 bG 0 (.slice none 0 0) []):=hide (by
    have h1:=ZO.out;rw[wM,gG]at h1;have e:nD ss ps (x.vars.take 0)=λ_=>none:=by funext s;unfold nD;split<;>rfl
    rw[e];exact h1)
   have HOW0:Hid (oG wr B 0 (λs=>(nD ss ps (x.vars.take 0) s).map λn:Nat=>(n:Int))):=hide (by
    have h1:oG wr B 1048576 (λ_=>none):=ZO.levels;have e:(λs=>(nD ss ps (x.vars.take 0) s).map λn:Nat=>(n:Int))=λ_=>none:=by funext s;unfold nD;split<;>rfl
    rw[e];exact h1.empty)
   have m2:=(aj HMO1 2).trans rfl;obtain⟨wo,rfl⟩:=aG wr;go_wp2_with fail;clear m2 ZO;go_loopw[45] (λi wx=>∃t:Nat,t<=nv/\i=.int .i64 t/\Hid (gX w wx ((Kg B (.slice an nn cn) (.slice al nl cl) ss G L Z x.name (λ_=>none) bO).ZF (nD ss ps (x.vars.take t))) ps (λ_=>none) 0 bG 0 (.slice none 0 0) [])/\Hid (oG wx B t (λs=>(nD ss ps (x.vars.take t) s).map λn:Nat=>(n:Int)))) (λi _=>nv - (intOf i).toNat);case atStart=>exact⟨0,bJ _,rfl,HNO2,HOW0⟩
   case round=>
    obtain⟨t,ht,rfl,HI,HOW⟩:=hrel;by_cases htn:t<nv
    ·obtain⟨v,hv⟩:∃v,x.vars[t]?=some v:=⟨_,aU (by rw[<-BG];exact htn)⟩;obtain⟨hz0,hz1,g0,g1⟩:=Gj t v hv;obtain rfl:=Iq (by omega);have HVT:Hid (x.vars.take (t+1)=x.vars.take t++[v]):=hide (by rw[iY,hv,sj]);have HVI:=hide (OX v (gD hv));have HZ0:=hide hz0;replace g0:=aA g0 HI.base;replace g1:=aA g1 HI.base;obtain⟨W5,hW5⟩:=aG (wr.alloc (.cells #[.string v.name,.string v.level] 124));have hb5:Below wr.heap.size wr W5:=by rw[hW5];exact aB _ _
     have Qk:Hid (W5.heap[wr.heap.size]?=some (.cells #[.string v.name,.string v.level] 124 (0,0))):=hide (by rw[hW5];exact aJ _ _);have uQ:=hide (HI.below hb5);have HOW5:=hide (HOW.below hb5);clear hv hz0 hz1 hb5;obtain⟨wi,rfl⟩:=aG wr;go_wp2_with fail;rw[<-hW5];clear hW5 g0 g1;have v0:=aM ((aj Qk 0).trans rfl);have c6:W5.cell? ⟨B+1+1+1,6,none⟩=some (.map (some (B+1))):=uQ.cells.2.2.2.2.2.2.1;replace c6:=aM c6;have LK:∀k os,(Instr.lookup 209 (.map (some (B+1))) (.string v.name) true).run prog (gn W5 k os)=.ok (.tuple #[.int .i64 (((Fl.idx ps v.name).map λn:Nat=>(n:Int)).getD 0),.bool ((Fl.idx ps v.name).map λn:Nat=>(n:Int)).isSome]) (gn W5 k os):=λk os=>(uQ.below (aS W5 k os)).numbers.K8 (s:=v.name) HZ0;cases hid:Fl.has ps v.name with
     | true=>
      have HID:=hide hid;obtain⟨ix,hix⟩:=wP (oK.1 hid);simp only[hix,vK,kr,GK]at LK;clear hid hix;refine aO (by kernel_rfl) (by kernel_rfl) ?_;repeat(quiet_step (fail))
      refine wpQuiet_nil ?_;intro w6 hw';obtain⟨⟨nq,osq⟩,hw''⟩:=hw';have hb6:Below W5.heap.size W5 w6:=by rw[hw''];exact aS W5 nq osq
      have uw:=hide (uQ.below hb6);have pY:=hide (HOW5.below hb6);clear hw'' v0 c6 LK hb6;go_wp2_with fail;go_roundw;case rel=>exact⟨t+1,by omega,by go_num,hide (by rw[HVT,Ec HID];exact uw),hide (by rw[HVT,Ec HID];exact pY.mono (by omega))⟩
      case measure=>simp[intOf];omega
     | false=>
      have HID:=hide hid;have hix:=Ap (T9.1 hid);simp only[hix,CQ,GL,GN]at LK;clear hid hix;refine aO (by kernel_rfl) (by kernel_rfl) ?_;repeat(quiet_step (fail))
      refine wpQuiet_nil ?_;intro w6 hw';obtain⟨⟨nq,osq⟩,hw''⟩:=hw';have hb6:Below W5.heap.size W5 w6:=by rw[hw''];exact aS W5 nq osq
      have uw:=hide (uQ.below hb6);have pY:=hide (HOW5.below hb6);have HE6:=hide (aN Qk hb6);clear hw'' v0 c6 LK hb6;have v0:=aM ((aj HE6 0).trans rfl);have v1:=aM ((aj HE6 1).trans rfl);have c4:w6.cell? ⟨B+1+1+1,4,none⟩=some (.map (some B)):=uw.cells.2.2.2.2.1;replace c4:=aM c4;have kK:Hid (∀k os,Calls prog 257 #[.pointer (some ⟨B+1+1+1,0,none⟩),.string v.level] (gn w6 k os) λe w'=>e=.returned (.int .i64 (bD ss v.level))/\Below (gn w6 k os).heap.size (gn w6 k os) w'):=hide (λk os=>GV (gn w6 k os) _ ps _ bG _ _ v.level ((uw.below (aS w6 k os)).spAt HL rfl (by omega) (by rw[<-wM];exact hpl)));go_wp2_with fail;refine eF 10 (by kernel_rfl) (by kernel_rfl) ?_;dsimp only[List.take,List.drop];repeat(quiet_step ((exact Calls.fJ (kK _ _))))
      refine wpQuiet_nil ?_;intro w7 hw';obtain⟨⟨nq7,osq7⟩,hw''⟩:=hw';have jT:Below w6.heap.size w6 w7:=by rw[hw''];exact aS w6 nq7 osq7
      have Ul:=hide (uw.below jT);have Xt:=hide (pY.below jT);clear hw'' v0 v1 c4 kK jT;obtain⟨w8,L8,ho8,hg8⟩:=Xt.put (s:=v.name) (v:=bD ss v.level) (by unfold maxLen;omega) HZ0 (Pj _ _ HL.strs);rw[<-ZM HID HVI,<-HVT]at ho8;have mK:=hide (Ul.relevel hg8 (ho8.mono (by omega))).1;have HOW8:=hide ho8;have HL8:Hid ((Instr.mapUpdate 209 (.map (some B)) (.string v.name) (.int .i64 (bD ss v.level))).run prog w7=.ok () w8):=hide L8;clear ho8 hg8 L8;have L8:=HL8.out;go_wp2_with fail;go_roundw;case rel=>exact⟨t+1,by omega,by go_num,mK,HOW8⟩
      case measure=>simp[intOf];omega
    ·obtain rfl:t=nv:=by omega
     go_wp2_with fail;go_ret;refine⟨B,rfl,hide ⟨bG,?_⟩⟩;have h1:=HI.out;rw[BG,gG]at h1;exact h1
namespace Fl
theorem Db{l:List ByteArray}{s:ByteArray}:0<=bD l s↔s∈l:=by
 unfold bD;constructor
 ·intro h;split at h;·rename_i i hi;obtain⟨h1,h2⟩:=bC.find_spec hi;unfold BQ at h2;have e:s=l.getD i ByteArray.empty:=dX.1 h2;rw[e,List.getD,aU h1];exact fI h1
  ·omega
 ·intro h;obtain⟨i,hi,rfl⟩:=eX.1 h;split;·omega
  ·rename_i hn;have:=xH.1 hn i (j6.2 hi);exact absurd (dX.2 (by rw[List.getD,aU hi];rfl)) this
theorem Pk(l:List ByteArray)(s:ByteArray):bD l s<l.length\/l=[]:=by
 rcases mD l s with e|⟨i,e,hi⟩
 ·by_cases h:l=[];·exact Or.inr h
  ·left;have:=Fw.2 h;omega
 ·left;omega
theorem Pm{g:Nat->List Dg}{n:Nat}(h:aI.upto g n=[]):∀i,i<n->g i=[]:=λi hi=>by refine List.eq_nil_iff_forall_not_mem.2 λd hd=>?_;have:d∈aI.upto g n:=Gl.2 ⟨i,hi,hd⟩;rw[h]at this;cases this
theorem Kh{fn:ByteArray}{l:List ByteArray}(h:ru fn l=[]):l.Nodup:=by
 rw[List.Nodup,Gt];intro i j hi hj hij e;have h1:=Pm h j hj;rw[gI (aU hj)]at h1;have h2:aI.zD (l.take j) l[j]=true:=by unfold aI.zD;rw[decide_eq_true_eq,Db,<-e];refine eX.2 ⟨i,by rw[d9];omega,?_⟩;rw[List.getElem_take]
 rw[if_pos h2]at h1;cases h1
structure NmOk(ss:List ByteArray)(x:Mo)(known:List Mo)(m:Nat):Prop where
 vars:(x.vars.map (·.name)).Nodup
 pars:∀f∈x.aR,f.params.Nodup
 levs:∀v∈x.vars,0<=bD ss v.level
 prints:∀f∈x.aR,∀s∈aI.all m f.body,s.kind=4->0<=bD ss s.name
 calls:∀(k:Nat) f,x.aR[k]?=some f->∀y∈jN m f,aI.code x known k y.name y.args.length=0
theorem wB{α β:Type}{f:α->List β}{l:List α}(h:l.flatMap f=[]){x:α}(hx:x∈l):f x=[]:=by rw[List.flatMap_eq_nil_iff]at h;exact h x hx
theorem Mr{ss:List ByteArray}{x:Mo}{known:List Mo}{m:Nat}(h:aI.once (BJ ss x known m)=[]):NmOk ss x known m:=by
 have h0:BJ ss x known m=[]:=List.eq_nil_iff_forall_not_mem.2 λd hd=>by have:=(zV _ d).2 hd;rw[h]at this;cases this
 unfold BJ at h0;simp only[qx,vO,bX,Kq]at h0;obtain⟨_,h2,h3,h4⟩:=h0;unfold twD at h2;simp only[qx,vO,bX,Kq]at h2;obtain⟨⟨_,hv,_⟩,hp⟩:=h2;unfold lvD at h3;rw[Kq]at h3;refine⟨Kh hv,λf hf=>Kh (wB hp hf),λv hvv=>?_,λf hf s hs hk=>?_,λk f hf y hy=>?_⟩
 ·have:=wB h3.1 hvv;unfold aI.kX at this;split at this;·rename_i h;exact of_decide_eq_true h
  ·cases this
 ·have:=wB (wB h3.2 hf) hs;unfold lC aI.kX at this;rw[if_pos hk]at this;split at this;·rename_i h;exact of_decide_eq_true h
  ·cases this
 ·have h5:=Pm h4 k (dG.1 hf).1;rw[gI hf]at h5;have:=wB h5 hy;unfold aI.iN at this;split at this;·rename_i h;exact h
  ·cases this
theorem pU:∀(m k:Nat) (x y:Ex),m<=k->y∈dL m x->y∈dL k x
 | 0,_,_,_,_,h=>by simp[dL]at h
 | m+1,0,_,_,hk,_=>by omega
 | m+1,k+1,x,y,hk,h=>by
  simp only[dL,cK,dS]at h ⊢;rcases h with h|⟨z,hz,h⟩;·exact Or.inl h
  ·exact Or.inr ⟨z,hz,pU m k z y (by omega) h⟩
theorem UE:∀(m k:Nat) (l:List St) (s:St),m<=k->s∈aI.all m l->s∈aI.all k l
 | 0,_,_,_,_,h=>by simp[aI.all]at h
 | m+1,0,_,_,hk,_=>by omega
 | m+1,k+1,l,s,hk,h=>by
  simp only[aI.all,aI.within,cK,dS,iy]at h ⊢;obtain⟨t,ht,h⟩:=h;refine⟨t,ht,?_⟩;rcases h with(h|h)|h;·exact Or.inl (Or.inl h)
  ·exact Or.inl (Or.inr (UE m k _ s (by omega) h))
  ·exact Or.inr (UE m k _ s (by omega) h)
theorem Df:∀(m:Nat) (x:Ex) (s:ByteArray),s∈cls m x->∃y∈dL m x,y.name=s
 | 0,_,_,h=>by simp[cls]at h
 | m+1,x,s,h=>by
  simp only[cls,cK,dS]at h;rcases h with h|⟨z,hz,h⟩
  ·split at h;·rename_i hk;simp only[iy]at h;exact⟨x,by simp[dL,hk],h.symm⟩
   ·cases h
  ·obtain⟨y,hy,e⟩:=Df m z s h;exact⟨y,by simp only[dL,cK,dS];exact Or.inr ⟨z,hz,hy⟩,e⟩
theorem zh:∀(m:Nat) (l:List St) (s:ByteArray),s∈jv m l->∃t∈aI.all m l,∃y∈dL m t.e,y.name=s
 | 0,_,_,h=>by simp[jv]at h
 | m+1,l,s,h=>by
  simp only[jv,cK,dS]at h;obtain⟨t,ht,h⟩:=h;have ha:∀u,u=t\/u∈aI.all m t.a\/u∈aI.all m t.b->u∈aI.all (m+1) l:=λu hu=>by
   simp only[aI.all,aI.within,cK,dS,iy];refine⟨t,ht,?_⟩;rcases hu with h|h|h;·exact Or.inl (Or.inl h)
   ·exact Or.inl (Or.inr h)
   ·exact Or.inr h
  rcases h with(h|h)|h;·obtain⟨y,hy,e⟩:=Df m _ s h;exact⟨t,ha t (Or.inl rfl),y,pU m (m+1) _ _ (bP _) hy,e⟩
  ·obtain⟨u,hu,y,hy,e⟩:=zh m _ s h;exact⟨u,ha u (Or.inr (Or.inl hu)),y,pU m (m+1) _ _ (bP _) hy,e⟩
  ·obtain⟨u,hu,y,hy,e⟩:=zh m _ s h;exact⟨u,ha u (Or.inr (Or.inr hu)),y,pU m (m+1) _ _ (bP _) hy,e⟩
theorem Ki{m:Nat}{f:Fu}{s:ByteArray}(h:s∈jv m f.body++cls m f.result):∃y∈jN m f,y.name=s:=by
 unfold jN;rcases cK.1 h with h|h;·obtain⟨t,ht,y,hy,e⟩:=zh m _ s h;exact⟨y,cK.2 (Or.inl (dS.2 ⟨t,ht,hy⟩)),e⟩
 ·obtain⟨y,hy,e⟩:=Df m _ s h;exact⟨y,cK.2 (Or.inr hy),e⟩
def V5:Sc:=⟨⟨#[]⟩,0,0,[],0,[]⟩
def su(x:Mo)(k:Nat)(known:List Mo)(aW:List (List Sc))(own:List Sc)(call:ByteArray):Sc:=
 if (fO x k call known).1<0 then own.getD (fO x k call known).2.1.toNat V5 else (aW.getD (fO x k call known).1.toNat []).getD (fO x k call known).2.1.toNat V5
theorem ZP{x:Mo}{k:Nat}{call:ByteArray}{known:List Mo}{i:Nat}(h:fO x k call known=(-1,(i:Int),true)):i<k:=by
 cases hd:fB call with
 | none=>
  have e:fO x k call known=KI (-1) x.aR call k:=by simp[fO,hd]
  rw[e]at h;unfold KI at h;cases hf:sZ x.aR call k with
  | none=>rw[hf]at h;simp at h
  | some j =>rw[hf]at h;simp only[qO,true_and,and_true]at h;have:=(KL hf).1;omega
 | some d=>
  exfalso;rcases mD x.imports (bC.preS call)with hi|⟨i',hi,_⟩
  ·have e:fO x k call known=(0,0,false):=by simp[fO,hd,hi]
   rw[e]at h;simp at h
  ·cases hm:jk known (x.imports.getD i' ByteArray.empty)with
   | none=>rw[zX hd hi hm]at h;simp at h
   | some a =>obtain⟨y,hy,_⟩:=zY hm;rw[EM hd hi hm hy]at h;unfold KI at h;split at h<;>simp at h<;>omega
theorem ZQ{N:Nat}{y:Sc}(h:Zq N y=true){n:Nat}(hn:y.bounds.length=n):Rb N y n:=by unfold Zq at h;simp only[eB]at h;obtain⟨hb,⟨hl,hp⟩,_⟩:=h;unfold yg at hl;unfold lG at hp;simp only[eB,decide_eq_true_eq]at hl hp;refine⟨hn,λb hb'=>?_,⟨hl.1.1.1,hl.1.1.2⟩,⟨hl.1.2,hl.2⟩,hp⟩;have:=iO.1 hb b hb';unfold lG at this;simpa using this
theorem UF{N:Nat}{fs:List Fu}{ys:List Sc}(h:jH N fs ys=true){j:Nat}{g:Fu}(hg:fs[j]?=some g):∃y,ys[j]?=some y/\y.bounds.length=g.params.length/\Zq N y=true:=by
 unfold jH at h;simp only[eB,decide_eq_true_eq]at h;have hj:=(dG.1 hg).1;have hj':j<ys.length:=by omega
 refine⟨ys[j],aU hj',?_⟩;have hm:(g,ys[j])∈List.zip fs ys:=by refine eX.2 ⟨j,by rw[C9];omega,?_⟩;rw[List.getElem_zip];obtain⟨h1,h2⟩:=dG.1 hg;rw[h2]
 have:=iO.1 h.2 _ hm;unfold lU at this;simpa using this
theorem ZR{N:Nat}{ms:List Mo}{ys:List (List Sc)}(h:fH N ms ys=true){j:Nat}{g:Mo}(hg:ms[j]?=some g):∃y,ys[j]?=some y/\jH N g.aR y=true:=by
 unfold fH at h;simp only[eB,decide_eq_true_eq]at h;have hj:=(dG.1 hg).1;have hj':j<ys.length:=by omega
 refine⟨ys[j],aU hj',?_⟩;have hm:(g,ys[j])∈List.zip ms ys:=by refine eX.2 ⟨j,by rw[C9];omega,?_⟩;rw[List.getElem_zip];obtain⟨h1,h2⟩:=dG.1 hg;rw[h2]
 exact iO.1 h.2 _ hm
theorem Sl{N:Nat}{x:Mo}{k:Nat}{known:List Mo}{aW:List (List Sc)}{own:List Sc}(hk:fH N known aW=true)(ho:jH N (x.aR.take k) own=true){call:ByteArray}{n:Nat}(hc:aI.code x known k call n=0):Ke x k known aW own call (su x k known aW own call)/\Rb N (su x k known aW own call) n:=by
 have ht:(fO x k call known).2.2=true:=by
  unfold aI.code at hc;cases h:(fO x k call known).2.2 with
  | true=>rfl
  | false=>rw[h]at hc;simp at hc
 rcases Cb ht with⟨i,f,e,hf⟩|⟨a,y,j,f,e,hy,hf⟩
 ·have hik:=ZP e;have hf':(x.aR.take k)[i]?=some f:=by rw[qD hik];exact hf
  obtain⟨s,hs,hb,hsc⟩:=UF ho hf';have es:su x k known aW own call=s:=by unfold su;rw[e];simp[List.getD,hs]
  rw[es];have hn:f.params.length=n:=by unfold aI.code KM at hc;rw[e]at hc;simp[hf]at hc;exact hc
  exact⟨Or.inl ⟨by rw[e];show(-1:Int)<0;omega,i,by rw[e],hs⟩,ZQ hsc (hb.trans hn)⟩
 ·obtain⟨l,hl,hfit⟩:=ZR hk hy;obtain⟨s,hs,hb,hsc⟩:=UF hfit hf;have es:su x k known aW own call=s:=by
   unfold su;rw[e];have:¬((a:Int)<0):=by omega
   simp[List.getD,hl,hs,this]
  rw[es];have hn:f.params.length=n:=by
   unfold aI.code KM at hc;rw[e]at hc;have:¬((a:Int)=-1):=by omega
   simp[hy,hf,this]at hc;exact hc
  exact⟨Or.inr ⟨a,j,l,by rw[e],by rw[e],hl,hs⟩,ZQ hsc (hb.trans hn)⟩
theorem pV{s:ByteArray}(h:bL s.data.toList=true):s.size<=8:=by unfold bL at h;simp only[eB,decide_eq_true_eq]at h;have:=h.1.2;rwa[fA]at this
theorem zk{s:ByteArray}(h:s.toList.isEmpty=true):s.size=0:=by rw[ByteArray.toList_eq,List.isEmpty_iff]at h;rw[<-fA,h];rfl
theorem Sm{s:ByteArray}(h:o9 s=true):s.size<=17:=by
 unfold o9 at h;simp only[eB,Bool.or_eq_true]at h;have h1:=pV h.1;unfold bC.preS at h1;unfold jW at h;cases hd:fB s with
 | none=>rw[hd]at h1;simpa using bS h1 (by decide)
 | some i=>
  rw[hd]at h h1;have hi:=Nu hd;rcases h.2 with h2|h2;·simp at h2
  ·have h3:=pV h2;simp at h1 h3;omega
theorem EZ(c:Env):∀(m:Nat) (x:Ex),dM m x=true->(∀y∈dL m x,Rb c.N (c.bO y.name) y.args.length)->c.qc m x
 | 0,_,h,_=>by simp[dM]at h
 | m+1,x,h,hc=>by
  have hp:∀y∈x.args,∀z∈dL m y,Rb c.N (c.bO z.name) z.args.length:=λy hy z hz=>hc z (by simp only[dL,cK,dS];exact Or.inr ⟨y,hy,hz⟩);simp only[dM]at h;by_cases h1:x.kind=1;·rw[if_pos h1]at h;simp only[eB,beq_iff_eq]at h;have hn:=zk h.1.2;have ha:x.args=[]:=qp.1 h.2;exact⟨by omega,λe=>by omega,λe=>by omega,λy hy=>by rw[ha]at hy;cases hy⟩
  ·rw[if_neg h1]at h;by_cases h2:x.kind=2;·rw[if_pos h2]at h;simp only[eB,beq_iff_eq]at h;have hn:=pV h.1.2;have ha:x.args=[]:=qp.1 h.2;exact⟨by omega,λe=>by omega,λe=>by omega,λy hy=>by rw[ha]at hy;cases hy⟩
   ·rw[if_neg h2]at h;by_cases h3:x.kind=3
    ·rw[if_pos h3]at h;simp only[eB,beq_iff_eq]at h;have hn:x.name.size<=17:=by
      have ho:=h.1.1.2;by_cases hs:x.name.size=1;·omega
      ·rw[Ku hs]at ho;cases ho
     exact⟨hn,λ_=>h.1.2,λe=>by omega,λy hy=>EZ c m y (iO.1 h.2 y hy) (hp y hy)⟩
    ·rw[if_neg h3]at h;by_cases h4:x.kind=4;·rw[if_pos h4]at h;simp only[eB,beq_iff_eq,decide_eq_true_eq]at h;exact⟨Sm h.1.1.2,λe=>by omega,λ_=>⟨h.1.2,hc x (by simp[dL,h4])⟩,λy hy=>EZ c m y (iO.1 h.2 y hy) (hp y hy)⟩
     ·rw[if_neg h4]at h;cases h
theorem Ms(c:Env):∀(m:Nat) (l:List St),fZ m l=true->(∀s∈aI.all m l,(∀y∈dL m s.e,Rb c.N (c.bO y.name) y.args.length)/\(s.kind=4->0<=c.pl s.name))->c.uE m l
 | 0,_,h,_=>by simp[fZ]at h
 | m+1,l,h,hc=>by
  intro s hs;rw[sW]at h;have hb:=iO.1 h s hs;unfold sG at hb;simp only[eB]at hb;obtain⟨⟨⟨hh,he⟩,ha⟩,hbb⟩:=hb;have hall:∀u,u=s\/u∈aI.all m s.a\/u∈aI.all m s.b->u∈aI.all (m+1) l:=λu hu=>by
   simp only[aI.all,aI.within,cK,dS,iy];refine⟨s,hs,?_⟩;rcases hu with h|h|h;·exact Or.inl (Or.inl h)
   ·exact Or.inl (Or.inr h)
   ·exact Or.inr h
  have hsub:∀u,(u=s\/u∈aI.all m s.a\/u∈aI.all m s.b)->(∀y∈dL m u.e,Rb c.N (c.bO y.name) y.args.length)/\(u.kind=4->0<=c.pl u.name):=λu hu =>⟨λy hy=>(hc u (hall u hu)).1 y (pU m (m+1) _ _ (bP _) hy),(hc u (hall u hu)).2⟩;unfold vB at hh;refine⟨?_,EZ c m s.e he (hsub s (Or.inl rfl)).1,λhk=>?_,(hsub s (Or.inl rfl)).2,Ms c m s.a ha λu hu=>hsub u (Or.inr (Or.inl hu)),Ms c m s.b hbb λu hu=>hsub u (Or.inr (Or.inr hu))⟩
  ·split at hh;·simp only[eB]at hh;exact pV hh.1.1
   ·split at hh;·have:=zk hh;omega
    ·split at hh;·simp only[eB]at hh;have:=zk hh.1;omega
     ·cases hh
  ·rw[if_pos hk]at hh;simp only[eB,beq_iff_eq]at hh;exact⟨qp.1 hh.2,qp.1 hh.1.2⟩
theorem Ia{c:Env}:∀(m:Nat) (x:Ex),c.qc m x->∀s∈cls m x,s.size<=17
 | 0,_,h,_,_=>False.elim h
 | m+1,x,h,s,hs=>by
  simp only[cls,cK,dS]at hs;rcases hs with hs|⟨y,hy,hs⟩
  ·split at hs;·rw[iy]at hs;subst hs;exact h.1
   ·cases hs
  ·exact Ia m y (h.2.2.2 y hy) s hs
theorem Dh{c:Env}:∀(m:Nat) (l:List St),c.uE m l->∀s∈jv m l,s.size<=17
 | 0,_,h,_,_=>False.elim h
 | m+1,l,h,s,hs=>by
  simp only[jv,cK,dS]at hs;obtain⟨t,ht,hs⟩:=hs;obtain⟨_,he,_,_,ha,hb⟩:=h t ht;rcases hs with(hs|hs)|hs;·exact Ia m _ he s hs
  ·exact Dh m _ ha s hs
  ·exact Dh m _ hb s hs
def iW(ss:List ByteArray)(Z:Nat->Nat->Bool)(x:Mo)(k:Nat)(known:List Mo)(aW:List (List Sc))(own:List Sc)(f:Fu):Env:=
 ⟨Z,ss.length,sQ Z ss.length,x.name,nD ss f.params x.vars,λs=>bD ss s,su x k known aW own⟩
theorem levV_lt{ss ps:List ByteArray}{vs:List Va}(hp:0<ss.length)(h:∀v∈vs,0<=bD ss v.level){s:ByteArray}{n:Nat}(hs:nD ss ps vs s=some n):n<ss.length:=by
 unfold nD at hs;split at hs;·cases hs
 ·obtain⟨v,hv,rfl⟩:=Kr.1 hs;have hm:=List.mem_reverse.1 (Nc hv);have h1:=h v hm;rcases Pk ss v.level with h2|h2;·omega
  ·rw[h2]at hp;simp at hp
theorem Pn{ss:List ByteArray}{G:Nat}{L:Nat->Nat}{Z:Nat->Nat->Bool}{x:Mo}{known:List Mo}{m:Nat}(hL:dD ss G L Z=0)(hN:NmOk ss x known m)(k:Nat)(aW:List (List Sc))(own:List Sc)(f:Fu):(iW ss Z x k known aW own f).Ok:=by have hok:=vM hL;have ho:=FC hok.order;exact⟨(Nv (vE ho.turn hok.meets) hok.pos).1,λs n hs=>levV_lt hok.pos hN.levs hs,vE ho hok.joins,hok.six⟩
structure FnOk(c:Env)(x:Mo)(k:Nat)(known:List Mo)(aW:List (List Sc))(own:List Sc)(m:Nat)(f:Fu):Prop where
 st:c.uE m f.body
 ex:c.qc m f.result
 means:∀s∈jv m f.body++cls m f.result,s.size<=17/\Ke x k known aW own s (c.bO s)
theorem Mt{ss:List ByteArray}{Z:Nat->Nat->Bool}{x:Mo}{known:List Mo}{m:Nat}(hN:NmOk ss x known m)(hE:qA m x=0){k:Nat}{aW:List (List Sc)}{own:List Sc}{f:Fu}(hf:x.aR[k]?=some f)(hk:fH ss.length known aW=true)(ho:jH ss.length (x.aR.take k) own=true):FnOk (iW ss Z x k known aW own f) x k known aW own m f:=by
 have hm:=gD hf;obtain⟨hb,hr⟩:=moE_ok hE f hm;have hc:=hN.calls k f hf;have hst:(iW ss Z x k known aW own f).uE m f.body:=Ms _ m f.body hb λs hs=>⟨λy hy=>(Sl hk ho (hc y (cK.2 (Or.inl (dS.2 ⟨s,hs,hy⟩))))).2,λh4=>hN.prints f hm s hs h4⟩;have hex:(iW ss Z x k known aW own f).qc m f.result:=EZ _ m f.result hr λy hy=>(Sl hk ho (hc y (cK.2 (Or.inr hy)))).2;refine⟨hst,hex,λs hs=>?_⟩;obtain⟨y,hy,rfl⟩:=Ki hs;refine⟨?_,(Sl hk ho (hc y hy)).1⟩;rcases cK.1 hs with h|h;·exact Dh m f.body hst _ h
 ·exact Ia m f.result hex _ h
end Fl
namespace Rn
def leS(a b:ByteArray):Prop:=a.data.toList<=b.data.toList
def ltS(a b:ByteArray):Prop:=leS a b/\a≠b
theorem Po{a b:ByteArray}(h:leS a b)(k:leS b a):a=b:=by have e:=List.le_antisymm h k;obtain⟨⟨x⟩⟩:=a;obtain⟨⟨y⟩⟩:=b;simp at e;rw[e]
theorem V6(l:List ByteArray):(jY l).Perm l:=by
 unfold jY;have h:=(List.mergeSort_perm (l.map (·.data.toList)) (λx y=>decide (x<=y))).map (λb:List UInt8=>(⟨b.toArray⟩:ByteArray));refine h.trans (List.Perm.of_eq ?_);rw[List.map_map];have:((λb:List UInt8=>(⟨b.toArray⟩:ByteArray)) ∘ λx:ByteArray=>x.data.toList)=id:=by funext x;cases x;simp
 rw[this,List.map_id]
theorem Bb(l:List ByteArray):(jY l).Pairwise leS:=by unfold jY;rw[List.pairwise_map];have h:=List.pairwise_mergeSort (le:=λx y:List UInt8=>decide (x<=y)) (λa b c h1 h2=>by simp only[decide_eq_true_eq]at *;exact List.le_trans h1 h2) (λa b=>by simp only[Bool.or_eq_true,decide_eq_true_eq];exact List.le_total a b) (l.map (·.data.toList));refine h.imp (λ{a b} hab=>?_);unfold leS;simpa using hab
theorem Ib(l:List ByteArray)(h:l.Pairwise leS):(gK l).Pairwise ltS:=by
 have key:∀j,j<=l.length->(gK (l.take j)).Pairwise ltS:=λj=>by
  induction j with
  | zero=>intro _;simp[gK]
  | succ j ih=>
   intro hj;have hx:l[j]?=some l[j]:=aU (by omega);rw[wO hx];have hp:=ih (by omega);have hle:∀z∈gK (l.take j),leS z l[j]:=λz hz=>by rw[vQ]at hz;obtain⟨i,hi,e⟩:=eX.1 hz;rw[d9]at hi;rw[List.getElem_take]at e;rw[<-e];exact Gt.1 h i j (by omega) (by omega) (by omega)
   unfold yK;split
   ·rename_i y hy;split;·exact hp
    ·rename_i hs;rw[Cy];refine⟨hp,by simp,λz hz x hx'=>?_⟩;simp at hx';subst hx';refine⟨hle z hz,λe=>hs ?_⟩;have hyl:leS z y:=by
      obtain⟨pre,hpre⟩:=List.getLast?_eq_some_iff.1 hy;rw[hpre]at hz hp;rcases cK.1 hz with h1|h1;·exact((Cy.1 hp).2.2 z h1 y (by simp)).1
      ·simp at h1;subst h1;exact List.le_refl _
     have hym:y∈gK (l.take j):=Gw hy;have:=Po (hle y hym) (by rw[<-e];exact hyl);exact dX.2 this.symm
   ·rename_i hn;rw[List.getLast?_eq_none_iff]at hn;rw[hn];simp
 have:=key l.length (bM _);rwa[gG]at this
theorem zm:∀{l1 l2:List ByteArray},l1.Pairwise ltS->l2.Pairwise ltS->(∀x,x∈l1↔x∈l2)->l1=l2
 | [],[],_,_,_=>rfl
 | [],y::_,_,_,h=>absurd ((h y).2 (by simp)) (by simp)
 | x::_,[],_,_,h=>absurd ((h x).1 (by simp)) (by simp)
 | x::r,y::s,h1,h2,h=>by
  have a1:=xO.1 h1;have a2:=xO.1 h2;have hxy:x=y:=by
   rcases eY.1 ((h x).1 (by simp))with e|hx;·exact e
   ·rcases eY.1 ((h y).2 (by simp))with e|hy;·exact e.symm
    ·exact Po (a1.1 y hy).1 (a2.1 x hx).1
  subst hxy;congr 1;refine zm a1.2 a2.2 λz=>?_;constructor
  ·intro hz;rcases eY.1 ((h z).1 (NY _ hz))with e|hz';·subst e;exact absurd rfl (a1.1 z hz).2
   ·exact hz'
  ·intro hz;rcases eY.1 ((h z).2 (NY _ hz))with e|hz';·subst e;exact absurd rfl (a2.1 z hz).2
   ·exact hz'
theorem srt_cpt{D L:List ByteArray}(hd:D.Nodup)(h:∀t,t∈D↔t∈L):jY D=gK (jY L):=by refine zm ?_ (Ib _ (Bb L)) (λt=>by rw[vR,h,vQ,vR]);have h1:=Bb D;have h2:(jY D).Nodup:=(V6 D).nodup_iff.2 hd;exact h1.and h2
end Rn
theorem Ic(m:Nat)(w:World)(vn vl vi vv vf vk:Value)(ss:List ByteArray)(G:Nat)(L:Nat->Nat)(Z:Nat->Nat->Bool)(x:Mo)(known:List Mo)(hS:Strs w vn ss)(hR:Qb w vl G L Z)(h:jK w m (.agg #[.string x.name,vi,vv,vf]) x)(hK:kV w m vk known)(hw:uM m x<=1048576)(hks:∀y∈known,uM m y<=1048576)(ht:Tab w):Calls prog 72 #[.agg #[vn,vl],.agg #[.string x.name,vi,vv,vf],vk] w λe w'=>e=.returned (.int .i64 (y8 (dD ss G L Z) m x known))/\Below w.heap.size w w':=by
 have HL:=hide (λwx (hb:Below w.heap.size w wx)=>Jr wx vn vl ss G L Z (hS.below hb) (hR.below hb));have HM:=hide (λwx (hb:Below w.heap.size w wx)=>Ho m wx _ x (h.below hb) hw (ht.below hb));have HT:=hide ht;have HKS:=hide hks;obtain⟨hI,hV,hF⟩:=h.split;obtain⟨an,bn,on,cn,rfl,-⟩:=hS;obtain⟨ai,bi,oi,ci,rfl,-⟩:=hI;obtain⟨av,bv,ov,cv,rfl,-⟩:=hV;obtain⟨af,bf,of,cf,rfl,-⟩:=hF;obtain⟨ak,bk,ok,ck,rfl,hak,hlk,hck⟩:=hK;have qM:Hid (MoEl w m bk ok known):=hck;have Nt:=hide hak;obtain⟨nk,hnk⟩:=aG known.length;have Kt:=hide hnk;rw[<-hnk]at hlk Nt ⊢;obtain⟨e0,he0⟩:=aG (dD ss G L Z);rw[<-he0]at HL ⊢;obtain⟨e1,he1⟩:=aG (qA m x);rw[<-he1]at HM;have HE:Hid (y8 e0 m x known=if e0=0 then (if e1=0 then Mq m known else e1)else e0):=hide (by rw[he1];rfl);obtain⟨R,hRR⟩:=aG (y8 e0 m x known);rw[<-hRR]at HE ⊢;generalize x.imports.length=ni at *;generalize x.vars.length=nv at *;generalize x.aR.length=nf at *;generalize ss.length=nn at *;obtain⟨vl',hvl⟩:∃v,v=vl:=⟨_,rfl⟩;obtain⟨b0,b1,hb0⟩:=al2 w (.cells #[.slice an nn cn,vl] 34) (.cells #[.string x.name,.slice ai ni ci,.slice av nv cv,.slice af nf cf] 26);have Qh:=hide hb0;have q0:=(aj b0 0).trans (rfl:_=some (Value.slice an nn cn));have q1:=(aj b0 1).trans (rfl:_=some vl);have r0:=(aj b1 0).trans (rfl:_=some (Value.string x.name));have r1:=(aj b1 1).trans (rfl:_=some (Value.slice ai ni ci));have r2:=(aj b1 2).trans (rfl:_=some (Value.slice av nv cv));have r3:=(aj b1 3).trans (rfl:_=some (Value.slice af nf cf));clear h hR ht hks hak hck hnk he0 he1 hRR hvl b0 b1 hb0;go_enter func72,ntmps72;go_wp2_with fail;generalize ((w.alloc (.cells #[.slice an nn cn,vl] 34)).alloc (.cells #[.string x.name,.slice ai ni ci,.slice av nv cv,.slice af nf cf] 26))=W0 at *;refine(HL _ Qh).mono ?_;rintro e w1 ⟨rfl,hb1⟩;have HB1:=hide (up Qh hb1);replace r0:=aA r0 hb1;replace r1:=aA r1 hb1;replace r2:=aA r2 hb1;replace r3:=aA r3 hb1;clear hb1 q0 q1;by_cases h0:e0=0
 ·subst h0;rw[if_pos rfl]at HE;go_wp2_with fail;refine(HM _ HB1).mono ?_;rintro e w2 ⟨rfl,hb2⟩;have HB2:=hide (up HB1 hb2);clear hb2 r0 r1 r2 r3;by_cases h1:e1=0
  ·subst h1;rw[if_pos rfl]at HE;go_wp2_with fail;go_loopw[24] (λi wr=>∃j:Nat,j<=nk/\i=.int .i64 j/\(∀(q:Nat) y,q<j->known[q]?=some y->qA m y=0)/\Below w.heap.size w wr) (λi _=>nk - (intOf i).toNat);case atStart=>exact⟨0,bJ _,rfl,λq y hq=>absurd hq (dY _),HB2⟩
   case round=>
    obtain⟨j,hj,rfl,hall,hnx⟩:=hrel;have cO:=hide hall;have bR:=hide hnx;clear hall;by_cases hjl:j<nk
    ·obtain⟨y,hy⟩:∃y,known[j]?=some y:=⟨_,aU (by rw[<-Kt];exact hjl)⟩;obtain⟨yi,yv,yf,g0,g1,g2,g3,TJ⟩:=qM j y hy;obtain rfl:=Nt (by omega);have HY:=hide hy;replace g0:=aA g0 hnx;replace g1:=aA g1 hnx;replace g2:=aA g2 hnx;replace g3:=aA g3 hnx;have dw:=hide (aB wr (.cells #[.string y.name,yi,yv,yf] 26));have z0:=FJ wr (.string y.name) yi yv yf 26;have z1:=DI wr (.string y.name) yi yv yf 26;have z2:=DJ wr (.string y.name) yi yv yf 26;have z3:=Dy wr (.string y.name) yi yv yf 26;have HCY:=hide (Ho m _ _ y (TJ.below (up hnx dw)) (HKS y (gD hy)) (HT.below (up hnx dw)));obtain⟨hyI,hyV,hyF⟩:=TJ.split;obtain⟨a1,b1,o1,c1,rfl,-⟩:=hyI;obtain⟨a2,b2,o2,c2,rfl,-⟩:=hyV;obtain⟨a3,b3,o3,c3,rfl,-⟩:=hyF;obtain⟨ey,hey⟩:=aG (qA m y);have WT:=hide hey;rw[<-hey]at HCY;generalize y.imports.length=n1 at *;generalize y.vars.length=n2 at *;generalize y.aR.length=n3 at *;clear hy TJ hnx hey;go_wp2_with fail;refine HCY.mono ?_;rintro e w5 ⟨rfl,hb5⟩;have dB:=hide (up (up bR dw) hb5);clear hb5 g0 g1 g2 g3 z0 z1 z2 z3;by_cases h2:ey=0
     ·have HE2:Hid (qA m y=0):=hide (by rw[<-WT];exact h2);subst h2;go_wp2_with fail;go_roundw;case rel=>exact⟨j+1,by omega,by go_num,λq z hq hz=>by
       by_cases e:q=j;·subst e;rw[HY]at hz;cases hz;exact HE2
       ·exact cO q z (by omega) hz,dB⟩
      case measure=>simp[intOf];omega
     ·have h2':(ey==0)=false:=by simp[h2]
      have yC:Hid (R=ey):=hide (by rw[HE,WT];exact H8 HY cO (by rw[<-WT];exact h2));clear h2;go_wp2_with fail;go_ret;exact⟨by rw[yC];rfl,dB⟩
    ·have yC:Hid (R=0):=hide (by rw[HE];refine Pg λy hy=>?_;obtain⟨i,hi,rfl⟩:=eX.1 hy;exact cO i _ (by have:=Kt.out;omega) (aU hi));clear hnx;go_wp2_with fail;go_ret;exact⟨by rw[yC];rfl,bR⟩
  ·have h1':(e1==0)=false:=by simp[h1]
   rw[if_neg h1]at HE;clear h1;go_wp2_with fail;go_ret;exact⟨by rw[HE];rfl,HB2⟩
 ·have h0':(e0==0)=false:=by simp[h0]
  rw[if_neg h0]at HE;clear h0;go_wp2_with fail;go_ret;exact⟨by rw[HE];rfl,HB1⟩
theorem Sn(m:Nat)(w:World)(vn vl vi vv vf vk:Value)(ss:List ByteArray)(G:Nat)(L:Nat->Nat)(Z:Nat->Nat->Bool)(x:Mo)(known:List Mo)(hS:Strs w vn ss)(hR:Qb w vl G L Z)(h:jK w m (.agg #[.string x.name,vi,vv,vf]) x)(hK:kV w m vk known)(hw:uM m x<=1048576)(hks:∀y∈known,uM m y<=1048576)(ht:Tab w):Calls prog 13 #[.agg #[vn,vl],.agg #[.string x.name,vi,vv,vf],vk] w λe w'=>e=.returned (.int .i64 (y8 (dD ss G L Z) m x known))/\Below w.heap.size w w':=by
 have HL:=hide (λwx (hb:Below w.heap.size w wx)=>Ma wx vn vl ss G L Z (hS.below hb) (hR.below hb));have HM:=hide (λwx (hb:Below w.heap.size w wx)=>D5 m wx _ x (h.below hb) hw (ht.below hb));have HT:=hide ht;have HKS:=hide hks;obtain⟨hI,hV,hF⟩:=h.split;obtain⟨an,bn,on,cn,rfl,-⟩:=hS;obtain⟨ai,bi,oi,ci,rfl,-⟩:=hI;obtain⟨av,bv,ov,cv,rfl,-⟩:=hV;obtain⟨af,bf,of,cf,rfl,-⟩:=hF;obtain⟨ak,bk,ok,ck,rfl,hak,hlk,hck⟩:=hK;have qM:Hid (MoEl w m bk ok known):=hck;have Nt:=hide hak;obtain⟨nk,hnk⟩:=aG known.length;have Kt:=hide hnk;rw[<-hnk]at hlk Nt ⊢;obtain⟨e0,he0⟩:=aG (dD ss G L Z);rw[<-he0]at HL ⊢;obtain⟨e1,he1⟩:=aG (qA m x);rw[<-he1]at HM;have HE:Hid (y8 e0 m x known=if e0=0 then (if e1=0 then Mq m known else e1)else e0):=hide (by rw[he1];rfl);obtain⟨R,hRR⟩:=aG (y8 e0 m x known);rw[<-hRR]at HE ⊢;generalize x.imports.length=ni at *;generalize x.vars.length=nv at *;generalize x.aR.length=nf at *;generalize ss.length=nn at *;obtain⟨vl',hvl⟩:∃v,v=vl:=⟨_,rfl⟩;obtain⟨b0,b1,hb0⟩:=al2 w (.cells #[.slice an nn cn,vl] 34) (.cells #[.string x.name,.slice ai ni ci,.slice av nv cv,.slice af nf cf] 26);have Qh:=hide hb0;have q0:=(aj b0 0).trans (rfl:_=some (Value.slice an nn cn));have q1:=(aj b0 1).trans (rfl:_=some vl);have r0:=(aj b1 0).trans (rfl:_=some (Value.string x.name));have r1:=(aj b1 1).trans (rfl:_=some (Value.slice ai ni ci));have r2:=(aj b1 2).trans (rfl:_=some (Value.slice av nv cv));have r3:=(aj b1 3).trans (rfl:_=some (Value.slice af nf cf));clear h hR ht hks hak hck hnk he0 he1 hRR hvl b0 b1 hb0;go_enter func13,ntmps13;go_wp2_with fail;generalize ((w.alloc (.cells #[.slice an nn cn,vl] 34)).alloc (.cells #[.string x.name,.slice ai ni ci,.slice av nv cv,.slice af nf cf] 26))=W0 at *;refine(HL _ Qh).mono ?_;rintro e w1 ⟨rfl,hb1⟩;have HB1:=hide (up Qh hb1);replace r0:=aA r0 hb1;replace r1:=aA r1 hb1;replace r2:=aA r2 hb1;replace r3:=aA r3 hb1;clear hb1 q0 q1;by_cases h0:e0=0
 ·subst h0;rw[if_pos rfl]at HE;go_wp2_with fail;refine(HM _ HB1).mono ?_;rintro e w2 ⟨rfl,hb2⟩;have HB2:=hide (up HB1 hb2);clear hb2 r0 r1 r2 r3;by_cases h1:e1=0
  ·subst h1;rw[if_pos rfl]at HE;go_wp2_with fail;go_loopw[9] (λi wr=>∃j:Nat,j<=nk/\i=.int .i64 j/\(∀(q:Nat) y,q<j->known[q]?=some y->qA m y=0)/\Below w.heap.size w wr) (λi _=>nk - (intOf i).toNat);case atStart=>exact⟨0,bJ _,rfl,λq y hq=>absurd hq (dY _),HB2⟩
   case round=>
    obtain⟨j,hj,rfl,hall,hnx⟩:=hrel;have cO:=hide hall;have bR:=hide hnx;clear hall;by_cases hjl:j<nk
    ·obtain⟨y,hy⟩:∃y,known[j]?=some y:=⟨_,aU (by rw[<-Kt];exact hjl)⟩;obtain⟨yi,yv,yf,g0,g1,g2,g3,TJ⟩:=qM j y hy;obtain rfl:=Nt (by omega);have HY:=hide hy;replace g0:=aA g0 hnx;replace g1:=aA g1 hnx;replace g2:=aA g2 hnx;replace g3:=aA g3 hnx;have HCY:=hide (D5 m wr _ y (TJ.below hnx) (HKS y (gD hy)) (HT.below hnx));obtain⟨hyI,hyV,hyF⟩:=TJ.split;obtain⟨a1,b1,o1,c1,rfl,-⟩:=hyI;obtain⟨a2,b2,o2,c2,rfl,-⟩:=hyV;obtain⟨a3,b3,o3,c3,rfl,-⟩:=hyF;obtain⟨ey,hey⟩:=aG (qA m y);have WT:=hide hey;rw[<-hey]at HCY;generalize y.imports.length=n1 at *;generalize y.vars.length=n2 at *;generalize y.aR.length=n3 at *;clear hy TJ hnx hey;go_wp2_with fail;refine HCY.mono ?_;rintro e w5 ⟨rfl,hb5⟩;have dB:=hide (up bR hb5);clear hb5 g0 g1 g2 g3;by_cases h2:ey=0
     ·have HE2:Hid (qA m y=0):=hide (by rw[<-WT];exact h2);subst h2;go_wp2_with fail;go_roundw;case rel=>exact⟨j+1,by omega,by go_num,λq z hq hz=>by
       by_cases e:q=j;·subst e;rw[HY]at hz;cases hz;exact HE2
       ·exact cO q z (by omega) hz,dB⟩
      case measure=>simp[intOf];omega
     ·have h2':(ey==0)=false:=by simp[h2]
      have yC:Hid (R=ey):=hide (by rw[HE,WT];exact H8 HY cO (by rw[<-WT];exact h2));clear h2;go_wp2_with fail;go_ret;exact⟨by rw[yC];rfl,dB⟩
    ·have yC:Hid (R=0):=hide (by rw[HE];refine Pg λy hy=>?_;obtain⟨i,hi,rfl⟩:=eX.1 hy;exact cO i _ (by have:=Kt.out;omega) (aU hi));clear hnx;go_wp2_with fail;go_ret;exact⟨by rw[yC];rfl,bR⟩
  ·have h1':(e1==0)=false:=by simp[h1]
   rw[if_neg h1]at HE;clear h1;go_wp2_with fail;go_ret;exact⟨by rw[HE];rfl,HB2⟩
 ·have h0':(e0==0)=false:=by simp[h0]
  rw[if_neg h0]at HE;clear h0;go_wp2_with fail;go_ret;exact⟨by rw[HE];rfl,HB1⟩
end Go.Proofs.YtfnboapebijcpaaGreatDoor
