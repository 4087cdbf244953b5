/- What an expression hangs on, the document's -/
import Derived.Test.YtfnboapebijcpaaGreatDoorMZBI
set_option maxHeartbeats 16000000
set_option maxRecDepth 100000
namespace Go.Proofs.YtfnboapebijcpaaGreatDoor
open Fl Sv
open Go.Proofs.Tryz
open Go.RowKit Go.Maps Go.WideMaps
theorem wE:∀m,HdOk m:=by
 intro m;induction m with
 | zero=>intro w r bG vc sP ve c0 c1 c2 c3 x hP;exact False.elim hP.2.1
 | succ m ih=>
  intro w r bG vc sP ve c0 c1 c2 c3 x hP;by_cases h2:x.kind=2;·exact hd_name m ih w r bG vc sP ve c0 c1 c2 c3 x hP h2
  ·by_cases h3:x.kind=3;·exact hd_op m ih w r bG vc sP ve c0 c1 c2 c3 x hP h3
   ·by_cases h4:x.kind=4;·exact hd_call m ih w r bG vc sP ve c0 c1 c2 c3 x hP h4
    ·exact hd_other m ih w r bG vc sP ve c0 c1 c2 c3 x hP h2 h3 h4
namespace Fl
def lV(nl vs:List ByteArray)(j:Nat):List Int:=((List.range j).filter λi=>has vs (nl.getD i ByteArray.empty)).map λi:Nat=>(i:Int)
theorem SN(nl vs:List ByteArray):lV nl vs nl.length=nums nl vs:=rfl
theorem PO(nl vs:List ByteArray):lV nl vs 0=[]:=rfl
theorem PS{nl vs:List ByteArray}{j:Nat}{s:ByteArray}(h:nl[j]?=some s):lV nl vs (j+1)=if has vs s then lV nl vs j++[(j:Int)]else lV nl vs j:=by
 unfold lV;rw[rA,LH,cZ];have e:nl.getD j ByteArray.empty=s:=by rw[List.getD,h];rfl
 cases hh:has vs s;·rw[List.filter_cons_of_neg (by rw[e,hh];simp)];simp
 ·rw[List.filter_cons_of_pos (by rw[e,hh])];simp
theorem SS(nl vs:List ByteArray)(j:Nat):(lV nl vs j).length<=j:=by unfold lV;rw[cB];exact bS (List.length_filter_le _ _) (by rw[qE];exact bM _)
end Fl
theorem cellI1D(w:World)(z:Int):(w.alloc (.cells #[.int .i64 z] 3)).cell? ⟨w.heap.size,0,none⟩=some (.int .i64 z):=by simp[go_sem]
theorem SV{w wx wy:World}{n:Nat}{v:Value}{l:List Int}(h:Below n w wx)(hn:n<=w.heap.size)(ho:fD wx n v l)(hg:wx.grownBy wy v.ownBlock):Below n w wy:=
 ⟨hg.os.trans h.os,hg.tape.trans h.tape,hg.output.trans h.output,bS h.size hg.size,λk hk=>by
  rw[hg.block k (ql (ql hk hn) h.size) (λe=>by
   rcases ho.2 with⟨rfl,_⟩|⟨g,cap,cur,rfl,hB,_⟩;·simp[Value.ownBlock]at e
   ·simp[Value.ownBlock]at e;omega)]
  exact h.block k hk⟩
theorem fD.iA{w:World}{B:Nat}{v:Value}{l:List Int}(h:fD w B v l):∃a c,v=.slice a l.length c:=by
 rcases h.2 with⟨h1,h2⟩|⟨g,cap,cur,h1,_⟩;·exact⟨none,0,by rw[h1,h2]⟩
 ·exact⟨_,_,h1⟩
theorem fD.Dk{w:World}{n n':Nat}{v:Value}{l:List Int}(h:fD w n v l)(hn:n'<=n):fD w n' v l:=by
 refine⟨h.1,?_⟩;rcases h.2 with h|⟨g,cap,cur,h1,h2,h3⟩;·exact Or.inl h
 ·exact Or.inr ⟨g,cap,cur,h1,bS hn h2,h3⟩
theorem qX(w:World)(r:Rx)(bG vc sP ve va:Value)(a:Hg)(nl:List ByteArray)(h:EH w r bG vc sP ve)(hn:Strs w bG nl)(hl:nl.length<=1048576)(ha:Strs w va a.1):Calls prog 97 #[.pointer (some ⟨r.p,0,none⟩),.agg #[va,.int .i64 0,.int .i64 (a.2:Nat)]] w λe w'=>∃v,e=.returned v/\Hid (fD w' w.heap.size v (Fl.nums nl a.1)/\Below w.heap.size w w'):=by
 obtain⟨W,hW⟩:∃W,W=w.alloc (.cells #[va,.int .i64 0,.int .i64 (a.2:Nat)] 181):=⟨_,rfl⟩;have hBW:Below w.heap.size w W:=by rw[hW];exact aB _ _
 have hK0:W.heap[w.heap.size]?=some (.cells #[va,.int .i64 0,.int .i64 (a.2:Nat)] 181 (0,0)):=by rw[hW];exact aJ _ _
 have eO:=hide hBW;have gB:=hide hK0;have HKR:=hide (aN h.blk hBW);have RS:=hide (hn.below hBW);have nY:=hide (λwx (hx:Below W.heap.size W wx) s=>dh wx va a.1 s (ha.below (up hBW hx)));simp only[sD]at nY;obtain⟨na,nb,no,nc,hne,hna,hnl,hnz,hnc⟩:=hn.below hBW;have kZ:=hide hna;have HNC:=hide hnc;obtain⟨aa,ab,ao,ac,hae,-⟩:=ha;subst hne;subst hae;obtain⟨n,hnn⟩:=aG nl.length;have Zk:=hide hnn;rw[<-hnn]at HKR kZ hl HNC;obtain⟨q,hq⟩:=aG a.1.length;rw[<-hq]at gB nY hW ⊢;have F7:Hid (w.heap.size<=W.heap.size):=hide hBW.size;clear h hn hna hnc hnz hnl hBW hK0 hnn hq;go_enter func97,ntmps97;go_upto_region 1 with fail;rw[<-hW];clear hW;go_wp2_with fail;go_loopw[5,6] (λv i wx=>∃(j:Nat),j<=n/\i=.int .i64 j/\Hid (fD wx W.heap.size v (lV nl a.1 j)/\Below W.heap.size W wx)) (λ_ i _=>n - (intOf i).toNat);case atStart=>exact⟨0,bJ _,rfl,hide ⟨by rw[PO];exact nP _ _ _ _,aX _ _⟩⟩
 case round=>
  rename_i v _;obtain⟨j,hj,rfl,HI⟩:=hrel;obtain⟨hown,hbel⟩:=HI.out;have HOWN:=hide hown;have pO:=hide hbel;have c11:wr.cell? ⟨r.p,11,none⟩=some (.slice na n nc):=(aj (aN HKR hbel) 11).trans rfl;have a0:wr.cell? ⟨w.heap.size,0,none⟩=some (.slice aa q ac):=(aj (aN gB hbel) 0).trans rfl;obtain⟨oa,oc,hv⟩:=hown.iA;obtain⟨L,hL⟩:=aG ((lV nl a.1 j).length);have HLL:=hide hL;rw[<-hL]at hv;subst hv;clear hown hbel HI hL;by_cases hjl:j<n
  ·obtain⟨s,hs⟩:∃s,nl[j]?=some s:=⟨_,aU (by rw[<-Zk];exact hjl)⟩;have g0:=HNC j hjl;rw[rJ,hs,kr]at g0;obtain rfl:=kZ (by omega);replace g0:=aA g0 pO;have uH:=hide (PS (vs:=a.1) hs);have mE:=hide (λq os=>nY (gn wr q os) (up pO (aS wr q os)) s);have b0:=aM a0;have b1:=aM c11;have b2:=aM g0;clear hs;cases hh:Fl.has a.1 s with
   | false=>
    rw[hh]at uH mE;clear hh;go_wp2_with fail;refine aO (by kernel_rfl) (by kernel_rfl) ?_;repeat(quiet_step ((exact Calls.y9 (mE _ _))))
    refine wpQuiet_nil ?_;intro w5 hw';obtain⟨⟨nq,osq⟩,hw''⟩:=hw';have dw:=hide (show Below wr.heap.size wr w5 by rw[hw''];exact aS wr nq osq);clear hw'' b0 b1 b2 g0 c11 a0 mE;go_wp2_with fail;go_roundw;case rel=>exact⟨j+1,by omega,by go_num,hide ⟨by rw[uH];exact own_below HOWN dw,up pO dw⟩⟩
    case measure=>simp[intOf];omega
   | true=>
    rw[hh]at uH mE;clear hh;go_wp2_with fail;refine aO (by kernel_rfl) (by kernel_rfl) ?_;repeat(quiet_step ((exact Calls.y9 (mE _ _))))
    refine wpQuiet_nil ?_;intro w5 hw';obtain⟨⟨nq,osq⟩,hw''⟩:=hw';have hb5:Below wr.heap.size wr w5:=by rw[hw''];exact aS wr nq osq
    have dw:=hide (up pO hb5);have HO5:Hid (fD w5 W.heap.size (.slice oa L oc) (lV nl a.1 j)):=hide (own_below HOWN hb5);have kK:Hid ((lV nl a.1 j).length<=1048576):=hide (by have:=SS nl a.1 j;omega);clear hw'' b0 b1 b2 g0 c11 a0 mE hb5
    go_wp2_with (first
     | (at_builtin;refine zO rfl _ _ rfl W.heap.size _ (lV nl a.1 j) rfl (own_below HO5 (aB _ _)) _ (j:Int) rfl (cellI1D _ _) kK (bS dw.size (aB _ _).size) ?_;intro v7 w7 qy pK;have HO7:=hide qy;have iw:=hide (SV (up dw (aB _ _)) (bM _) (own_below HO5 (aB _ _)) pK);clear qy pK)
     | fail)
    go_roundw;case rel=>exact⟨j+1,by omega,by go_num,hide ⟨by rw[uH];exact HO7,iw⟩⟩
    case measure=>simp[intOf];omega
  ·obtain rfl:j=n:=by omega
   have HAL:Hid (lV nl a.1 j=Fl.nums nl a.1):=hide (by rw[Zk,SN]);go_wp2_with fail;go_ret;refine⟨_,rfl,hide ⟨?_,up eO pO⟩⟩;rw[<-HAL];exact fD.Dk HOWN F7
structure Q4 where
 nm:Value
 co:Value
 sk:Value
 ef:Value
def Q4.has(s:Q4)(k:Nat):Prop:=s.nm.ownBlock=some k\/s.co.ownBlock=some k\/s.sk.ownBlock=some k\/s.ef.ownBlock=some k
structure Fq(p:Nat)(s s':Q4)(w w':World):Prop where
 os:w'.os=w.os
 tape:w'.tape=w.tape
 output:w'.output=w.output
 size:w.heap.size<=w'.heap.size
 block:∀k,k<w.heap.size->k≠p->¬s.has k->w'.heap[k]?=w.heap[k]?
 fresh:∀k,s'.has k->s.has k\/w.heap.size<=k
theorem Fq.of_below{p:Nat}{s:Q4}{w w':World}(h:Below w.heap.size w w'):Fq p s s w w':=⟨h.os,h.tape,h.output,h.size,λk hk _ _=>h.block k hk,λ_ h=>Or.inl h⟩
theorem Fq.trans{p:Nat}{s s' s'':Q4}{w w' w'':World}(h:Fq p s s' w w')(h':Fq p s' s'' w' w''):Fq p s s'' w w'':=
 ⟨h'.os.trans h.os,h'.tape.trans h.tape,h'.output.trans h.output,bS h.size h'.size,λk hk hp hs=>by
  rw[h'.block k (ql hk h.size) hp (λe=>by rcases h.fresh k e with e|e;exact hs e;omega)];exact h.block k hk hp hs,λk hk=>by
  rcases h'.fresh k hk with e|e;·exact h.fresh k e
  ·exact Or.inr (bS h.size e)⟩
structure lH(w0 w:World)(r:Rx)(s:Q4)(nl E:List ByteArray)(cs:List Co)(sk:List Si):Prop where
 ok:EF w0 r
 blk:w.heap[r.p]?=some (.cells (qI r s.nm s.co s.sk s.ef) 174 (0,0))
 new:w0.heap.size<=r.p
 base:Below w0.heap.size w0 w
 names:Own w w0.heap.size s.nm nl
 fM:Own w w0.heap.size s.ef E
 apart:∀k,s.nm.ownBlock=some k->s.ef.ownBlock≠some k
 cons:gP Qm w w0.heap.size 179 4 s.co cs
 sinks:gP Uh w w0.heap.size 193 6 s.sk sk
section
variable {w0 w w' : World} {r : Rx} {s : Q4} {nl E : List ByteArray} {cs : List Sv.Co} {sk : List Si}
theorem lH.rc(h:lH w0 w r s nl E cs sk):EH w r s.nm s.co s.sk s.ef:=⟨h.blk,h.ok.below h.base⟩
theorem lH.below(h:lH w0 w r s nl E cs sk)(hb:Below w.heap.size w w'):lH w0 w' r s nl E cs sk:=
 ⟨h.ok,aN h.blk hb,h.new,up h.base hb,own_below h.names hb,own_below h.fM hb,h.apart,h.cons.below hb λ_ _ hc=>hc.mono λ_ _ hi=>hi.below hb,h.sinks.below hb λ_ _ hc=>hc.mono λ_ _ hi=>hi.below hb⟩
theorem Dn{w w':World}{n:Nat}{v:Value}{l:List ByteArray}(h:Own w n v l)(hb:∀k,v.ownBlock=some k->w'.heap[k]?=w.heap[k]?):Own w' n v l:=by
 obtain⟨h0,h1⟩:=h;refine⟨h0,?_⟩;rcases h1 with h1|⟨g,cap,cur,hv,hg,hh,q⟩;·exact Or.inl h1
 ·exact Or.inr ⟨g,cap,cur,hv,hg,by rw[hb g (by rw[hv];rfl)];exact hh,q⟩
theorem lH.putNm{w1:World}{g L cap:Nat}{t:ByteArray}(h:lH w0 w r s nl E cs sk)(hown:Own w1 w0.heap.size (.slice (some ⟨g,0,none⟩) L cap) (nl++[t]))(hg:w.grownBy w1 s.nm.ownBlock)(He:s.nm.ownBlock=some g\/g=w.heap.size):w1.heap[r.p]?=some (.cells (qI r s.nm s.co s.sk s.ef) 174 (0,0))/\lH w0 (w1.setCell ⟨r.p,11,none⟩ (.slice (some ⟨g,0,none⟩) L cap)) r { s with nm:=.slice (some ⟨g,0,none⟩) L cap } (nl++[t]) E cs sk/\Fq r.p s { s with nm:=.slice (some ⟨g,0,none⟩) L cap } w (w1.setCell ⟨r.p,11,none⟩ (.slice (some ⟨g,0,none⟩) L cap)):=by
 have hne:∀(p:Nat) cs t,w.heap[p]?=some (.cells cs t (0,0))->t≠9->w1.heap[p]?=some (.cells cs t (0,0)):=λp cs t hp ht=>by
  rw[hg.block p (block_lt hp) (λe=>?_)];·exact hp
  ·obtain⟨cur,hc⟩:=h.names.typ p e.symm;rw[hp]at hc;simp at hc;exact ht hc.2
 have hb1:=hne r.p _ _ h.blk (by decide);have hit:∀v l,bq w v l->bq (w1.setCell ⟨r.p,11,none⟩ (.slice (some ⟨g,0,none⟩) L cap)) v l:=λv l hi=>(hi.grown hg (λk e=>by obtain⟨cur,hc⟩:=h.names.typ k e;exact⟨cur,_,hc,by decide⟩)).nK hb1 (by decide) 11 _;have hoth:∀(p:Nat) cs t,w.heap[p]?=some (.cells cs t (0,0))->t≠9->t≠174->(w1.setCell ⟨r.p,11,none⟩ (.slice (some ⟨g,0,none⟩) L cap)).heap[p]?=some (.cells cs t (0,0)):=λp cs t hp ht ht'=>by refine aV (hne p cs t hp ht) (λe=>?_) _;subst e;rw[h.blk]at hp;simp at hp;exact ht' hp.2.symm
 refine⟨hb1,⟨h.ok,(aQ hb1 11 _).trans rfl,h.new,(zw h.base h.names hg).setCell (p:=⟨r.p,11,none⟩) h.new _,hown.wC hb1 (by decide) _,(Dn h.fM (λk hk=>?_)).wC hb1 (by decide) _,λk hk=>?_,h.cons.keep (λj cur _ hh=>hoth j _ _ hh (by decide) (by decide)) (λ_ _ hc=>hc.mono hit),h.sinks.keep (λj cur _ hh=>hoth j _ _ hh (by decide) (by decide)) (λ_ _ hc=>hc.mono hit)⟩,?_⟩;·exact hg.block k (h.fM.lt k hk).2 (λe=>h.apart k e.symm hk)
 ·simp[Value.ownBlock]at hk;subst hk;rcases He with e|e;·exact h.apart _ e
  ·intro e';have:=(h.fM.lt _ e').2;omega
 ·refine⟨hg.os,hg.tape,hg.output,by simp only[World.setCell,vw];exact hg.size,λk hk hp hs=>?_,λk hk=>?_⟩;·rw[qm _ _ _ _ hp];exact hg.block k hk (λe=>hs (Or.inl e.symm))
  ·unfold Q4.has at hk ⊢;simp only[Value.ownBlock]at hk;rcases hk with e|e|e|e
   ·simp at e;subst e;rcases He with e|e;·exact Or.inl (Or.inl e)
    ·exact Or.inr (by omega)
   ·exact Or.inl (Or.inr (Or.inl e))
   ·exact Or.inl (Or.inr (Or.inr (Or.inl e)))
   ·exact Or.inl (Or.inr (Or.inr (Or.inr e)))
theorem lH.putEf{w1:World}{g L cap:Nat}{t:ByteArray}(h:lH w0 w r s nl E cs sk)(hown:Own w1 w0.heap.size (.slice (some ⟨g,0,none⟩) L cap) (E++[t]))(hg:w.grownBy w1 s.ef.ownBlock)(He:s.ef.ownBlock=some g\/g=w.heap.size):w1.heap[r.p]?=some (.cells (qI r s.nm s.co s.sk s.ef) 174 (0,0))/\lH w0 (w1.setCell ⟨r.p,18,none⟩ (.slice (some ⟨g,0,none⟩) L cap)) r { s with ef:=.slice (some ⟨g,0,none⟩) L cap } nl (E++[t]) cs sk/\Fq r.p s { s with ef:=.slice (some ⟨g,0,none⟩) L cap } w (w1.setCell ⟨r.p,18,none⟩ (.slice (some ⟨g,0,none⟩) L cap)):=by
 have hne:∀(p:Nat) cs t,w.heap[p]?=some (.cells cs t (0,0))->t≠9->w1.heap[p]?=some (.cells cs t (0,0)):=λp cs t hp ht=>by
  rw[hg.block p (block_lt hp) (λe=>?_)];·exact hp
  ·obtain⟨cur,hc⟩:=h.fM.typ p e.symm;rw[hp]at hc;simp at hc;exact ht hc.2
 have hb1:=hne r.p _ _ h.blk (by decide);have hit:∀v l,bq w v l->bq (w1.setCell ⟨r.p,18,none⟩ (.slice (some ⟨g,0,none⟩) L cap)) v l:=λv l hi=>(hi.grown hg (λk e=>by obtain⟨cur,hc⟩:=h.fM.typ k e;exact⟨cur,_,hc,by decide⟩)).nK hb1 (by decide) 18 _;have hoth:∀(p:Nat) cs t,w.heap[p]?=some (.cells cs t (0,0))->t≠9->t≠174->(w1.setCell ⟨r.p,18,none⟩ (.slice (some ⟨g,0,none⟩) L cap)).heap[p]?=some (.cells cs t (0,0)):=λp cs t hp ht ht'=>by refine aV (hne p cs t hp ht) (λe=>?_) _;subst e;rw[h.blk]at hp;simp at hp;exact ht' hp.2.symm
 refine⟨hb1,⟨h.ok,(aQ hb1 18 _).trans rfl,h.new,(zw h.base h.fM hg).setCell (p:=⟨r.p,18,none⟩) h.new _,(Dn h.names (λk hk=>?_)).wC hb1 (by decide) _,hown.wC hb1 (by decide) _,λk hk=>?_,h.cons.keep (λj cur _ hh=>hoth j _ _ hh (by decide) (by decide)) (λ_ _ hc=>hc.mono hit),h.sinks.keep (λj cur _ hh=>hoth j _ _ hh (by decide) (by decide)) (λ_ _ hc=>hc.mono hit)⟩,?_⟩;·exact hg.block k (h.names.lt k hk).2 (λe=>h.apart k hk e.symm)
 ·simp[Value.ownBlock];intro e';subst e';rcases He with e|e;·exact h.apart _ hk e
  ·have:=(h.names.lt _ hk).2;omega
 ·refine⟨hg.os,hg.tape,hg.output,by simp only[World.setCell,vw];exact hg.size,λk hk hp hs=>?_,λk hk=>?_⟩;·rw[qm _ _ _ _ hp];exact hg.block k hk (λe=>hs (Or.inr (Or.inr (Or.inr e.symm))))
  ·unfold Q4.has at hk ⊢;simp only[Value.ownBlock]at hk;rcases hk with e|e|e|e;·exact Or.inl (Or.inl e)
   ·exact Or.inl (Or.inr (Or.inl e))
   ·exact Or.inl (Or.inr (Or.inr (Or.inl e)))
   ·simp at e;subst e;rcases He with e|e;·exact Or.inl (Or.inr (Or.inr (Or.inr e)))
    ·exact Or.inr (by omega)
end
theorem zA(w0 w:World)(r:Rx)(s:Q4)(nl E:List ByteArray)(cs:List Co)(sk:List Si)(t:ByteArray)(h:lH w0 w r s nl E cs sk)(hz:∀u∈nl,u.size<=maxLen)(hl:nl.length<=1048576):Calls prog 92 #[.pointer (some ⟨r.p,0,none⟩),.string t] w λe w'=>e=.returned (.tuple #[])/\Hid (∃s',lH w0 w' r s' (Fl.add nl t) E cs sk/\Fq r.p s s' w w'):=by
 obtain⟨bG,vc,vs,ve⟩:=s;obtain⟨oa,oc,hv⟩:=h.names.iA;obtain⟨L,hL⟩:=aG nl.length;have HLL:=hide hL;rw[<-hL]at hv;simp only at hv;subst hv;have HH:=hide h;have nY:=hide (dh w (.slice oa L oc) nl t (Own.strs (B:=w0.heap.size) h.names hz (by omega)));rw[sD]at nY;have c11:w.cell? ⟨r.p,11,none⟩=some (.slice oa L oc):=(aj h.blk 11).trans rfl;have HL:Hid (nl.length<=1048576):=hide hl;have zq:r.p<w.heap.size:=block_lt h.blk;clear h hz hl hL;cases hh:Fl.has nl t with
 | true =>have HAD:Hid (Fl.add nl t=nl):=hide (by unfold Fl.add;rw[if_pos hh]);rw[hh]at nY;clear hh;go_enter func92,ntmps92;go_wp2_with fail;refine nY.mono ?_;rintro e w5 ⟨rfl,rfl⟩;go_wp2_with fail;go_end0;exact⟨rfl,hide ⟨_,by rw[HAD];exact HH,Fq.of_below (aX _ _)⟩⟩
 | false=>
  have HAD:Hid (Fl.add nl t=nl++[t]):=hide (by unfold Fl.add;rw[if_neg (by rw[hh];simp)]);rw[hh]at nY;have dH:=hide (aB w (.cells #[.string t] 9));have HXB:=hide (aJ w (.cells #[.string t] 9));have HRX:=hide (HH.below dH);have HOX:Hid (Own (w.alloc (.cells #[.string t] 9)) w0.heap.size (.slice oa L oc) nl):=hide HRX.names;clear hh;go_enter func92,ntmps92;go_wp2_with fail;refine nY.mono ?_;rintro e w5 ⟨rfl,rfl⟩
  go_wp2_with (first
   | (at_builtin;refine fV rfl _ _ 22 9 1 16 _ rfl underlying22 qo (by decide) (by decide) w0.heap.size _ _ _ rfl HOX (some ⟨w5.heap.size,0,none⟩) w5.heap.size 0 1 1 [.string t] rfl (λ_=>rfl) rfl (λj u hu=>by rw[fT];exact(aj HXB j).trans (by simpa using hu)) (by simp[Value.oneCell']) (by have:=HL.out;unfold maxLen;omega) (by have:=HL.out;omega) (bS HH.base.size dH.size) ?_;intro v9 w9 jM jR Vf WR;obtain⟨g9,RH,rfl,AJ⟩:=WR (by decide);have AL:=hide (HRX.putNm (t:=t) (by unfold Own;rw[aP,cZ];exact jM) jR AJ);have q5:=(aj AL.1 11).trans rfl;have y5:=aD AL.1 11;clear jM jR Vf WR AJ)
   | fail)
  go_end0;exact⟨rfl,hide ⟨_,by rw[HAD];exact AL.2.1,(Fq.of_below dH).trans AL.2.2⟩⟩
theorem tX(w0 w:World)(r:Rx)(s:Q4)(nl E:List ByteArray)(cs:List Co)(sk:List Si)(t:ByteArray)(h:lH w0 w r s nl E cs sk)(hz:∀u∈E,u.size<=maxLen)(hl:E.length<=4398046511103):Calls prog 182 #[.pointer (some ⟨r.p,0,none⟩),.string t] w λe w'=>e=.returned (.tuple #[])/\Hid (∃s',lH w0 w' r s' nl (Fl.add E t) cs sk/\Fq r.p s s' w w'):=by
 obtain⟨bG,vc,vs,ve⟩:=s;obtain⟨oa,oc,hv⟩:=h.fM.iA;obtain⟨L,hL⟩:=aG E.length;have HLL:=hide hL;rw[<-hL]at hv;simp only at hv;subst hv;have HH:=hide h;have nY:=hide (dh w (.slice oa L oc) E t (Own.strs (B:=w0.heap.size) h.fM hz (by omega)));rw[sD]at nY;have c11:w.cell? ⟨r.p,18,none⟩=some (.slice oa L oc):=(aj h.blk 18).trans rfl;have HL:Hid (E.length<=4398046511103):=hide hl;have zq:r.p<w.heap.size:=block_lt h.blk;clear h hz hl hL;cases hh:Fl.has E t with
 | true =>have HAD:Hid (Fl.add E t=E):=hide (by unfold Fl.add;rw[if_pos hh]);rw[hh]at nY;clear hh;go_enter func182,ntmps182;go_wp2_with fail;refine nY.mono ?_;rintro e w5 ⟨rfl,rfl⟩;go_wp2_with fail;go_end0;exact⟨rfl,hide ⟨_,by rw[HAD];exact HH,Fq.of_below (aX _ _)⟩⟩
 | false=>
  have HAD:Hid (Fl.add E t=E++[t]):=hide (by unfold Fl.add;rw[if_neg (by rw[hh];simp)]);rw[hh]at nY;have dH:=hide (aB w (.cells #[.string t] 9));have HXB:=hide (aJ w (.cells #[.string t] 9));have HRX:=hide (HH.below dH);have HOX:Hid (Own (w.alloc (.cells #[.string t] 9)) w0.heap.size (.slice oa L oc) E):=hide HRX.fM;clear hh;go_enter func182,ntmps182;go_wp2_with fail;refine nY.mono ?_;rintro e w5 ⟨rfl,rfl⟩
  go_wp2_with (first
   | (at_builtin;refine fV rfl _ _ 22 9 1 16 _ rfl underlying22 qo (by decide) (by decide) w0.heap.size _ _ _ rfl HOX (some ⟨w5.heap.size,0,none⟩) w5.heap.size 0 1 1 [.string t] rfl (λ_=>rfl) rfl (λj u hu=>by rw[fT];exact(aj HXB j).trans (by simpa using hu)) (by simp[Value.oneCell']) (by have:=HL.out;unfold maxLen;omega) (by have:=HL.out;omega) (bS HH.base.size dH.size) ?_;intro v9 w9 jM jR Vf WR;obtain⟨g9,RH,rfl,AJ⟩:=WR (by decide);have AL:=hide (HRX.putEf (t:=t) (by unfold Own;rw[aP,cZ];exact jM) jR AJ);have q5:=(aj AL.1 18).trans rfl;have y5:=aD AL.1 18;clear jM jR Vf WR AJ)
   | fail)
  go_end0;exact⟨rfl,hide ⟨_,by rw[HAD];exact AL.2.1,(Fq.of_below dH).trans AL.2.2⟩⟩
namespace Fl
def Env.kJ(c:Env):Nat->Ex->List ByteArray
 | 0,_=>[]
 | m+1,x=>(if x.kind=2 then c.CO ⟨#[114,58]⟩ x.name else [])++x.args.flatMap (Env.kJ c m)
section
variable {c : Env}
theorem Env.wY:∀(m:Nat) (x:Ex),(c.kJ m x).length<=eu m x
 | 0,_=>by simp[Env.kJ]
 | m+1,x=>by
  simp only[Env.kJ,eu,aP,dZ];have h1:=dU (l:=x.args) λy _=>Env.wY m y;have h2:(if x.kind=2 then c.CO ⟨#[114,58]⟩ x.name else []).length<=1:=by
   split;·unfold Env.CO;split<;>simp
   ·simp
  omega
theorem Kk(d md n:ByteArray):(deed d md n).size=d.size+md.size+1+n.size:=by unfold deed;rw[ko,ko,ko];rfl
theorem Env.kG(hm:c.md.size<=8):∀{m:Nat} {x:Ex} {v:ByteArray},c.qc m x->v∈c.kJ m x->v.size<=maxLen
 | 0,_,_,hx,_=>False.elim hx
 | m+1,x,v,hx,hv=>by
  obtain⟨h1,_,_,hr⟩:=hx;simp only[Env.kJ,cK,dS]at hv;rcases hv with hv|⟨y,hy,hv⟩
  ·split at hv
   ·unfold Env.CO at hv;split at hv;·rw[iy]at hv;subst hv;rw[Kk];have:(⟨#[114,58]⟩:ByteArray).size=2:=rfl;unfold maxLen;omega
    ·simp at hv
   ·simp at hv
  ·exact Env.kG hm (hr y hy) hv
theorem iT{α β:Type}{f:α->List β}{l:List α}{j:Nat}(h:j<l.length):(l.take (j+1)).flatMap f=(l.take j).flatMap f++f l[j]:=by rw[iY,aU h,sj,jD];simp
theorem take_len{f:Ex->List ByteArray}{g:Ex->Nat}{l:List Ex}(hf:∀x,(f x).length<=g x){j:Nat}(h:j<l.length):((l.take j).flatMap f).length+g l[j]<=(l.map g).sum:=by
 rw[dZ];have h1:=dU (l:=l.take j) λx _=>hf x;have e:l=l.take j++(l[j]::l.drop (j+1)):=by rw[<-JM h,kW]
 have h2:(l.map g).sum=((l.take j).map g).sum+(g l[j]+((l.drop (j+1)).map g).sum):=by
  conv=>lhs;rw[e]
  rw[cZ,nT,dN,jE]
 omega
end
end Fl
theorem lH.lt{w0 w:World}{r:Rx}{s:Q4}{nl E:List ByteArray}{cs:List Co}{sk:List Si}(h:lH w0 w r s nl E cs sk){k:Nat}(hk:s.has k):k<w.heap.size:=by
 rcases hk with e|e|e|e;·exact(h.names.lt k e).2
 ·exact(h.cons.lt k e).2
 ·exact(h.sinks.lt k e).2
 ·exact(h.fM.lt k e).2
structure LkPre(w0 w:World)(r:Rx)(s:Q4)(nl E:List ByteArray)(cs:List Co)(sk:List Si)(m:Nat)(c0 c1 c2 c3:Value)(x:Ex):Prop where
 rd:lH w0 w r s nl E cs sk
 ex:gq w0 m c0 c1 c2 c3 x
 ok:r.c.qc m x
 zn:∀u∈nl,u.size<=maxLen
 ze:∀u∈E,u.size<=maxLen
 ln:nl.length+eu m x<=1048576
 le:E.length+eu m x<=4398046511103
 md:r.x.name.size<=8
def LkOk(m:Nat):Prop:=∀(w0 w:World) (r:Rx) (s:Q4) (nl E:List ByteArray) (cs:List Co) (sk:List Si) (c0 c1 c2 c3:Value) (x:Ex),LkPre w0 w r s nl E cs sk m c0 c1 c2 c3 x->
 Calls prog 94 #[.pointer (some ⟨r.p,0,none⟩),.agg #[c0,c1,c2,c3]] w λe w'=>e=.returned (.tuple #[])/\Hid (∃s',lH w0 w' r s' (Fl.adds nl (r.c.fQ m x)) (Fl.adds E (r.c.kJ m x)) cs sk/\Fq r.p s s' w w')
theorem Wn(m:Nat)(ih:LkOk m):LkOk (m+1):=by
 intro w0 w r s nl E cs sk c0 c1 c2 c3 x hP;have nL:=hide ih;have HP:=hide hP;obtain⟨a,b,off,cap,rfl,rfl,rfl,rfl,hnm,hl63,ha0,hel⟩:=hP.ex.args;have gF:=hide hel;obtain⟨na,hna⟩:=aG x.args.length;have kZ:=hide hna;rw[<-hna]at ha0 hl63 ⊢;have uF:=hide ha0;obtain⟨W,hW⟩:=aG (w.alloc (.cells #[.int .i64 x.kind,.int .i64 x.n,.string x.name,.slice a na cap] 129));have eO:Hid (Below w.heap.size w W):=hide (by rw[hW];exact aB _ _);have gB:Hid (W.heap[w.heap.size]?=some (.cells #[.int .i64 x.kind,.int .i64 x.n,.string x.name,.slice a na cap] 129 (0,0))):=hide (by rw[hW];exact aJ _ _);have HRW:=hide (hP.rd.below eO);have wM:Hid (w.heap.size≠r.p):=hide (by have:=block_lt hP.rd.blk;omega);have tQ:Hid (¬s.has w.heap.size):=hide (λe=>by have:=hP.rd.lt e;omega);have p0:=(aj gB 0).trans rfl;obtain⟨hn,hhn⟩:=aG (if x.kind=2 then r.c.BI x.name else []);obtain⟨he,hhe⟩:=aG (if x.kind=2 then r.c.CO ⟨#[114,58]⟩ x.name else []);have HEN:Hid (Fl.adds nl (r.c.fQ (m+1) x)=Fl.adds (Fl.adds nl hn) (x.args.flatMap (r.c.fQ m))):=hide (by rw[hhn,<-aT];rfl);have HEE:Hid (Fl.adds E (r.c.kJ (m+1) x)=Fl.adds (Fl.adds E he) (x.args.flatMap (r.c.kJ m))):=hide (by rw[hhe,<-aT];rfl);have uL:Hid ((Fl.adds nl hn).length+(x.args.map (eu m)).sum<=1048576/\(Fl.adds E he).length+(x.args.map (eu m)).sum<=4398046511103):=hide (by
  have h1:=bN hn nl;have h2:=bN he E;have h3:=hP.ln;have h4:=hP.le;have h5:hn.length<=1:=by
   rw[hhn];split;·unfold Fl.Env.BI;split<;>simp
   ·simp
  have h6:he.length<=1:=by
   rw[hhe];split;·unfold Fl.Env.CO;split<;>simp
   ·simp
  simp only[eu]at h3 h4;omega)
 have HZ1:Hid ((∀u∈Fl.adds nl hn,u.size<=maxLen)/\∀u∈Fl.adds E he,u.size<=maxLen):=hide ⟨λu hu=>by
  rcases aY.1 hu with h|h;·exact hP.zn u h
  ·exact bS (Fl.Env.jS (c:=r.c) (m:=m+1) hP.ok (by simp only[Fl.Env.fQ,cK];exact Or.inl (by rw[<-hhn];exact h))) (by decide),λu hu=>by
  rcases aY.1 hu with h|h;·exact hP.ze u h
  ·exact Fl.Env.kG (c:=r.c) hP.md (m:=m+1) hP.ok (by simp only[Fl.Env.kJ,cK];exact Or.inl (by rw[<-hhe];exact h))⟩
 rw[HEN,HEE];have sI:=hide hP.ok;clear hel ha0 hna;by_cases h2:x.kind=2
 ·have hk2:(x.kind==2)=true:=by simp[h2]
  have p2:=(aj gB 2).trans rfl;cases hv:r.c.kX x.name with
  | some n=>
   have HHN:Hid (hn=[]):=hide (by rw[hhn];simp[h2,Fl.Env.BI,hv]);have BH:Hid (he=[(((⟨#[114,58]⟩:ByteArray)++r.x.name)++⟨#[46]⟩)++x.name]):=hide (by rw[hhe];simp[h2,Fl.Env.CO,hv];rfl);have HC:Hid (Calls prog 181 #[.pointer (some ⟨r.p,0,none⟩),.string x.name] W λe w'=>e=.returned (.int .i64 (n:Nat))/\Below W.heap.size W w'):=hide (by have:=lq W r _ _ _ _ x.name HRW.rc;rw[hv]at this;exact this);have hn0:(0<=(n:Int))=True:=by simp
   have hz8:=hP.md;have hz17:=hP.ok.1;have k1:(9223372036854775807<2+r.x.name.size)=False:=eq_false (by omega);have k2:(9223372036854775807<2+r.x.name.size+1)=False:=eq_false (by omega);have k3:(9223372036854775807<2+r.x.name.size+1+x.name.size)=False:=eq_false (by omega);clear hP h2 hv hhn hhe hz8 hz17 ih;go_enter func94,ntmps94;go_upto_region 1 with fail;rw[<-hW];clear hW;go_wp2_with fail;refine HC.mono ?_;rintro e w5 ⟨rfl,hb5⟩;have xB:=hide (HRW.below hb5);have SE:=hide (show Fq r.p s s W w5 from Fq.of_below hb5);have Av:=hide (aN gB hb5);clear p0 p2 hb5 HC;have q2:w5.cell? ⟨r.p,2,none⟩=some (.string r.x.name):=(aj xB.blk 2).trans rfl;have y2:=(aj Av 2).trans rfl;replace q2:=aM q2;replace y2:=aM y2;go_wp2_with fail;refine eF 11 (by kernel_rfl) (by kernel_rfl) ?_;dsimp only[List.take,List.drop];repeat(quiet_step (fail))
   refine wpQuiet_nil ?_;intro w6 hw';obtain⟨⟨nq,osq⟩,hw''⟩:=hw';have hb6:Below w5.heap.size w5 w6:=by rw[hw''];exact aS w5 nq osq
   have lZ:=hide (xB.below hb6);have Xe:=hide (SE.trans (Fq.of_below hb6));have HX6:=hide (aN Av hb6);have UH:=hide (tX w0 w6 r s nl E cs sk ((((⟨#[114,58]⟩:ByteArray)++r.x.name)++⟨#[46]⟩)++x.name) lZ HP.ze (by have:=HP.le;omega));clear hw'' q2 y2 hb6 k1 k2 k3 hn0;go_wp2_with fail;refine UH.mono ?_;rintro e w7 ⟨rfl,lQ⟩;obtain⟨s7,Ik,oQ⟩:=lQ.out;have HR1:Hid (lH w0 w7 r s7 (Fl.adds nl hn) (Fl.adds E he) cs sk):=hide (by rw[HHN,BH];exact Ik);have HQ1:=hide (Xe.trans oQ);clear lQ Ik oQ UH;go_wp2_with fail;go_loopw[4] (λi wr=>∃(j:Nat) (s8:Q4),j<=na/\i=.int .i64 j/\Hid (lH w0 wr r s8 (Fl.adds (Fl.adds nl hn) ((x.args.take j).flatMap (r.c.fQ m))) (Fl.adds (Fl.adds E he) ((x.args.take j).flatMap (r.c.kJ m))) cs sk/\Fq r.p s s8 W wr)) (λi _=>na - (intOf i).toNat);case atStart=>exact⟨0,s7,bJ _,rfl,hide ⟨HR1,HQ1⟩⟩
   case round=>
    obtain⟨j,s8,hj,rfl,HI⟩:=hrel;have HX:=hide ((HI.2.block w.heap.size (block_lt gB) wM tQ).trans gB);have x3:=(aj HX 3).trans rfl;by_cases hjl:j<na
    ·have hjm:j<x.args.length:=by rw[<-kZ];exact hjl
     obtain⟨e0,e1,e2,e3,g0,g1,g2,g3,hxa⟩:=gF j _ (aU hjm);have HC:=hide (nL w0 wr r s8 _ _ cs sk _ _ _ _ _ ⟨HI.1,hxa,sI.2.2.2 _ (fI hjm),λu hu=>by
      rcases aY.1 hu with h|h;·exact HZ1.1 u h
      ·obtain⟨y,hy,h⟩:=dS.1 h;exact bS (Fl.Env.jS (sI.2.2.2 y (nS hy)) h) (by decide),λu hu=>by
      rcases aY.1 hu with h|h;·exact HZ1.2 u h
      ·obtain⟨y,hy,h⟩:=dS.1 h;exact Fl.Env.kG (c:=r.c) HP.md (sI.2.2.2 y (nS hy)) h,by
      have h1:=bN ((x.args.take j).flatMap (r.c.fQ m)) (Fl.adds nl hn);have h2:=Fl.take_len (λy=>mM r.c m y) hjm;have h3:=uL.1;omega,by
      have h1:=bN ((x.args.take j).flatMap (r.c.kJ m)) (Fl.adds E he);have h2:=Fl.take_len (λy=>Fl.Env.wY (c:=r.c) m y) hjm;have h3:=uL.2;omega,HP.md⟩)
     have Wh:Fl.adds (Fl.adds (Fl.adds nl hn) ((x.args.take j).flatMap (r.c.fQ m))) (r.c.fQ m x.args[j])=Fl.adds (Fl.adds nl hn) ((x.args.take (j+1)).flatMap (r.c.fQ m)):=by rw[Fl.iT hjm,aT (Fl.adds nl hn)]
     have Wi:Fl.adds (Fl.adds (Fl.adds E he) ((x.args.take j).flatMap (r.c.kJ m))) (r.c.kJ m x.args[j])=Fl.adds (Fl.adds E he) ((x.args.take (j+1)).flatMap (r.c.kJ m)):=by rw[Fl.iT hjm,aT (Fl.adds E he)]
     rw[Wh,Wi]at HC;clear Wh Wi;obtain⟨ay,cy,rfl,rfl,rfl,rfl⟩:=hxa.shape;obtain rfl:=uF (by omega);replace g0:=aA g0 HI.1.base;replace g1:=aA g1 HI.1.base;replace g2:=aA g2 HI.1.base;replace g3:=aA g3 HI.1.base;generalize x.args[j].kind=yk at *;generalize x.args[j].n=yn at *;generalize x.args[j].name=Vx at *;generalize x.args[j].args.length=yl at *;clear hxa;go_wp2_with fail;refine HC.mono ?_;rintro e w9 ⟨rfl,lS⟩;obtain⟨s9,uS,lX⟩:=lS.out;have uy:=hide (And.intro uS (HI.2.trans lX));clear lS uS lX g0 g1 g2 g3 x3 HC;go_wp2_with fail;go_roundw;case rel=>exact⟨j+1,s9,by omega,by go_num,uy⟩
     case measure=>simp[intOf];omega
    ·obtain rfl:j=na:=by omega
     have HT:Hid (x.args.take j=x.args):=hide (by rw[kZ,gG]);go_wp2_with fail;go_end0;exact⟨rfl,hide ⟨s8,by have:=HI.1;rw[HT]at this;exact this,(Fq.of_below eO).trans HI.2⟩⟩
  | none=>
   have HHN:Hid (hn=[x.name]):=hide (by rw[hhn];simp[h2,Fl.Env.BI,hv]);have BH:Hid (he=[]):=hide (by rw[hhe];simp[h2,Fl.Env.CO,hv]);have HC:Hid (Calls prog 181 #[.pointer (some ⟨r.p,0,none⟩),.string x.name] W λe w'=>e=.returned (.int .i64 (-1))/\Below W.heap.size W w'):=hide (by have:=lq W r _ _ _ _ x.name HRW.rc;rw[hv]at this;exact this);clear hP h2 hv hhn hhe ih;go_enter func94,ntmps94;go_upto_region 1 with fail;rw[<-hW];clear hW;go_wp2_with fail;refine HC.mono ?_;rintro e w5 ⟨rfl,hb5⟩;have xB:=hide (HRW.below hb5);have SE:=hide (show Fq r.p s s W w5 from Fq.of_below hb5);have Av:=hide (aN gB hb5);clear p0 p2 hb5 HC;have y2:=(aj Av 2).trans rfl;have UH:=hide (zA w0 w5 r s nl E cs sk x.name xB HP.zn (by have:=HP.ln;omega));go_wp2_with fail;refine UH.mono ?_;rintro e w7 ⟨rfl,lQ⟩;obtain⟨s7,Ik,oQ⟩:=lQ.out;have HR1:Hid (lH w0 w7 r s7 (Fl.adds nl hn) (Fl.adds E he) cs sk):=hide (by rw[HHN,BH];exact Ik);have HQ1:=hide (SE.trans oQ);clear lQ Ik oQ UH y2;go_wp2_with fail;go_loopw[4] (λi wr=>∃(j:Nat) (s8:Q4),j<=na/\i=.int .i64 j/\Hid (lH w0 wr r s8 (Fl.adds (Fl.adds nl hn) ((x.args.take j).flatMap (r.c.fQ m))) (Fl.adds (Fl.adds E he) ((x.args.take j).flatMap (r.c.kJ m))) cs sk/\Fq r.p s s8 W wr)) (λi _=>na - (intOf i).toNat);case atStart=>exact⟨0,s7,bJ _,rfl,hide ⟨HR1,HQ1⟩⟩
   case round=>
    obtain⟨j,s8,hj,rfl,HI⟩:=hrel;have HX:=hide ((HI.2.block w.heap.size (block_lt gB) wM tQ).trans gB);have x3:=(aj HX 3).trans rfl;by_cases hjl:j<na
    ·have hjm:j<x.args.length:=by rw[<-kZ];exact hjl
     obtain⟨e0,e1,e2,e3,g0,g1,g2,g3,hxa⟩:=gF j _ (aU hjm);have HC:=hide (nL w0 wr r s8 _ _ cs sk _ _ _ _ _ ⟨HI.1,hxa,sI.2.2.2 _ (fI hjm),λu hu=>by
      rcases aY.1 hu with h|h;·exact HZ1.1 u h
      ·obtain⟨y,hy,h⟩:=dS.1 h;exact bS (Fl.Env.jS (sI.2.2.2 y (nS hy)) h) (by decide),λu hu=>by
      rcases aY.1 hu with h|h;·exact HZ1.2 u h
      ·obtain⟨y,hy,h⟩:=dS.1 h;exact Fl.Env.kG (c:=r.c) HP.md (sI.2.2.2 y (nS hy)) h,by
      have h1:=bN ((x.args.take j).flatMap (r.c.fQ m)) (Fl.adds nl hn);have h2:=Fl.take_len (λy=>mM r.c m y) hjm;have h3:=uL.1;omega,by
      have h1:=bN ((x.args.take j).flatMap (r.c.kJ m)) (Fl.adds E he);have h2:=Fl.take_len (λy=>Fl.Env.wY (c:=r.c) m y) hjm;have h3:=uL.2;omega,HP.md⟩)
     have Wh:Fl.adds (Fl.adds (Fl.adds nl hn) ((x.args.take j).flatMap (r.c.fQ m))) (r.c.fQ m x.args[j])=Fl.adds (Fl.adds nl hn) ((x.args.take (j+1)).flatMap (r.c.fQ m)):=by rw[Fl.iT hjm,aT (Fl.adds nl hn)]
     have Wi:Fl.adds (Fl.adds (Fl.adds E he) ((x.args.take j).flatMap (r.c.kJ m))) (r.c.kJ m x.args[j])=Fl.adds (Fl.adds E he) ((x.args.take (j+1)).flatMap (r.c.kJ m)):=by rw[Fl.iT hjm,aT (Fl.adds E he)]
     rw[Wh,Wi]at HC;clear Wh Wi;obtain⟨ay,cy,rfl,rfl,rfl,rfl⟩:=hxa.shape;obtain rfl:=uF (by omega);replace g0:=aA g0 HI.1.base;replace g1:=aA g1 HI.1.base;replace g2:=aA g2 HI.1.base;replace g3:=aA g3 HI.1.base;generalize x.args[j].kind=yk at *;generalize x.args[j].n=yn at *;generalize x.args[j].name=Vx at *;generalize x.args[j].args.length=yl at *;clear hxa;go_wp2_with fail;refine HC.mono ?_;rintro e w9 ⟨rfl,lS⟩;obtain⟨s9,uS,lX⟩:=lS.out;have uy:=hide (And.intro uS (HI.2.trans lX));clear lS uS lX g0 g1 g2 g3 x3 HC;go_wp2_with fail;go_roundw;case rel=>exact⟨j+1,s9,by omega,by go_num,uy⟩
     case measure=>simp[intOf];omega
    ·obtain rfl:j=na:=by omega
     have HT:Hid (x.args.take j=x.args):=hide (by rw[kZ,gG]);go_wp2_with fail;go_end0;exact⟨rfl,hide ⟨s8,by have:=HI.1;rw[HT]at this;exact this,(Fq.of_below eO).trans HI.2⟩⟩
 ·have hk2:(x.kind==2)=false:=by simp[h2]
  have HHN:Hid (hn=[]):=hide (by rw[hhn,if_neg h2]);have BH:Hid (he=[]):=hide (by rw[hhe,if_neg h2]);clear hP h2 hhn hhe ih;go_enter func94,ntmps94;go_upto_region 1 with fail;rw[<-hW];clear hW;obtain⟨w7,hw7⟩:=aG W;have HR1:Hid (lH w0 w7 r s (Fl.adds nl hn) (Fl.adds E he) cs sk):=hide (by rw[HHN,BH,hw7];exact HRW);have HQ1:Hid (Fq r.p s s W w7):=hide (by rw[hw7];exact Fq.of_below (aX _ _));obtain⟨s7,hs7⟩:=aG s;rw[<-hs7]at HR1;have HQ1:Hid (Fq r.p s s7 W w7):=hide (by rw[hs7];exact HQ1);rw[<-hw7]at p0 ⊢;clear hw7 hs7;go_wp2_with fail;go_loopw[4] (λi wr=>∃(j:Nat) (s8:Q4),j<=na/\i=.int .i64 j/\Hid (lH w0 wr r s8 (Fl.adds (Fl.adds nl hn) ((x.args.take j).flatMap (r.c.fQ m))) (Fl.adds (Fl.adds E he) ((x.args.take j).flatMap (r.c.kJ m))) cs sk/\Fq r.p s s8 W wr)) (λi _=>na - (intOf i).toNat);case atStart=>exact⟨0,s7,bJ _,rfl,hide ⟨HR1,HQ1⟩⟩
  case round=>
   obtain⟨j,s8,hj,rfl,HI⟩:=hrel;have HX:=hide ((HI.2.block w.heap.size (block_lt gB) wM tQ).trans gB);have x3:=(aj HX 3).trans rfl;by_cases hjl:j<na
   ·have hjm:j<x.args.length:=by rw[<-kZ];exact hjl
    obtain⟨e0,e1,e2,e3,g0,g1,g2,g3,hxa⟩:=gF j _ (aU hjm);have HC:=hide (nL w0 wr r s8 _ _ cs sk _ _ _ _ _ ⟨HI.1,hxa,sI.2.2.2 _ (fI hjm),λu hu=>by
     rcases aY.1 hu with h|h;·exact HZ1.1 u h
     ·obtain⟨y,hy,h⟩:=dS.1 h;exact bS (Fl.Env.jS (sI.2.2.2 y (nS hy)) h) (by decide),λu hu=>by
     rcases aY.1 hu with h|h;·exact HZ1.2 u h
     ·obtain⟨y,hy,h⟩:=dS.1 h;exact Fl.Env.kG (c:=r.c) HP.md (sI.2.2.2 y (nS hy)) h,by
     have h1:=bN ((x.args.take j).flatMap (r.c.fQ m)) (Fl.adds nl hn);have h2:=Fl.take_len (λy=>mM r.c m y) hjm;have h3:=uL.1;omega,by
     have h1:=bN ((x.args.take j).flatMap (r.c.kJ m)) (Fl.adds E he);have h2:=Fl.take_len (λy=>Fl.Env.wY (c:=r.c) m y) hjm;have h3:=uL.2;omega,HP.md⟩)
    have Wh:Fl.adds (Fl.adds (Fl.adds nl hn) ((x.args.take j).flatMap (r.c.fQ m))) (r.c.fQ m x.args[j])=Fl.adds (Fl.adds nl hn) ((x.args.take (j+1)).flatMap (r.c.fQ m)):=by rw[Fl.iT hjm,aT (Fl.adds nl hn)]
    have Wi:Fl.adds (Fl.adds (Fl.adds E he) ((x.args.take j).flatMap (r.c.kJ m))) (r.c.kJ m x.args[j])=Fl.adds (Fl.adds E he) ((x.args.take (j+1)).flatMap (r.c.kJ m)):=by rw[Fl.iT hjm,aT (Fl.adds E he)]
    rw[Wh,Wi]at HC;clear Wh Wi;obtain⟨ay,cy,rfl,rfl,rfl,rfl⟩:=hxa.shape;obtain rfl:=uF (by omega);replace g0:=aA g0 HI.1.base;replace g1:=aA g1 HI.1.base;replace g2:=aA g2 HI.1.base;replace g3:=aA g3 HI.1.base;generalize x.args[j].kind=yk at *;generalize x.args[j].n=yn at *;generalize x.args[j].name=Vx at *;generalize x.args[j].args.length=yl at *;clear hxa;go_wp2_with fail;refine HC.mono ?_;rintro e w9 ⟨rfl,lS⟩;obtain⟨s9,uS,lX⟩:=lS.out;have uy:=hide (And.intro uS (HI.2.trans lX));clear lS uS lX g0 g1 g2 g3 x3 HC;go_wp2_with fail;go_roundw;case rel=>exact⟨j+1,s9,by omega,by go_num,uy⟩
    case measure=>simp[intOf];omega
   ·obtain rfl:j=na:=by omega
    have HT:Hid (x.args.take j=x.args):=hide (by rw[kZ,gG]);go_wp2_with fail;go_end0;exact⟨rfl,hide ⟨s8,by have:=HI.1;rw[HT]at this;exact this,(Fq.of_below eO).trans HI.2⟩⟩
theorem PU:∀m,LkOk m:=by
 intro m;induction m with
 | zero=>intro w0 w r s nl E cs sk c0 c1 c2 c3 x hP;exact False.elim hP.ex
 | succ m ih=>exact Wn m ih
theorem lH.putSk{w0 w:World}{r:Rx}{s:Q4}{nl E:List ByteArray}{cs:List Co}{sk:List Si}{w1:World}{g L cap:Nat}{y:Si}(h:lH w0 w r s nl E cs sk)(hown:gP Uh w1 w0.heap.size 193 6 (.slice (some ⟨g,0,none⟩) L cap) (sk++[y]))(hg:w.grownBy w1 s.sk.ownBlock)(He:s.sk.ownBlock=some g\/g=w.heap.size):w1.heap[r.p]?=some (.cells (qI r s.nm s.co s.sk s.ef) 174 (0,0))/\lH w0 (w1.setCell ⟨r.p,14,none⟩ (.slice (some ⟨g,0,none⟩) L cap)) r { s with sk:=.slice (some ⟨g,0,none⟩) L cap } nl E cs (sk++[y])/\Fq r.p s { s with sk:=.slice (some ⟨g,0,none⟩) L cap } w (w1.setCell ⟨r.p,14,none⟩ (.slice (some ⟨g,0,none⟩) L cap)):=by
 have hne:∀(p:Nat) cs t,w.heap[p]?=some (.cells cs t (0,0))->t≠193->w1.heap[p]?=some (.cells cs t (0,0)):=λp cs t hp ht=>by
  rw[hg.block p (block_lt hp) (λe=>?_)];·exact hp
  ·obtain⟨cur,hc⟩:=h.sinks.typ p e.symm;rw[hp]at hc;simp at hc;exact ht hc.2
 have hb1:=hne r.p _ _ h.blk (by decide);have hit2:∀v l,bq w1 v l->bq (w1.setCell ⟨r.p,14,none⟩ (.slice (some ⟨g,0,none⟩) L cap)) v l:=λv l hi=>hi.nK hb1 (by decide) 14 _;have hit:∀v l,bq w v l->bq (w1.setCell ⟨r.p,14,none⟩ (.slice (some ⟨g,0,none⟩) L cap)) v l:=λv l hi=>hit2 v l (hi.grown hg (λk e=>by obtain⟨cur,hc⟩:=h.sinks.typ k e;exact⟨cur,_,hc,by decide⟩));have hset:∀(p:Nat) cs t,w1.heap[p]?=some (.cells cs t (0,0))->t≠174->(w1.setCell ⟨r.p,14,none⟩ (.slice (some ⟨g,0,none⟩) L cap)).heap[p]?=some (.cells cs t (0,0)):=λp cs t hp ht'=>by refine aV hp (λe=>?_) _;subst e;rw[hb1]at hp;simp at hp;exact ht' hp.2.symm
 have hbel:Below w0.heap.size w0 w1:=⟨hg.os.trans h.base.os,hg.tape.trans h.base.tape,hg.output.trans h.base.output,bS h.base.size hg.size,λk hk=>by rw[hg.block k (ql hk h.base.size) (λe=>by have:=(h.sinks.lt k e.symm).1;omega)];exact h.base.block k hk⟩;refine⟨hb1,⟨h.ok,(aQ hb1 14 _).trans rfl,h.new,hbel.setCell (p:=⟨r.p,14,none⟩) h.new _,(h.names.keep λj cur _ hj=>hne _ _ _ hj (by decide)).wC hb1 (by decide) _,(h.fM.keep λj cur _ hj=>hne _ _ _ hj (by decide)).wC hb1 (by decide) _,h.apart,h.cons.keep (λj cur _ hh=>hset j _ _ (hne j _ _ hh (by decide)) (by decide)) (λ_ _ hc=>hc.mono hit),hown.keep (λj cur _ hh=>hset j _ _ hh (by decide)) (λ_ _ hc=>hc.mono hit2)⟩,?_⟩;refine⟨hg.os,hg.tape,hg.output,by simp only[World.setCell,vw];exact hg.size,λk hk hp hs=>?_,λk hk=>?_⟩;·rw[qm _ _ _ _ hp];exact hg.block k hk (λe=>hs (Or.inr (Or.inr (Or.inl e.symm))))
 ·unfold Q4.has at hk ⊢;simp only[Value.ownBlock]at hk;rcases hk with e|e|e|e;·exact Or.inl (Or.inl e)
  ·exact Or.inl (Or.inr (Or.inl e))
  ·simp at e;subst e;rcases He with e|e;·exact Or.inl (Or.inr (Or.inr (Or.inl e)))
   ·exact Or.inr (by omega)
  ·exact Or.inl (Or.inr (Or.inr (Or.inr e)))
theorem tY(w0 w:World)(r:Rx)(s:Q4)(nl E:List ByteArray)(cs:List Co)(sk:List Si)(va:Value)(a:Hg)(lv:Int)(name:ByteArray)(dF:Bool)(h:lH w0 w r s nl E cs sk)(ha:Strs w va a.1)(hz:∀u∈nl,u.size<=maxLen)(hn:nl.length<=1048576)(hl:sk.length<=16777215):Calls prog 183 #[.pointer (some ⟨r.p,0,none⟩),.agg #[va,.int .i64 0,.int .i64 (a.2:Nat)],.int .i64 lv,.string name,.bool dF] w λe w'=>e=.returned (.tuple #[])/\Hid (∃s',lH w0 w' r s' nl E cs (sk++[dA nl (Fl.sk a lv name dF)])/\Fq r.p s s' w w'):=by
 obtain⟨bG,vc,vs,ve⟩:=s;obtain⟨ak,ck,hvs⟩:=h.sinks.form;obtain⟨ns,hns⟩:=aG sk.length;have tQ:=hide hns;rw[<-hns]at hvs hl;simp only at hvs;subst hvs;obtain⟨W,hW⟩:∃W,W=w.alloc (.cells #[va,.int .i64 0,.int .i64 (a.2:Nat)] 181):=⟨_,rfl⟩;have hBW:Below w.heap.size w W:=by rw[hW];exact aB _ _
 have k0:W.heap[w.heap.size]?=some (.cells #[va,.int .i64 0,.int .i64 (a.2:Nat)] 181 (0,0)):=by rw[hW];exact aJ _ _
 have EU:=hide (h.below hBW);have ZI:Hid (∀wx,Below W.heap.size W wx->Calls prog 97 #[.pointer (some ⟨r.p,0,none⟩),.agg #[va,.int .i64 0,.int .i64 (a.2:Nat)]] wx λe w'=>∃v,e=.returned v/\Hid (fD w' wx.heap.size v (Fl.nums nl a.1)/\Below wx.heap.size wx w')):=hide λwx hx =>have hh:=h.below (up hBW hx);qX wx r _ _ _ _ va a nl hh.rc (Own.strs hh.names hz (by omega)) hn (ha.below (up hBW hx));obtain⟨aa,ab,ao,ac,hae,-⟩:=ha;obtain⟨q,hq⟩:=aG a.1.length;rw[<-hq]at hae;subst hae;have OQ:Hid (∀wx,Below W.heap.size W wx->wx.heap[w.heap.size]?=some (.cells #[.slice aa q ac,.int .i64 0,.int .i64 (a.2:Nat)] 181 (0,0))):=hide λwx hx=>aN k0 hx;have HF:Hid (∀wx,Below W.heap.size W wx->wx.cell? ⟨r.p,14,none⟩=some (.slice ak ns ck)/\wx.cell? ⟨w.heap.size,0,none⟩=some (.slice aa q ac)/\wx.cell? ⟨w.heap.size,1,none⟩=some (.int .i64 0)/\wx.cell? ⟨w.heap.size,2,none⟩=some (.int .i64 (a.2:Nat))):=hide λwx hx=>by have h1:=(EU.below hx).blk;have h2:=aN k0 hx;exact⟨(aj h1 14).trans rfl,(aj h2 0).trans rfl,(aj h2 1).trans rfl,(aj h2 2).trans rfl⟩
 have Iw:Hid ((Fl.nums nl a.1).length<=9223372036854775807):=hide (by have:=lN nl a.1;omega);have WI:Hid (dA nl (Fl.sk a lv name dF)=⟨Fl.nums nl a.1,0,(a.2:Nat),lv,name,dF⟩):=hide rfl;obtain⟨Y,hY⟩:=aG (dA nl (Fl.sk a lv name dF));rw[<-hY]at WI ⊢;generalize Fl.nums nl a.1=fr at *;have Uj:Hid (Fq r.p ⟨bG,vc,.slice ak ns ck,ve⟩ ⟨bG,vc,.slice ak ns ck,ve⟩ w W):=hide (Fq.of_below hBW);clear h hz hn hns hBW hY k0 hq;go_enter func183,ntmps183;go_upto_region 1 with fail;rw[<-hW];clear hW;refine bg [some false,some false,some false,some false,some false,some true,some false,some true,none,some false,some true,some false,some false,some false,none,none,none,none,none,none,none] 17 (λw'=>w'.cell? ⟨r.p,14,none⟩=some (.slice ak ns ck)/\w'.cell? ⟨w.heap.size,0,none⟩=some (.slice aa q ac)/\w'.cell? ⟨w.heap.size,1,none⟩=some (.int .i64 0)/\w'.cell? ⟨w.heap.size,2,none⟩=some (.int .i64 (a.2:Nat))) 8 (by kernel_rfl) (by kernel_rfl) (λ_ _ d _ _ h=>(by cases d<;>exact h)) (HF _ (aK (aX _ _))) ?_;dsimp only[dO];repeat(first|(refine dx (v:=?_) (by rfl) ?_ ?_;rotate_left 1;(focus(intro w;go_simp;try(with_reducible rfl)));simp only[Act.put,eU,dJ,dQ])|(refine dz (v:=?_) (by rfl) ?_ ?_;rotate_left 1;(focus(intro w hSw;go_simp;try(with_reducible rfl)));simp only[Act.put,eU,dJ,dQ]))
 refine bQ ?_;refine aF (i:=8) (by kernel_rfl) (by rfl) (λK hK=>?_);go_simp;go_at_call 97;refine(ZI _ (aK (aX _ _))).mono ?_;rintro e w6 ⟨v5,rfl,jr⟩;obtain⟨Uk,hb5⟩:=jr.out;have uw:=hide (fD.OH Uk Iw);have dB:=hide (up (aK (aX W.heap.size W)) hb5);obtain⟨a5,c5,rfl⟩:=bq.form uw;clear jr hb5 Uk;dsimp only;refine hK _ _ (λ_=>HF _ dB) ?_;clear hK K;generalize fr.length=nr at *;refine aF (i:=14) (by kernel_rfl) (by rfl) (λK hK=>?_);go_simp;refine hK _ _ (λ_=>HF _ dB) ?_;clear hK K;refine aF (i:=15) (by kernel_rfl) (by rfl) (λK hK=>?_);go_simp;refine hK _ _ (λ_=>HF _ (up dB (aB _ _))) ?_;clear hK K;have dH:=hide (aB w6 (.cells #[.slice a5 nr c5,.int .i64 0,.int .i64 (a.2:Nat),.int .i64 lv,.string name,.bool dF] 193));have HXB:=hide (aJ w6 (.cells #[.slice a5 nr c5,.int .i64 0,.int .i64 (a.2:Nat),.int .i64 lv,.string name,.bool dF] 193));have ig:=hide (EU.below (up dB dH));have Ul:=hide (uw.below dH);have iw:=hide (up dB dH);generalize w6.alloc (.cells #[.slice a5 nr c5,.int .i64 0,.int .i64 (a.2:Nat),.int .i64 lv,.string name,.bool dF] 193)=W7 at *;refine aF (i:=16) (by kernel_rfl) (by rfl) (λK hK=>?_);refine jy (At:=Uh) (by rfl) _ _ 70 193 6 72 _ (by rfl) underlying70 YW (by decide) (by decide) (by decide) w0.heap.size _ sk (by rfl) ig.sinks w6.heap.size [.slice a5 nr c5,.int .i64 0,.int .i64 (a.2:Nat),.int .i64 lv,.string name,.bool dF] Y (by rfl) (λj u hu=>(aj HXB j).trans (by simpa using hu)) rfl (by simp[Value.oneCell']) (by rw[WI.out];exact⟨_,Ul,rfl⟩) (by rw[<-tQ];omega) ig.base.size (λwy c y hg hc=>hc.mono λv l hi=>hi.grown hg (λk e=>by obtain⟨cur,hcur⟩:=ig.sinks.typ k e;exact⟨cur,_,hcur,by decide⟩)) ?_;intro g8 CU w8 fU bV kg;obtain⟨gM,jQ,gQ⟩:=ig.putSk fU bV kg;rw[<-tQ]at jQ gQ ⊢;have iq:=hide gM;have qd:=hide jQ;have uI:=hide gQ;have D7:Hid (w8.cell? ⟨r.p,14,none⟩=some (.slice ak ns ck)/\w8.cell? ⟨w.heap.size,0,none⟩=some (.slice aa q ac)/\w8.cell? ⟨w.heap.size,1,none⟩=some (.int .i64 0)/\w8.cell? ⟨w.heap.size,2,none⟩=some (.int .i64 (a.2:Nat))):=hide (by have h1:=(HF _ iw);refine⟨(aj gM 14).trans rfl,bV.cell h1.2.1 (λe=>?_),bV.cell h1.2.2.1 (λe=>?_),bV.cell h1.2.2.2 (λe=>?_)⟩;all_goals obtain⟨cur,hcur⟩:=ig.sinks.typ _ e.symm;have h2:=OQ _ iw;rw[h2]at hcur;simp at hcur);clear fU bV kg gM jQ gQ;refine hK _ _ (λ_=>D7) ?_;clear hK K;simp only[Act.put,eU];have r2:=(aj iq 14).trans rfl;have z2:=aD iq 14;refine aF (i:=17) (by kernel_rfl) (by rfl) (λK hK=>?_);go_simp;refine hK _ _ (λh=>absurd (h.symm.trans (by kernel_rfl)) dK) ?_;clear hK K;refine aF (i:=18) (by kernel_rfl) (by rfl) (λK hK=>?_);go_simp;refine hK _ _ (λh=>absurd (h.symm.trans (by kernel_rfl)) dK) ?_;clear hK K;refine aF (i:=19) (by kernel_rfl) (by rfl) (λK hK=>?_);go_simp;refine hK _ _ (λh=>absurd (h.symm.trans (by kernel_rfl)) dK) ?_;clear hK K;refine aF (i:=20) (by kernel_rfl) (by rfl) (λK hK=>?_);go_simp;refine hK _ _ (λh=>absurd (h.symm.trans (by kernel_rfl)) dK) ?_;clear hK K;refine bB (by kernel_rfl) ?_ _;go_wp2_with fail;go_end0;exact⟨rfl,hide ⟨_,qd,Uj.trans ((Fq.of_below iw).trans uI)⟩⟩
theorem lH.putCo{w0 w:World}{r:Rx}{s:Q4}{nl E:List ByteArray}{cs:List Co}{sk:List Si}{w1:World}{g L cap:Nat}{y:Co}(h:lH w0 w r s nl E cs sk)(hown:gP Qm w1 w0.heap.size 179 4 (.slice (some ⟨g,0,none⟩) L cap) (cs++[y]))(hg:w.grownBy w1 s.co.ownBlock)(He:s.co.ownBlock=some g\/g=w.heap.size):w1.heap[r.p]?=some (.cells (qI r s.nm s.co s.sk s.ef) 174 (0,0))/\lH w0 (w1.setCell ⟨r.p,13,none⟩ (.slice (some ⟨g,0,none⟩) L cap)) r { s with co:=.slice (some ⟨g,0,none⟩) L cap } nl E (cs++[y]) sk/\Fq r.p s { s with co:=.slice (some ⟨g,0,none⟩) L cap } w (w1.setCell ⟨r.p,13,none⟩ (.slice (some ⟨g,0,none⟩) L cap)):=by
 have hne:∀(p:Nat) cs t,w.heap[p]?=some (.cells cs t (0,0))->t≠179->w1.heap[p]?=some (.cells cs t (0,0)):=λp cs t hp ht=>by
  rw[hg.block p (block_lt hp) (λe=>?_)];·exact hp
  ·obtain⟨cur,hc⟩:=h.cons.typ p e.symm;rw[hp]at hc;simp at hc;exact ht hc.2
 have hb1:=hne r.p _ _ h.blk (by decide);have hit2:∀v l,bq w1 v l->bq (w1.setCell ⟨r.p,13,none⟩ (.slice (some ⟨g,0,none⟩) L cap)) v l:=λv l hi=>hi.nK hb1 (by decide) 13 _;have hit:∀v l,bq w v l->bq (w1.setCell ⟨r.p,13,none⟩ (.slice (some ⟨g,0,none⟩) L cap)) v l:=λv l hi=>hit2 v l (hi.grown hg (λk e=>by obtain⟨cur,hc⟩:=h.cons.typ k e;exact⟨cur,_,hc,by decide⟩));have hset:∀(p:Nat) cs t,w1.heap[p]?=some (.cells cs t (0,0))->t≠174->(w1.setCell ⟨r.p,13,none⟩ (.slice (some ⟨g,0,none⟩) L cap)).heap[p]?=some (.cells cs t (0,0)):=λp cs t hp ht'=>by refine aV hp (λe=>?_) _;subst e;rw[hb1]at hp;simp at hp;exact ht' hp.2.symm
 have hbel:Below w0.heap.size w0 w1:=⟨hg.os.trans h.base.os,hg.tape.trans h.base.tape,hg.output.trans h.base.output,bS h.base.size hg.size,λk hk=>by rw[hg.block k (ql hk h.base.size) (λe=>by have:=(h.cons.lt k e.symm).1;omega)];exact h.base.block k hk⟩;refine⟨hb1,⟨h.ok,(aQ hb1 13 _).trans rfl,h.new,hbel.setCell (p:=⟨r.p,13,none⟩) h.new _,(h.names.keep λj cur _ hj=>hne _ _ _ hj (by decide)).wC hb1 (by decide) _,(h.fM.keep λj cur _ hj=>hne _ _ _ hj (by decide)).wC hb1 (by decide) _,h.apart,hown.keep (λj cur _ hh=>hset j _ _ hh (by decide)) (λ_ _ hc=>hc.mono hit2),h.sinks.keep (λj cur _ hh=>hset j _ _ (hne j _ _ hh (by decide)) (by decide)) (λ_ _ hc=>hc.mono hit)⟩,?_⟩;refine⟨hg.os,hg.tape,hg.output,by simp only[World.setCell,vw];exact hg.size,λk hk hp hs=>?_,λk hk=>?_⟩;·rw[qm _ _ _ _ hp];exact hg.block k hk (λe=>hs (Or.inr (Or.inl e.symm)))
 ·unfold Q4.has at hk ⊢;simp only[Value.ownBlock]at hk;rcases hk with e|e|e|e;·exact Or.inl (Or.inl e)
  ·simp at e;subst e;rcases He with e|e;·exact Or.inl (Or.inr (Or.inl e))
   ·exact Or.inr (by omega)
  ·exact Or.inl (Or.inr (Or.inr (Or.inl e)))
  ·exact Or.inl (Or.inr (Or.inr (Or.inr e)))
structure Dp(w:World)(p:Nat)(s:Q4)(v:Value)(l:List ByteArray):Prop where
 strs:Strs w v l
 blk:∀k,v.ownBlock=some k->k<w.heap.size/\k≠p/\¬s.has k
theorem Dp.keep{w w':World}{p:Nat}{s s':Q4}{v:Value}{l:List ByteArray}(h:Dp w p s v l)(hq:Fq p s s' w w'):Dp w' p s' v l:=by
 obtain⟨⟨a,b,off,cap,e,h0,hl,hs,h1⟩,hb⟩:=h;refine⟨⟨a,b,off,cap,e,h0,hl,hs,λj hj=>?_⟩,λk hk=>?_⟩;·obtain⟨k1,k2,k3⟩:=hb b (by rw[e,h0 (by omega)];rfl);rw[World.cell?_of_block (w:=w) (hq.block b k1 k2 k3)];exact h1 j hj
 ·obtain⟨k1,k2,k3⟩:=hb k hk;refine⟨ql k1 hq.size,k2,λe=>?_⟩;rcases hq.fresh k e with e|e;·exact k3 e
  ·omega
theorem Dp.below{w w':World}{p:Nat}{s:Q4}{v:Value}{l:List ByteArray}(h:Dp w p s v l)(hb:Below w.heap.size w w'):Dp w' p s v l:=h.keep (Fq.of_below hb)
theorem Dp.of_own{w0 w w':World}{r:Rx}{s:Q4}{nl E:List ByteArray}{cs:List Co}{sk:List Si}{v:Value}{l:List ByteArray}(h:lH w0 w r s nl E cs sk)(ho:Own w' w.heap.size v l)(hz:∀u∈l,u.size<=maxLen)(hl:l.length<=9223372036854775807):Dp w' r.p s v l:=⟨ho.strs hz hl,λk hk=>by have h1:=ho.lt k hk;have h2:=block_lt h.blk;exact⟨h1.2,by omega,λe=>by have:=h.lt e;omega⟩⟩
theorem Fq.at{p k:Nat}{s s':Q4}{w w':World}{o:Obj}(hq:Fq p s s' w w')(h:w.heap[k]?=some o)(hp:k≠p)(hs:¬s.has k):w'.heap[k]?=some o:=(hq.block k (block_lt h) hp hs).trans h
namespace Fl
def Env.iN(c:Env):Nat->Ex->List ByteArray
 | 0,_=>[]
 | m+1,x=>x.args.flatMap (Env.iN c m)++if x.kind=4 then (c.bO x.name).dF else []
section
variable {c : Env}
theorem Env.oN(hs:∀s,(c.bO s).dF.length<=1048576):∀(m:Nat) (x:Ex),(c.iN m x).length<=1048576*eu m x
 | 0,_=>by simp[Env.iN]
 | m+1,x=>by
  simp only[Env.iN,eu,aP,dZ];have h1:=dU (l:=x.args) λy _=>Env.oN hs m y;rw[jw]at h1;have h2:(if x.kind=4 then (c.bO x.name).dF else []).length<=1048576:=by
   split;·exact hs _
   ·simp
  omega
theorem Env.lW(hu:∀s,∀u∈(c.bO s).dF,u.size<=maxLen):∀{m:Nat} {x:Ex} {v:ByteArray},v∈c.iN m x->v.size<=maxLen
 | 0,_,_,hv=>by simp[Env.iN]at hv
 | m+1,x,v,hv=>by
  simp only[Env.iN,cK,dS]at hv;rcases hv with⟨y,hy,hv⟩|hv;·exact Env.lW hu hv
  ·split at hv;·exact hu _ _ hv
   ·simp at hv
theorem Env.Fa:∀{m:Nat} {x:Ex} {v:ByteArray},v∈c.yL m x↔v∈c.kJ m x\/v∈c.iN m x
 | 0,_,_=>by simp[Env.yL,Env.kJ,Env.iN]
 | m+1,x,v=>by
  have ih:=λy:Ex=>Env.Fa (m:=m) (x:=y) (v:=v);simp only[Env.yL,Env.kJ,Env.iN,cK,dS,ih];by_cases h2:x.kind=2
  ·have h4:¬x.kind=4:=by omega
   simp only[if_pos h2,if_neg h4,uX,or_false];constructor
   ·rintro(h|⟨y,hy,h|h⟩);·exact Or.inl (Or.inl h)
    ·exact Or.inl (Or.inr ⟨y,hy,h⟩)
    ·exact Or.inr ⟨y,hy,h⟩
   ·rintro((h|⟨y,hy,h⟩)|⟨y,hy,h⟩);·exact Or.inl h
    ·exact Or.inr ⟨y,hy,Or.inl h⟩
    ·exact Or.inr ⟨y,hy,Or.inr h⟩
  ·simp only[if_neg h2,uX,false_or];constructor
   ·rintro(h|⟨y,hy,h|h⟩);·exact Or.inr (Or.inr h)
    ·exact Or.inl ⟨y,hy,h⟩
    ·exact Or.inr (Or.inl ⟨y,hy,h⟩)
   ·rintro(⟨y,hy,h⟩|⟨y,hy,h⟩|h);·exact Or.inr ⟨y,hy,Or.inl h⟩
    ·exact Or.inr ⟨y,hy,Or.inr h⟩
    ·exact Or.inl h
end
end Fl
end Go.Proofs.YtfnboapebijcpaaGreatDoor
