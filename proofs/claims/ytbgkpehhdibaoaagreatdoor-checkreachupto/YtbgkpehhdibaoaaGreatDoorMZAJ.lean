/- part -/
import Derived.Test.YtbgkpehhdibaoaaGreatDoorMZAH
import Derived.Test.YtbgkpehhdibaoaaGreatDoorMZAI
set_option maxHeartbeats 0
set_option maxRecDepth 99999
namespace Go.Proofs.YtbgkpehhdibaoaaGreatDoor
open bO aO
open Go.Proofs.Tryz
open Go.RowKit
variable{w w1 W w':World}{E P:Prop}{n B r j k d i m:Nat}{v c0 c1 c2 c3 c4 va a0 a1 a2 a3 a4 a5 vi vv vf vk:Value}{l:List Int}{a:Addr}{x y:Mo}{call s:aZ}{known:List Mo}
def MoEl(w:World)(m b off:Nat)(l:List Mo):Prop:=
 ∀i x,l[i]?=some x->∃vi vv vf,w.cell? ⟨b,off+i*4,none⟩=some (.string x.name)/\w.cell? ⟨b,off+i*4+1,none⟩=some vi/\w.cell? ⟨b,off+i*4+2,none⟩=some vv/\w.cell? ⟨b,off+i*4+3,none⟩=some vf/\gT w m (.agg #[.string x.name,vi,vv,vf]) x
theorem Gg{ops:Array Oper}{o:Oper}{a:Act}{K:Act->World->Prop}{Q:Exit->Act->World->Prop}(hgd:o.guard=none)(s x:Operand)(ho:o.op=.call { callee:=.builtin .append,args:=#[s,x],argTypes:=#[27,27] })(base:Nat)(v:Value)(l:List Int)(ln:Nat)(hln:l.length=ln)(hs:a.eval s=v)(hown:gB w base v l)(B:Nat)(t:Int)(hx:a.eval x=Y (some (X B 0)) 1 1)(hc:w.cell? (X B 0)=some (O t))(hl:l.length<=1048576)(hbase:base<=w.heap.size)(h:∀g cap w',gB w' base (Y (some (X g 0)) (ln+1) cap) (l++[t])->w.grownBy w' v.ownBlock->K (a.put o.dst (Y (some (X g 0)) (ln+1) cap)) w'):if Region.wanted o (yielded ops a.tmps)=true then Oper.wp prog o a w K Q else E:=by
 subst hln;obtain⟨iS,BN,hz0,hz1,hz2⟩:=info_parts y8;have hown':w.ownsRow base 3 1 v l.length (l.map (Value.int .i64)):=hown;refine step_append_lies w hgd s x 27 ho base 3 iS (O 0) 1 8 underlying27 BN hz0 hz1 hz2 rfl bP v l.length (l.map (Value.int .i64)) hs hown' (X B 0) 1 1 [O t] hx rfl (λj u hu=>?_) (λu hu=>?_) bP (by unfold maxLen;omega) aV hbase w.heap.size rfl ?_
 ·cases j with
  | zero =>simp at hu;subst hu;rw[Addr.add_lit];exact hc
  | succ j=>simp at hu
 ·simp at hu;subst hu;rfl
 ·intro g cap w' h1' h2 h3 _;refine h g cap w' ?_ h2;unfold gB;rw[fH,aW];exact h1'
theorem UF(w:World)(B:Nat)(s nm:aZ)(c1 c2 c3:Value)(hB:w.cell? (X B 0)=some (A s)):Calls prog 153 #[.agg #[A nm,c1,c2,c3],jk B] w λe w'=>e=cO (.bool (dD nm s))/\bG w w':=by have q0:=Ie w (A nm) c1 c2 c3 58;have HB0:=I (aH w (aY #[A nm,c1,c2,c3] 58));have qB:=aC hB HB0;have HE:Hid (dD nm s=(nm.toList==s.toList)):=rfl;clear hB;go_enter func153,ntmps153;go_wp2;go_ret;exact⟨aM HE.symm,HB0⟩
theorem ixMo_any(m:Nat)(w:World)(v:Value)(l:List Mo)(s:aZ)(B:Nat)(h:nC w m v l)(hB:w.cell? (X B 0)=some (A s)):Calls prog 118 #[v,.func (.func 153) #[] #[jk B]] w λe w'=>e=cO (O (oI (aO.dw l s)))/\bG w w':=by
 obtain⟨a,b,off,cap,rfl,ha,hbig,hel⟩:=h;have kg:=I hel;obtain⟨n,hn⟩:=bC l.length;have HN:=I hn;rw[<-hn]at ha hbig ⊢;obtain⟨HA,HB⟩:=bT ha hB;obtain⟨R,hR⟩:=bC (oI (aO.dw l s));have HR:=I hR;rw[<-hR];clear hel ha hB hR hn;go_enter func118,ntmps118;go_wp2_with fail;go_loopw[5,8] (λ_ i wr=>∃j:Nat,j<=n/\i=O j/\(∀d g,d<j->l[d]?=some g->dD g.name s=false)/\bG w wr) (λ_ i _=>n - (intOf i).toNat);case atStart=>exact⟨0,bI _,rfl,λd g hd=>aN hd (fK _),bN _ _⟩
 case round=>
  obtain⟨j,hj,rfl,hall,hnx⟩:=hrel;obtain⟨dU,dM⟩:=bT hall hnx;clear hall;by_cases hjl:j<n
  ·obtain⟨f,hf⟩:∃f,l[j]?=some f:=⟨_,bg (by have:=HN.out;omega)⟩;obtain⟨vi,vv,vf,g0,g1,g2,g3,-⟩:=kg j f hf;obtain rfl:=HA aV;have HF:=I hf;replace g0:=aC g0 hnx;replace g1:=aC g1 hnx;replace g2:=aC g2 hnx;replace g3:=aC g3 hnx;have HC:=I (UF wr B s f.name vi vv vf (aC HB hnx));clear hf hnx;generalize hq:dD f.name s=q at HC;have HQ:=I hq;clear hq;go_wp2_with fail;refine HC.mono ?_;rintro e w5 ⟨rfl,hb5⟩;have dW:=I (up dM hb5);clear hb5 g0 g1 g2 g3;cases q
   ·go_wp2_with fail;go_roundw;case rel=>exact⟨j+1,by omega,by go_num,λd g hd hg=>by
     by_cases e:d=j;·subst e;rw[HF]at hg;cases hg;exact HQ
     ·exact dU d g aV hg,dW⟩
    case measure=>simp[intOf];omega
   ·go_wp2_with fail;go_ret;exact⟨by rw[HR,moAt_hit HF HQ dU];rfl,dW⟩
  ·go_wp2_with fail;go_ret;exact⟨by rw[HR,Y1 λd g hg=>dU d g (by have:=(dz.1 hg).1;have:=HN.out;omega) hg];rfl,dM⟩
structure Za(w W:World)(c0 c1 c2 c3 c4 va:Value):Prop where
 res:W.heap[w.heap.size+1]?=some (.cells #[.string ⟨#[]⟩,.slice none 0 0,.slice none 0 0,.slice none 0 0,.slice none 0 0,.slice none 0 0] 189 (0,0))
 loc:W.heap[w.heap.size+1+1]?=some (.cells #[c0,c1,c2,c3,c4,va] 189 (0,0))
 below:Below w.heap.size w W
 size:w.heap.size+3<=W.heap.size
section
variable {w W W' : World} {c0 c1 c2 c3 c4 va : Value}
theorem Za.grow(h:Za w W c0 c1 c2 c3 c4 va)(hb:bG W W'):Za w W' c0 c1 c2 c3 c4 va:=
 ⟨by rw[hb.block _ (bE h.res)];exact h.res,by rw[hb.block _ (bE h.loc)];exact h.loc,up h.below hb,bH h.size hb.size⟩
theorem Za.grown{r:Option Nat}(h:Za w W c0 c1 c2 c3 c4 va)(hg:W.grownBy W' r)(hr:∀k,r=some k->w.heap.size+3<=k):Za w W' c0 c1 c2 c3 c4 va:=by
 have hs:=h.size;refine⟨?_,?_,jT h.below hg (λk hk=>by have:=hr k hk;omega),bH h.size hg.size⟩;·rw[hg.block _ (bE h.res) (λe=>by have:=hr _ e.symm;omega)];exact h.res
 ·rw[hg.block _ (bE h.loc) (λe=>by have:=hr _ e.symm;omega)];exact h.loc
theorem Za.set(h:Za w W c0 c1 c2 c3 c4 va)(u:Value):Za w (W.setCell (X (w.heap.size+1+1) 5) u) c0 c1 c2 c3 c4 u:=by refine⟨bL h.res cZ _,by rw[aP h.loc];rfl,?_,by simp only[World.setCell,DY];exact h.size⟩;refine⟨h.below.os,h.below.tape,h.below.output,by simp only[World.setCell,DY];exact h.below.size,λk hk=>?_⟩;rw[uE _ _ _ _ (by simp;omega)];exact h.below.block k hk
end
theorem gB.jV(h:gB w n v l)(ha:a.block<n)(x:Value):gB (w.setCell a x) n v l:=by
 obtain⟨h0,h1⟩:=h;refine⟨h0,?_⟩;rcases h1 with h1|⟨g,cap,cur,hv,hg,hh,r⟩;·exact aR h1
 ·exact aT ⟨g,cap,cur,hv,hg,bL hh aV _,r⟩
theorem gB.shape(h:gB w B v l):∃a cap,v=Y a l.length cap:=by
 obtain⟨_,h1⟩:=h;rcases h1 with⟨rfl,h1⟩|⟨g,cap,cur,rfl,_⟩;·rw[h1];exact⟨_,_,rfl⟩
 ·exact⟨_,_,rfl⟩
theorem gB.lt(h:gB w B v l):∀j,v.ownBlock=some j->B<=j/\j<w.heap.size:=D9 h
theorem Fz(h:bG w w1):bG w w1.drew:=⟨h.os,h.tape,h.output,h.size,h.block⟩
theorem Za.cell(h:Za w W c0 c1 c2 c3 c4 va):W.cell? (X (w.heap.size+1+1) 5)=some va/\W.frozen? (X (w.heap.size+1+1) 5)=false:=⟨(aj h.loc 5).trans rfl,aG h.loc 5⟩
theorem put6{T:TypeId}(h:W.heap[r]?=some (.cells #[a0,a1,a2,a3,a4,a5] T (0,0)))(v0 v1 v2 v3 v4 v5:Value):∃W',W'=((((((W.setCell (X r 0) v0).setCell (X r 1) v1).setCell (X r 2) v2).setCell (X r 3) v3).setCell (X r 4) v4).setCell (X r 5) v5)/\W'.heap[r]?=some (.cells #[v0,v1,v2,v3,v4,v5] T (0,0)):=by refine⟨_,rfl,?_⟩;have h0:=aP h 0 v0;have h1:=aP h0 1 v1;have h2:=aP h1 2 v2;have h3:=aP h2 3 v3;have h4:=aP h3 4 v4;have h5:=aP h4 5 v5;exact h5
theorem rE(h:bG w W)(ha:w.heap.size<=a.block)(v:Value):bG w (W.setCell a v):=
 ⟨h.os,h.tape,h.output,by simp only[World.setCell,DY];exact h.size,λk hk=>by rw[uE _ _ _ _ aV];exact h.block k hk⟩
theorem Iy{α β:Type}{f:α->β}{l:List α}{y:α}(h:l[j]?=some y):(l.take (j+1)).map f=(l.take j).map f++[f y]:=by rw[gH,h];simp
theorem Cr(m:Nat)(w:World)(vi vv vf vk:Value)(x:Mo)(known:List Mo)(h:gT w m (.agg #[A x.name,vi,vv,vf]) x)(hK:nC w m vk known)(hni:x.imports.length<=1048576):Calls prog 98 #[.agg #[A x.name,vi,vv,vf],vk] w λe w'=>∃va,e=cO (.agg #[A x.name,vi,vv,vf,vk,va])/\Ints w' va (x.imports.map λs=>oI (aO.dw known s))/\bG w w':=by
 obtain⟨vi',vv',vf',hz,hnm,hI,hV,hF⟩:=h;injection hz with hz;injection hz with hz;injection hz with _ hz;injection hz with hz1 hz;injection hz with hz2 hz;injection hz with hz3 _;subst hz1 hz2 hz3;have HK:=I hK;obtain⟨ai,bi,oi,ci,rfl,hai,NI,hcs,hci⟩:=hI;obtain⟨av,bv,ov,cv,rfl,-⟩:=hV;obtain⟨af,bf,of,cf,rfl,-⟩:=hF;obtain⟨ak,bk,ok,ck,rfl,-⟩:=hK;have HCI:=I hci;obtain⟨f,hf⟩:∃f:aZ->Int,f=λs=>oI (aO.dw known s):=⟨_,rfl⟩;have HFF:=I hf;rw[<-hf];obtain⟨imps,himps⟩:=bC x.imports;rw[<-himps]at hai NI hni HCI ⊢;obtain⟨ni,hni'⟩:∃n,n=imps.length:=⟨_,rfl⟩;have DR:=I hni';rw[<-hni']at hai NI hni ⊢;have HA:=I hai;generalize x.vars.length=nv at *;generalize x.bq.length=nf at *;generalize hnk:known.length=nk at *;have q1:=Fv w (A x.name) (Y ai ni ci) (Y av nv cv) (Y af nf cf) 58;have HW0:Hid (Za w (((w.alloc (aY #[A x.name,Y ai ni ci,Y av nv cv,Y af nf cf] 58)).alloc (aY #[A ⟨#[]⟩,J,J,J,J,J] 189)).alloc (aY #[A x.name,Y ai ni ci,Y av nv cv,Y af nf cf,Y ak nk ck,J] 189)) (A x.name) (Y ai ni ci) (Y av nv cv) (Y af nf cf) (Y ak nk ck) (J)):=by
  refine I ⟨?_,?_,up (up (aH _ _) (aH _ _)) (aH _ _),?_⟩;·have h1:=bD (w.alloc (aY #[A x.name,Y ai ni ci,Y av nv cv,Y af nf cf] 58)) (aY #[A ⟨#[]⟩,J,J,J,J,J] 189);rw[(aH _ _).block _ cZ];simpa using h1
  ·have h1:=bD ((w.alloc (aY #[A x.name,Y ai ni ci,Y av nv cv,Y af nf cf] 58)).alloc (aY #[A ⟨#[]⟩,J,J,J,J,J] 189)) (aY #[A x.name,Y ai ni ci,Y av nv cv,Y af nf cf,Y ak nk ck,J] 189);simpa using h1
  ·simp
 clear hci hcs hf hai hni' hnm himps hnk;go_enter func98,ntmps98;go_wp2_with fail;generalize (((w.alloc (aY #[A x.name,Y ai ni ci,Y av nv cv,Y af nf cf] 58)).alloc (aY #[A ⟨#[]⟩,J,J,J,J,J] 189)).alloc (aY #[A x.name,Y ai ni ci,Y av nv cv,Y af nf cf,Y ak nk ck,J] 189))=W0 at *;clear q1;go_loopw[14] (λi wr=>∃(j:Nat) (va:Value),j<=ni/\i=O j/\Za w wr (A x.name) (Y ai ni ci) (Y av nv cv) (Y af nf cf) (Y ak nk ck) va/\gB wr (w.heap.size+3) va ((imps.take j).map f)) (λi _=>ni - (intOf i).toNat);case atStart=>exact⟨0,J,bI _,rfl,HW0,by simp only[List.take_zero,jN];exact kS _ _ _ _⟩
 case round=>
  obtain⟨j,va,hj,rfl,hS,hO⟩:=hrel;obtain⟨HS,HO⟩:=bT hS hO;by_cases hjl:j<ni
  ·obtain⟨s,hs⟩:∃s,imps[j]?=some s:=⟨_,bg (by have:=DR.out;omega)⟩;have c0:=aC (HCI j (by have:=DR.out;omega)) hS.below;rw[wP,hs,iK]at c0;obtain rfl:=HA aV;have HST:=I (Iy (f:=f) hs);have FC:Hid (((imps.take j).map f).length=j):=I (by rw[dR,jO];have:=DR.out;omega);obtain⟨va1,va2,hva⟩:=hO.shape;rw[FC]at hva;subst hva;have wW:=I ((HK.below hS.below).below (aH wr (aY #[A s] 9)));have HC:=I (λwx (hb:Below (wr.alloc (aY #[A s] 9)).heap.size (wr.alloc (aY #[A s] 9)) wx)=>ixMo_any m wx _ known s wr.heap.size (wW.below hb) (aC (box1 wr (A s) 9) hb));rw[show oI (aO.dw known s)=f s from by rw[HFF]]at HC;obtain⟨rU,HO1⟩:=bT (hS.grow (aH wr (aY #[A s] 9))) (fC hO (aH wr (aY #[A s] 9)));obtain⟨u5,z5⟩:=rU.cell;clear hs hS hO;go_wp2_with fail;generalize wr.alloc (aY #[A s] 9)=W1 at *
   go_region_law (first
    | (go_simp;go_at_call 118;refine(HC _ (by repeat(first|exact bN _ _|apply Fz))).mono ?_;rintro e w6 ⟨rfl,hb6⟩;have eF:Hid (bG W1 w6):=I (up (by repeat(first|exact bN _ _|apply Fz):bG W1 _) hb6);have wX:=I (rU.grow eF);have BO:=I (fC HO1 eF);obtain⟨u56,z56⟩:=wX.cell;have zG:w.heap.size+1+1<w6.heap.size:=(by have:=wX.size;omega);clear hb6;dsimp only)
    | (refine Gg dH _ _ dH (w.heap.size+3) _ _ j FC dH (fC BO (aH _ _)) _ (f s) dH (box1 _ _ _) (by have:=FC.out;omega) (bH wX.out.size (aH _ _).size) ?_;intro g cap w7 iY dK;have BP:=I iY;have Ma:=I ((wX.grow (aH _ _)).grown dK (λk hk=>(gB.lt BO k hk).1));obtain⟨u57,z57⟩:=Ma.cell;clear iY dK)
    | fail)
   all_goals
    go_wp2_with fail;go_roundw;case rel=>exact⟨j+1,_,by omega,by go_num,Ma.set _,by rw[HST];exact BP.jV (a:=(X (w.heap.size+1+1) 5)) (by show w.heap.size+1+1<w.heap.size+3;omega) _⟩
    case measure=>simp[intOf];omega
  ·have wY:(imps.take j)=imps:=fJ (by have:=DR.out;omega);have hlen:((imps.take j).map f).length=ni:=by rw[wY,dR,<-DR]
   rw[wY]at HO;obtain⟨va1,va2,hva⟩:=hO.shape;rw[hlen]at hva;subst hva;have xQ:=λi (v:Value) (hv:(#[A x.name,Y ai ni ci,Y av nv cv,Y af nf cf,Y ak nk ck,Y va1 ni va2]:Array Value)[i]?=some v)=>(aj HS.loc i).trans hv;have mG:=λi (v:Value) (hv:(#[A ⟨#[]⟩,J,J,J,J,J]:Array Value)[i]?=some v)=>(aj HS.res i).trans hv;obtain⟨l0,l1,l2,l3⟩:=rG (xQ 0 _ rfl) (xQ 1 _ rfl) (xQ 2 _ rfl) (xQ 3 _ rfl);obtain⟨l4,l5⟩:=eD (xQ 4 _ rfl) (xQ 5 _ rfl);obtain⟨r0,r1,r2,r3,r4,r5,f0⟩:=Iz (mG 0 _ rfl) (mG 1 _ rfl) (mG 2 _ rfl) (mG 3 _ rfl) (mG 4 _ rfl) (mG 5 _ rfl) (aG HS.res 0);obtain⟨f1,f2,f3,f4⟩:=rG (aG HS.res 1) (aG HS.res 2) (aG HS.res 3) (aG HS.res 4);have f5:=aG HS.res 5;clear hS hO;clear wY hlen;obtain⟨Wf,hWf,hf6⟩:=put6 HS.res (A x.name) (Y ai ni ci) (Y av nv cv) (Y af nf cf) (Y ak nk ck) (Y va1 ni va2);have eF:Hid (bG w Wf):=by rw[hWf];exact I (rE (rE (rE (rE (rE (rE HS.below cZ _) cZ _) cZ _) cZ _) cZ _) cZ _)
   have hr3:w.heap.size+1<w.heap.size+3:=by omega
   have BO:Hid (gB Wf (w.heap.size+3) (Y va1 ni va2) (imps.map f)):=by rw[hWf];exact I ((((((HO.jV hr3 _).jV hr3 _).jV hr3 _).jV hr3 _).jV hr3 _).jV hr3 _)
   obtain⟨HWF,HF6⟩:=bT hWf hf6;clear hWf hf6;go_wp2_with fail;rw[<-HWF];obtain⟨g0,g1,g2,g3,g4,g5⟩:=Xl HF6;refine bW (v:=.agg #[A x.name,Y ai ni ci,Y av nv cv,Y af nf cf,Y ak nk ck,Y va1 ni va2]) (by simp[results,results98,go_sem,g0,g1,g2,g3,g4,g5]) rfl ?_;exact⟨_,rfl,gB.ints BO (by rw[dR,<-DR];omega),eF⟩
namespace aO
def gq(x:Mo)(k:Nat)(call:aZ)(known:List Mo):Int × Int × Bool:=
 match jo call with
 | none=>AQ (-1) x.bq call k
 | some _=>if dF x.imports (bO.preS call)<0 then (0,0,false)else
  match dw known (x.imports.getD (dF x.imports (bO.preS call)).toNat ByteArray.empty)with
  | none=>(0,0,false)
  | some a=>AQ a ((known[a]?.map (·.bq)).getD []) (om call) ((known[a]?.map (·.bq)).getD []).length
theorem IB(hd:jo call=some d)(hi:dF x.imports (bO.preS call)=(i:Int))(hm:dw known (x.imports.getD i ByteArray.empty)=none):gq x k call known=(0,0,false):=by unfold gq;rw[hd];simp only;rw[aJ (by rw[hi];omega),hi,Ct,hm]
theorem NJ{a:Nat}(hd:jo call=some d)(hi:dF x.imports (bO.preS call)=(i:Int))(hm:dw known (x.imports.getD i ByteArray.empty)=some a)(hy:known[a]?=some y):gq x k call known=AQ a y.bq (om call) y.bq.length:=by unfold gq;rw[hd];simp only;rw[aJ (by rw[hi];omega),hi,Ct,hm];simp only[hy,jP,iK]
theorem vV{l:List Mo}{a:Nat}(h:dw l s=some a):∃y,l[a]?=some y/\dD y.name s=true:=by
 unfold dw at h;have h1:=Qp h;cases hy:l[a]? with
 | none=>rw[hy]at h1;simp at h1
 | some y=>rw[hy]at h1;exact⟨y,rfl,h1⟩
end aO
theorem Zb(w:World)(c0 c1 c2 c3 c4 c5:Value)(t:TypeId)(i:Nat)(v:Value)(h:(#[c0,c1,c2,c3,c4,c5]:Array Value)[i]?=some v):(w.alloc (.cells #[c0,c1,c2,c3,c4,c5] t)).cell? (X w.heap.size i)=some v:=
 (aj (bD w (.cells #[c0,c1,c2,c3,c4,c5] t)) i).trans h
theorem Xm{R R':Int × Int × Bool}(h:R=R')(hb:P):(cO (.tuple #[O R.1,O R.2.1,.bool R.2.2])=cO (.tuple #[O R'.1,O R'.2.1,.bool R'.2.2]))/\P:=by subst h;exact⟨rfl,hb⟩
theorem y9(l:List aZ)(s:aZ):dF l s=-1\/∃i:Nat,dF l s=i/\i<l.length:=by
 unfold dF;cases h:(List.range l.length).find? (Nn l s)with
 | none=>exact aR rfl
 | some i=>exact aT ⟨i,rfl,jG.1 (LJ h)⟩
structure ScV(w:World)(m:Nat)(x:Mo)(known:List Mo)(vi vv vf vk va:Value):Prop where
 mo:gT w m (.agg #[.string x.name,vi,vv,vf]) x
 kn:nC w m vk known
 ats:Ints w va (x.imports.map λs=>oI (aO.dw known s))
 cap:∀a n c,vf=.slice a n c->n<=c
theorem ScV.below(h:ScV w m x known vi vv vf vk va)(hb:bG w w'):ScV w' m x known vi vv vf vk va:=
 ⟨h.mo.below hb,h.kn.below hb,h.ats.below hb,h.cap⟩
theorem gT.split(h:gT w m (.agg #[A x.name,vi,vv,vf]) x):Strs w vi x.imports/\wM w vv x.vars/\lS w m vf x.bq:=by obtain⟨vi',vv',vf',hz,hnm,hI,hV,hF⟩:=h;injection hz with hz;injection hz with hz;injection hz with _ hz;injection hz with hz1 hz;injection hz with hz2 hz;injection hz with hz3 _;subst hz1 hz2 hz3;exact⟨hI,hV,hF⟩
theorem FI(m:Nat)(w:World)(x:Mo)(known:List Mo)(vi vv vf vk va:Value)(k:Nat)(call:aZ)(h:ScV w m x known vi vv vf vk va)(hk:k<=x.bq.length)(hc:call.size<=maxLen):Calls prog 208 #[.agg #[A x.name,vi,vv,vf,vk,va],O k,A call] w λe w'=>e=cO (.tuple #[O (aO.gq x k call known).1,O (aO.gq x k call known).2.1,.bool (aO.gq x k call known).2.2])/\bG w w':=by
 obtain⟨hI,hV,hF⟩:=h.mo.split;obtain⟨HI,NK⟩:=bT hI h.cap;obtain⟨hK,hA⟩:=eD h.kn h.ats;obtain⟨ai,bi,oi,ci,rfl,-⟩:=hI;obtain⟨av,bv,ov,cv,rfl,-⟩:=hV;obtain⟨af,bf,of,cf,rfl,KF,hlf,hcf⟩:=hF;obtain⟨ak,bk,ok,ck,rfl,hak,hlk,hck⟩:=hK;have hcap:=h.cap _ _ _ rfl;have HEF:Hid (KY w m bf of x.bq):=hcf;obtain⟨KG,HAK,vW⟩:=fq KF hak hck;obtain⟨aa,ba,oa,ca,rfl,haa,hla,hca⟩:=hA;obtain⟨HAA,NM⟩:=bT haa hca;obtain⟨R,hR⟩:∃R,R=aO.gq x k call known:=⟨_,rfl⟩;have HR:=I hR;rw[<-hR];have KU:Hid (∀w,Calls prog 249 #[A call,A ⟨#[46]⟩] w λe w'=>e=cO (.tuple #[A (bO.preS call),A (om call),.bool (jo call).isSome])/\bG w w'):=λw=>Xj w call hc;obtain⟨ni,hni⟩:∃n,n=x.imports.length:=⟨_,rfl⟩;obtain⟨nf,hnf⟩:∃n,n=x.bq.length:=⟨_,rfl⟩;obtain⟨nk,hnk⟩:∃n,n=known.length:=⟨_,rfl⟩;have Uu:(x.imports.map λs=>oI (aO.dw known s)).length=ni:=by rw[List.length_map,hni]
 rw[Uu]at hla HAA ⊢;obtain⟨uH,KH,DR⟩:=fq hnf hnk hni;rw[<-hni]at HI;rw[<-hnf]at hcap hk hlf KG;rw[<-hnk]at hlk HAK;rw[<-hni,<-hnf,<-hnk];generalize x.vars.length=nv at *;have dO:=λi v h=>Zb w (A x.name) (Y ai ni ci) (Y av nv cv) (Y af nf cf) (Y ak nk ck) (Y aa ni ca) 189 i v h;have HB0:=I (aH w (aY #[A x.name,Y ai ni ci,Y av nv cv,Y af nf cf,Y ak nk ck,Y aa ni ca] 189));obtain⟨q1,q3,q4,q5⟩:=rG (dO 1 _ rfl) (dO 3 _ rfl) (dO 4 _ rfl) (dO 5 _ rfl);clear KF hak hcf hck haa hca hni hnf hnk Uu hR h;cases hd:jo call with
 | none =>rw[hd]at KU;have HD:=I hd;clear hd;generalize om call=suf at *;generalize bO.preS call=pre at *;go_enter func208,ntmps208;go_wp2_with fail;refine(KU.out _).mono ?_;rintro e w1 ⟨rfl,hb1⟩;replace q3:=aC q3 hb1;have HB1:=I (up HB0.out hb1);clear hb1 q1 q4 q5;go_wp2_with fail;refine(Uy _ af nf cf k hk hcap).mono ?_;rintro e w2 ⟨rfl,hw2⟩;subst hw2;go_wp2_with fail;refine(LV m _ af bf of cf k x.bq call (-1) (by rw[<-uH.out];exact hk) (by rw[<-uH.out];exact hlf) (λh=>KG.out aV) (HEF.out.below HB1.out)).mono ?_;rintro e w3 ⟨rfl,hb3⟩;have HB3:=I (up HB1.out hb3);clear hb3;go_wp2_with fail;go_ret3;exact Xm (by rw[HR.out];simp[aO.gq,HD.out]) HB3.out
 | some dd=>
  rw[hd]at KU;have HD:=I hd;clear hd;obtain⟨suf,hsuf⟩:∃s,s=om call:=⟨_,rfl⟩;obtain⟨pre,hpre⟩:∃s,s=bO.preS call:=⟨_,rfl⟩;obtain⟨HSU,HPR⟩:=bT hsuf hpre;rw[<-hsuf,<-hpre]at KU;clear hsuf hpre;have HIX:=I (λwx (hb:bG w wx)=>Av wx _ x.imports pre (HI.out.below hb));rcases y9 x.imports pre with hix|⟨i,hi,hil⟩;·rw[hix]at HIX;have HXX:=I hix;clear hix;go_enter func208,ntmps208;go_wp2_with fail;refine(KU.out _).mono ?_;rintro e w1 ⟨rfl,hb1⟩;replace q1:=aC q1 hb1;have HB1:=I (up HB0.out hb1);clear hb1 q3 q4 q5;go_wp2_with fail;refine(HIX.out _ HB1.out).mono ?_;rintro e w2 ⟨rfl,hw2⟩;subst hw2;go_wp2;go_ret3;exact Nv (by rw[HR.out];simp[aO.gq,HD.out,<-HPR.out,HXX.out]) HB1.out
  ·rw[hi]at HIX;have HXX:=I hi;rw[<-DR.out]at hil;have haI:=HAA.out aV;subst haI;have c5:=NM.out i (oI (aO.dw known (x.imports.getD i ByteArray.empty))) (by
    have hil':i<x.imports.length:=by rw[<-DR.out];exact hil
    simp[List.getD_eq_getElem?_getD,hil'])
   clear hi;cases hm:aO.dw known (x.imports.getD i ByteArray.empty)with
   | none =>rw[hm]at c5;have HM:=I hm;have ho:oI none=-1:=rfl;rw[ho]at c5;clear hm ho;go_enter func208,ntmps208;go_wp2_with fail;refine(KU.out _).mono ?_;rintro e w1 ⟨rfl,hb1⟩;replace q1:=aC q1 hb1;replace q5:=aC q5 hb1;have HB1:=I (up HB0.out hb1);replace c5:=aC c5 HB1.out;clear hb1 q3 q4;go_wp2_with fail;refine(HIX.out _ HB1.out).mono ?_;rintro e w2 ⟨rfl,hw2⟩;subst hw2;go_wp2;go_ret3;exact Nv (by rw[HR.out];exact IB HD.out (by rw[<-HPR.out];exact HXX.out) HM.out) HB1.out
   | some a=>
    rw[hm]at c5;have HM:=I hm;have ho:oI (some a)=(a:Int):=rfl;rw[ho]at c5;obtain⟨y,hy,-⟩:=aO.vV hm;have hak:a<nk:=by have:=(List.getElem?_eq_some_iff.1 hy).1;rw[KH.out];exact this
    obtain⟨yi,yv,yf,g0,g1,g2,g3,KI⟩:=vW.out a y hy;obtain⟨-,-,hyF⟩:=KI.split;obtain⟨ay,bY,oy,cy,rfl,hay,hly,hcy⟩:=hyF;have HY:=I hy;obtain⟨ny,hny⟩:∃n,n=y.bq.length:=⟨_,rfl⟩;have HNY:=I hny;have NK:=I (λwx (hb:bG w wx)=>LV m wx ay bY oy cy y.bq.length y.bq suf a (Nat.le_refl _) hly hay ((show KY w m bY oy y.bq from hcy).below hb));rw[<-hny]at NK g3;have hkk:=HAK.out aV;subst hkk;obtain⟨T,hT⟩:∃T,T=aO.AQ a y.bq suf ny:=⟨_,rfl⟩;have HT:=I hT;rw[<-hT]at NK;clear hm ho hy KI hay hly hcy g0 g1 g2 hny hT;go_enter func208,ntmps208;go_wp2_with fail;refine(KU.out _).mono ?_;rintro e w1 ⟨rfl,hb1⟩;replace q1:=aC q1 hb1;replace q4:=aC q4 hb1;replace q5:=aC q5 hb1;have HB1:=I (up HB0.out hb1);replace c5:=aC c5 HB1.out;replace g3:=aC g3 HB1.out;clear hb1 q3;go_wp2_with fail;refine(HIX.out _ HB1.out).mono ?_;rintro e w2 ⟨rfl,hw2⟩;subst hw2;go_wp2_with fail;replace q4:=aX q4;replace q5:=aX q5;replace c5:=aX c5;replace g3:=aX g3;have HFG:=I (λn os=>NK.out _ (up HB1.out (bR w2 n os)));refine bS bU bU ?_;repeat(quiet_step ((exact Calls.pX (HFG.out _ _))))
    refine wpQuiet_nil ?_;intro _ hw';obtain⟨⟨nq,osq⟩,hw''⟩:=hw';subst hw'';have eF:=I (up HB1.out (bR w2 nq osq));go_wp2_with fail;go_ret3;exact Xm (by rw[HT.out,HR.out,NJ HD.out (by rw[<-HPR.out];exact HXX.out) HM.out HY.out,HNY.out,HSU.out]) eF.out
end Go.Proofs.YtbgkpehhdibaoaaGreatDoor
