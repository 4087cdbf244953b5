/- part -/
import Derived.Test.YtbgkpehhdibaoaaGreatDoorBZAH
import Derived.Test.YtbgkpehhdibaoaaGreatDoorBZAI
set_option maxHeartbeats 0
set_option maxRecDepth 99999
namespace Go.Proofs.YtbgkpehhdibaoaaGreatDoor
open bN bJ
open Go.Proofs.Tryz
open Go.RowKit
variable{w w1 W w':World}{E P:Prop}{n B r j k d i m:Nat}{v c0 c1 c2 c3 c4 va a0 a1 a2 a3 a4 a5 vi vv vf vk:Value}{l:List Int}{a:Addr}{x y:Mo}{call s:aY}{known:List Mo}
def MoEl(w:World)(m b off:Nat)(l:List Mo):Prop:=
 ∀i x,l[i]?=some x->∃vi vv vf,w.cell? ⟨b,off+i*4,none⟩=some (.string x.name)/\w.cell? ⟨b,off+i*4+1,none⟩=some vi/\w.cell? ⟨b,off+i*4+2,none⟩=some vv/\w.cell? ⟨b,off+i*4+3,none⟩=some vf/\iY w m (.agg #[.string x.name,vi,vv,vf]) x
theorem Ey{ops:Array Oper}{o:Oper}{a:Act}{K:Act->World->Prop}{Q:Exit->Act->World->Prop}(hgd:o.guard=none)(s x:Operand)(ho:o.op=.call { callee:=.builtin .append,args:=#[s,x],argTypes:=#[27,27] })(base:Nat)(v:Value)(l:List Int)(ln:Nat)(hln:l.length=ln)(hs:a.eval s=v)(hown:fM w base v l)(B:Nat)(t:Int)(hx:a.eval x=Y (some (X B 0)) 1 1)(hc:w.cell? (X B 0)=some (O t))(hl:l.length<=1048576)(hbase:base<=w.heap.size)(h:∀g cap w',fM w' base (Y (some (X g 0)) (ln+1) cap) (l++[t])->w.grownBy w' v.ownBlock->K (a.put o.dst (Y (some (X g 0)) (ln+1) cap)) w'):if Region.wanted o (yielded ops a.tmps)=true then Oper.wp prog o a w K Q else E:=by
 subst hln;obtain⟨iS,Ak,hz0,hz1,hz2⟩:=info_parts xO;have hown':w.ownsRow base 3 1 v l.length (l.map (Value.int .i64)):=hown;refine step_append_lies w hgd s x 27 ho base 3 iS (O 0) 1 8 underlying27 Ak hz0 hz1 hz2 rfl bO v l.length (l.map (Value.int .i64)) hs hown' (X B 0) 1 1 [O t] hx rfl (λj u hu=>?_) (λu hu=>?_) bO (by unfold maxLen;omega) aX hbase w.heap.size rfl ?_
 ·cases j with
  | zero =>simp at hu;subst hu;rw[Addr.add_lit];exact hc
  | succ j=>simp at hu
 ·simp at hu;subst hu;rfl
 ·intro g cap w' h1' h2 h3 _;refine h g cap w' ?_ h2;unfold fM;rw[fQ,aT];exact h1'
theorem Rw(w:World)(B:Nat)(s nm:aY)(c1 c2 c3:Value)(hB:w.cell? (X B 0)=some (A s)):Calls prog 153 #[.agg #[A nm,c1,c2,c3],iO B] w λe w'=>e=dz (.bool (dA nm s))/\bG w w':=by have q0:=F5 w (A nm) c1 c2 c3 58;have HB0:=I (aH w (aW #[A nm,c1,c2,c3] 58));have qB:=aD hB HB0;have HE:Hid (dA nm s=(nm.toList==s.toList)):=rfl;clear hB;go_enter func153,ntmps153;go_wp2;go_ret;exact⟨aP HE.symm,HB0⟩
theorem ZX(m:Nat)(w:World)(v:Value)(l:List Mo)(s:aY)(B:Nat)(h:nD w m v l)(hB:w.cell? (X B 0)=some (A s)):Calls prog 118 #[v,.func (.func 153) #[] #[iO B]] w λe w'=>e=dz (O (oI (dI l s)))/\bG w w':=by
 obtain⟨a,b,off,cap,rfl,ha,hbig,hel⟩:=h;have lK:=I hel;obtain⟨n,hn⟩:=bC l.length;have HN:=I hn;rw[<-hn]at ha hbig ⊢;obtain⟨HA,HB⟩:=bU ha hB;obtain⟨R,hR⟩:=bC (oI (dI l s));have HR:=I hR;rw[<-hR];clear hel ha hB hR hn;go_enter func118,ntmps118;go_wp2_with fail;go_loopw[5,8] (λ_ i wr=>∃j:Nat,j<=n/\i=O j/\(∀d g,d<j->l[d]?=some g->dA g.name s=false)/\bG w wr) (λ_ i _=>n - (intOf i).toNat);case atStart=>exact⟨0,bL _,rfl,λd g hd=>aM hd (fT _),bP _ _⟩
 case round=>
  obtain⟨j,hj,rfl,hall,hnx⟩:=hrel;obtain⟨fF,fO⟩:=bU hall hnx;clear hall;by_cases hjl:j<n
  ·obtain⟨f,hf⟩:∃f,l[j]?=some f:=⟨_,bD (by have:=HN.out;omega)⟩;obtain⟨vi,vv,vf,g0,g1,g2,g3,-⟩:=lK j f hf;obtain rfl:=HA aX;have HF:=I hf;replace g0:=aD g0 hnx;replace g1:=aD g1 hnx;replace g2:=aD g2 hnx;replace g3:=aD g3 hnx;have HC:=I (Rw wr B s f.name vi vv vf (aD HB hnx));clear hf hnx;generalize hq:dA f.name s=q at HC;have HQ:=I hq;clear hq;go_wp2_with fail;refine HC.mono ?_;rintro e w5 ⟨rfl,hb5⟩;have d9:=I (up fO hb5);clear hb5 g0 g1 g2 g3;cases q
   ·go_wp2_with fail;go_roundw;case rel=>exact⟨j+1,by omega,by go_num,λd g hd hg=>by
     by_cases e:d=j;·subst e;rw[HF]at hg;cases hg;exact HQ
     ·exact fF d g aX hg,d9⟩
    case measure=>simp[intOf];omega
   ·go_wp2_with fail;go_ret;exact⟨by rw[HR,Zy HF HQ fF];rfl,d9⟩
  ·go_wp2_with fail;go_ret;exact⟨by rw[HR,Wv λd g hg=>fF d g (by have:=(dK.1 hg).1;have:=HN.out;omega) hg];rfl,fO⟩
structure WJ(w W:World)(c0 c1 c2 c3 c4 va:Value):Prop where
 res:W.heap[w.heap.size+1]?=some (.cells #[.string ⟨#[]⟩,.slice none 0 0,.slice none 0 0,.slice none 0 0,.slice none 0 0,.slice none 0 0] 189 (0,0))
 loc:W.heap[w.heap.size+1+1]?=some (.cells #[c0,c1,c2,c3,c4,va] 189 (0,0))
 below:Below w.heap.size w W
 size:w.heap.size+3<=W.heap.size
section
variable {w W W' : World} {c0 c1 c2 c3 c4 va : Value}
theorem WJ.grow(h:WJ w W c0 c1 c2 c3 c4 va)(hb:bG W W'):WJ w W' c0 c1 c2 c3 c4 va:=
 ⟨by rw[hb.block _ (bq h.res)];exact h.res,by rw[hb.block _ (bq h.loc)];exact h.loc,up h.below hb,bF h.size hb.size⟩
theorem WJ.grown{r:Option Nat}(h:WJ w W c0 c1 c2 c3 c4 va)(hg:W.grownBy W' r)(hr:∀k,r=some k->w.heap.size+3<=k):WJ w W' c0 c1 c2 c3 c4 va:=by
 have hs:=h.size;refine⟨?_,?_,jI h.below hg (λk hk=>by have:=hr k hk;omega),bF h.size hg.size⟩;·rw[hg.block _ (bq h.res) (λe=>by have:=hr _ e.symm;omega)];exact h.res
 ·rw[hg.block _ (bq h.loc) (λe=>by have:=hr _ e.symm;omega)];exact h.loc
theorem WJ.set(h:WJ w W c0 c1 c2 c3 c4 va)(u:Value):WJ w (W.setCell (X (w.heap.size+1+1) 5) u) c0 c1 c2 c3 c4 u:=by refine⟨bI h.res dx _,by rw[aO h.loc];rfl,?_,by simp only[World.setCell,Cr];exact h.size⟩;refine⟨h.below.os,h.below.tape,h.below.output,by simp only[World.setCell,Cr];exact h.below.size,λk hk=>?_⟩;rw[um _ _ _ _ (by simp;omega)];exact h.below.block k hk
end
theorem fM.jK(h:fM w n v l)(ha:a.block<n)(x:Value):fM (w.setCell a x) n v l:=by
 obtain⟨h0,h1⟩:=h;refine⟨h0,?_⟩;rcases h1 with h1|⟨g,cap,cur,hv,hg,hh,r⟩;·exact aR h1
 ·exact aV ⟨g,cap,cur,hv,hg,bI hh aX _,r⟩
theorem fM.shape(h:fM w B v l):∃a cap,v=Y a l.length cap:=by
 obtain⟨_,h1⟩:=h;rcases h1 with⟨rfl,h1⟩|⟨g,cap,cur,rfl,_⟩;·rw[h1];exact⟨_,_,rfl⟩
 ·exact⟨_,_,rfl⟩
theorem fM.lt(h:fM w B v l):∀j,v.ownBlock=some j->B<=j/\j<w.heap.size:=Cy h
theorem DU(h:bG w w1):bG w w1.drew:=⟨h.os,h.tape,h.output,h.size,h.block⟩
theorem WJ.cell(h:WJ w W c0 c1 c2 c3 c4 va):W.cell? (X (w.heap.size+1+1) 5)=some va/\W.frozen? (X (w.heap.size+1+1) 5)=false:=⟨(aj h.loc 5).trans rfl,aG h.loc 5⟩
theorem put6{T:TypeId}(h:W.heap[r]?=some (.cells #[a0,a1,a2,a3,a4,a5] T (0,0)))(v0 v1 v2 v3 v4 v5:Value):∃W',W'=((((((W.setCell (X r 0) v0).setCell (X r 1) v1).setCell (X r 2) v2).setCell (X r 3) v3).setCell (X r 4) v4).setCell (X r 5) v5)/\W'.heap[r]?=some (.cells #[v0,v1,v2,v3,v4,v5] T (0,0)):=by refine⟨_,rfl,?_⟩;have h0:=aO h 0 v0;have h1:=aO h0 1 v1;have h2:=aO h1 2 v2;have h3:=aO h2 3 v3;have h4:=aO h3 4 v4;have h5:=aO h4 5 v5;exact h5
theorem qw(h:bG w W)(ha:w.heap.size<=a.block)(v:Value):bG w (W.setCell a v):=
 ⟨h.os,h.tape,h.output,by simp only[World.setCell,Cr];exact h.size,λk hk=>by rw[um _ _ _ _ aX];exact h.block k hk⟩
theorem Gm{α β:Type}{f:α->β}{l:List α}{y:α}(h:l[j]?=some y):(l.take (j+1)).map f=(l.take j).map f++[f y]:=by rw[gy,h];simp
theorem AO(m:Nat)(w:World)(vi vv vf vk:Value)(x:Mo)(known:List Mo)(h:iY w m (.agg #[A x.name,vi,vv,vf]) x)(hK:nD w m vk known)(hni:x.imports.length<=1048576):Calls prog 98 #[.agg #[A x.name,vi,vv,vf],vk] w λe w'=>∃va,e=dz (.agg #[A x.name,vi,vv,vf,vk,va])/\Ints w' va (x.imports.map λs=>oI (dI known s))/\bG w w':=by
 obtain⟨vi',vv',vf',hz,hnm,hI,hV,hF⟩:=h;injection hz with hz;injection hz with hz;injection hz with _ hz;injection hz with hz1 hz;injection hz with hz2 hz;injection hz with hz3 _;subst hz1 hz2 hz3;have HK:=I hK;obtain⟨ai,bi,oi,ci,rfl,hai,WK,hcs,hci⟩:=hI;obtain⟨av,bv,ov,cv,rfl,-⟩:=hV;obtain⟨af,bf,of,cf,rfl,-⟩:=hF;obtain⟨ak,bk,ok,ck,rfl,-⟩:=hK;have HCI:=I hci;obtain⟨f,hf⟩:∃f:aY->Int,f=λs=>oI (dI known s):=⟨_,rfl⟩;have HFF:=I hf;rw[<-hf];obtain⟨imps,himps⟩:=bC x.imports;rw[<-himps]at hai WK hni HCI ⊢;obtain⟨ni,hni'⟩:∃n,n=imps.length:=⟨_,rfl⟩;have I4:=I hni';rw[<-hni']at hai WK hni ⊢;have HA:=I hai;generalize x.vars.length=nv at *;generalize x.bg.length=nf at *;generalize hnk:known.length=nk at *;have q1:=DN w (A x.name) (Y ai ni ci) (Y av nv cv) (Y af nf cf) 58;have HW0:Hid (WJ w (((w.alloc (aW #[A x.name,Y ai ni ci,Y av nv cv,Y af nf cf] 58)).alloc (aW #[A ⟨#[]⟩,J,J,J,J,J] 189)).alloc (aW #[A x.name,Y ai ni ci,Y av nv cv,Y af nf cf,Y ak nk ck,J] 189)) (A x.name) (Y ai ni ci) (Y av nv cv) (Y af nf cf) (Y ak nk ck) (J)):=by
  refine I ⟨?_,?_,up (up (aH _ _) (aH _ _)) (aH _ _),?_⟩;·have h1:=aZ (w.alloc (aW #[A x.name,Y ai ni ci,Y av nv cv,Y af nf cf] 58)) (aW #[A ⟨#[]⟩,J,J,J,J,J] 189);rw[(aH _ _).block _ dx];simpa using h1
  ·have h1:=aZ ((w.alloc (aW #[A x.name,Y ai ni ci,Y av nv cv,Y af nf cf] 58)).alloc (aW #[A ⟨#[]⟩,J,J,J,J,J] 189)) (aW #[A x.name,Y ai ni ci,Y av nv cv,Y af nf cf,Y ak nk ck,J] 189);simpa using h1
  ·simp
 clear hci hcs hf hai hni' hnm himps hnk;go_enter func98,ntmps98;go_wp2_with fail;generalize (((w.alloc (aW #[A x.name,Y ai ni ci,Y av nv cv,Y af nf cf] 58)).alloc (aW #[A ⟨#[]⟩,J,J,J,J,J] 189)).alloc (aW #[A x.name,Y ai ni ci,Y av nv cv,Y af nf cf,Y ak nk ck,J] 189))=W0 at *;clear q1;go_loopw[14] (λi wr=>∃(j:Nat) (va:Value),j<=ni/\i=O j/\WJ w wr (A x.name) (Y ai ni ci) (Y av nv cv) (Y af nf cf) (Y ak nk ck) va/\fM wr (w.heap.size+3) va ((imps.take j).map f)) (λi _=>ni - (intOf i).toNat);case atStart=>exact⟨0,J,bL _,rfl,HW0,by simp only[List.take_zero,jA];exact kg _ _ _ _⟩
 case round=>
  obtain⟨j,va,hj,rfl,hS,hO⟩:=hrel;obtain⟨HS,HO⟩:=bU hS hO;by_cases hjl:j<ni
  ·obtain⟨s,hs⟩:∃s,imps[j]?=some s:=⟨_,bD (by have:=I4.out;omega)⟩;have c0:=aD (HCI j (by have:=I4.out;omega)) hS.below;rw[DV,hs,iw]at c0;obtain rfl:=HA aX;have HST:=I (Gm (f:=f) hs);have DW:Hid (((imps.take j).map f).length=j):=I (by rw[dO,jB];have:=I4.out;omega);obtain⟨va1,va2,hva⟩:=hO.shape;rw[DW]at hva;subst hva;have Cb:=I ((HK.below hS.below).below (aH wr (aW #[A s] 9)));have HC:=I (λwx (hb:Below (wr.alloc (aW #[A s] 9)).heap.size (wr.alloc (aW #[A s] 9)) wx)=>ZX m wx _ known s wr.heap.size (Cb.below hb) (aD (box1 wr (A s) 9) hb));rw[show oI (dI known s)=f s from by rw[HFF]]at HC;obtain⟨qI,HO1⟩:=bU (hS.grow (aH wr (aW #[A s] 9))) (eZ hO (aH wr (aW #[A s] 9)));obtain⟨u5,z5⟩:=qI.cell;clear hs hS hO;go_wp2_with fail;generalize wr.alloc (aW #[A s] 9)=W1 at *
   go_region_law (first
    | (go_simp;go_at_call 118;refine(HC _ (by repeat(first|exact bP _ _|apply DU))).mono ?_;rintro e w6 ⟨rfl,hb6⟩;have dX:Hid (bG W1 w6):=I (up (by repeat(first|exact bP _ _|apply DU):bG W1 _) hb6);have vG:=I (qI.grow dX);have Al:=I (eZ HO1 dX);obtain⟨u56,z56⟩:=vG.cell;have yj:w.heap.size+1+1<w6.heap.size:=(by have:=vG.size;omega);clear hb6;dsimp only)
    | (refine Ey cZ _ _ cZ (w.heap.size+3) _ _ j DW cZ (eZ Al (aH _ _)) _ (f s) cZ (box1 _ _ _) (by have:=DW.out;omega) (bF vG.out.size (aH _ _).size) ?_;intro g cap w7 jg dL;have Ca:=I jg;have J4:=I ((vG.grow (aH _ _)).grown dL (λk hk=>(fM.lt Al k hk).1));obtain⟨u57,z57⟩:=J4.cell;clear jg dL)
    | fail)
   all_goals
    go_wp2_with fail;go_roundw;case rel=>exact⟨j+1,_,by omega,by go_num,J4.set _,by rw[HST];exact Ca.jK (a:=(X (w.heap.size+1+1) 5)) (by show w.heap.size+1+1<w.heap.size+3;omega) _⟩
    case measure=>simp[intOf];omega
  ·have vH:(imps.take j)=imps:=fU (by have:=I4.out;omega);have hlen:((imps.take j).map f).length=ni:=by rw[vH,dO,<-I4]
   rw[vH]at HO;obtain⟨va1,va2,hva⟩:=hO.shape;rw[hlen]at hva;subst hva;have wu:=λi (v:Value) (hv:(#[A x.name,Y ai ni ci,Y av nv cv,Y af nf cf,Y ak nk ck,Y va1 ni va2]:Array Value)[i]?=some v)=>(aj HS.loc i).trans hv;have lg:=λi (v:Value) (hv:(#[A ⟨#[]⟩,J,J,J,J,J]:Array Value)[i]?=some v)=>(aj HS.res i).trans hv;obtain⟨l0,l1,l2,l3⟩:=tZ (wu 0 _ rfl) (wu 1 _ rfl) (wu 2 _ rfl) (wu 3 _ rfl);obtain⟨l4,l5⟩:=eY (wu 4 _ rfl) (wu 5 _ rfl);obtain⟨r0,r1,r2,r3,r4,r5,f0⟩:=J5 (lg 0 _ rfl) (lg 1 _ rfl) (lg 2 _ rfl) (lg 3 _ rfl) (lg 4 _ rfl) (lg 5 _ rfl) (aG HS.res 0);obtain⟨f1,f2,f3,f4⟩:=tZ (aG HS.res 1) (aG HS.res 2) (aG HS.res 3) (aG HS.res 4);have f5:=aG HS.res 5;clear hS hO;clear vH hlen;obtain⟨Wf,hWf,hf6⟩:=put6 HS.res (A x.name) (Y ai ni ci) (Y av nv cv) (Y af nf cf) (Y ak nk ck) (Y va1 ni va2);have dX:Hid (bG w Wf):=by rw[hWf];exact I (qw (qw (qw (qw (qw (qw HS.below dx _) dx _) dx _) dx _) dx _) dx _)
   have hr3:w.heap.size+1<w.heap.size+3:=by omega
   have Al:Hid (fM Wf (w.heap.size+3) (Y va1 ni va2) (imps.map f)):=by rw[hWf];exact I ((((((HO.jK hr3 _).jK hr3 _).jK hr3 _).jK hr3 _).jK hr3 _).jK hr3 _)
   obtain⟨HWF,HF6⟩:=bU hWf hf6;clear hWf hf6;go_wp2_with fail;rw[<-HWF];obtain⟨g0,g1,g2,g3,g4,g5⟩:=NR HF6;refine bV (v:=.agg #[A x.name,Y ai ni ci,Y av nv cv,Y af nf cf,Y ak nk ck,Y va1 ni va2]) (by simp[results,results98,go_sem,g0,g1,g2,g3,g4,g5]) rfl ?_;exact⟨_,rfl,fM.ints Al (by rw[dO,<-I4];omega),dX⟩
namespace bJ
def iQ(x:Mo)(k:Nat)(call:aY)(known:List Mo):Int × Int × Bool:=
 match kM call with
 | none=>AA (-1) x.bg call k
 | some _=>if dR x.imports (bN.preS call)<0 then (0,0,false)else
  match dI known (x.imports.getD (dR x.imports (bN.preS call)).toNat ByteArray.empty)with
  | none=>(0,0,false)
  | some a=>AA a ((known[a]?.map (·.bg)).getD []) (sP call) ((known[a]?.map (·.bg)).getD []).length
theorem Gn(hd:kM call=some d)(hi:dR x.imports (bN.preS call)=(i:Int))(hm:dI known (x.imports.getD i ByteArray.empty)=none):iQ x k call known=(0,0,false):=by unfold iQ;rw[hd];simp only;rw[aJ (by rw[hi];omega),hi,DX,hm]
theorem Ll{a:Nat}(hd:kM call=some d)(hi:dR x.imports (bN.preS call)=(i:Int))(hm:dI known (x.imports.getD i ByteArray.empty)=some a)(hy:known[a]?=some y):iQ x k call known=AA a y.bg (sP call) y.bg.length:=by unfold iQ;rw[hd];simp only;rw[aJ (by rw[hi];omega),hi,DX,hm];simp only[hy,pz,iw]
theorem uH{l:List Mo}{a:Nat}(h:dI l s=some a):∃y,l[a]?=some y/\dA y.name s=true:=by
 unfold dI at h;have h1:=NZ h;cases hy:l[a]? with
 | none=>rw[hy]at h1;simp at h1
 | some y=>rw[hy]at h1;exact⟨y,rfl,h1⟩
end bJ
theorem WL(w:World)(c0 c1 c2 c3 c4 c5:Value)(t:TypeId)(i:Nat)(v:Value)(h:(#[c0,c1,c2,c3,c4,c5]:Array Value)[i]?=some v):(w.alloc (.cells #[c0,c1,c2,c3,c4,c5] t)).cell? (X w.heap.size i)=some v:=
 (aj (aZ w (.cells #[c0,c1,c2,c3,c4,c5] t)) i).trans h
theorem UH{R R':Int × Int × Bool}(h:R=R')(hb:P):(dz (.tuple #[O R.1,O R.2.1,.bool R.2.2])=dz (.tuple #[O R'.1,O R'.2.1,.bool R'.2.2]))/\P:=by subst h;exact⟨rfl,hb⟩
theorem xP(l:List aY)(s:aY):dR l s=-1\/∃i:Nat,dR l s=i/\i<l.length:=by
 unfold dR;cases h:(List.range l.length).find? (K7 l s)with
 | none=>exact aR rfl
 | some i=>exact aV ⟨i,rfl,jr.1 (JQ h)⟩
structure ZY(w:World)(m:Nat)(x:Mo)(known:List Mo)(vi vv vf vk va:Value):Prop where
 mo:iY w m (.agg #[.string x.name,vi,vv,vf]) x
 kn:nD w m vk known
 ats:Ints w va (x.imports.map λs=>oI (dI known s))
 cap:∀a n c,vf=.slice a n c->n<=c
theorem ZY.below(h:ZY w m x known vi vv vf vk va)(hb:bG w w'):ZY w' m x known vi vv vf vk va:=
 ⟨h.mo.below hb,h.kn.below hb,h.ats.below hb,h.cap⟩
theorem iY.split(h:iY w m (.agg #[A x.name,vi,vv,vf]) x):Strs w vi x.imports/\uX w vv x.vars/\kW w m vf x.bg:=by obtain⟨vi',vv',vf',hz,hnm,hI,hV,hF⟩:=h;injection hz with hz;injection hz with hz;injection hz with _ hz;injection hz with hz1 hz;injection hz with hz2 hz;injection hz with hz3 _;subst hz1 hz2 hz3;exact⟨hI,hV,hF⟩
theorem DY(m:Nat)(w:World)(x:Mo)(known:List Mo)(vi vv vf vk va:Value)(k:Nat)(call:aY)(h:ZY w m x known vi vv vf vk va)(hk:k<=x.bg.length)(hc:call.size<=maxLen):Calls prog 208 #[.agg #[A x.name,vi,vv,vf,vk,va],O k,A call] w λe w'=>e=dz (.tuple #[O (iQ x k call known).1,O (iQ x k call known).2.1,.bool (iQ x k call known).2.2])/\bG w w':=by
 obtain⟨hI,hV,hF⟩:=h.mo.split;obtain⟨HI,Lm⟩:=bU hI h.cap;obtain⟨hK,hA⟩:=eY h.kn h.ats;obtain⟨ai,bi,oi,ci,rfl,-⟩:=hI;obtain⟨av,bv,ov,cv,rfl,-⟩:=hV;obtain⟨af,bf,of,cf,rfl,UJ,hlf,hcf⟩:=hF;obtain⟨ak,bk,ok,ck,rfl,hak,hlk,hck⟩:=hK;have hcap:=h.cap _ _ _ rfl;have HEF:Hid (Jj w m bf of x.bg):=hcf;obtain⟨QZ,HAK,uI⟩:=fD UJ hak hck;obtain⟨aa,ba,oa,ca,rfl,haa,hla,hca⟩:=hA;obtain⟨HAA,Lp⟩:=bU haa hca;obtain⟨R,hR⟩:∃R,R=iQ x k call known:=⟨_,rfl⟩;have HR:=I hR;rw[<-hR];have Rx:Hid (∀w,Calls prog 249 #[A call,A ⟨#[46]⟩] w λe w'=>e=dz (.tuple #[A (bN.preS call),A (sP call),.bool (kM call).isSome])/\bG w w'):=λw=>UE w call hc;obtain⟨ni,hni⟩:∃n,n=x.imports.length:=⟨_,rfl⟩;obtain⟨nf,hnf⟩:∃n,n=x.bg.length:=⟨_,rfl⟩;obtain⟨nk,hnk⟩:∃n,n=known.length:=⟨_,rfl⟩;have Z0:(x.imports.map λs=>oI (dI known s)).length=ni:=by rw[List.length_map,hni]
 rw[Z0]at hla HAA ⊢;obtain⟨wB,I5,I4⟩:=fD hnf hnk hni;rw[<-hni]at HI;rw[<-hnf]at hcap hk hlf QZ;rw[<-hnk]at hlk HAK;rw[<-hni,<-hnf,<-hnk];generalize x.vars.length=nv at *;have dQ:=λi v h=>WL w (A x.name) (Y ai ni ci) (Y av nv cv) (Y af nf cf) (Y ak nk ck) (Y aa ni ca) 189 i v h;have HB0:=I (aH w (aW #[A x.name,Y ai ni ci,Y av nv cv,Y af nf cf,Y ak nk ck,Y aa ni ca] 189));obtain⟨q1,q3,q4,q5⟩:=tZ (dQ 1 _ rfl) (dQ 3 _ rfl) (dQ 4 _ rfl) (dQ 5 _ rfl);clear UJ hak hcf hck haa hca hni hnf hnk Z0 hR h;cases hd:kM call with
 | none =>rw[hd]at Rx;have HD:=I hd;clear hd;generalize sP call=suf at *;generalize bN.preS call=pre at *;go_enter func208,ntmps208;go_wp2_with fail;refine(Rx.out _).mono ?_;rintro e w1 ⟨rfl,hb1⟩;replace q3:=aD q3 hb1;have HB1:=I (up HB0.out hb1);clear hb1 q1 q4 q5;go_wp2_with fail;refine(Rq _ af nf cf k hk hcap).mono ?_;rintro e w2 ⟨rfl,hw2⟩;subst hw2;go_wp2_with fail;refine(JX m _ af bf of cf k x.bg call (-1) (by rw[<-wB.out];exact hk) (by rw[<-wB.out];exact hlf) (λh=>QZ.out aX) (HEF.out.below HB1.out)).mono ?_;rintro e w3 ⟨rfl,hb3⟩;have HB3:=I (up HB1.out hb3);clear hb3;go_wp2_with fail;go_ret3;exact UH (by rw[HR.out];simp[iQ,HD.out]) HB3.out
 | some dd=>
  rw[hd]at Rx;have HD:=I hd;clear hd;obtain⟨suf,hsuf⟩:∃s,s=sP call:=⟨_,rfl⟩;obtain⟨pre,hpre⟩:∃s,s=bN.preS call:=⟨_,rfl⟩;obtain⟨HSU,HPR⟩:=bU hsuf hpre;rw[<-hsuf,<-hpre]at Rx;clear hsuf hpre;have HIX:=I (λwx (hb:bG w wx)=>zm wx _ x.imports pre (HI.out.below hb));rcases xP x.imports pre with hix|⟨i,hi,hil⟩;·rw[hix]at HIX;have HXX:=I hix;clear hix;go_enter func208,ntmps208;go_wp2_with fail;refine(Rx.out _).mono ?_;rintro e w1 ⟨rfl,hb1⟩;replace q1:=aD q1 hb1;have HB1:=I (up HB0.out hb1);clear hb1 q3 q4 q5;go_wp2_with fail;refine(HIX.out _ HB1.out).mono ?_;rintro e w2 ⟨rfl,hw2⟩;subst hw2;go_wp2;go_ret3;exact Ld (by rw[HR.out];simp[iQ,HD.out,<-HPR.out,HXX.out]) HB1.out
  ·rw[hi]at HIX;have HXX:=I hi;rw[<-I4.out]at hil;have haI:=HAA.out aX;subst haI;have c5:=Lp.out i (oI (dI known (x.imports.getD i ByteArray.empty))) (by
    have hil':i<x.imports.length:=by rw[<-I4.out];exact hil
    simp[List.getD_eq_getElem?_getD,hil'])
   clear hi;cases hm:dI known (x.imports.getD i ByteArray.empty)with
   | none =>rw[hm]at c5;have HM:=I hm;have ho:oI none=-1:=rfl;rw[ho]at c5;clear hm ho;go_enter func208,ntmps208;go_wp2_with fail;refine(Rx.out _).mono ?_;rintro e w1 ⟨rfl,hb1⟩;replace q1:=aD q1 hb1;replace q5:=aD q5 hb1;have HB1:=I (up HB0.out hb1);replace c5:=aD c5 HB1.out;clear hb1 q3 q4;go_wp2_with fail;refine(HIX.out _ HB1.out).mono ?_;rintro e w2 ⟨rfl,hw2⟩;subst hw2;go_wp2;go_ret3;exact Ld (by rw[HR.out];exact Gn HD.out (by rw[<-HPR.out];exact HXX.out) HM.out) HB1.out
   | some a=>
    rw[hm]at c5;have HM:=I hm;have ho:oI (some a)=(a:Int):=rfl;rw[ho]at c5;obtain⟨y,hy,-⟩:=bJ.uH hm;have hak:a<nk:=by have:=(List.getElem?_eq_some_iff.1 hy).1;rw[I5.out];exact this
    obtain⟨yi,yv,yf,g0,g1,g2,g3,I6⟩:=uI.out a y hy;obtain⟨-,-,Y3⟩:=I6.split;obtain⟨ay,bY,oy,cy,rfl,hay,hly,hcy⟩:=Y3;have HY:=I hy;obtain⟨ny,hny⟩:∃n,n=y.bg.length:=⟨_,rfl⟩;have HNY:=I hny;have Lm:=I (λwx (hb:bG w wx)=>JX m wx ay bY oy cy y.bg.length y.bg suf a (Nat.le_refl _) hly hay ((show Jj w m bY oy y.bg from hcy).below hb));rw[<-hny]at Lm g3;have hkk:=HAK.out aX;subst hkk;obtain⟨T,hT⟩:∃T,T=bJ.AA a y.bg suf ny:=⟨_,rfl⟩;have HT:=I hT;rw[<-hT]at Lm;clear hm ho hy I6 hay hly hcy g0 g1 g2 hny hT;go_enter func208,ntmps208;go_wp2_with fail;refine(Rx.out _).mono ?_;rintro e w1 ⟨rfl,hb1⟩;replace q1:=aD q1 hb1;replace q4:=aD q4 hb1;replace q5:=aD q5 hb1;have HB1:=I (up HB0.out hb1);replace c5:=aD c5 HB1.out;replace g3:=aD g3 HB1.out;clear hb1 q3;go_wp2_with fail;refine(HIX.out _ HB1.out).mono ?_;rintro e w2 ⟨rfl,hw2⟩;subst hw2;go_wp2_with fail;replace q4:=aS q4;replace q5:=aS q5;replace c5:=aS c5;replace g3:=aS g3;have HFG:=I (λn os=>Lm.out _ (up HB1.out (bQ w2 n os)));refine bS bR bR ?_;repeat(quiet_step ((exact Calls.nE (HFG.out _ _))))
    refine wpQuiet_nil ?_;intro _ hw';obtain⟨⟨nq,osq⟩,hw''⟩:=hw';subst hw'';have dX:=I (up HB1.out (bQ w2 nq osq));go_wp2_with fail;go_ret3;exact UH (by rw[HT.out,HR.out,Ll HD.out (by rw[<-HPR.out];exact HXX.out) HM.out HY.out,HNY.out,HSU.out]) dX.out
end Go.Proofs.YtbgkpehhdibaoaaGreatDoor
