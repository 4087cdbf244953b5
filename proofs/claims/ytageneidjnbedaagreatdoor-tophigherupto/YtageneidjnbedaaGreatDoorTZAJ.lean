import Derived.Test.YtageneidjnbedaaGreatDoorTZAH
import Derived.Test.YtageneidjnbedaaGreatDoorTZAI
set_option maxHeartbeats 0
set_option maxRecDepth 99999
namespace Go.Proofs.YtageneidjnbedaaGreatDoor
open bS bO
open Go.Proofs.Tryz
open Go.RowKit
variable{w w1 W w':bI}{E P:Prop}{n B r j k d i m:Nat}{v va vi vv vf:aC}{l:List Int}{a:Addr}{x y:Mo}{call s:aS}{known:List Mo}
def Im(w:bI)(m b off:Nat)(l:List Mo):Prop:=
 ∀i x,l[i]?=some x->∃vi vv vf,w.cell? ⟨b,off+i*4,none⟩=some (.string x.name)/\w.cell? ⟨b,off+i*4+1,none⟩=some vi/\w.cell? ⟨b,off+i*4+2,none⟩=some vv/\w.cell? ⟨b,off+i*4+3,none⟩=some vf/\jl w m (.agg #[.string x.name,vi,vv,vf]) x
theorem Ib{V:Array Oper}{o:Oper}{a:Act}{K:Act->bI->Prop}{p:Exit->Act->bI->Prop}(F:o.guard=none)(s x:Operand)(H:o.op=.call { callee:=.builtin .append,args:=#[s,x],argTypes:=#[32,32] })(e:Nat)(v:aC)(l:List Int)(f:Nat)(G:l.length=f)(M:a.eval s=v)(I:gQ w e v l)(B:Nat)(t:Int)(N:a.eval x=Tc B 1 1)(D:bJ w B 0=some (O t))(hl:l.length<=1048576)(C:e<=w.heap.size)(h:∀g cap w',gQ w' e (Tc g (f+1) cap) (l++[t])->w.grownBy w' v.ownBlock->K (a.put o.dst<|Tc g (f+1) cap) w'):if Region.wanted o (yielded V a.tmps)=true then Oper.wp prog o a w K p else E:=by
 subst G;obtain⟨U,q,Q,R,S⟩:=info_parts wJ;have L:w.ownsRow e 3 1 v l.length (l.map<|Value.int .i64):=I;refine step_append_lies w F s x 32 H e 3 U (O 0) 1 8 underlying32 q Q R S rfl bM v l.length (l.map<|Value.int .i64) M L (aN B 0) 1 1 [O t] N rfl (λj Z b=>?_) (λZ b=>?_) bM (by unfold maxLen;omega) bC C w.heap.size rfl ?_
 ·cases j with
  | zero =>simp at b;subst b;rw[Addr.add_lit];exact D
  | succ j=>simp at b
 ·simp at b;subst b;rfl
 ·intro g cap w' u z h3 _;refine h g cap w' ?_ z;unfold gQ;rw[gX,bg];exact u
theorem VH(w:bI)(B:Nat)(s nm:aS)(c1 c2 c3:aC)(e:bJ w B 0=some (A s)):aD 148 #[.agg #[A nm,c1,c2,c3],gK B] w λg w'=>g=dz (.bool<|cB nm s)/\bK w w':=by have q0:=GD w (A nm) c1 c2 c3 47;have b:=Y<|aH w<|aY #[A nm,c1,c2,c3] 47;have h:=aG e b;have f:J (cB nm s=(nm.toList==s.toList)):=rfl;clear e;go_enter func148,ntmps148;go_wp2;go_ret;exact⟨aW f.symm,b⟩
theorem ac6(m:Nat)(w:bI)(v:aC)(l:List Mo)(s:aS)(B:Nat)(h:jN w m v l)(V:bJ w B 0=some (A s)):aD 147 #[v,.func (.func 148) #[] #[gK B]] w λp w'=>p=dz (O<|oI<|dQ l s)/\bK w w':=by
 obtain⟨a,b,off,cap,rfl,G,ac,ab⟩:=h;have j5:=Y ab;obtain⟨n,I⟩:=aV l.length;have M:=Y I;rw[<-I]at G ac ⊢;obtain⟨HA,HB⟩:=bV G V;obtain⟨R,F⟩:=aV<|oI<|dQ l s;have Q:=Y F;rw[<-F];clear ab G V F I;go_enter func147,ntmps147;go_wp2_with fail;go_loopw[5,8] (λ_ i wr=>∃j:Nat,j<=n/\i=O j/\(∀d g,d<j->l[d]?=some g->cB g.name s=false)/\bK w wr) (λ_ i _=>n - (intOf i).toNat);exact⟨0,bN _,rfl,λd g hd=>aM hd<|fU _,bQ _ _⟩
 obtain⟨j,hj,rfl,Z,e⟩:=hrel;obtain⟨t,U⟩:=bV Z e;clear Z;by_cases ad:j<n
 ·obtain⟨f,H⟩:∃f,l[j]?=some f:=⟨_,aZ (by have:=M.out;omega)⟩;obtain⟨vi,vv,vf,u,z,C,D,-⟩:=j5 j f H;obtain rfl:=HA bC;have L:=Y H;replace u:=aG u e;replace z:=aG z e;replace C:=aG C e;replace D:=aG D e;have K:=Y<|VH wr B s f.name vi vv vf<|aG HB e;clear H e;generalize hq:cB f.name s=q at K;have N:=Y hq;clear hq;go_wp2_with fail;refine K.mono ?_;rintro p w5 ⟨rfl,aa⟩;have S:=Y<|up U aa;clear aa u z C D;cases q
  ·go_wp2;go_roundw;exact⟨j+1,by omega,by go_num,λd g hd hg=>by
    by_cases p:d=j;·subst p;rw[L]at hg;cases hg;exact N
    ·exact t d g bC hg,S⟩
   exact gV
  ·go_wp2;go_ret;exact⟨by rw[Q,Rm L N t];rfl,S⟩
 ·go_wp2;go_ret;exact⟨by rw[Q,M4 λd g hg=>t d g (by have:=(cO.1 hg).1;have:=M.out;omega) hg];rfl,U⟩
structure ScM(w W:World)(c0 c1 c2 c3 c4 va:Value):Prop where
 res:W.heap[w.heap.size+1]?=some (.cells #[.string ⟨#[]⟩,.slice none 0 0,.slice none 0 0,.slice none 0 0,.slice none 0 0,.slice none 0 0] 169 (0,0))
 loc:W.heap[w.heap.size+1+1]?=some (.cells #[c0,c1,c2,c3,c4,va] 169 (0,0))
 below:Below w.heap.size w W
 size:w.heap.size+3<=W.heap.size
section
variable {w W W' : World} {c0 c1 c2 c3 c4 va : Value}
theorem ScM.grow(h:ScM w W c0 c1 c2 c3 c4 va)(b:bK W W'):ScM w W' c0 c1 c2 c3 c4 va:=
 ⟨by rw[b.block _ (aR h.res)];exact h.res,by rw[b.block _ (aR h.loc)];exact h.loc,up h.below b,bE h.size b.size⟩
theorem ScM.grown{r:Option Nat}(h:ScM w W c0 c1 c2 c3 c4 va)(hg:W.grownBy W' r)(e:∀k,r=some k->w.heap.size+3<=k):ScM w W' c0 c1 c2 c3 c4 va:=by
 have g:=h.size;refine⟨?_,?_,kg h.below hg (λk f=>by have:=e k f;omega),bE h.size hg.size⟩;·rw[hg.block _ (aR h.res) (λb=>by have:=e _ b.symm;omega)];exact h.res
 ·rw[hg.block _ (aR h.loc) (λb=>by have:=e _ b.symm;omega)];exact h.loc
theorem ScM.set(h:ScM w W c0 c1 c2 c3 c4 va)(u:aC):ScM w (W.setCell (aN (w.heap.size+1+1) 5) u) c0 c1 c2 c3 c4 u:=by refine⟨aX h.res cK _,by rw[aP h.loc];rfl,?_,by simp only[World.setCell,Am];exact h.size⟩;refine⟨h.below.os,h.below.tape,h.below.output,by simp only[World.setCell,Am];exact h.below.size,λk b=>?_⟩;rw[vM _ _ _ _ (by simp;omega)];exact h.below.block k b
end
theorem gQ.kr(h:gQ w n v l)(t:a.block<n)(x:aC):gQ (w.setCell a x) n v l:=by
 obtain⟨f,b⟩:=h;refine⟨f,?_⟩;rcases b with b|⟨g,cap,e,q,hg,p,r⟩;·exact aO b
 ·exact aQ ⟨g,cap,e,q,hg,aX p bC _,r⟩
theorem gQ.shape(h:gQ w B v l):∃a cap,v=X a l.length cap:=by
 obtain⟨_,b⟩:=h;rcases b with⟨rfl,b⟩|⟨g,cap,e,rfl,_⟩;·rw[b];exact⟨_,_,rfl⟩
 ·exact⟨_,_,rfl⟩
theorem gQ.lt(h:gQ w B v l):∀j,v.ownBlock=some j->B<=j/\j<w.heap.size:=Fp h
theorem iX(h:bK w w1):bK w w1.drew:=⟨h.os,h.tape,h.output,h.size,h.block⟩
theorem ScM.cell{c0 c1 c2 c3 c4:aC}(h:ScM w W c0 c1 c2 c3 c4 va):bJ W (w.heap.size+1+1) 5=some va/\W.frozen? (aN (w.heap.size+1+1) 5)=false:=⟨(aj h.loc 5).trans rfl,aF h.loc 5⟩
theorem apP{T:TypeId}{t u z C D F:aC}(h:dR W r (.cells #[t,u,z,C,D,F] T (0,0)))(b e f g p q:aC):∃W',W'=((((((W.setCell (aN r 0) b).setCell (aN r 1) e).setCell (aN r 2) f).setCell (aN r 3) g).setCell (aN r 4) p).setCell (aN r 5) q)/\dR W' r (.cells #[b,e,f,g,p,q] T (0,0)):=by refine⟨_,rfl,?_⟩;have G:=aP h 0 b;have H:=aP G 1 e;have I:=aP H 2 f;have K:=aP I 3 g;have L:=aP K 4 p;have M:=aP L 5 q;exact M
theorem rW(h:bK w W)(e:w.heap.size<=a.block)(v:aC):bK w (W.setCell a v):=
 ⟨h.os,h.tape,h.output,by simp only[World.setCell,Am];exact h.size,λk b=>by rw[vM _ _ _ _ bC];exact h.block k b⟩
theorem JF{α β:Type}{f:α->β}{l:List α}{y:α}(h:l[j]?=some y):(l.take<|j+1).map f=(l.take j).map f++[f y]:=by rw[gy,h];simp
theorem Dm(m:Nat)(w:bI)(vi vv vf vk:aC)(x:Mo)(known:List Mo)(h:jl w m (.agg #[A x.name,vi,vv,vf]) x)(hK:jN w m vk known)(am:x.imports.length<=1048576):aD 100 #[.agg #[A x.name,vi,vv,vf],vk] w λe w'=>∃va,e=dz (.agg #[A x.name,vi,vv,vf,vk,va])/\Ints w' va (x.imports.map λs=>oI<|dQ known s)/\bK w w':=by
 obtain⟨a5,a6,a4,z,az,hI,hV,hF⟩:=h;injection z with z;injection z with z;injection z with _ z;injection z with aA z;injection z with aE z;injection z with a0 _;subst aA aE a0;have HK:=Y hK;obtain⟨ai,bi,oi,ci,rfl,Z,al,ax,ae⟩:=hI;obtain⟨p,bv,ov,t,rfl,-⟩:=hV;obtain⟨b,bf,of,q,rfl,-⟩:=hF;obtain⟨D,bk,ok,F,rfl,-⟩:=hK;have ab:=Y ae;obtain⟨f,hf⟩:∃f:aS->Int,f=λs=>oI (dQ known s):=⟨_,rfl⟩;have ap:=Y hf;rw[<-hf];obtain⟨imps,ac⟩:=aV x.imports;rw[<-ac]at Z al am ab ⊢;obtain⟨ni,aa⟩:∃n,n=imps.length:=⟨_,rfl⟩;have H:=Y aa;rw[<-aa]at Z al am ⊢;have HA:=Y Z;generalize x.vars.length=u at *;generalize x.bq.length=nf at *;generalize ay:known.length=G at *;have q1:=GH w (A x.name) (X ai ni ci) (X p u t) (X b nf q) 47;have au:J (ScM w (((w.alloc<|aY #[A x.name,X ai ni ci,X p u t,X b nf q] 47).alloc (aY #[A ⟨#[]⟩,aU,aU,aU,aU,aU] 169)).alloc (aY #[A x.name,X ai ni ci,X p u t,X b nf q,X D G F,aU] 169)) (A x.name) (X ai ni ci) (X p u t) (X b nf q) (X D G F)<|aU):=by
  refine Y ⟨?_,?_,up (up (aH _ _)<|aH _ _)<|aH _ _,?_⟩;·have h1:=bF (w.alloc<|aY #[A x.name,X ai ni ci,X p u t,X b nf q] 47)<|aY #[A ⟨#[]⟩,aU,aU,aU,aU,aU] 169;rw[(aH _ _).block _ cK];simpa using h1
  ·have h1:=bF ((w.alloc<|aY #[A x.name,X ai ni ci,X p u t,X b nf q] 47).alloc (aY #[A ⟨#[]⟩,aU,aU,aU,aU,aU] 169))<|aY #[A x.name,X ai ni ci,X p u t,X b nf q,X D G F,aU] 169;simpa using h1
  ·simp
 clear ae ax hf Z aa az ac ay;go_enter func100,ntmps100;go_wp2_with fail;generalize (((w.alloc<|aY #[A x.name,X ai ni ci,X p u t,X b nf q] 47).alloc (aY #[A ⟨#[]⟩,aU,aU,aU,aU,aU] 169)).alloc (aY #[A x.name,X ai ni ci,X p u t,X b nf q,X D G F,aU] 169))=W0 at *;clear q1;go_loopw[14] (λi wr=>∃(j:Nat) (va:aC),j<=ni/\i=O j/\ScM w wr (A x.name) (X ai ni ci) (X p u t) (X b nf q) (X D G F) va/\gQ wr (w.heap.size+3) va ((imps.take j).map f)) (λi _=>ni - (intOf i).toNat);exact⟨0,aU,bN _,rfl,au,by simp only[List.take_zero,jV];exact lJ _ _ _ _⟩
 obtain⟨j,va,hj,rfl,K,I⟩:=hrel;obtain⟨C,HO⟩:=bV K I;by_cases a1:j<ni
 ·obtain⟨s,hs⟩:∃s,imps[j]?=some s:=⟨_,aZ (by have:=H.out;omega)⟩;have c0:=aG (ab j (by have:=H.out;omega)) K.below;rw[xK,hs,gD]at c0;obtain rfl:=HA bC;have ar:=Y<|JF (f:=f) hs;have GL:J (((imps.take j).map f).length=j):=Y (by rw[dV,iA];have:=H.out;omega);obtain⟨R,S,Q⟩:=I.shape;rw[GL]at Q;subst Q;have tX:=Y<|(HK.below K.below).below (aH wr<|aY #[A s] 9);have HC:=Y (λwx (hb:Below (wr.alloc<|aY #[A s] 9).heap.size (wr.alloc<|aY #[A s] 9) wx)=>ac6 m wx _ known s wr.heap.size (tX.below hb)<|aG (Pj wr (A s) 9) hb);rw[show oI (dQ known s)=f s from by rw[ap]]at HC;obtain⟨mX,aq⟩:=bV (K.grow<|aH wr<|aY #[A s] 9)<|fM I<|aH wr<|aY #[A s] 9;obtain⟨u5,z5⟩:=mX.cell;clear hs K I;go_wp2_with fail;generalize wr.alloc (aY #[A s] 9)=W1 at *
  go_region_law (first
   | (go_simp;go_at_call 147;refine(HC _<|by repeat(first|exact bQ _ _|apply iX)).mono ?_;rintro e w6 ⟨rfl,ad⟩;have U:J (bK W1 w6):=Y (up (by repeat(first|exact bQ _ _|apply iX):bK W1 _) ad);have xS:=Y<|mX.grow U;have xJ:=Y<|fM aq U;obtain⟨a2,a7⟩:=xS.cell;have Ao:w.heap.size+1+1<w6.heap.size:=(by have:=xS.size;omega);clear ad;dsimp only)
   | (refine Ib dH _ _ dH (w.heap.size+3) _ _ j GL dH (fM xJ<|aH _ _) _ (f s) dH (Pj _ _ _) (by have:=GL.out;omega) (bE xS.out.size (aH _ _).size) ?_;intro g cap w7 gF dI;have EP:=Y gF;have Nf:=Y<|(xS.grow<|aH _ _).grown dI (λk hk=>(gQ.lt xJ k hk).1);obtain⟨a3,a8⟩:=Nf.cell;clear gF dI)
   | fail)
  all_goals
   go_wp2;go_roundw;exact⟨j+1,_,by omega,by go_num,Nf.set _,by rw[ar];exact EP.kr (a:=(aN (w.heap.size+1+1) 5)) (by show w.heap.size+1+1<w.heap.size+3;omega) _⟩;exact gV
 ·have wU:(imps.take j)=imps:=fQ (by have:=H.out;omega);have ah:((imps.take j).map f).length=ni:=by rw[wU,dV,<-H]
  rw[wU]at HO;obtain⟨R,S,Q⟩:=I.shape;rw[ah]at Q;subst Q;have N:=λi (v:aC) (hv:(#[A x.name,X ai ni ci,X p u t,X b nf q,X D G F,X R ni S]:Array aC)[i]?=some v)=>(aj C.loc i).trans hv;have M:=λi (v:aC) (hv:(#[A ⟨#[]⟩,aU,aU,aU,aU,aU]:Array aC)[i]?=some v)=>(aj C.res i).trans hv;obtain⟨l0,l1,l2,l3⟩:=rY (N 0 _ rfl) (N 1 _ rfl) (N 2 _ rfl) (N 3 _ rfl);obtain⟨l4,l5⟩:=eY (N 4 _ rfl) (N 5 _ rfl);obtain⟨r0,r1,r2,r3,r4,r5,f0⟩:=Ng (M 0 _ rfl) (M 1 _ rfl) (M 2 _ rfl) (M 3 _ rfl) (M 4 _ rfl) (M 5 _ rfl) (aF C.res 0);obtain⟨f1,f2,f3,f4⟩:=rY (aF C.res 1) (aF C.res 2) (aF C.res 3)<|aF C.res 4;have f5:=aF C.res 5;clear K I;clear wU ah;obtain⟨Wf,V,ag⟩:=apP C.res (A x.name) (X ai ni ci) (X p u t) (X b nf q) (X D G F)<|X R ni S;have U:J (bK w Wf):=by rw[V];exact Y<|rW (rW (rW (rW (rW (rW C.below cK _) cK _) cK _) cK _) cK _) cK _
  have L:w.heap.size+1<w.heap.size+3:=by omega
  have xJ:J (gQ Wf (w.heap.size+3) (X R ni S)<|imps.map f):=by rw[V];exact Y<|(((((HO.kr L _).kr L _).kr L _).kr L _).kr L _).kr L _
  obtain⟨aw,ao⟩:=bV V ag;clear V ag;go_wp2_with fail;rw[<-aw];obtain⟨g0,g1,g2,g3,g4,g5⟩:=ZC6 ao;refine cZ (v:=.agg #[A x.name,X ai ni ci,X p u t,X b nf q,X D G F,X R ni S]) (by simp[results,results100,go_sem,g0,g1,g2,g3,g4,g5]) rfl ?_;exact⟨_,rfl,gQ.ints xJ (by rw[dV,<-H];omega),U⟩
namespace bO
def fF(x:Mo)(k:Nat)(call:aS)(known:List Mo):Int × Int × Bool:=
 match lI call with
 | none=>tV (-1) x.bq call k
 | some _=>if dU x.imports (bS.preS call)<0 then (0,0,false)else
  match dQ known (x.imports.getD (dU x.imports (bS.preS call)).toNat ByteArray.empty)with
  | none=>(0,0,false)
  | some a=>tV a ((known[a]?.map (·.bq)).getD []) (uR call) ((known[a]?.map (·.bq)).getD []).length
theorem Dn(e:lI call=some d)(b:dU x.imports (bS.preS call)=(i:Int))(f:dQ known (x.imports.getD i ByteArray.empty)=none):fF x k call known=(0,0,false):=by unfold fF;rw[e];simp only;rw[aI (by rw[b];omega),b,vQ,f]
theorem Dp{a:Nat}(e:lI call=some d)(b:dU x.imports (bS.preS call)=(i:Int))(f:dQ known (x.imports.getD i ByteArray.empty)=some a)(g:known[a]?=some y):fF x k call known=tV a y.bq (uR call) y.bq.length:=by unfold fF;rw[e];simp only;rw[aI (by rw[b];omega),b,vQ,f];simp only[g,kV,gD]
theorem rJ{l:List Mo}{a:Nat}(h:dQ l s=some a):∃y,l[a]?=some y/\cB y.name s=true:=by
 unfold dQ at h;have b:=Jj h;cases e:l[a]? with
 | none=>rw[e]at b;simp at b
 | some y=>rw[e]at b;exact⟨y,rfl,b⟩
end bO
theorem Pk(w:bI)(c0 c1 c2 c3 c4 b:aC)(t:TypeId)(i:Nat)(v:aC)(h:(#[c0,c1,c2,c3,c4,b]:Array aC)[i]?=some v):(w.alloc<|.cells #[c0,c1,c2,c3,c4,b] t).cell? (aN w.heap.size i)=some v:=
 (aj (bF w<|.cells #[c0,c1,c2,c3,c4,b] t) i).trans h
theorem Yx{R b:Int × Int × Bool}(h:R=b)(e:P):(dz (.tuple #[O R.1,O R.2.1,.bool R.2.2])=dz (.tuple #[O b.1,O b.2.1,.bool b.2.2]))/\P:=by subst h;exact⟨rfl,e⟩
theorem vR(l:aJ)(s:aS):dU l s=-1\/∃i:Nat,dU l s=i/\i<l.length:=by
 unfold dU;cases h:(List.range l.length).find? (Ov l s)with
 | none=>exact aO rfl
 | some i=>exact aQ ⟨i,rfl,jE.1<|Gw h⟩
structure ScV(w:World)(m:Nat)(x:Mo)(known:List Mo)(vi vv vf vk va:Value):Prop where
 mo:jl w m (.agg #[.string x.name,vi,vv,vf]) x
 kn:jN w m vk known
 ats:Ints w va (x.imports.map λs=>oI (dQ known s))
 cap:∀a n c,vf=.slice a n c->n<=c
theorem ScV.below{e:aC}(h:ScV w m x known vi vv vf e va)(b:bK w w'):ScV w' m x known vi vv vf e va:=
 ⟨h.mo.below b,h.kn.below b,h.ats.below b,h.cap⟩
theorem jl.split(h:jl w m (.agg #[A x.name,vi,vv,vf]) x):Strs w vi x.imports/\xG w vv x.vars/\mE w m vf x.bq:=by obtain⟨C,D,z,b,u,f,g,e⟩:=h;injection b with b;injection b with b;injection b with _ b;injection b with p b;injection b with q b;injection b with t _;subst p q t;exact⟨f,g,e⟩
theorem GN(m:Nat)(w:bI)(x:Mo)(known:List Mo)(vi vv vf vk va:aC)(k:Nat)(call:aS)(h:ScV w m x known vi vv vf vk va)(hk:k<=x.bq.length)(hc:call.size<=maxLen):aD 203 #[.agg #[A x.name,vi,vv,vf,vk,va],O k,A call] w λe w'=>e=dz (.tuple #[O (fF x k call known).1,O (fF x k call known).2.1,.bool (fF x k call known).2.2])/\bK w w':=by
 obtain⟨hI,hV,hF⟩:=h.mo.split;obtain⟨HI,OI⟩:=bV hI h.cap;obtain⟨hK,hA⟩:=eY h.kn h.ats;obtain⟨ai,bi,oi,ci,rfl,-⟩:=hI;obtain⟨av,bv,ov,cv,rfl,-⟩:=hV;obtain⟨af,bf,of,cf,rfl,RD,hlf,hcf⟩:=hF;obtain⟨ak,bk,ok,ck,rfl,hak,hlk,hck⟩:=hK;have hcap:=h.cap _ _ _ rfl;have HEF:J (H9 w m bf of x.bq):=hcf;obtain⟨QY,HAK,wV⟩:=fE RD hak hck;obtain⟨aa,ba,oa,ca,rfl,haa,hla,hca⟩:=hA;obtain⟨HAA,OJ⟩:=bV haa hca;obtain⟨R,hR⟩:∃R,R=fF x k call known:=⟨_,rfl⟩;have HR:=Y hR;rw[<-hR];have VI:J (∀w,aD 131 #[A call,A ⟨#[46]⟩] w λe w'=>e=dz (.tuple #[A (bS.preS call),A (uR call),.bool (lI call).isSome])/\bK w w'):=λw=>Yu w call hc;obtain⟨ni,hni⟩:∃n,n=x.imports.length:=⟨_,rfl⟩;obtain⟨nf,hnf⟩:∃n,n=x.bq.length:=⟨_,rfl⟩;obtain⟨nk,hnk⟩:∃n,n=known.length:=⟨_,rfl⟩;have Kg:(x.imports.map λs=>oI (dQ known s)).length=ni:=by rw[List.length_map,hni]
 rw[Kg]at hla HAA ⊢;obtain⟨yM,LW,IW⟩:=fE hnf hnk hni;rw[<-hni]at HI;rw[<-hnf]at hcap hk hlf QY;rw[<-hnk]at hlk HAK;rw[<-hni,<-hnf,<-hnk];generalize x.vars.length=nv at *;have eT:=λi v h=>Pk w (A x.name) (X ai ni ci) (X av nv cv) (X af nf cf) (X ak nk ck) (X aa ni ca) 169 i v h;have HB0:=Y (aH w (aY #[A x.name,X ai ni ci,X av nv cv,X af nf cf,X ak nk ck,X aa ni ca] 169));obtain⟨q1,q3,q4,q5⟩:=rY (eT 1 _ rfl) (eT 3 _ rfl) (eT 4 _ rfl) (eT 5 _ rfl);clear RD hak hcf hck haa hca hni hnf hnk Kg hR h;cases hd:lI call with
 | none =>rw[hd]at VI;have HD:=Y hd;clear hd;generalize uR call=suf at *;generalize bS.preS call=pre at *;go_enter func203,ntmps203;go_wp2_with fail;refine(VI.out _).mono ?_;rintro e w1 ⟨rfl,hb1⟩;replace q3:=aG q3 hb1;have HB1:=Y (up HB0.out hb1);clear hb1 q1 q4 q5;go_wp2_with fail;refine(ajW _ af nf cf k hk hcap).mono ?_;rintro e w2 ⟨rfl,hw2⟩;subst hw2;go_wp2_with fail;refine(M9 m _ af bf of cf k x.bq call (-1) (by rw[<-yM.out];exact hk) (by rw[<-yM.out];exact hlf) (λh=>QY.out bC) (HEF.out.below HB1.out)).mono ?_;rintro e w3 ⟨rfl,hb3⟩;have HB3:=Y (up HB1.out hb3);clear hb3;go_wp2;go_ret3;exact Yx (by rw[HR.out];simp[fF,HD.out]) HB3.out
 | some dd=>
  rw[hd]at VI;have HD:=Y hd;clear hd;obtain⟨suf,XG⟩:∃s,s=uR call:=⟨_,rfl⟩;obtain⟨pre,hpre⟩:∃s,s=bS.preS call:=⟨_,rfl⟩;obtain⟨HSU,Ve⟩:=bV XG hpre;rw[<-XG,<-hpre]at VI;clear XG hpre;have HIX:=Y (λwx (hb:bK w wx)=>BF wx _ x.imports pre (HI.out.below hb));rcases vR x.imports pre with hix|⟨i,hi,hil⟩;·rw[hix]at HIX;have HXX:=Y hix;clear hix;go_enter func203,ntmps203;go_wp2_with fail;refine(VI.out _).mono ?_;rintro e w1 ⟨rfl,hb1⟩;replace q1:=aG q1 hb1;have HB1:=Y (up HB0.out hb1);clear hb1 q3 q4 q5;go_wp2_with fail;refine(HIX.out _ HB1.out).mono ?_;rintro e w2 ⟨rfl,hw2⟩;subst hw2;go_wp2;go_ret3;exact Oy (by rw[HR.out];simp[fF,HD.out,<-Ve.out,HXX.out]) HB1.out
  ·rw[hi]at HIX;have HXX:=Y hi;rw[<-IW.out]at hil;have haI:=HAA.out bC;subst haI;have c5:=OJ.out i (oI (dQ known (x.imports.getD i ByteArray.empty))) (by
    have apQ:i<x.imports.length:=by rw[<-IW.out];exact hil
    simp[List.getD_eq_getElem?_getD,apQ])
   clear hi;cases hm:dQ known (x.imports.getD i ByteArray.empty)with
   | none =>rw[hm]at c5;have HM:=Y hm;have ho:oI none=-1:=rfl;rw[ho]at c5;clear hm ho;go_enter func203,ntmps203;go_wp2_with fail;refine(VI.out _).mono ?_;rintro e w1 ⟨rfl,hb1⟩;replace q1:=aG q1 hb1;replace q5:=aG q5 hb1;have HB1:=Y (up HB0.out hb1);replace c5:=aG c5 HB1.out;clear hb1 q3 q4;go_wp2_with fail;refine(HIX.out _ HB1.out).mono ?_;rintro e w2 ⟨rfl,hw2⟩;subst hw2;go_wp2;go_ret3;exact Oy (by rw[HR.out];exact Dn HD.out (by rw[<-Ve.out];exact HXX.out) HM.out) HB1.out
   | some a=>
    rw[hm]at c5;have HM:=Y hm;have ho:oI (some a)=(a:Int):=rfl;rw[ho]at c5;obtain⟨y,hy,-⟩:=bO.rJ hm;have hak:a<nk:=by have:=(List.getElem?_eq_some_iff.1 hy).1;rw[LW.out];exact this
    obtain⟨yi,yv,yf,g0,g1,g2,g3,LX⟩:=wV.out a y hy;obtain⟨-,-,hyF⟩:=LX.split;obtain⟨ay,bY,oy,cy,rfl,hay,hly,hcy⟩:=hyF;have HY:=Y hy;obtain⟨ny,hny⟩:∃n,n=y.bq.length:=⟨_,rfl⟩;have HNY:=Y hny;have OI:=Y (λwx (hb:bK w wx)=>M9 m wx ay bY oy cy y.bq.length y.bq suf a (Nat.le_refl _) hly hay ((show H9 w m bY oy y.bq from hcy).below hb));rw[<-hny]at OI g3;have hkk:=HAK.out bC;subst hkk;obtain⟨T,hT⟩:∃T,T=bO.tV a y.bq suf ny:=⟨_,rfl⟩;have HT:=Y hT;rw[<-hT]at OI;clear hm ho hy LX hay hly hcy g0 g1 g2 hny hT;go_enter func203,ntmps203;go_wp2_with fail;refine(VI.out _).mono ?_;rintro e w1 ⟨rfl,hb1⟩;replace q1:=aG q1 hb1;replace q4:=aG q4 hb1;replace q5:=aG q5 hb1;have HB1:=Y (up HB0.out hb1);replace c5:=aG c5 HB1.out;replace g3:=aG g3 HB1.out;clear hb1 q3;go_wp2_with fail;refine(HIX.out _ HB1.out).mono ?_;rintro e w2 ⟨rfl,hw2⟩;subst hw2;go_wp2_with fail;replace q4:=bD q4;replace q5:=bD q5;replace c5:=bD c5;replace g3:=bD g3;have HFG:=Y (λn os=>OI.out _ (up HB1.out (bU w2 n os)));refine bW dw dw ?_;repeat(quiet_step ((exact Calls.oZ (HFG.out _ _))))
    refine wpQuiet_nil ?_;intro _ hw';obtain⟨⟨nq,osq⟩,hw''⟩:=hw';subst hw'';have fD:=Y (up HB1.out (bU w2 nq osq));go_wp2;go_ret3;exact Yx (by rw[HT.out,HR.out,Dp HD.out (by rw[<-Ve.out];exact HXX.out) HM.out HY.out,HNY.out,HSU.out]) fD.out
