import Derived.Test.YtiebmbnfedbdeaaGreatDoorTZAH
import Derived.Test.YtiebmbnfedbdeaaGreatDoorTZAI
set_option maxHeartbeats 0
set_option maxRecDepth 99999
namespace Go.Proofs.YtiebmbnfedbdeaaGreatDoor
open bS bO
open Go.Proofs.Tryz
open Go.RowKit
variable{w w1 W w':bI}{E P:Prop}{n B r j k d i m:Nat}{v va vi vv vf:aC}{l:List Int}{a:Addr}{x y:Mo}{call s:aS}{known:List Mo}
def Im(w:bI)(m b off:Nat)(l:List Mo):Prop:=
 ∀i x,l[i]?=some x->∃vi vv vf,w.cell? ⟨b,off+i*4,none⟩=some (.string x.name)/\w.cell? ⟨b,off+i*4+1,none⟩=some vi/\w.cell? ⟨b,off+i*4+2,none⟩=some vv/\w.cell? ⟨b,off+i*4+3,none⟩=some vf/\jl w m (.agg #[.string x.name,vi,vv,vf]) x
theorem Ib{Z:Array Oper}{o:Oper}{a:Act}{K:Act->bI->Prop}{f:Exit->Act->bI->Prop}(F:o.guard=none)(s x:Operand)(H:o.op=.call { callee:=.builtin .append,args:=#[s,x],argTypes:=#[27,27] })(c:Nat)(v:aC)(l:List Int)(e:Nat)(G:l.length=e)(N:a.eval s=v)(I:gQ w c v l)(B:Nat)(t:Int)(Q:a.eval x=Tc B 1 1)(D:bJ w B 0=some (O t))(hl:l.length<=1048576)(C:c<=w.heap.size)(p:∀g cap w',gQ w' c (Tc g (e+1) cap) (l++[t])->w.grownBy w' v.ownBlock->K (a.put o.dst<|Tc g (e+1) cap) w'):if Region.wanted o (yielded Z a.tmps)=true then Oper.wp prog o a w K f else E:=by
 subst G;obtain⟨V,h,R,S,U⟩:=info_parts wJ;have L:w.ownsRow c 3 1 v l.length (l.map<|Value.int .i64):=I;refine step_append_lies w F s x 27 H c 3 V (O 0) 1 8 underlying27 h R S U rfl bM v l.length (l.map<|Value.int .i64) N L (aN B 0) 1 1 [O t] Q rfl (λj u b=>?_) (λu b=>?_) bM (by unfold maxLen;omega) bC C w.heap.size rfl ?_
 ·cases j with
  | zero =>simp at b;subst b;rw[Addr.add_lit];exact D
  | succ j=>simp at b
 ·simp at b;subst b;rfl
 ·intro g cap w' q z h3 _;refine p g cap w' ?_ z;unfold gQ;rw[gX,bg];exact q
theorem VH(w:bI)(B:Nat)(s nm:aS)(c1 c2 c3:aC)(c:bJ w B 0=some (A s)):aD 117 #[.agg #[A nm,c1,c2,c3],gK B] w λf w'=>f=dz (.bool<|cB nm s)/\bK w w':=by have q0:=GD w (A nm) c1 c2 c3 59;have b:=Y<|aH w<|aY #[A nm,c1,c2,c3] 59;have g:=aG c b;have e:J (cB nm s=(nm.toList==s.toList)):=rfl;clear c;go_enter func117,ntmps117;go_wp2;go_ret;exact⟨aW e.symm,b⟩
theorem ac6(m:Nat)(w:bI)(v:aC)(l:List Mo)(s:aS)(B:Nat)(h:jN w m v l)(S:bJ w B 0=some (A s)):aD 94 #[v,.func (.func 117) #[] #[gK B]] w λe w'=>e=dz (O<|oI<|dQ l s)/\bK w w':=by
 obtain⟨a,b,off,cap,rfl,C,ab,aa⟩:=h;have j5:=Y aa;obtain⟨n,F⟩:=aV l.length;have I:=Y F;rw[<-F]at C ab ⊢;obtain⟨HA,HB⟩:=bV C S;obtain⟨R,z⟩:=aV<|oI<|dQ l s;have L:=Y z;rw[<-z];clear aa C S z F;go_enter func94,ntmps94;go_wp2_with fail;go_loopw[5,8] (λ_ i wr=>∃j:Nat,j<=n/\i=O j/\(∀d g,d<j->l[d]?=some g->cB g.name s=false)/\bK w wr) (λ_ i _=>n - (intOf i).toNat);exact⟨0,bN _,rfl,λd g Z=>aM Z<|fU _,bQ _ _⟩
 obtain⟨j,hj,rfl,U,c⟩:=hrel;obtain⟨eP,Q⟩:=bV U c;clear U;by_cases ac:j<n
 ·obtain⟨f,D⟩:∃f,l[j]?=some f:=⟨_,aZ (by have:=I.out;omega)⟩;obtain⟨vi,vv,vf,o,p,t,u,-⟩:=j5 j f D;obtain rfl:=HA bC;have H:=Y D;replace o:=aG o c;replace p:=aG p c;replace t:=aG t c;replace u:=aG u c;have G:=Y<|VH wr B s f.name vi vv vf<|aG HB c;clear D c;generalize hq:cB f.name s=q at G;have K:=Y hq;clear hq;go_wp2_with fail;refine G.mono ?_;rintro e w5 ⟨rfl,V⟩;have N:=Y<|up Q V;clear V o p t u;cases q
  ·go_wp2;go_roundw;exact⟨j+1,by omega,by go_num,λd g Z hg=>by
    by_cases e:d=j;·subst e;rw[H]at hg;cases hg;exact K
    ·exact eP d g bC hg,N⟩
   exact gV
  ·go_wp2;go_ret;exact⟨by rw[L,Rm H K eP];rfl,N⟩
 ·go_wp2;go_ret;exact⟨by rw[L,M4 λd g hg=>eP d g (by have:=(cO.1 hg).1;have:=I.out;omega) hg];rfl,Q⟩
structure ScM(w W:World)(c0 c1 c2 c3 c4 va:Value):Prop where
 res:W.heap[w.heap.size+1]?=some (.cells #[.string ⟨#[]⟩,.slice none 0 0,.slice none 0 0,.slice none 0 0,.slice none 0 0,.slice none 0 0] 163 (0,0))
 loc:W.heap[w.heap.size+1+1]?=some (.cells #[c0,c1,c2,c3,c4,va] 163 (0,0))
 below:Below w.heap.size w W
 size:w.heap.size+3<=W.heap.size
section
variable {w W W' : World} {c0 c1 c2 c3 c4 va : Value}
theorem ScM.grow(b:ScM w W c0 c1 c2 c3 c4 va)(c:bK W W'):ScM w W' c0 c1 c2 c3 c4 va:=
 ⟨by rw[c.block _ (aR b.res)];exact b.res,by rw[c.block _ (aR b.loc)];exact b.loc,up b.below c,bE b.size c.size⟩
theorem ScM.grown{r:Option Nat}(b:ScM w W c0 c1 c2 c3 c4 va)(hg:W.grownBy W' r)(e:∀k,r=some k->w.heap.size+3<=k):ScM w W' c0 c1 c2 c3 c4 va:=by
 have g:=b.size;refine⟨?_,?_,kg b.below hg (λk f=>by have:=e k f;omega),bE b.size hg.size⟩;·rw[hg.block _ (aR b.res) (λc=>by have:=e _ c.symm;omega)];exact b.res
 ·rw[hg.block _ (aR b.loc) (λc=>by have:=e _ c.symm;omega)];exact b.loc
theorem ScM.set(b:ScM w W c0 c1 c2 c3 c4 va)(u:aC):ScM w (W.setCell (aN (w.heap.size+1+1) 5) u) c0 c1 c2 c3 c4 u:=by refine⟨aX b.res cK _,by rw[aP b.loc];rfl,?_,by simp only[World.setCell,Am];exact b.size⟩;refine⟨b.below.os,b.below.tape,b.below.output,by simp only[World.setCell,Am];exact b.below.size,λk c=>?_⟩;rw[vM _ _ _ _ (by simp;omega)];exact b.below.block k c
end
theorem gQ.kr(e:gQ w n v l)(p:a.block<n)(x:aC):gQ (w.setCell a x) n v l:=by
 obtain⟨f,b⟩:=e;refine⟨f,?_⟩;rcases b with b|⟨g,cap,c,o,hg,h,r⟩;·exact aO b
 ·exact aQ ⟨g,cap,c,o,hg,aX h bC _,r⟩
theorem gQ.shape(c:gQ w B v l):∃a cap,v=X a l.length cap:=by
 obtain⟨_,b⟩:=c;rcases b with⟨rfl,b⟩|⟨g,cap,e,rfl,_⟩;·rw[b];exact⟨_,_,rfl⟩
 ·exact⟨_,_,rfl⟩
theorem gQ.lt(h:gQ w B v l):∀j,v.ownBlock=some j->B<=j/\j<w.heap.size:=Fp h
theorem iX(h:bK w w1):bK w w1.drew:=⟨h.os,h.tape,h.output,h.size,h.block⟩
theorem ScM.cell{c0 c1 c2 c3 c4:aC}(h:ScM w W c0 c1 c2 c3 c4 va):bJ W (w.heap.size+1+1) 5=some va/\W.frozen? (aN (w.heap.size+1+1) 5)=false:=⟨(aj h.loc 5).trans rfl,aF h.loc 5⟩
theorem apP{T:TypeId}{h o p q t u:aC}(z:dR W r (.cells #[h,o,p,q,t,u] T (0,0)))(b c e v3 f g:aC):∃W',W'=((((((W.setCell (aN r 0) b).setCell (aN r 1) c).setCell (aN r 2) e).setCell (aN r 3) v3).setCell (aN r 4) f).setCell (aN r 5) g)/\dR W' r (.cells #[b,c,e,v3,f,g] T (0,0)):=by refine⟨_,rfl,?_⟩;have C:=aP z 0 b;have D:=aP C 1 c;have F:=aP D 2 e;have G:=aP F 3 v3;have H:=aP G 4 f;have I:=aP H 5 g;exact I
theorem rW(b:bK w W)(e:w.heap.size<=a.block)(v:aC):bK w (W.setCell a v):=
 ⟨b.os,b.tape,b.output,by simp only[World.setCell,Am];exact b.size,λk c=>by rw[vM _ _ _ _ bC];exact b.block k c⟩
theorem JF{α β:Type}{f:α->β}{l:List α}{y:α}(h:l[j]?=some y):(l.take<|j+1).map f=(l.take j).map f++[f y]:=by rw[gy,h];simp
theorem Dm(m:Nat)(w:bI)(vi vv vf vk:aC)(x:Mo)(known:List Mo)(h:jl w m (.agg #[A x.name,vi,vv,vf]) x)(hK:jN w m vk known)(am:x.imports.length<=1048576):aD 73 #[.agg #[A x.name,vi,vv,vf],vk] w λe w'=>∃va,e=dz (.agg #[A x.name,vi,vv,vf,vk,va])/\Ints w' va (x.imports.map λs=>oI<|dQ known s)/\bK w w':=by
 obtain⟨a6,a7,a5,q,aA,hI,hV,hF⟩:=h;injection q with q;injection q with q;injection q with _ q;injection q with aE q;injection q with a0 q;injection q with a1 _;subst aE a0 a1;have HK:=Y hK;obtain⟨c,bi,oi,ci,rfl,U,al,ay,ae⟩:=hI;obtain⟨av,bv,ov,o,rfl,-⟩:=hV;obtain⟨b,bf,of,cf,rfl,-⟩:=hF;obtain⟨u,bk,ok,z,rfl,-⟩:=hK;have ab:=Y ae;obtain⟨f,hf⟩:∃f:aS->Int,f=λs=>oI (dQ known s):=⟨_,rfl⟩;have aq:=Y hf;rw[<-hf];obtain⟨imps,ac⟩:=aV x.imports;rw[<-ac]at U al am ab ⊢;obtain⟨ni,aa⟩:∃n,n=imps.length:=⟨_,rfl⟩;have D:=Y aa;rw[<-aa]at U al am ⊢;have HA:=Y U;generalize x.vars.length=p at *;generalize x.bq.length=nf at *;generalize az:known.length=C at *;have q1:=GH w (A x.name) (X c ni ci) (X av p o) (X b nf cf) 59;have aw:J (ScM w (((w.alloc<|aY #[A x.name,X c ni ci,X av p o,X b nf cf] 59).alloc (aY #[A ⟨#[]⟩,aU,aU,aU,aU,aU] 163)).alloc (aY #[A x.name,X c ni ci,X av p o,X b nf cf,X u C z,aU] 163)) (A x.name) (X c ni ci) (X av p o) (X b nf cf) (X u C z)<|aU):=by
  refine Y ⟨?_,?_,up (up (aH _ _)<|aH _ _)<|aH _ _,?_⟩;·have h1:=bF (w.alloc<|aY #[A x.name,X c ni ci,X av p o,X b nf cf] 59)<|aY #[A ⟨#[]⟩,aU,aU,aU,aU,aU] 163;rw[(aH _ _).block _ cK];simpa using h1
  ·have h1:=bF ((w.alloc<|aY #[A x.name,X c ni ci,X av p o,X b nf cf] 59).alloc (aY #[A ⟨#[]⟩,aU,aU,aU,aU,aU] 163))<|aY #[A x.name,X c ni ci,X av p o,X b nf cf,X u C z,aU] 163;simpa using h1
  ·simp
 clear ae ay hf U aa aA ac az;go_enter func73,ntmps73;go_wp2_with fail;generalize (((w.alloc<|aY #[A x.name,X c ni ci,X av p o,X b nf cf] 59).alloc (aY #[A ⟨#[]⟩,aU,aU,aU,aU,aU] 163)).alloc (aY #[A x.name,X c ni ci,X av p o,X b nf cf,X u C z,aU] 163))=W0 at *;clear q1;go_loopw[14] (λi wr=>∃(j:Nat) (va:aC),j<=ni/\i=O j/\ScM w wr (A x.name) (X c ni ci) (X av p o) (X b nf cf) (X u C z) va/\gQ wr (w.heap.size+3) va ((imps.take j).map f)) (λi _=>ni - (intOf i).toNat);exact⟨0,aU,bN _,rfl,aw,by simp only[JG,jV];exact lJ _ _ _ _⟩
 obtain⟨j,va,hj,rfl,G,F⟩:=hrel;obtain⟨t,HO⟩:=bV G F;by_cases a2:j<ni
 ·obtain⟨s,hs⟩:∃s,imps[j]?=some s:=⟨_,aZ (by have:=D.out;omega)⟩;have c0:=aG (ab j (by have:=D.out;omega)) G.below;rw[xK,hs,gD]at c0;obtain rfl:=HA bC;have au:=Y<|JF (f:=f) hs;have GL:J (((imps.take j).map f).length=j):=Y (by rw[dV,iA];have:=D.out;omega);obtain⟨N,Q,L⟩:=F.shape;rw[GL]at L;subst L;have tX:=Y<|(HK.below G.below).below (aH wr<|aY #[A s] 9);have HC:=Y (λwx (hb:Below (wr.alloc<|aY #[A s] 9).heap.size (wr.alloc<|aY #[A s] 9) wx)=>ac6 m wx _ known s wr.heap.size (tX.below hb)<|aG (Pj wr (A s) 9) hb);rw[show oI (dQ known s)=f s from by rw[aq]]at HC;obtain⟨mX,ar⟩:=bV (G.grow<|aH wr<|aY #[A s] 9)<|fM F<|aH wr<|aY #[A s] 9;obtain⟨u5,z5⟩:=mX.cell;clear hs G F;go_wp2_with fail;generalize wr.alloc (aY #[A s] 9)=W1 at *
  go_region_law (first
   | (go_simp;go_at_call 94;refine(HC _<|by repeat(first|exact bQ _ _|apply iX)).mono ?_;rintro e w6 ⟨rfl,ad⟩;have R:J (bK W1 w6):=Y<|up (by repeat(first|exact bQ _ _|apply iX):bK W1 _) ad;have Z:=Y<|mX.grow R;have V:=Y<|fM ar R;obtain⟨a3,a8⟩:=Z.cell;have Ao:w.heap.size+1+1<w6.heap.size:=(by have:=Z.size;omega);clear ad;dsimp only)
   | (refine Ib dH _ _ dH (w.heap.size+3) _ _ j GL dH (fM V<|aH _ _) _ (f s) dH (Pj _ _ _) (by have:=GL.out;omega) (bE Z.out.size (aH _ _).size) ?_;intro g cap w7 gF dI;have EP:=Y gF;have Nf:=Y<|(Z.grow<|aH _ _).grown dI (λk hk=>(gQ.lt V k hk).1);obtain⟨a4,a9⟩:=Nf.cell;clear gF dI)
   | fail)
  all_goals
   go_wp2;go_roundw;exact⟨j+1,_,by omega,by go_num,Nf.set _,by rw[au];exact EP.kr (a:=(aN (w.heap.size+1+1) 5)) (by show w.heap.size+1+1<w.heap.size+3;omega) _⟩;exact gV
 ·have wU:(imps.take j)=imps:=fQ (by have:=D.out;omega);have ah:((imps.take j).map f).length=ni:=by rw[wU,dV,<-D]
  rw[wU]at HO;obtain⟨N,Q,L⟩:=F.shape;rw[ah]at L;subst L;have K:=λi (v:aC) (hv:(#[A x.name,X c ni ci,X av p o,X b nf cf,X u C z,X N ni Q]:Array aC)[i]?=some v)=>(aj t.loc i).trans hv;have I:=λi (v:aC) (hv:(#[A ⟨#[]⟩,aU,aU,aU,aU,aU]:Array aC)[i]?=some v)=>(aj t.res i).trans hv;obtain⟨l0,l1,l2,l3⟩:=rY (K 0 _ rfl) (K 1 _ rfl) (K 2 _ rfl) (K 3 _ rfl);obtain⟨l4,l5⟩:=eY (K 4 _ rfl) (K 5 _ rfl);obtain⟨r0,r1,r2,r3,r4,r5,f0⟩:=Ng (I 0 _ rfl) (I 1 _ rfl) (I 2 _ rfl) (I 3 _ rfl) (I 4 _ rfl) (I 5 _ rfl) (aF t.res 0);obtain⟨f1,f2,f3,f4⟩:=rY (aF t.res 1) (aF t.res 2) (aF t.res 3)<|aF t.res 4;have f5:=aF t.res 5;clear G F;clear wU ah;obtain⟨Wf,S,ag⟩:=apP t.res (A x.name) (X c ni ci) (X av p o) (X b nf cf) (X u C z)<|X N ni Q;have R:J (bK w Wf):=by rw[S];exact Y<|rW (rW (rW (rW (rW (rW t.below cK _) cK _) cK _) cK _) cK _) cK _
  have H:w.heap.size+1<w.heap.size+3:=by omega
  have V:J (gQ Wf (w.heap.size+3) (X N ni Q)<|imps.map f):=by rw[S];exact Y<|(((((HO.kr H _).kr H _).kr H _).kr H _).kr H _).kr H _
  obtain⟨ax,ao⟩:=bV S ag;clear S ag;go_wp2_with fail;rw[<-ax];obtain⟨g0,g1,g2,g3,g4,g5⟩:=ZC6 ao;refine cZ (v:=.agg #[A x.name,X c ni ci,X av p o,X b nf cf,X u C z,X N ni Q]) (by simp[results,results73,go_sem,g0,g1,g2,g3,g4,g5]) rfl ?_;exact⟨_,rfl,gQ.ints V (by rw[dV,<-D];omega),R⟩
namespace bO
def fF(x:Mo)(k:Nat)(call:aS)(known:List Mo):Int × Int × Bool:=
 match lI call with
 | none=>tV (-1) x.bq call k
 | some _=>if dU x.imports (bS.preS call)<0 then (0,0,false)else
  match dQ known (x.imports.getD (dU x.imports (bS.preS call)).toNat ByteArray.empty)with
  | none=>(0,0,false)
  | some a=>tV a ((known[a]?.map (·.bq)).getD []) (uR call) ((known[a]?.map (·.bq)).getD []).length
theorem Dn(c:lI call=some d)(b:dU x.imports (bS.preS call)=(i:Int))(e:dQ known (x.imports.getD i ByteArray.empty)=none):fF x k call known=(0,0,false):=by unfold fF;rw[c];simp only;rw[aI (by rw[b];omega),b,vQ,e]
theorem Dp{a:Nat}(c:lI call=some d)(b:dU x.imports (bS.preS call)=(i:Int))(e:dQ known (x.imports.getD i ByteArray.empty)=some a)(f:known[a]?=some y):fF x k call known=tV a y.bq (uR call) y.bq.length:=by unfold fF;rw[c];simp only;rw[aI (by rw[b];omega),b,vQ,e];simp only[f,kV,gD]
theorem rJ{l:List Mo}{a:Nat}(c:dQ l s=some a):∃y,l[a]?=some y/\cB y.name s=true:=by
 unfold dQ at c;have b:=Jj c;cases e:l[a]? with
 | none=>rw[e]at b;simp at b
 | some y=>rw[e]at b;exact⟨y,rfl,b⟩
end bO
theorem Pk(w:bI)(c0 c1 c2 c3 c4 b:aC)(t:TypeId)(i:Nat)(v:aC)(c:(#[c0,c1,c2,c3,c4,b]:Array aC)[i]?=some v):(w.alloc<|.cells #[c0,c1,c2,c3,c4,b] t).cell? (aN w.heap.size i)=some v:=
 (aj (bF w<|.cells #[c0,c1,c2,c3,c4,b] t) i).trans c
theorem Yx{R b:Int × Int × Bool}(c:R=b)(e:P):(dz (.tuple #[O R.1,O R.2.1,.bool R.2.2])=dz (.tuple #[O b.1,O b.2.1,.bool b.2.2]))/\P:=by subst c;exact⟨rfl,e⟩
theorem vR(l:aJ)(s:aS):dU l s=-1\/∃i:Nat,dU l s=i/\i<l.length:=by
 unfold dU;cases h:(List.range l.length).find? (Ov l s)with
 | none=>exact aO rfl
 | some i=>exact aQ ⟨i,rfl,jE.1<|Gw h⟩
structure ScV(w:World)(m:Nat)(x:Mo)(known:List Mo)(vi vv vf vk va:Value):Prop where
 mo:jl w m (.agg #[.string x.name,vi,vv,vf]) x
 kn:jN w m vk known
 ats:Ints w va (x.imports.map λs=>oI (dQ known s))
 cap:∀a n c,vf=.slice a n c->n<=c
theorem ScV.below{e:aC}(b:ScV w m x known vi vv vf e va)(c:bK w w'):ScV w' m x known vi vv vf e va:=
 ⟨b.mo.below c,b.kn.below c,b.ats.below c,b.cap⟩
theorem jl.split(c:jl w m (.agg #[A x.name,vi,vv,vf]) x):Strs w vi x.imports/\xG w vv x.vars/\mE w m vf x.bq:=by obtain⟨u,z,t,b,q,f,g,e⟩:=c;injection b with b;injection b with b;injection b with _ b;injection b with h b;injection b with o b;injection b with p _;subst h o p;exact⟨f,g,e⟩
theorem GN(m:Nat)(w:bI)(x:Mo)(known:List Mo)(vi vv vf vk va:aC)(k:Nat)(call:aS)(h:ScV w m x known vi vv vf vk va)(hk:k<=x.bq.length)(hc:call.size<=maxLen):aD 178 #[.agg #[A x.name,vi,vv,vf,vk,va],O k,A call] w λe w'=>e=dz (.tuple #[O (fF x k call known).1,O (fF x k call known).2.1,.bool (fF x k call known).2.2])/\bK w w':=by
 obtain⟨hI,hV,hF⟩:=h.mo.split;obtain⟨HI,OI⟩:=bV hI h.cap;obtain⟨hK,hA⟩:=eY h.kn h.ats;obtain⟨ai,bi,oi,ci,rfl,-⟩:=hI;obtain⟨av,bv,ov,cv,rfl,-⟩:=hV;obtain⟨af,bf,of,cf,rfl,RD,hlf,hcf⟩:=hF;obtain⟨ak,bk,ok,ck,rfl,hak,hlk,hck⟩:=hK;have hcap:=h.cap _ _ _ rfl;have HEF:J (H9 w m bf of x.bq):=hcf;obtain⟨QY,HAK,wV⟩:=fE RD hak hck;obtain⟨aa,ba,oa,ca,rfl,haa,hla,hca⟩:=hA;obtain⟨HAA,OJ⟩:=bV haa hca;obtain⟨R,hR⟩:∃R,R=fF x k call known:=⟨_,rfl⟩;have HR:=Y hR;rw[<-hR];have VI:J (∀w,aD 224 #[A call,A ⟨#[46]⟩] w λe w'=>e=dz (.tuple #[A (bS.preS call),A (uR call),.bool (lI call).isSome])/\bK w w'):=λw=>Yu w call hc;obtain⟨ni,hni⟩:∃n,n=x.imports.length:=⟨_,rfl⟩;obtain⟨nf,hnf⟩:∃n,n=x.bq.length:=⟨_,rfl⟩;obtain⟨nk,hnk⟩:∃n,n=known.length:=⟨_,rfl⟩;have Kg:(x.imports.map λs=>oI (dQ known s)).length=ni:=by rw[List.length_map,hni]
 rw[Kg]at hla HAA ⊢;obtain⟨yM,LW,IW⟩:=fE hnf hnk hni;rw[<-hni]at HI;rw[<-hnf]at hcap hk hlf QY;rw[<-hnk]at hlk HAK;rw[<-hni,<-hnf,<-hnk];generalize x.vars.length=nv at *;have eT:=λi v h=>Pk w (A x.name) (X ai ni ci) (X av nv cv) (X af nf cf) (X ak nk ck) (X aa ni ca) 163 i v h;have HB0:=Y (aH w (aY #[A x.name,X ai ni ci,X av nv cv,X af nf cf,X ak nk ck,X aa ni ca] 163));obtain⟨q1,q3,q4,q5⟩:=rY (eT 1 _ rfl) (eT 3 _ rfl) (eT 4 _ rfl) (eT 5 _ rfl);clear RD hak hcf hck haa hca hni hnf hnk Kg hR h;cases hd:lI call with
 | none =>rw[hd]at VI;have HD:=Y hd;clear hd;generalize uR call=suf at *;generalize bS.preS call=pre at *;go_enter func178,ntmps178;go_wp2_with fail;refine(VI.out _).mono ?_;rintro e w1 ⟨rfl,hb1⟩;replace q3:=aG q3 hb1;have HB1:=Y (up HB0.out hb1);clear hb1 q1 q4 q5;go_wp2_with fail;refine(ajW _ af nf cf k hk hcap).mono ?_;rintro e w2 ⟨rfl,hw2⟩;subst hw2;go_wp2_with fail;refine(M9 m _ af bf of cf k x.bq call (-1) (by rw[<-yM.out];exact hk) (by rw[<-yM.out];exact hlf) (λh=>QY.out bC) (HEF.out.below HB1.out)).mono ?_;rintro e w3 ⟨rfl,hb3⟩;have HB3:=Y (up HB1.out hb3);clear hb3;go_wp2;go_ret3;exact Yx (by rw[HR.out];simp[fF,HD.out]) HB3.out
 | some dd=>
  rw[hd]at VI;have HD:=Y hd;clear hd;obtain⟨suf,XG⟩:∃s,s=uR call:=⟨_,rfl⟩;obtain⟨pre,hpre⟩:∃s,s=bS.preS call:=⟨_,rfl⟩;obtain⟨HSU,Ve⟩:=bV XG hpre;rw[<-XG,<-hpre]at VI;clear XG hpre;have HIX:=Y (λwx (hb:bK w wx)=>BF wx _ x.imports pre (HI.out.below hb));rcases vR x.imports pre with hix|⟨i,hi,hil⟩;·rw[hix]at HIX;have HXX:=Y hix;clear hix;go_enter func178,ntmps178;go_wp2_with fail;refine(VI.out _).mono ?_;rintro e w1 ⟨rfl,hb1⟩;replace q1:=aG q1 hb1;have HB1:=Y (up HB0.out hb1);clear hb1 q3 q4 q5;go_wp2_with fail;refine(HIX.out _ HB1.out).mono ?_;rintro e w2 ⟨rfl,hw2⟩;subst hw2;go_wp2;go_ret3;exact Oy (by rw[HR.out];simp[fF,HD.out,<-Ve.out,HXX.out]) HB1.out
  ·rw[hi]at HIX;have HXX:=Y hi;rw[<-IW.out]at hil;have haI:=HAA.out bC;subst haI;have c5:=OJ.out i (oI (dQ known (x.imports.getD i ByteArray.empty))) (by
    have apQ:i<x.imports.length:=by rw[<-IW.out];exact hil
    simp[List.getD_eq_getElem?_getD,apQ])
   clear hi;cases hm:dQ known (x.imports.getD i ByteArray.empty)with
   | none =>rw[hm]at c5;have HM:=Y hm;have ho:oI none=-1:=rfl;rw[ho]at c5;clear hm ho;go_enter func178,ntmps178;go_wp2_with fail;refine(VI.out _).mono ?_;rintro e w1 ⟨rfl,hb1⟩;replace q1:=aG q1 hb1;replace q5:=aG q5 hb1;have HB1:=Y (up HB0.out hb1);replace c5:=aG c5 HB1.out;clear hb1 q3 q4;go_wp2_with fail;refine(HIX.out _ HB1.out).mono ?_;rintro e w2 ⟨rfl,hw2⟩;subst hw2;go_wp2;go_ret3;exact Oy (by rw[HR.out];exact Dn HD.out (by rw[<-Ve.out];exact HXX.out) HM.out) HB1.out
   | some a=>
    rw[hm]at c5;have HM:=Y hm;have ho:oI (some a)=(a:Int):=rfl;rw[ho]at c5;obtain⟨y,hy,-⟩:=bO.rJ hm;have hak:a<nk:=by have:=(List.getElem?_eq_some_iff.1 hy).1;rw[LW.out];exact this
    obtain⟨yi,yv,yf,g0,g1,g2,g3,LX⟩:=wV.out a y hy;obtain⟨-,-,hyF⟩:=LX.split;obtain⟨ay,bY,oy,cy,rfl,hay,hly,hcy⟩:=hyF;have HY:=Y hy;obtain⟨ny,hny⟩:∃n,n=y.bq.length:=⟨_,rfl⟩;have HNY:=Y hny;have OI:=Y (λwx (hb:bK w wx)=>M9 m wx ay bY oy cy y.bq.length y.bq suf a (Nat.le_refl _) hly hay ((show H9 w m bY oy y.bq from hcy).below hb));rw[<-hny]at OI g3;have hkk:=HAK.out bC;subst hkk;obtain⟨T,hT⟩:∃T,T=bO.tV a y.bq suf ny:=⟨_,rfl⟩;have HT:=Y hT;rw[<-hT]at OI;clear hm ho hy LX hay hly hcy g0 g1 g2 hny hT;go_enter func178,ntmps178;go_wp2_with fail;refine(VI.out _).mono ?_;rintro e w1 ⟨rfl,hb1⟩;replace q1:=aG q1 hb1;replace q4:=aG q4 hb1;replace q5:=aG q5 hb1;have HB1:=Y (up HB0.out hb1);replace c5:=aG c5 HB1.out;replace g3:=aG g3 HB1.out;clear hb1 q3;go_wp2_with fail;refine(HIX.out _ HB1.out).mono ?_;rintro e w2 ⟨rfl,hw2⟩;subst hw2;go_wp2_with fail;replace q4:=bD q4;replace q5:=bD q5;replace c5:=bD c5;replace g3:=bD g3;have HFG:=Y (λn os=>OI.out _ (up HB1.out (bU w2 n os)));refine bW dw dw ?_;repeat(quiet_step ((exact Calls.oZ (HFG.out _ _))))
    refine wpQuiet_nil ?_;intro _ hw';obtain⟨⟨nq,osq⟩,hw''⟩:=hw';subst hw'';have fD:=Y (up HB1.out (bU w2 nq osq));go_wp2;go_ret3;exact Yx (by rw[HT.out,HR.out,Dp HD.out (by rw[<-Ve.out];exact HXX.out) HM.out HY.out,HNY.out,HSU.out]) fD.out
