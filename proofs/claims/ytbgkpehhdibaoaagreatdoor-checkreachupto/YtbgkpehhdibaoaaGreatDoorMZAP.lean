/- part -/
import Derived.Test.YtbgkpehhdibaoaaGreatDoorMZLG
import Derived.Test.YtbgkpehhdibaoaaGreatDoorMZAM
set_option maxHeartbeats 0
set_option maxRecDepth 99999
namespace Go.Proofs.YtbgkpehhdibaoaaGreatDoor
open bO Sv
open Go.Proofs.Tryz
open Go.RowKit
variable{w w' W:World}{v r0 r1 vn vl:Value}{B k G:Nat}{ss:List aZ}{L:Nat->Nat}{Z:Nat->Nat->Bool}
def Mv(w:World)(v:Value)(l:List Co):Prop:=
 ∃(a:Option Addr) (b off cap:Nat),v=.slice a l.length cap/\(0<l.length->a=some ⟨b,off,none⟩)/\l.length<=9223372036854775807/\
  ∀(i:Nat) (x:Co),l[i]?=some x->∃vf,Ints w vf x.fr/\w.cell? ⟨b,off+i*4,none⟩=some (.int .i64 x.to)/\w.cell? ⟨b,off+i*4+1,none⟩=some vf/\w.cell? ⟨b,off+i*4+2,none⟩=some (.int .i64 x.mask)/\w.cell? ⟨b,off+i*4+3,none⟩=some (.int .i64 x.level)
theorem Mv.below{l:List Co}(h:Mv w v l)(hb:bG w w'):Mv w' v l:=by obtain⟨a,b,off,cap,e,h0,hl,h1⟩:=h;refine⟨a,b,off,cap,e,h0,hl,λi x hx=>?_⟩;obtain⟨vf,hf,g0,g1,g2,g3⟩:=h1 i x hx;exact⟨vf,hf.below hb,aC g0 hb,aC g1 hb,aC g2 hb,aC g3 hb⟩
def lZ(w:World)(v:Value)(l:List (Int × Int)):Prop:=
 ∃(a:Option Addr) (b off cap:Nat),v=.slice a l.length cap/\(0<l.length->a=some ⟨b,off,none⟩)/\l.length<=9223372036854775807/\
  ∀(i:Nat) (x:Int × Int),l[i]?=some x->w.cell? ⟨b,off+i*2,none⟩=some (.int .i64 x.1)/\w.cell? ⟨b,off+i*2+1,none⟩=some (.int .i64 x.2)
theorem lZ.below{l:List (Int × Int)}(h:lZ w v l)(hb:bG w w'):lZ w' v l:=by obtain⟨a,b,off,cap,e,h0,hl,h1⟩:=h;refine⟨a,b,off,cap,e,h0,hl,λi x hx=>?_⟩;obtain⟨g0,g1⟩:=h1 i x hx;exact⟨aC g0 hb,aC g1 hb⟩
structure Cf where
 p:Nat
 lb:Nat
 sb:Nat
 n:Nat
 vn:Value
 vl:Value
structure iZ(w0 w:World)(c:Cf)(V:Nat->Nat × Nat)(S:Nat->Nat):Prop where
 since:Below w0.heap.size w0 w
 pn:w0.heap.size<=c.p
 ln:w0.heap.size<=c.lb
 sn:w0.heap.size<=c.sb
 blk:w.heap[c.p]?=some (.cells #[c.vn,c.vl,.slice (some ⟨c.lb,0,none⟩) c.n c.n,.slice (some ⟨c.sb,0,none⟩) c.n c.n] 274 (0,0))
 lab:∃cs,w.heap[c.lb]?=some (.cells cs 33 (0,0))/\∀i,i<c.n->cs[i*2]?=some (.int .i64 ((V i).1:Nat))/\cs[i*2+1]?=some (.int .i64 ((V i).2:Nat))
 src:∃cs,w.heap[c.sb]?=some (.cells cs 241 (0,0))/\∀i,i<c.n->cs[i]?=some (.int .u64 (S i:Nat))
section
variable {w0 w w' : World} {c : Cf} {V : Nat → Nat × Nat} {S : Nat → Nat}
theorem iZ.below(h:iZ w0 w c V S)(hb:bG w w'):iZ w0 w' c V S:=by
 have up':∀{k:Nat} {ob:Obj},w.heap[k]?=some ob->w'.heap[k]?=some ob:=λho=>by rw[hb.block _ (bE ho)];exact ho
 obtain⟨cs,h1,h2⟩:=h.lab;obtain⟨ds,k1,k2⟩:=h.src;exact⟨h.since.trans (hb.mono h.since.size),h.pn,h.ln,h.sn,up' h.blk,⟨cs,up' h1,h2⟩,⟨ds,up' k1,k2⟩⟩
theorem iZ.pl(h:iZ w0 w c V S):c.p≠c.lb:=λe=>by obtain⟨cs,h1,_⟩:=h.lab;have:=h.blk;rw[e,h1]at this;injection this with this;injection this with _ this;exact aN this bP
theorem iZ.ps(h:iZ w0 w c V S):c.p≠c.sb:=λe=>by obtain⟨cs,h1,_⟩:=h.src;have:=h.blk;rw[e,h1]at this;injection this with this;injection this with _ this;exact aN this bP
theorem iZ.ls(h:iZ w0 w c V S):c.lb≠c.sb:=λe=>by obtain⟨cs,h1,_⟩:=h.src;obtain⟨ds,this,_⟩:=h.lab;rw[e,h1]at this;injection this with this;injection this with _ this;exact aN this bP
theorem iZ.cell(h:iZ w0 w c V S):w.cell? (X c.p 0)=some c.vn/\w.cell? (X c.p 1)=some c.vl/\w.cell? (X c.p 2)=some (Y (some (X c.lb 0)) c.n c.n)/\w.cell? (X c.p 3)=some (Y (some (X c.sb 0)) c.n c.n):=
 ⟨(aj h.blk 0).trans rfl,(aj h.blk 1).trans rfl,(aj h.blk 2).trans rfl,(aj h.blk 3).trans rfl⟩
theorem iZ.ZG(h:iZ w0 w c V S){i:Nat}(hi:i<c.n):w.cell? (X c.lb (i*2))=some (O ((V i).1:Nat))/\w.cell? (X c.lb (i*2+1))=some (O ((V i).2:Nat))/\w.frozen? (X c.lb (i*2))=false/\w.frozen? (X c.lb (i*2+1))=false:=by obtain⟨cs,h1,h2⟩:=h.lab;exact⟨(aj h1 _).trans (h2 i hi).1,(aj h1 _).trans (h2 i hi).2,aG h1 _,aG h1 _⟩
theorem iZ.srcc(h:iZ w0 w c V S){i:Nat}(hi:i<c.n):w.cell? (X c.sb i)=some (.int .u64 (S i:Nat))/\w.frozen? (X c.sb i)=false:=by obtain⟨cs,h1,h2⟩:=h.src;exact⟨(aj h1 _).trans (h2 i hi),aG h1 _⟩
theorem OA{cs:Array Value}{i j:Nat}{v:Value}:(cs.setIfInBounds i v)[j]?=if i=j then (if i<cs.size then some v else none)else cs[j]?:=by rw[Ow]
theorem zw{cs:Array Value}{i:Nat}{v:Value}(h:cs[i]?=some v):i<cs.size:=by
 rcases vI i cs.size with h'|h';·exact h'
 ·rw[Ut h']at h;cases h
theorem iZ.put(h:iZ w0 w c V S){i:Nat}(hi:i<c.n)(x:Nat × Nat):iZ w0 ((w.setCell (X c.lb (i*2)) (O (x.1:Nat))).setCell (X c.lb (i*2+1)) (O (x.2:Nat))) c (Sv.put V i x) S:=by
 obtain⟨cs,h1,h2⟩:=h.lab;obtain⟨ds,k1,k2⟩:=h.src;have b1:=aP h1 (i*2) (O (x.1:Nat));have b2:=aP b1 (i*2+1) (O (x.2:Nat));refine⟨(h.since.setCell h.ln _).setCell h.ln _,h.pn,h.ln,h.sn,bL (bL h.blk h.pl _) h.pl _,⟨_,b2,λj hj=>?_⟩,⟨ds,bL (bL k1 h.ls.symm _) h.ls.symm _,k2⟩⟩;obtain⟨l1,l2⟩:=eD (zw (h2 i hi).1) (zw (h2 i hi).2);simp only[OA,Array.size_setIfInBounds,Sv.put];by_cases e:j=i;·subst e;simp[l1,l2]
 ·rw[aJ aV,aJ aV,aJ aV,aJ aV,aJ aV];exact h2 j hj
theorem iZ.putLevel(h:iZ w0 w c V S){i:Nat}(hi:i<c.n)(y:Nat):iZ w0 (w.setCell (X c.lb (i*2+1)) (O (y:Nat))) c (Sv.put V i ((V i).1,y)) S:=by
 obtain⟨cs,h1,h2⟩:=h.lab;obtain⟨ds,k1,k2⟩:=h.src;have b2:=aP h1 (i*2+1) (O (y:Nat));refine⟨h.since.setCell h.ln _,h.pn,h.ln,h.sn,bL h.blk h.pl _,⟨_,b2,λj hj=>?_⟩,⟨ds,bL k1 h.ls.symm _,k2⟩⟩;have l2:=zw (h2 i hi).2;simp only[OA,Sv.put];by_cases e:j=i;·subst e;rw[aJ aV,aL rfl,aL l2];simp only[if_true,and_true];exact(h2 j hj).1
 ·rw[aJ aV,aJ aV,aJ aV];exact h2 j hj
def ZH(S:Nat->Nat)(i x:Nat):Nat->Nat:=λj=>if j=i then x else S j
theorem iZ.putSrc(h:iZ w0 w c V S){i:Nat}(hi:i<c.n)(y:Nat):iZ w0 (w.setCell (X c.sb i) (.int .u64 (y:Nat))) c V (ZH S i y):=by
 obtain⟨cs,h1,h2⟩:=h.lab;obtain⟨ds,k1,k2⟩:=h.src;have b2:=aP k1 i (.int .u64 (y:Nat));refine⟨h.since.setCell h.sn _,h.pn,h.ln,h.sn,bL h.blk h.ps _,⟨cs,bL h1 h.ls _,h2⟩,⟨_,b2,λj hj=>?_⟩⟩;have l2:=zw (k2 i hi);simp only[OA,ZH];by_cases e:j=i;·subst e;rw[aL rfl,aL l2,aL rfl]
 ·rw[aJ aV,aJ e];exact k2 j hj
end
theorem andNot16:∀a:Fin 16,∀b:Fin 16,(bits .andNot .i64 ((a:Nat):Int) ((b:Nat):Int)==0)=Sv.sub a b:=by decide +kernel
theorem or16:∀a:Fin 16,∀b:Fin 16,bits .or .i64 ((a:Nat):Int) ((b:Nat):Int)=(((a:Nat)||| (b:Nat):Nat):Int):=by decide +kernel
theorem yh(w:World)(n:Nat)(v:Int):Calls prog 258 #[O n,O v] w λe w'=>e=cO (.bool (sZ n v))/\w'=w:=by
 have HV:Hid (sZ n v=(decide (0<=v)&&decide (v<n))):=rfl;by_cases h0:0<=v;·go_enter func258,ntmps258;go_wp2;go_ret;exact⟨aM (by rw[HV];simp[h0]),rfl⟩
 ·have h0':decide (0<=v)=false:=by simpa using h0
  rw[h0',Af]at HV;go_enter func258,ntmps258;go_wp2;go_ret;exact⟨aM (by rw[HV]),rfl⟩
theorem FR(w:World)(va:Option Addr)(vl:Value)(N cap:Nat)(m l:Int):Calls prog 211 #[.agg #[Y va N cap,vl],.agg #[O m,O l]] w λe w'=>e=cO (.bool (wZ N m l))/\bG w w':=by
 have HV:Hid (wZ N m l=(decide (0<=m)&&decide (m<=15)&&decide (0<=l)&&decide (l<N))):=rfl;have hb:bG w ((w.alloc (aY #[Y va N cap,vl] 25)).alloc (aY #[O m,O l] 33)):=((bN _ _).alloc (bF _) _).alloc cZ _;have HB:=I hb;clear hb;by_cases h0:0<=m
 ·by_cases h1:m<=15;·have HC:=I (p8 ((w.alloc (aY #[Y va N cap,vl] 25)).alloc (aY #[O m,O l] 33)) va vl N cap l);have HVV:Hid (wZ N m l=(decide (0<=l)&&decide (l<N))):=I (by rw[HV];simp[h0,h1]);go_enter func211,ntmps211;go_wp2_with fail;refine HC.mono ?_;rintro e w1 ⟨rfl,hb1⟩;have HB1:=I (up HB hb1);clear hb1;rw[<-HVV];go_wp2_with fail;go_ret;exact⟨rfl,HB1⟩
  ·have h1':decide (m<=15)=false:=by simpa using h1
   rw[h1',Rj,Af,Af]at HV;go_enter func211,ntmps211;go_wp2;go_ret;exact⟨aM (by rw[HV]),HB⟩
 ·have h0':decide (0<=m)=false:=by simpa using h0
  rw[h0',Af,Af,Af]at HV;go_enter func211,ntmps211;go_wp2;go_ret;exact⟨aM (by rw[HV]),HB⟩
def Lh(w:World)(vn vl:Value)(x y:Nat × Nat):World:=
 ((w.alloc (.cells #[vn,vl] 25)).alloc (.cells #[.int .i64 (x.1:Nat),.int .i64 (x.2:Nat)] 33)).alloc (.cells #[.int .i64 (y.1:Nat),.int .i64 (y.2:Nat)] 33)
theorem Jk(w:World)(vn vl:Value)(x y:Nat × Nat):bG w (Lh w vn vl x y):=(((bN _ _).alloc (bF _) _).alloc cZ _).alloc (by simp;omega) _
theorem Rx(w:World)(vn vl:Value)(N:Nat)(Z:Nat->Nat->Bool)(x y:Nat × Nat)(hG:uw w vl N Z)(_hN:N<=6)(hx:Sv.Ok N x)(hy:Sv.Ok N y):Calls prog 259 #[.agg #[vn,vl],.agg #[O (x.1:Nat),O (x.2:Nat)],.agg #[O (y.1:Nat),O (y.2:Nat)]] w λe w'=>e=cO (.bool (Sv.le Z x y))/\bG w w':=by
 have jR:Hid (Sv.le Z x y=(Sv.sub x.1 y.1&&Z x.2 y.2)):=rfl;obtain⟨xm,xl⟩:=x;obtain⟨ym,yl⟩:=y;have hxl:xl<N:=hx.2;have hyl:yl<N:=hy.2;have hs:=andNot16 ⟨xm,hx.1⟩ ⟨ym,hy.1⟩;simp only at hs jR ⊢;have HB:=I (Jk w vn vl (xm,xl) (ym,yl));obtain⟨gb,go,gc,RB,RO,C,rfl,h1,h2⟩:=hG;obtain⟨r1,r2⟩:=eD (aC (h1 xl hxl) HB) (aC (h2 xl yl hxl hyl) HB);simp only[Lh]at r1 r2 HB;clear h1 h2 hx hy;cases hz:Sv.sub xm ym;·rw[hz]at hs jR;go_enter func259,ntmps259;go_wp2_with fail;go_quiet (fail);go_wp2_with fail;go_ret;exact⟨aM (by rw[jR.out];rfl),jJ HB.out _⟩
 ·rw[hz]at hs jR;go_enter func259,ntmps259;go_wp2_with fail;go_quiet (fail);go_wp2_with fail;go_ret;exact⟨aM (by rw[jR.out];rfl),jJ HB.out _⟩
theorem box3_at(w:World)(vn vl:Value)(x y:Nat × Nat):(Lh w vn vl x y).heap[w.heap.size]?=some (aY #[vn,vl] 25)/\(Lh w vn vl x y).heap[w.heap.size+1]?=some (aY #[O (x.1:Nat),O (x.2:Nat)] 33)/\(Lh w vn vl x y).heap[w.heap.size+1+1]?=some (aY #[O (y.1:Nat),O (y.2:Nat)] 33)/\(Lh w vn vl x y).heap.size=w.heap.size+1+1+1:=by
 refine⟨dB (dB (bD w _) _) _,?_,?_,by simp[Lh]⟩;·have h:=bD (w.alloc (aY #[vn,vl] 25)) (aY #[O (x.1:Nat),O (x.2:Nat)] 33);rw[show(w.alloc (aY #[vn,vl] 25)).heap.size=w.heap.size+1 by simp]at h;exact dB h _
 ·have h:=bD ((w.alloc (aY #[vn,vl] 25)).alloc (aY #[O (x.1:Nat),O (x.2:Nat)] 33)) (aY #[O (y.1:Nat),O (y.2:Nat)] 33);rw[show((w.alloc (aY #[vn,vl] 25)).alloc (aY #[O (x.1:Nat),O (x.2:Nat)] 33)).heap.size=w.heap.size+1+1 by simp]at h;exact h
theorem set2{t:TypeId}(h:W.heap[B]?=some (.cells #[r0,r1] t (0,0)))(c0 c1:Value):((W.setCell (X B 0) c0).setCell (X B 1) c1).heap[B]?=some (.cells #[c0,c1] t (0,0)):=aP (aP h 0 c0) 1 c1
theorem aU{ob:Obj}(h:w.heap[k]?=some ob)(hb:bG w w'):w'.heap[k]?=some ob:=by rw[hb.block _ (bE h)];exact h
structure mK(w:World)(vn vl:Value)(ss:List ByteArray)(G:Nat)(L:Nat->Nat)(Z:Nat->Nat->Bool):Prop where
 strs:Strs w vn ss
 Qg:Fb w vl G L Z
 ok:dh ss G L Z=0
theorem mK.below(h:mK w vn vl ss G L Z)(hb:bG w w'):mK w' vn vl ss G L Z:=⟨h.strs.below hb,h.Qg.below hb,h.ok⟩
theorem mK.grid(h:mK w vn vl ss G L Z):uw w vl ss.length Z:=Cz h.Qg (qj h.ok).pos (qj h.ok).square
theorem mK.six(h:mK w vn vl ss G L Z):ss.length<=6:=(qj h.ok).six
theorem mK.joins(h:mK w vn vl ss G L Z):bO.Joins Z ss.length:=xL (Ny (qj h.ok).order) (qj h.ok).joins
theorem mK.meets(h:mK w vn vl ss G L Z):bO.Joins (bO.tr Z) ss.length:=xL (Ny (qj h.ok).order).turn (qj h.ok).meets
theorem FU(w:World)(vn vl:Value)(n a b:Nat)(Z:Nat->Nat->Bool)(hG:uw w vl n Z)(hn:n<=6)(ha:a<n)(hb:b<n):Calls prog 222 #[.agg #[vn,vl],O a,O b] w λe w'=>e=cO (O (mW Z n a b:Nat))/\bG w w':=by have q1:=uy w vn vl 25;have HB:=I (aH w (aY #[vn,vl] 25));have HG:=I (hG.below HB);obtain⟨gb,go,gc,RB,RO,C,rfl,-⟩:=hG;go_enter func222,ntmps222;go_wp2_with fail;refine(AL _ _ n a b Z HG hn ha hb).mono ?_;rintro e w' ⟨rfl,rfl⟩;go_wp2_with fail;go_ret;exact⟨rfl,HB⟩
theorem FV(w:World)(vn vl:Value)(ss:List aZ)(G:Nat)(L:Nat->Nat)(Z:Nat->Nat->Bool)(x y:Nat × Nat)(hL:mK w vn vl ss G L Z)(hx:Sv.Ok ss.length x)(hy:Sv.Ok ss.length y):Calls prog 175 #[.agg #[vn,vl],.agg #[O (x.1:Nat),O (x.2:Nat)],.agg #[O (y.1:Nat),O (y.2:Nat)]] w λe w'=>e=cO (.agg #[O ((Sv.join Z ss.length x y).1:Nat),O ((Sv.join Z ss.length x y).2:Nat)])/\bG w w':=by
 obtain⟨W,hW⟩:=bC ((Lh w vn vl x y).alloc (aY #[O 0,O 0] 33));obtain⟨b0,b1,b2,bs⟩:=box3_at w vn vl x y;obtain⟨b3,c0,c1,c2⟩:=rG (bD (Lh w vn vl x y) (aY #[O 0,O 0] 33)) (dB b0 (aY #[O 0,O 0] 33)) (dB b1 (aY #[O 0,O 0] 33)) (dB b2 (aY #[O 0,O 0] 33));rw[bs,<-hW]at b3;rw[<-hW]at c0 c1 c2;have hB:bG w W:=by rw[hW];exact up (Jk w vn vl x y) (aH _ _)
 have iN:=I hB;have hLW:=hL.below hB;have HJ:=I (λk os=>FU (gn W k os) vn vl ss.length x.2 y.2 Z (hLW.below (bR W k os)).grid hL.six hx.2 hy.2);have ho:=or16 ⟨x.1,hx.1⟩ ⟨y.1,hy.1⟩;simp only at ho;have HE:Hid (Sv.join Z ss.length x y=(x.1 ||| y.1,mW Z ss.length x.2 y.2)):=rfl;obtain⟨aak,hJ⟩:=bC (Sv.join Z ss.length x y);rw[<-hJ]at HE ⊢;have HB3:=I b3;obtain⟨q0,q1,q2,q3⟩:=rG (aX ((aj c0 0).trans (rfl:_=some vn))) (aX ((aj c0 1).trans (rfl:_=some vl))) (aX ((aj c1 0).trans (rfl:_=some (O (x.1:Nat))))) (aX ((aj c1 1).trans (rfl:_=some (O (x.2:Nat)))));obtain⟨q4,q5⟩:=eD (aX ((aj c2 0).trans (rfl:_=some (O (y.1:Nat))))) (aX ((aj c2 1).trans (rfl:_=some (O (y.2:Nat)))));simp only[Lh]at hW;clear b0 b1 b2 bs b3 c0 c1 c2 hB hL hLW hx hy hJ;go_enter func175,ntmps175;go_wp2_with fail;rw[<-hW];clear hW;refine fI 12 bU bU ?_;dsimp only[List.take,List.drop];repeat(quiet_step ((exact Calls.pX (HJ.out _ _))))
 refine wpQuiet_nil ?_;intro w2 hw';obtain⟨⟨nq,osq⟩,hw''⟩:=hw';have hb2:bG W w2:=by rw[hw''];exact bR W nq osq
 obtain⟨r3,r4⟩:=jm (aU HB3 hb2);obtain⟨HB,HR⟩:=bT (up iN hb2) (aU HB3 hb2);obtain⟨z3,z4⟩:=eD (aG (aU HB3 hb2) 0) (aG (aU HB3 hb2) 1);clear hb2 hw'' q0 q1 q2 q3 q4 q5;go_wp2_with fail;have hs:=set2 HR (O ((x.1 ||| y.1:Nat):Int)) (O (mW Z ss.length x.2 y.2:Nat));obtain⟨f0,f1⟩:=jm hs;obtain rfl:=HE.out;refine bW (v:=.agg #[O ((x.1 ||| y.1:Nat):Int),O (mW Z ss.length x.2 y.2:Nat)]) (by simp[results,results175,go_sem,f0,f1]) rfl ⟨rfl,?_⟩;exact(HB.setCell (by show w.heap.size<=w.heap.size+1+1+1;omega) _).setCell (by show w.heap.size<=w.heap.size+1+1+1;omega) _
namespace Rn
end Rn
end Go.Proofs.YtbgkpehhdibaoaaGreatDoor
