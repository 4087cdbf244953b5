/- part -/
import Derived.Test.YtbgkpehhdibaoaaGreatDoorBZLG
import Derived.Test.YtbgkpehhdibaoaaGreatDoorBZAM
set_option maxHeartbeats 0
set_option maxRecDepth 99999
namespace Go.Proofs.YtbgkpehhdibaoaaGreatDoor
open bN Sv
open Go.Proofs.Tryz
open Go.RowKit
variable{w w' W:World}{v r0 r1 vn vl:Value}{B k G:Nat}{ss:List aY}{L:Nat->Nat}{Z:Nat->Nat->Bool}
def Ko(w:World)(v:Value)(l:List Co):Prop:=
 ∃(a:Option Addr) (b off cap:Nat),v=.slice a l.length cap/\(0<l.length->a=some ⟨b,off,none⟩)/\l.length<=9223372036854775807/\
  ∀(i:Nat) (x:Co),l[i]?=some x->∃vf,Ints w vf x.fr/\w.cell? ⟨b,off+i*4,none⟩=some (.int .i64 x.to)/\w.cell? ⟨b,off+i*4+1,none⟩=some vf/\w.cell? ⟨b,off+i*4+2,none⟩=some (.int .i64 x.mask)/\w.cell? ⟨b,off+i*4+3,none⟩=some (.int .i64 x.level)
theorem Ko.below{l:List Co}(h:Ko w v l)(hb:bG w w'):Ko w' v l:=by obtain⟨a,b,off,cap,e,h0,hl,h1⟩:=h;refine⟨a,b,off,cap,e,h0,hl,λi x hx=>?_⟩;obtain⟨vf,hf,g0,g1,g2,g3⟩:=h1 i x hx;exact⟨vf,hf.below hb,aD g0 hb,aD g1 hb,aD g2 hb,aD g3 hb⟩
def lD(w:World)(v:Value)(l:List (Int × Int)):Prop:=
 ∃(a:Option Addr) (b off cap:Nat),v=.slice a l.length cap/\(0<l.length->a=some ⟨b,off,none⟩)/\l.length<=9223372036854775807/\
  ∀(i:Nat) (x:Int × Int),l[i]?=some x->w.cell? ⟨b,off+i*2,none⟩=some (.int .i64 x.1)/\w.cell? ⟨b,off+i*2+1,none⟩=some (.int .i64 x.2)
theorem lD.below{l:List (Int × Int)}(h:lD w v l)(hb:bG w w'):lD w' v l:=by obtain⟨a,b,off,cap,e,h0,hl,h1⟩:=h;refine⟨a,b,off,cap,e,h0,hl,λi x hx=>?_⟩;obtain⟨g0,g1⟩:=h1 i x hx;exact⟨aD g0 hb,aD g1 hb⟩
structure Cf where
 p:Nat
 lb:Nat
 sb:Nat
 n:Nat
 vn:Value
 vl:Value
structure iK(w0 w:World)(c:Cf)(V:Nat->Nat × Nat)(S:Nat->Nat):Prop where
 since:Below w0.heap.size w0 w
 pn:w0.heap.size<=c.p
 ln:w0.heap.size<=c.lb
 sn:w0.heap.size<=c.sb
 blk:w.heap[c.p]?=some (.cells #[c.vn,c.vl,.slice (some ⟨c.lb,0,none⟩) c.n c.n,.slice (some ⟨c.sb,0,none⟩) c.n c.n] 274 (0,0))
 lab:∃cs,w.heap[c.lb]?=some (.cells cs 33 (0,0))/\∀i,i<c.n->cs[i*2]?=some (.int .i64 ((V i).1:Nat))/\cs[i*2+1]?=some (.int .i64 ((V i).2:Nat))
 src:∃cs,w.heap[c.sb]?=some (.cells cs 241 (0,0))/\∀i,i<c.n->cs[i]?=some (.int .u64 (S i:Nat))
section
variable {w0 w w' : World} {c : Cf} {V : Nat → Nat × Nat} {S : Nat → Nat}
theorem iK.below(h:iK w0 w c V S)(hb:bG w w'):iK w0 w' c V S:=by
 have up':∀{k:Nat} {ob:Obj},w.heap[k]?=some ob->w'.heap[k]?=some ob:=λho=>by rw[hb.block _ (bq ho)];exact ho
 obtain⟨cs,h1,h2⟩:=h.lab;obtain⟨ds,k1,k2⟩:=h.src;exact⟨h.since.trans (hb.mono h.since.size),h.pn,h.ln,h.sn,up' h.blk,⟨cs,up' h1,h2⟩,⟨ds,up' k1,k2⟩⟩
theorem iK.pl(h:iK w0 w c V S):c.p≠c.lb:=λe=>by obtain⟨cs,h1,_⟩:=h.lab;have:=h.blk;rw[e,h1]at this;injection this with this;injection this with _ this;exact aM this bO
theorem iK.ps(h:iK w0 w c V S):c.p≠c.sb:=λe=>by obtain⟨cs,h1,_⟩:=h.src;have:=h.blk;rw[e,h1]at this;injection this with this;injection this with _ this;exact aM this bO
theorem iK.ls(h:iK w0 w c V S):c.lb≠c.sb:=λe=>by obtain⟨cs,h1,_⟩:=h.src;obtain⟨ds,this,_⟩:=h.lab;rw[e,h1]at this;injection this with this;injection this with _ this;exact aM this bO
theorem iK.cell(h:iK w0 w c V S):w.cell? (X c.p 0)=some c.vn/\w.cell? (X c.p 1)=some c.vl/\w.cell? (X c.p 2)=some (Y (some (X c.lb 0)) c.n c.n)/\w.cell? (X c.p 3)=some (Y (some (X c.sb 0)) c.n c.n):=
 ⟨(aj h.blk 0).trans rfl,(aj h.blk 1).trans rfl,(aj h.blk 2).trans rfl,(aj h.blk 3).trans rfl⟩
theorem iK.Xq(h:iK w0 w c V S){i:Nat}(hi:i<c.n):w.cell? (X c.lb (i*2))=some (O ((V i).1:Nat))/\w.cell? (X c.lb (i*2+1))=some (O ((V i).2:Nat))/\w.frozen? (X c.lb (i*2))=false/\w.frozen? (X c.lb (i*2+1))=false:=by obtain⟨cs,h1,h2⟩:=h.lab;exact⟨(aj h1 _).trans (h2 i hi).1,(aj h1 _).trans (h2 i hi).2,aG h1 _,aG h1 _⟩
theorem iK.srcc(h:iK w0 w c V S){i:Nat}(hi:i<c.n):w.cell? (X c.sb i)=some (.int .u64 (S i:Nat))/\w.frozen? (X c.sb i)=false:=by obtain⟨cs,h1,h2⟩:=h.src;exact⟨(aj h1 _).trans (h2 i hi),aG h1 _⟩
theorem Mk{cs:Array Value}{i j:Nat}{v:Value}:(cs.setIfInBounds i v)[j]?=if i=j then (if i<cs.size then some v else none)else cs[j]?:=by rw[Xm]
theorem xY{cs:Array Value}{i:Nat}{v:Value}(h:cs[i]?=some v):i<cs.size:=by
 rcases Ct i cs.size with h'|h';·exact h'
 ·rw[Rm h']at h;cases h
theorem iK.put(h:iK w0 w c V S){i:Nat}(hi:i<c.n)(x:Nat × Nat):iK w0 ((w.setCell (X c.lb (i*2)) (O (x.1:Nat))).setCell (X c.lb (i*2+1)) (O (x.2:Nat))) c (Sv.put V i x) S:=by
 obtain⟨cs,h1,h2⟩:=h.lab;obtain⟨ds,k1,k2⟩:=h.src;have b1:=aO h1 (i*2) (O (x.1:Nat));have b2:=aO b1 (i*2+1) (O (x.2:Nat));refine⟨(h.since.setCell h.ln _).setCell h.ln _,h.pn,h.ln,h.sn,bI (bI h.blk h.pl _) h.pl _,⟨_,b2,λj hj=>?_⟩,⟨ds,bI (bI k1 h.ls.symm _) h.ls.symm _,k2⟩⟩;obtain⟨l1,l2⟩:=eY (xY (h2 i hi).1) (xY (h2 i hi).2);simp only[Mk,Array.size_setIfInBounds,Sv.put];by_cases e:j=i;·subst e;simp[l1,l2]
 ·rw[aJ aX,aJ aX,aJ aX,aJ aX,aJ aX];exact h2 j hj
theorem iK.putLevel(h:iK w0 w c V S){i:Nat}(hi:i<c.n)(y:Nat):iK w0 (w.setCell (X c.lb (i*2+1)) (O (y:Nat))) c (Sv.put V i ((V i).1,y)) S:=by
 obtain⟨cs,h1,h2⟩:=h.lab;obtain⟨ds,k1,k2⟩:=h.src;have b2:=aO h1 (i*2+1) (O (y:Nat));refine⟨h.since.setCell h.ln _,h.pn,h.ln,h.sn,bI h.blk h.pl _,⟨_,b2,λj hj=>?_⟩,⟨ds,bI k1 h.ls.symm _,k2⟩⟩;have l2:=xY (h2 i hi).2;simp only[Mk,Sv.put];by_cases e:j=i;·subst e;rw[aJ aX,aL rfl,aL l2];simp only[if_true,and_true];exact(h2 j hj).1
 ·rw[aJ aX,aJ aX,aJ aX];exact h2 j hj
def Xr(S:Nat->Nat)(i x:Nat):Nat->Nat:=λj=>if j=i then x else S j
theorem iK.putSrc(h:iK w0 w c V S){i:Nat}(hi:i<c.n)(y:Nat):iK w0 (w.setCell (X c.sb i) (.int .u64 (y:Nat))) c V (Xr S i y):=by
 obtain⟨cs,h1,h2⟩:=h.lab;obtain⟨ds,k1,k2⟩:=h.src;have b2:=aO k1 i (.int .u64 (y:Nat));refine⟨h.since.setCell h.sn _,h.pn,h.ln,h.sn,bI h.blk h.ps _,⟨cs,bI h1 h.ls _,h2⟩,⟨_,b2,λj hj=>?_⟩⟩;have l2:=xY (k2 i hi);simp only[Mk,Xr];by_cases e:j=i;·subst e;rw[aL rfl,aL l2,aL rfl]
 ·rw[aJ aX,aJ e];exact k2 j hj
end
theorem andNot16:∀a:Fin 16,∀b:Fin 16,(bits .andNot .i64 ((a:Nat):Int) ((b:Nat):Int)==0)=Sv.sub a b:=by decide +kernel
theorem or16:∀a:Fin 16,∀b:Fin 16,bits .or .i64 ((a:Nat):Int) ((b:Nat):Int)=(((a:Nat)||| (b:Nat):Nat):Int):=by decide +kernel
theorem wN(w:World)(n:Nat)(v:Int):Calls prog 258 #[O n,O v] w λe w'=>e=dz (.bool (rz n v))/\w'=w:=by
 have HV:Hid (rz n v=(decide (0<=v)&&decide (v<n))):=rfl;by_cases h0:0<=v;·go_enter func258,ntmps258;go_wp2;go_ret;exact⟨aP (by rw[HV];simp[h0]),rfl⟩
 ·have h0':decide (0<=v)=false:=by simpa using h0
  rw[h0',yU]at HV;go_enter func258,ntmps258;go_wp2;go_ret;exact⟨aP (by rw[HV]),rfl⟩
theorem Eb(w:World)(va:Option Addr)(vl:Value)(N cap:Nat)(m l:Int):Calls prog 211 #[.agg #[Y va N cap,vl],.agg #[O m,O l]] w λe w'=>e=dz (.bool (yw N m l))/\bG w w':=by
 have HV:Hid (yw N m l=(decide (0<=m)&&decide (m<=15)&&decide (0<=l)&&decide (l<N))):=rfl;have hb:bG w ((w.alloc (aW #[Y va N cap,vl] 25)).alloc (aW #[O m,O l] 33)):=((bP _ _).alloc (bE _) _).alloc dx _;have HB:=I hb;clear hb;by_cases h0:0<=m
 ·by_cases h1:m<=15;·have HC:=I (oC ((w.alloc (aW #[Y va N cap,vl] 25)).alloc (aW #[O m,O l] 33)) va vl N cap l);have HVV:Hid (yw N m l=(decide (0<=l)&&decide (l<N))):=I (by rw[HV];simp[h0,h1]);go_enter func211,ntmps211;go_wp2_with fail;refine HC.mono ?_;rintro e w1 ⟨rfl,hb1⟩;have HB1:=I (up HB hb1);clear hb1;rw[<-HVV];go_wp2_with fail;go_ret;exact⟨rfl,HB1⟩
  ·have h1':decide (m<=15)=false:=by simpa using h1
   rw[h1',OO,yU,yU]at HV;go_enter func211,ntmps211;go_wp2;go_ret;exact⟨aP (by rw[HV]),HB⟩
 ·have h0':decide (0<=m)=false:=by simpa using h0
  rw[h0',yU,yU,yU]at HV;go_enter func211,ntmps211;go_wp2;go_ret;exact⟨aP (by rw[HV]),HB⟩
def Jw(w:World)(vn vl:Value)(x y:Nat × Nat):World:=
 ((w.alloc (.cells #[vn,vl] 25)).alloc (.cells #[.int .i64 (x.1:Nat),.int .i64 (x.2:Nat)] 33)).alloc (.cells #[.int .i64 (y.1:Nat),.int .i64 (y.2:Nat)] 33)
theorem GN(w:World)(vn vl:Value)(x y:Nat × Nat):bG w (Jw w vn vl x y):=(((bP _ _).alloc (bE _) _).alloc dx _).alloc (by simp;omega) _
theorem O5(w:World)(vn vl:Value)(N:Nat)(Z:Nat->Nat->Bool)(x y:Nat × Nat)(hG:sJ w vl N Z)(_hN:N<=6)(hx:Sv.Ok N x)(hy:Sv.Ok N y):Calls prog 259 #[.agg #[vn,vl],.agg #[O (x.1:Nat),O (x.2:Nat)],.agg #[O (y.1:Nat),O (y.2:Nat)]] w λe w'=>e=dz (.bool (Sv.le Z x y))/\bG w w':=by
 have jH:Hid (Sv.le Z x y=(Sv.sub x.1 y.1&&Z x.2 y.2)):=rfl;obtain⟨xm,xl⟩:=x;obtain⟨ym,yl⟩:=y;have hxl:xl<N:=hx.2;have hyl:yl<N:=hy.2;have hs:=andNot16 ⟨xm,hx.1⟩ ⟨ym,hy.1⟩;simp only at hs jH ⊢;have HB:=I (GN w vn vl (xm,xl) (ym,yl));obtain⟨gb,go,gc,RB,RO,C,rfl,h1,h2⟩:=hG;obtain⟨r1,r2⟩:=eY (aD (h1 xl hxl) HB) (aD (h2 xl yl hxl hyl) HB);simp only[Jw]at r1 r2 HB;clear h1 h2 hx hy;cases hz:Sv.sub xm ym;·rw[hz]at hs jH;go_enter func259,ntmps259;go_wp2_with fail;go_quiet (fail);go_wp2_with fail;go_ret;exact⟨aP (by rw[jH.out];rfl),nI HB.out _⟩
 ·rw[hz]at hs jH;go_enter func259,ntmps259;go_wp2_with fail;go_quiet (fail);go_wp2_with fail;go_ret;exact⟨aP (by rw[jH.out];rfl),nI HB.out _⟩
theorem box3_at(w:World)(vn vl:Value)(x y:Nat × Nat):(Jw w vn vl x y).heap[w.heap.size]?=some (aW #[vn,vl] 25)/\(Jw w vn vl x y).heap[w.heap.size+1]?=some (aW #[O (x.1:Nat),O (x.2:Nat)] 33)/\(Jw w vn vl x y).heap[w.heap.size+1+1]?=some (aW #[O (y.1:Nat),O (y.2:Nat)] 33)/\(Jw w vn vl x y).heap.size=w.heap.size+1+1+1:=by
 refine⟨dw (dw (aZ w _) _) _,?_,?_,by simp[Jw]⟩;·have h:=aZ (w.alloc (aW #[vn,vl] 25)) (aW #[O (x.1:Nat),O (x.2:Nat)] 33);rw[show(w.alloc (aW #[vn,vl] 25)).heap.size=w.heap.size+1 by simp]at h;exact dw h _
 ·have h:=aZ ((w.alloc (aW #[vn,vl] 25)).alloc (aW #[O (x.1:Nat),O (x.2:Nat)] 33)) (aW #[O (y.1:Nat),O (y.2:Nat)] 33);rw[show((w.alloc (aW #[vn,vl] 25)).alloc (aW #[O (x.1:Nat),O (x.2:Nat)] 33)).heap.size=w.heap.size+1+1 by simp]at h;exact h
theorem set2{t:TypeId}(h:W.heap[B]?=some (.cells #[r0,r1] t (0,0)))(c0 c1:Value):((W.setCell (X B 0) c0).setCell (X B 1) c1).heap[B]?=some (.cells #[c0,c1] t (0,0)):=aO (aO h 0 c0) 1 c1
theorem aU{ob:Obj}(h:w.heap[k]?=some ob)(hb:bG w w'):w'.heap[k]?=some ob:=by rw[hb.block _ (bq h)];exact h
structure lT(w:World)(vn vl:Value)(ss:List ByteArray)(G:Nat)(L:Nat->Nat)(Z:Nat->Nat->Bool):Prop where
 strs:Strs w vn ss
 NS:Fg w vl G L Z
 ok:bX ss G L Z=0
theorem lT.below(h:lT w vn vl ss G L Z)(hb:bG w w'):lT w' vn vl ss G L Z:=⟨h.strs.below hb,h.NS.below hb,h.ok⟩
theorem lT.grid(h:lT w vn vl ss G L Z):sJ w vl ss.length Z:=AX h.NS (pU h.ok).pos (pU h.ok).square
theorem lT.six(h:lT w vn vl ss G L Z):ss.length<=6:=(pU h.ok).six
theorem lT.joins(h:lT w vn vl ss G L Z):bN.Joins Z ss.length:=vZ (Lf (pU h.ok).order) (pU h.ok).joins
theorem lT.meets(h:lT w vn vl ss G L Z):bN.Joins (bN.tr Z) ss.length:=vZ (Lf (pU h.ok).order).turn (pU h.ok).meets
theorem Ec(w:World)(vn vl:Value)(n a b:Nat)(Z:Nat->Nat->Bool)(hG:sJ w vl n Z)(hn:n<=6)(ha:a<n)(hb:b<n):Calls prog 222 #[.agg #[vn,vl],O a,O b] w λe w'=>e=dz (O (mh Z n a b:Nat))/\bG w w':=by have q1:=sM w vn vl 25;have HB:=I (aH w (aW #[vn,vl] 25));have HG:=I (hG.below HB);obtain⟨gb,go,gc,RB,RO,C,rfl,-⟩:=hG;go_enter func222,ntmps222;go_wp2_with fail;refine(zC _ _ n a b Z HG hn ha hb).mono ?_;rintro e w' ⟨rfl,rfl⟩;go_wp2_with fail;go_ret;exact⟨rfl,HB⟩
theorem Ed(w:World)(vn vl:Value)(ss:List aY)(G:Nat)(L:Nat->Nat)(Z:Nat->Nat->Bool)(x y:Nat × Nat)(hL:lT w vn vl ss G L Z)(hx:Sv.Ok ss.length x)(hy:Sv.Ok ss.length y):Calls prog 175 #[.agg #[vn,vl],.agg #[O (x.1:Nat),O (x.2:Nat)],.agg #[O (y.1:Nat),O (y.2:Nat)]] w λe w'=>e=dz (.agg #[O ((Sv.join Z ss.length x y).1:Nat),O ((Sv.join Z ss.length x y).2:Nat)])/\bG w w':=by
 obtain⟨W,hW⟩:=bC ((Jw w vn vl x y).alloc (aW #[O 0,O 0] 33));obtain⟨b0,b1,b2,bs⟩:=box3_at w vn vl x y;obtain⟨b3,c0,c1,c2⟩:=tZ (aZ (Jw w vn vl x y) (aW #[O 0,O 0] 33)) (dw b0 (aW #[O 0,O 0] 33)) (dw b1 (aW #[O 0,O 0] 33)) (dw b2 (aW #[O 0,O 0] 33));rw[bs,<-hW]at b3;rw[<-hW]at c0 c1 c2;have hB:bG w W:=by rw[hW];exact up (GN w vn vl x y) (aH _ _)
 have iA:=I hB;have hLW:=hL.below hB;have HJ:=I (λk os=>Ec (gn W k os) vn vl ss.length x.2 y.2 Z (hLW.below (bQ W k os)).grid hL.six hx.2 hy.2);have ho:=or16 ⟨x.1,hx.1⟩ ⟨y.1,hy.1⟩;simp only at ho;have HE:Hid (Sv.join Z ss.length x y=(x.1 ||| y.1,mh Z ss.length x.2 y.2)):=rfl;obtain⟨aah,hJ⟩:=bC (Sv.join Z ss.length x y);rw[<-hJ]at HE ⊢;have HB3:=I b3;obtain⟨q0,q1,q2,q3⟩:=tZ (aS ((aj c0 0).trans (rfl:_=some vn))) (aS ((aj c0 1).trans (rfl:_=some vl))) (aS ((aj c1 0).trans (rfl:_=some (O (x.1:Nat))))) (aS ((aj c1 1).trans (rfl:_=some (O (x.2:Nat)))));obtain⟨q4,q5⟩:=eY (aS ((aj c2 0).trans (rfl:_=some (O (y.1:Nat))))) (aS ((aj c2 1).trans (rfl:_=some (O (y.2:Nat)))));simp only[Jw]at hW;clear b0 b1 b2 bs b3 c0 c1 c2 hB hL hLW hx hy hJ;go_enter func175,ntmps175;go_wp2_with fail;rw[<-hW];clear hW;refine eU 12 bR bR ?_;dsimp only[List.take,List.drop];repeat(quiet_step ((exact Calls.nE (HJ.out _ _))))
 refine wpQuiet_nil ?_;intro w2 hw';obtain⟨⟨nq,osq⟩,hw''⟩:=hw';have hb2:bG W w2:=by rw[hw''];exact bQ W nq osq
 obtain⟨r3,r4⟩:=iV (aU HB3 hb2);obtain⟨HB,HR⟩:=bU (up iA hb2) (aU HB3 hb2);obtain⟨z3,z4⟩:=eY (aG (aU HB3 hb2) 0) (aG (aU HB3 hb2) 1);clear hb2 hw'' q0 q1 q2 q3 q4 q5;go_wp2_with fail;have hs:=set2 HR (O ((x.1 ||| y.1:Nat):Int)) (O (mh Z ss.length x.2 y.2:Nat));obtain⟨f0,f1⟩:=iV hs;obtain rfl:=HE.out;refine bV (v:=.agg #[O ((x.1 ||| y.1:Nat):Int),O (mh Z ss.length x.2 y.2:Nat)]) (by simp[results,results175,go_sem,f0,f1]) rfl ⟨rfl,?_⟩;exact(HB.setCell (by show w.heap.size<=w.heap.size+1+1+1;omega) _).setCell (by show w.heap.size<=w.heap.size+1+1+1;omega) _
namespace Rn
end Rn
end Go.Proofs.YtbgkpehhdibaoaaGreatDoor
