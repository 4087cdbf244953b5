import Derived.Test.YtageneidjnbedaaGreatDoorTZLG
import Derived.Test.YtageneidjnbedaaGreatDoorTZAM
set_option maxHeartbeats 0
set_option maxRecDepth 99999
namespace Go.Proofs.YtageneidjnbedaaGreatDoor
open bS Sv
open Go.Proofs.Tryz
open Go.RowKit
variable{w w' W:bI}{v r0 r1 vn vl:aC}{B k G:Nat}{ss:aJ}{L:Nat->Nat}{Z:aL}
def NA(w:bI)(v:Value)(l:List Co):Prop:=
 ∃(a:Option Addr) (b off cap:Nat),v=.slice a l.length cap/\(0<l.length->a=some ⟨b,off,none⟩)/\l.length<=9223372036854775807/\
  ∀(i:Nat) (x:Co),l[i]?=some x->∃d,Ints w d x.fr/\w.cell? ⟨b,off+i*4,none⟩=some (.int .i64 x.to)/\w.cell? ⟨b,off+i*4+1,none⟩=some d/\w.cell? ⟨b,off+i*4+2,none⟩=some (.int .i64 x.mask)/\w.cell? ⟨b,off+i*4+3,none⟩=some (.int .i64 x.level)
theorem NA.below{l:List Co}(h:NA w v l)(d:bK w w'):NA w' v l:=by obtain⟨a,b,off,cap,e,n,r,p⟩:=h;refine⟨a,b,off,cap,e,n,r,λi x s=>?_⟩;obtain⟨t,q,f,g,j,m⟩:=p i x s;exact⟨t,q.below d,aG f d,aG g d,aG j d,aG m d⟩
def mM(w:bI)(v:Value)(l:List (Int × Int)):Prop:=
 ∃(a:Option Addr) (b off cap:Nat),v=.slice a l.length cap/\(0<l.length->a=some ⟨b,off,none⟩)/\l.length<=9223372036854775807/\
  ∀(i:Nat) (x:Int × Int),l[i]?=some x->w.cell? ⟨b,off+i*2,none⟩=some (.int .i64 x.1)/\w.cell? ⟨b,off+i*2+1,none⟩=some (.int .i64 x.2)
theorem mM.below{l:List (Int × Int)}(h:mM w v l)(d:bK w w'):mM w' v l:=by obtain⟨a,b,off,cap,e,j,n,m⟩:=h;refine⟨a,b,off,cap,e,j,n,λi x p=>?_⟩;obtain⟨f,g⟩:=m i x p;exact⟨aG f d,aG g d⟩
structure Cf where
 p:Nat
 lb:Nat
 sb:Nat
 n:Nat
 vn:Value
 vl:Value
structure jq(w0 w:World)(c:Cf)(V:Nat->Nat × Nat)(S:Nat->Nat):Prop where
 since:Below w0.heap.size w0 w
 pn:w0.heap.size<=c.p
 ln:w0.heap.size<=c.lb
 sn:w0.heap.size<=c.sb
 blk:w.heap[c.p]?=some (.cells #[c.vn,c.vl,.slice (some ⟨c.lb,0,none⟩) c.n c.n,.slice (some ⟨c.sb,0,none⟩) c.n c.n] 255 (0,0))
 lab:∃cs,w.heap[c.lb]?=some (.cells cs 31 (0,0))/\∀i,i<c.n->cs[i*2]?=some (.int .i64 ((V i).1:Nat))/\cs[i*2+1]?=some (.int .i64 ((V i).2:Nat))
 src:∃cs,w.heap[c.sb]?=some (.cells cs 220 (0,0))/\∀i,i<c.n->cs[i]?=some (.int .u64 (S i:Nat))
section
variable {w0 w w' : World} {c : Cf} {V : Nat → Nat × Nat} {S : Nat → Nat}
theorem jq.below(h:jq w0 w c V S)(b:bK w w'):jq w0 w' c V S:=by
 have a:∀{k:Nat} {ob:Obj},w.heap[k]?=some ob->w'.heap[k]?=some ob:=λd=>by rw[b.block _ (aR d)];exact d
 obtain⟨cs,f,g⟩:=h.lab;obtain⟨e,i,j⟩:=h.src;exact⟨h.since.trans<|b.mono h.since.size,h.pn,h.ln,h.sn,a h.blk,⟨cs,a f,g⟩,⟨e,a i,j⟩⟩
theorem jq.pl(h:jq w0 w c V S):c.p≠c.lb:=λa=>by obtain⟨cs,b,_⟩:=h.lab;have:=h.blk;rw[a,b]at this;injection this with this;injection this with _ this;exact aM this bM
theorem jq.ps(h:jq w0 w c V S):c.p≠c.sb:=λa=>by obtain⟨cs,b,_⟩:=h.src;have:=h.blk;rw[a,b]at this;injection this with this;injection this with _ this;exact aM this bM
theorem jq.ls(h:jq w0 w c V S):c.lb≠c.sb:=λa=>by obtain⟨cs,b,_⟩:=h.src;obtain⟨d,this,_⟩:=h.lab;rw[a,b]at this;injection this with this;injection this with _ this;exact aM this bM
theorem jq.cell(h:jq w0 w c V S):bJ w c.p 0=some c.vn/\bJ w c.p 1=some c.vl/\bJ w c.p 2=some (Tc c.lb c.n c.n)/\bJ w c.p 3=some (Tc c.sb c.n c.n):=
 ⟨(aj h.blk 0).trans rfl,(aj h.blk 1).trans rfl,(aj h.blk 2).trans rfl,(aj h.blk 3).trans rfl⟩
theorem jq.mJ(h:jq w0 w c V S){i:Nat}(d:i<c.n):bJ w c.lb (i*2)=some (O ((V i).1:Nat))/\bJ w c.lb (i*2+1)=some (O ((V i).2:Nat))/\w.frozen? (aN c.lb<|i*2)=false/\w.frozen? (aN c.lb<|i*2+1)=false:=by obtain⟨cs,a,b⟩:=h.lab;exact⟨(aj a _).trans (b i d).1,(aj a _).trans (b i d).2,aF a _,aF a _⟩
theorem jq.Nc(h:jq w0 w c V S){i:Nat}(d:i<c.n):bJ w c.sb i=some (.int .u64 (S i:Nat))/\w.frozen? (aN c.sb i)=false:=by obtain⟨cs,a,b⟩:=h.src;exact⟨(aj a _).trans (b i d),aF a _⟩
theorem Po{cs:Array aC}{i j:Nat}{v:aC}:(cs.setIfInBounds i v)[j]?=if i=j then (if i<cs.size then some v else none)else cs[j]?:=by rw[RG]
theorem Ad{cs:Array aC}{i:Nat}{v:aC}(h:cs[i]?=some v):i<cs.size:=by
 rcases Fa i cs.size with a|a;·exact a
 ·rw[Vy a]at h;cases h
theorem jq.put(h:jq w0 w c V S){i:Nat}(b:i<c.n)(x:Nat × Nat):jq w0 ((w.setCell (aN c.lb<|i*2)<|O (x.1:Nat)).setCell (aN c.lb<|i*2+1) (O (x.2:Nat))) c (Sv.put V i x) S:=by
 obtain⟨cs,l,a⟩:=h.lab;obtain⟨f,n,p⟩:=h.src;have d:=aP l (i*2)<|O (x.1:Nat);have e:=aP d (i*2+1)<|O (x.2:Nat);refine⟨(h.since.setCell h.ln _).setCell h.ln _,h.pn,h.ln,h.sn,aX (aX h.blk h.pl _) h.pl _,⟨_,e,λj m=>?_⟩,⟨f,aX (aX n h.ls.symm _) h.ls.symm _,p⟩⟩;obtain⟨q,r⟩:=eY (Ad (a i b).1)<|Ad (a i b).2;simp only[Po,Array.size_setIfInBounds,Sv.put];by_cases g:j=i;·subst g;simp[q,r]
 ·rw[aI bC,aI bC,aI bC,aI bC,aI bC];exact a j m
theorem jq.ad1(h:jq w0 w c V S){i:Nat}(l:i<c.n)(y:Nat):jq w0 (w.setCell (aN c.lb<|i*2+1)<|O (y:Nat)) c (Sv.put V i ((V i).1,y)) S:=by
 obtain⟨cs,g,a⟩:=h.lab;obtain⟨e,m,n⟩:=h.src;have d:=aP g (i*2+1)<|O (y:Nat);refine⟨h.since.setCell h.ln _,h.pn,h.ln,h.sn,aX h.blk h.pl _,⟨_,d,λj b=>?_⟩,⟨e,aX m h.ls.symm _,n⟩⟩;have p:=Ad (a i l).2;simp only[Po,Sv.put];by_cases f:j=i;·subst f;rw[aI bC,aK rfl,aK p];simp only[if_true,and_true];exact(a j b).1
 ·rw[aI bC,aI bC,aI bC];exact a j b
def X6(S:Nat->Nat)(i x:Nat):Nat->Nat:=λj=>if j=i then x else S j
theorem jq.akz(h:jq w0 w c V S){i:Nat}(g:i<c.n)(y:Nat):jq w0 (w.setCell (aN c.sb i)<|.int .u64 (y:Nat)) c V (X6 S i y):=by
 obtain⟨cs,e,f⟩:=h.lab;obtain⟨p,m,b⟩:=h.src;have d:=aP m i<|.int .u64 (y:Nat);refine⟨h.since.setCell h.sn _,h.pn,h.ln,h.sn,aX h.blk h.ps _,⟨cs,aX e h.ls _,f⟩,⟨_,d,λj l=>?_⟩⟩;have n:=Ad<|b i g;simp only[Po,X6];by_cases a:j=i;·subst a;rw[aK rfl,aK n,aK rfl]
 ·rw[aI bC,aI a];exact b j l
end
theorem ad2:∀a:Fin 16,∀b:Fin 16,(bits .andNot .i64 ((a:Nat):Int) ((b:Nat):Int)==0)=Sv.sub a b:=by decide +kernel
theorem ap5:∀a:Fin 16,∀b:Fin 16,bits .or .i64 ((a:Nat):Int) ((b:Nat):Int)=(((a:Nat)||| (b:Nat):Nat):Int):=by decide +kernel
theorem yZ(w:bI)(n:Nat)(v:Int):aD 240 #[O n,O v] w λd w'=>d=dz (.bool<|uf n v)/\w'=w:=by
 have a:J (uf n v=(decide (0<=v)&&decide (v<n))):=rfl;by_cases b:0<=v;·go_enter func240,ntmps240;go_wp2;go_ret;exact⟨aW (by rw[a];simp[b]),rfl⟩
 ·have e:decide (0<=v)=false:=by simpa using b
  rw[e,Bl]at a;go_enter func240,ntmps240;go_wp2;go_ret;exact⟨aW (by rw[a]),rfl⟩
theorem G5(w:bI)(va:Option Addr)(vl:aC)(N cap:Nat)(m l:Int):aD 206 #[.agg #[X va N cap,vl],.agg #[O m,O l]] w λd w'=>d=dz (.bool<|Au N m l)/\bK w w':=by
 have a:J (Au N m l=(decide (0<=m)&&decide (m<=15)&&decide (0<=l)&&decide (l<N))):=rfl;have g:bK w ((w.alloc<|aY #[X va N cap,vl] 25).alloc (aY #[O m,O l] 31)):=((bQ _ _).alloc (bG _) _).alloc cK _;have b:=Y g;clear g;by_cases e:0<=m
 ·by_cases f:m<=15;·have j:=Y<|qw ((w.alloc<|aY #[X va N cap,vl] 25).alloc (aY #[O m,O l] 31)) va vl N cap l;have n:J (Au N m l=(decide (0<=l)&&decide (l<N))):=Y (by rw[a];simp[e,f]);go_enter func206,ntmps206;go_wp2_with fail;refine j.mono ?_;rintro d w1 ⟨rfl,h⟩;have i:=Y<|up b h;clear h;rw[<-n];go_wp2;go_ret;exact⟨rfl,i⟩
  ·have q:decide (m<=15)=false:=by simpa using f
   rw[q,Sg,Bl,Bl]at a;go_enter func206,ntmps206;go_wp2;go_ret;exact⟨aW (by rw[a]),b⟩
 ·have p:decide (0<=m)=false:=by simpa using e
  rw[p,Bl,Bl,Bl]at a;go_enter func206,ntmps206;go_wp2;go_ret;exact⟨aW (by rw[a]),b⟩
def ME(w:bI)(vn vl:Value)(x y:Nat × Nat):bI:=
 ((w.alloc (.cells #[vn,vl] 25)).alloc (.cells #[.int .i64 (x.1:Nat),.int .i64 (x.2:Nat)] 31)).alloc (.cells #[.int .i64 (y.1:Nat),.int .i64 (y.2:Nat)] 31)
theorem J5(w:bI)(vn vl:aC)(x y:Nat × Nat):bK w (ME w vn vl x y):=(((bQ _ _).alloc (bG _) _).alloc cK _).alloc (by simp;omega) _
theorem adA(w:bI)(vn vl:aC)(N:Nat)(Z:aL)(x y:Nat × Nat)(r:vF w vl N Z)(_hN:N<=6)(f:Sv.Ok N x)(g:Sv.Ok N y):aD 241 #[.agg #[vn,vl],.agg #[O (x.1:Nat),O (x.2:Nat)],.agg #[O (y.1:Nat),O (y.2:Nat)]] w λq w'=>q=dz (.bool<|Sv.le Z x y)/\bK w w':=by
 have b:J (Sv.le Z x y=(Sv.sub x.1 y.1&&Z x.2 y.2)):=rfl;obtain⟨h,d⟩:=x;obtain⟨j,i⟩:=y;have n:d<N:=f.2;have s:i<N:=g.2;have e:=ad2 ⟨h,f.1⟩ ⟨j,g.1⟩;simp only at e b ⊢;have a:=Y<|J5 w vn vl (h,d) (j,i);obtain⟨z,E,D,u,RO,C,rfl,l,m⟩:=r;obtain⟨r1,t⟩:=eY (aG (l d n) a)<|aG (m d i n s) a;simp only[ME]at r1 t a;clear l m f g;cases p:Sv.sub h j;·rw[p]at e b;go_enter func241,ntmps241;go_wp2_with fail;go_quiet (fail);go_wp2;go_ret;exact⟨aW (by rw[b.out];rfl),jJ a.out _⟩
 ·rw[p]at e b;go_enter func241,ntmps241;go_wp2_with fail;go_quiet (fail);go_wp2;go_ret;exact⟨aW (by rw[b.out];rfl),jJ a.out _⟩
theorem ahy(w:bI)(vn vl:aC)(x y:Nat × Nat):(ME w vn vl x y).heap[w.heap.size]?=some (aY #[vn,vl] 25)/\(ME w vn vl x y).heap[w.heap.size+1]?=some (aY #[O (x.1:Nat),O (x.2:Nat)] 31)/\(ME w vn vl x y).heap[w.heap.size+1+1]?=some (aY #[O (y.1:Nat),O (y.2:Nat)] 31)/\(ME w vn vl x y).heap.size=w.heap.size+1+1+1:=by
 refine⟨bT (bT (bF w _) _) _,?_,?_,by simp[ME]⟩;·have h:=bF (w.alloc<|aY #[vn,vl] 25)<|aY #[O (x.1:Nat),O (x.2:Nat)] 31;rw[show(w.alloc<|aY #[vn,vl] 25).heap.size=w.heap.size+1 by simp]at h;exact bT h _
 ·have h:=bF ((w.alloc<|aY #[vn,vl] 25).alloc (aY #[O (x.1:Nat),O (x.2:Nat)] 31))<|aY #[O (y.1:Nat),O (y.2:Nat)] 31;rw[show((w.alloc<|aY #[vn,vl] 25).alloc (aY #[O (x.1:Nat),O (x.2:Nat)] 31)).heap.size=w.heap.size+1+1 by simp]at h;exact h
theorem set2{t:TypeId}(h:dR W B (.cells #[r0,r1] t (0,0)))(a b:aC):((W.setCell (aN B 0) a).setCell (aN B 1) b).heap[B]?=some (.cells #[a,b] t (0,0)):=aP (aP h 0 a) 1 b
theorem bH{ob:Obj}(h:w.heap[k]?=some ob)(a:bK w w'):w'.heap[k]?=some ob:=by rw[a.block _ (aR h)];exact h
structure nC(w:World)(vn vl:Value)(ss:List ByteArray)(G:Nat)(L:Nat->Nat)(Z:Nat->Nat->Bool):Prop where
 strs:Strs w vn ss
 Q5:EX w vl G L Z
 ok:dD ss G L Z=0
theorem nC.below(h:nC w vn vl ss G L Z)(a:bK w w'):nC w' vn vl ss G L Z:=⟨h.strs.below a,h.Q5.below a,h.ok⟩
theorem nC.grid(h:nC w vn vl ss G L Z):vF w vl ss.length Z:=Du h.Q5 (qF h.ok).pos (qF h.ok).square
theorem nC.six(h:nC w vn vl ss G L Z):ss.length<=6:=(qF h.ok).six
theorem nC.joins(h:nC w vn vl ss G L Z):bS.Joins Z ss.length:=sD (Jq (qF h.ok).order) (qF h.ok).joins
theorem nC.meets(h:nC w vn vl ss G L Z):bS.Joins (bS.tr Z) ss.length:=sD (Jq (qF h.ok).order).turn (qF h.ok).meets
theorem G6(w:bI)(vn vl:aC)(n a b:Nat)(Z:aL)(f:vF w vl n Z)(j:n<=6)(h:a<n)(i:b<n):aD 217 #[.agg #[vn,vl],O a,O b] w λe w'=>e=dz (O (nT Z n a b:Nat))/\bK w w':=by have q1:=vH w vn vl 25;have d:=Y<|aH w<|aY #[vn,vl] 25;have g:=Y<|f.below d;obtain⟨m,q,p,l,RO,C,rfl,-⟩:=f;go_enter func217,ntmps217;go_wp2_with fail;refine(BH _ _ n a b Z g j h i).mono ?_;rintro e w' ⟨rfl,rfl⟩;go_wp2;go_ret;exact⟨rfl,d⟩
theorem G7(w:bI)(vn vl:aC)(ss:aJ)(G:Nat)(L:Nat->Nat)(Z:aL)(x y:Nat × Nat)(hL:nC w vn vl ss G L Z)(hx:Sv.Ok ss.length x)(hy:Sv.Ok ss.length y):aD 171 #[.agg #[vn,vl],.agg #[O (x.1:Nat),O (x.2:Nat)],.agg #[O (y.1:Nat),O (y.2:Nat)]] w λe w'=>e=dz (.agg #[O ((Sv.join Z ss.length x y).1:Nat),O ((Sv.join Z ss.length x y).2:Nat)])/\bK w w':=by
 obtain⟨W,hW⟩:=aV ((ME w vn vl x y).alloc (aY #[O 0,O 0] 31));obtain⟨b0,b1,b2,bs⟩:=ahy w vn vl x y;obtain⟨b3,c0,c1,c2⟩:=rY (bF (ME w vn vl x y) (aY #[O 0,O 0] 31)) (bT b0 (aY #[O 0,O 0] 31)) (bT b1 (aY #[O 0,O 0] 31)) (bT b2 (aY #[O 0,O 0] 31));rw[bs,<-hW]at b3;rw[<-hW]at c0 c1 c2;have hB:bK w W:=by rw[hW];exact up (J5 w vn vl x y) (aH _ _)
 have iO:=Y hB;have hLW:=hL.below hB;have HJ:=Y (λk os=>G6 (gn W k os) vn vl ss.length x.2 y.2 Z (hLW.below (bU W k os)).grid hL.six hx.2 hy.2);have ho:=ap5 ⟨x.1,hx.1⟩ ⟨y.1,hy.1⟩;simp only at ho;have HE:J (Sv.join Z ss.length x y=(x.1 ||| y.1,nT Z ss.length x.2 y.2)):=rfl;obtain⟨atO,hJ⟩:=aV (Sv.join Z ss.length x y);rw[<-hJ]at HE ⊢;have HB3:=Y b3;obtain⟨q0,q1,q2,q3⟩:=rY (bD ((aj c0 0).trans (rfl:_=some vn))) (bD ((aj c0 1).trans (rfl:_=some vl))) (bD ((aj c1 0).trans (rfl:_=some (O (x.1:Nat))))) (bD ((aj c1 1).trans (rfl:_=some (O (x.2:Nat)))));obtain⟨q4,q5⟩:=eY (bD ((aj c2 0).trans (rfl:_=some (O (y.1:Nat))))) (bD ((aj c2 1).trans (rfl:_=some (O (y.2:Nat)))));simp only[ME]at hW;clear b0 b1 b2 bs b3 c0 c1 c2 hB hL hLW hx hy hJ;go_enter func171,ntmps171;go_wp2_with fail;rw[<-hW];clear hW;refine gq 12 dw dw ?_;dsimp only[List.take,List.drop];repeat(quiet_step ((exact Calls.oZ (HJ.out _ _))))
 refine wpQuiet_nil ?_;intro w2 hw';obtain⟨⟨nq,osq⟩,hw''⟩:=hw';have hb2:bK W w2:=by rw[hw''];exact bU W nq osq
 obtain⟨r3,r4⟩:=jv (bH HB3 hb2);obtain⟨HB,HR⟩:=bV (up iO hb2) (bH HB3 hb2);obtain⟨z3,z4⟩:=eY (aF (bH HB3 hb2) 0) (aF (bH HB3 hb2) 1);clear hb2 hw'' q0 q1 q2 q3 q4 q5;go_wp2_with fail;have hs:=set2 HR (O ((x.1 ||| y.1:Nat):Int)) (O (nT Z ss.length x.2 y.2:Nat));obtain⟨f0,f1⟩:=jv hs;obtain rfl:=HE.out;refine cZ (v:=.agg #[O ((x.1 ||| y.1:Nat):Int),O (nT Z ss.length x.2 y.2:Nat)]) (by simp[results,results171,go_sem,f0,f1]) rfl ⟨rfl,?_⟩;exact(HB.setCell (by show w.heap.size<=w.heap.size+1+1+1;omega) _).setCell (by show w.heap.size<=w.heap.size+1+1+1;omega) _
namespace Rn
end Rn
