import Derived.Test.YtiebmbnfedbdeaaGreatDoorTZBA
import Derived.Test.YtiebmbnfedbdeaaGreatDoorTZRA
set_option maxHeartbeats 0
set_option maxRecDepth 99999
namespace Go.Proofs.YtiebmbnfedbdeaaGreatDoor
open Rn
open Go.Proofs.Tryz
open Go.RowKit Go.Maps
variable{w w' wx wy W wr w2:bI}{n e k g len cap B b m:Nat}{v vp vs vd v1 v2 v3 r0 r1 r2 r3 vl:aC}{nm:List (aS × aS)}{R:Int}{ds fs:aJ}{l:List Mo}{x:aS × aS}{pr OE:List (aS × Int)}
def UY(c:List Value)(d:aS):Prop:=c=[.string d]
theorem UY.one{c:List aC}{d:aS}(a:UY c d):∀u∈c,u.oneCell'=true:=by unfold UY at a;subst a;intro u f;simp at f;subst f;rfl
theorem dA.kp{α:Type}{At:List aC->α->Prop}{l:List α}{c:lu}{s:gM}(h:dA At w n e k v l)(q:Kp c none w w')(t:iL w c nm s)(i:e≠48)(j:e≠131)(o:e≠142):dA At w' n e k v l:=by
 obtain⟨cs,⟨d,a⟩,r⟩:=h;refine⟨cs,⟨d,?_⟩,r⟩;rcases a with a|⟨g,cap,f,u,hg,p,y⟩;·exact aO a
 ·exact aQ ⟨g,cap,f,u,hg,q.cells t p i j o cK,y⟩
structure Hw(w wx:World)(R:Int)(vp:Value)(cs:List Ce)(ds:List ByteArray)(vs vd:Value):Prop where
 res:wx.heap[w.heap.size]?=some (.cells #[.int .i64 0,.slice none 0 0,.slice none 0 0,.slice none 0 0] 39 (0,0))
 loc:wx.heap[w.heap.size+1]?=some (.cells #[.int .i64 R,vs,vp,vd] 39 (0,0))
 st:dA CeC wx (w.heap.size+2) 50 3 vs cs
 di:dA UY wx (w.heap.size+2) 9 1 vd ds
 wB:Below w.heap.size w wx
 ZW:w.heap.size+2<=wx.heap.size
theorem Hw.below{cs:List Ce}(a:Hw w wx R vp cs ds vs vd)(c:bK wx wy):Hw w wy R vp cs ds vs vd:=
 ⟨by rw[c.block _ (aR a.res)];exact a.res,by rw[c.block _ (aR a.loc)];exact a.loc,a.st.below c,a.di.below c,up a.wB c,bE a.ZW c.size⟩
theorem Hw.new(w:bI)(R:Int)(vp:aC):Hw w ((w.alloc<|aY #[O 0,aU,aU,aU] 39).alloc (aY #[O R,aU,vp,aU] 39)) R vp [] [] (aU) (aU):=by have c:=bF w<|aY #[O 0,aU,aU,aU] 39;have a:=bF (w.alloc<|aY #[O 0,aU,aU,aU] 39)<|aY #[O R,aU,vp,aU] 39;rw[oh]at a;exact⟨bT c _,a,dA.nil _ _ _ _,dA.nil _ _ _ _,up (aH _ _)<|aH _ _,by simp⟩
section
variable {w wx w7 : World} {R : Int} {vp vs vd v7 : Value} {cs : List Ce} {ds : List ByteArray} {ob : Obj}
theorem Hw.aph{y:Ce}(a:Hw w wx R vp cs ds vs vd)(r:dA CeC w7 (w.heap.size+2) 50 3 v7 (cs++[y]))(hg:(wx.alloc ob).grownBy w7 vs.ownBlock):w7.heap[w.heap.size+1]?=some (aY #[O R,vs,vp,vd] 39)/\Hw w (w7.setCell (aN (w.heap.size+1) 1) v7) R vp (cs++[y]) ds v7 vd/\bK w w7:=by
 have p:∀{k:Nat} {c:Array aC} {t:TypeId} {i:Nat × Nat},dR wx k (.cells c t i)->t≠50->dR w7 k (.cells c t i):=λ{k c t i} j s=>by exact(hg.block k (by have:=aR j;have:=(aH wx ob).size;omega) (λe=>by obtain⟨E,d⟩:=a.st.typ e.symm;replace d:=j.symm.trans d;injection d with d;injection d with _ d;exact s d)).trans (bT j ob)
 have h:=p a.loc bM;have o:bK w w7:=(a.wB.trans<|(aH wx ob).mono (by have:=a.ZW;omega)).grown hg (by have:=a.ZW;have:=(aH wx ob).size;omega) (λk e=>by have:=(a.st.lt k e).1;omega);have q:dA UY w7 (w.heap.size+2) 9 1 vd ds:=(a.di.below<|aH wx ob).grown hg (λg u e=>by obtain⟨C,z⟩:=a.di.typ u;obtain⟨D,f⟩:=a.st.typ e;replace f:=z.symm.trans f;injection f with f;injection f with _ f;exact aM f bM);refine⟨h,⟨aX (p a.res bM) cK _,(aP h 1 _).trans rfl,r.set (r.apart h bM) _,q.set (q.apart h bM) _,o.setCell cK _,?_⟩,o⟩;obtain⟨F,G,H⟩:=lS hg.size ((aH wx ob).size) a.ZW;simp only[World.setCell,Am];omega
theorem Hw.X8{y:aS}(a:Hw w wx R vp cs ds vs vd)(r:dA UY w7 (w.heap.size+2) 9 1 v7 (ds++[y]))(hg:(wx.alloc ob).grownBy w7 vd.ownBlock):w7.heap[w.heap.size+1]?=some (aY #[O R,vs,vp,vd] 39)/\Hw w (w7.setCell (aN (w.heap.size+1) 3) v7) R vp cs (ds++[y]) vs v7/\bK w w7:=by
 have p:∀{k:Nat} {c:Array aC} {t:TypeId} {i:Nat × Nat},dR wx k (.cells c t i)->t≠9->dR w7 k (.cells c t i):=λ{k c t i} j s=>by exact(hg.block k (by have:=aR j;have:=(aH wx ob).size;omega) (λe=>by obtain⟨E,d⟩:=a.di.typ e.symm;replace d:=j.symm.trans d;injection d with d;injection d with _ d;exact s d)).trans (bT j ob)
 have h:=p a.loc bM;have o:bK w w7:=(a.wB.trans<|(aH wx ob).mono (by have:=a.ZW;omega)).grown hg (by have:=a.ZW;have:=(aH wx ob).size;omega) (λk e=>by have:=(a.di.lt k e).1;omega);have q:dA CeC w7 (w.heap.size+2) 50 3 vs cs:=(a.st.below<|aH wx ob).grown hg (λg u e=>by obtain⟨C,z⟩:=a.st.typ u;obtain⟨D,f⟩:=a.di.typ e;replace f:=z.symm.trans f;injection f with f;injection f with _ f;exact aM f bM);refine⟨h,⟨aX (p a.res bM) cK _,(aP h 3 _).trans rfl,q.set (q.apart h bM) _,r.set (r.apart h bM) _,o.setCell cK _,?_⟩,o⟩;obtain⟨F,G,H⟩:=lS hg.size ((aH wx ob).size) a.ZW;simp only[World.setCell,Am];omega
end
theorem dA.asR{l:aJ}(f:dA UY w n 9 1 (Tc g len cap) l)(t:len=l.length):ji w g l:=by
 subst t;obtain⟨a,j⟩:=f.typ (g:=g) rfl;have o:∀(i:Nat) d,l[i]?=some d->a[i]?=some (A d):=λi d s=>by obtain⟨c,_,r,h⟩:=f.cell s;have:=r 0 bM;rw[aj j]at this;unfold UY at h;subst h;simpa using this
 refine⟨a,j,?_,o⟩;rcases Nat.eq_zero_or_pos l.length with p|p;·omega
 ·have q:=o (l.length - 1) _<|aZ bC;have:=(Array.getElem?_eq_some_iff.1 q).1;omega
theorem ji.strs{l:aJ}(c:ji w g l)(d:∀s∈l,s.size<=maxLen)(f:l.length<=16777216):Strs w (Tc g l.length cap) l:=by refine⟨_,g,0,cap,rfl,λ_=>rfl,by omega,d,λj a=>?_⟩;have:=c.cell<|aZ a;rw[d9,xK,aZ a,gD];exact this
structure LC(w:World)(n:Nat)(r:Rn.Fx)(v1 v2 v3:Value):Prop where
 st:dA CeC w n 50 3 v1 r.TB
 pr:dA QX w n 48 2 v2 r.pr
 di:(r.did=[]/\v3=.slice none 0 0)\/∃g cap,v3=.slice (some ⟨g,0,none⟩) r.did.length cap/\n<=g/\ji w g r.did
theorem ji.other{l:aJ}(c:ji w g l)(f:B≠g)(i:Nat)(x:aC):ji (w.setCell (aN B i) x) g l:=by obtain⟨a,h,d⟩:=c;exact⟨a,aX h (λe=>f e.symm) _,d⟩
theorem LC.set{r:Rn.Fx}(a:LC w n r v1 v2 v3)(h:B<n)(i:Nat)(x:aC):LC (w.setCell (aN B i) x) n r v1 v2 v3:=by
 refine⟨a.st.set (λe=>?_) x,a.pr.set (λe=>?_) x,?_⟩;·have:=(a.st.lt _ e).1;simp only at this;omega
 ·have:=(a.pr.lt _ e).1;simp only at this;omega
 ·rcases a.di with c|⟨g,cap,c,d,f⟩;·exact aO c
  ·exact aQ ⟨g,cap,c,d,f.other bC i x⟩
def qN(w:bI)(r:Rn.Fx)(v1 v2 v3:Value):Prop:=yI w v1 r.TB/\Rw w v2 r.pr/\Strs w v3 r.did
theorem qN.below{r:Rn.Fx}(a:qN w r v1 v2 v3)(c:bK w w'):qN w' r v1 v2 v3:=⟨a.1.below c,a.2.1.below c,a.2.2.below c⟩
theorem qN.bad(w:bI)(e:Int):qN w (Rn.bad e) (aU) (aU) (aU):=
 ⟨⟨none,0,0,0,rfl,λa=>aM a (by simp[Rn.bad]),by simp[Rn.bad],λi x c=>aM c<|by simp[Rn.bad]⟩,⟨none,0,0,0,rfl,λa=>aM a (by simp[Rn.bad]),by simp[Rn.bad],λi x c=>aM c<|by simp[Rn.bad]⟩,⟨none,0,0,0,rfl,λa=>aM a (by simp[Rn.bad]),by simp[Rn.bad],λs f=>aM f (by simp[Rn.bad]),λj d=>aM d<|by simp[Rn.bad]⟩⟩
structure VD(r:Rn.Fx):Prop where
 vals:∀c∈r.TB,mq c.val
 lens:r.TB.length<=16777216/\r.pr.length<=16777216/\r.did.length<=16777216
 texts:∀t∈r.did,t.size<=maxLen
theorem LC.out{r:Rn.Fx}(a:LC w n r v1 v2 v3)(c:VD r):qN w r v1 v2 v3:=by
 refine⟨a.st.ces c.vals c.lens.1,a.pr.OE c.lens.2.1,?_⟩;rcases a.di with⟨d,rfl⟩|⟨g,cap,rfl,o,f⟩;·rw[d];exact⟨none,0,0,0,rfl,λa=>aM a cK,by simp,λs i=>aM i cK,λj h=>aM h cK⟩
 ·exact f.strs c.texts c.lens.2.2
theorem Hw.cells{cs:List Ce}(h:Hw w wx R vp cs ds vs vd):bJ wx (w.heap.size+1) 0=some (O R)/\bJ wx (w.heap.size+1) 1=some vs/\bJ wx (w.heap.size+1) 2=some vp/\bJ wx (w.heap.size+1) 3=some vd:=⟨(aj h.loc 0).trans rfl,(aj h.loc 1).trans rfl,(aj h.loc 2).trans rfl,(aj h.loc 3).trans rfl⟩
theorem FT.cells{v:Vr}(h:FT w b x v):bJ w b 0=some (A x.1)/\bJ w b 1=some (A x.2)/\bJ w b 2=some (O v.val)/\bJ w b 3=some (.bool v.rd)/\bJ w b 4=some (.bool v.st):=
 ⟨(aj h 0).trans rfl,(aj h 1).trans rfl,(aj h 2).trans rfl,(aj h 3).trans rfl,(aj h 4).trans rfl⟩
theorem FT.below{v:Vr}(a:FT w b x v)(c:bK w w'):FT w' b x v:=by unfold FT at *;rw[c.block _ (aR a)];exact a
namespace Rn
def EL(zs:List ((aS × aS) × Vr)):List Ce:=zs.map λp=>⟨p.1.1,p.1.2,p.2.val⟩
def uw(zs:List ((aS × aS) × Vr)):List aS:=(zs.map TD).flatten
theorem Oo(zs:List ((aS × aS) × Vr))(x:aS × aS)(v:Vr):EL (zs++[(x,v)])=EL zs++[⟨x.1,x.2,v.val⟩]:=by unfold EL;simp
theorem Oq(zs:List ((aS × aS) × Vr))(x:aS × aS)(v:Vr):uw (zs++[(x,v)])=uw zs++((if v.rd=true then [tag 114 x]else [])++(if v.st=true then [tag 119 x]else [])):=by unfold uw;simp[TD]
theorem LD(zs:List ((aS × aS) × Vr)):(uw zs).length<=2*zs.length:=by
 induction zs with
 | nil=>simp[uw]
 | cons p r d=>
  have c:(TD p).length<=2:=by unfold TD;split<;>split<;>simp
  have a:uw (p::r)=TD p++uw r:=by simp[uw]
  rw[a,bg,vN];omega
end Rn
theorem ab7{vs:List Vr}(o:∀f∈nm,f.1.size<=8/\f.2.size<=8)(p:∀d∈pr,d.1.size<=8){t:aS}(c:t∈Rn.did nm vs pr):t.size<=64:=by
 unfold Rn.did at c;rcases bX.1 c with c|c
 ·unfold H8 at c;obtain⟨l,r,a⟩:=Rl.1 c;obtain⟨⟨f,v⟩,s,rfl⟩:=iZ.1 r;have j:=o f (List.of_mem_zip s).1;have h:∀u:UInt8,(Rn.tag u f).size<=64:=λu=>by unfold Rn.tag;simp only[ZP];have i:(⟨#[u,58]⟩:aS).size=2:=rfl;have y:(⟨#[46]⟩:aS).size=1:=rfl;omega
  unfold TD at a;rcases bX.1 a with a|a
  ·split at a;·rw[dh]at a;subst a;exact h _
   ·simp at a
  ·split at a;·rw[dh]at a;subst a;exact h _
   ·simp at a
 ·obtain⟨d,q,rfl⟩:=iZ.1 c;have j:=p d q;unfold yj;simp only[ZP];have i:(⟨#[112,58]⟩:aS).size=2:=rfl;omega
theorem UZ(w:bI)(n:Nat)(v:aC)(ds:aJ)(a:dA UY w n 9 1 v ds)(h:ds.length<=16777216):aD 49 #[v] w λe w'=>e=dz (.tuple #[])/\((ds=[]/\v=aU/\w'=w)\/∃g cap,v=Tc g ds.length cap/\ds.length<=cap/\n<=g/\ji w' g (jZ ds)/\But g w w'):=by
 rcases a.shape with⟨rfl,rfl⟩|⟨g,cap,rfl,f,hg,i,j⟩;·refine(Cm w none 0).mono ?_;rintro e w' ⟨rfl,rfl⟩;exact⟨rfl,aO ⟨rfl,rfl,rfl⟩⟩
 ·refine(TW w g ds.length cap ds (a.asR rfl) rfl bC).mono ?_;rintro e w' ⟨rfl,c,d⟩;exact⟨rfl,aQ ⟨g,cap,rfl,f,hg,c,d⟩⟩
theorem dA.VJ{α:Type}{At:List aC->α->Prop}{l:List α}(i:dA At w n e k v l)(j:But g w w')(p:v.ownBlock≠some g):dA At w' n e k v l:=by
 obtain⟨cs,⟨d,a⟩,r⟩:=i;refine⟨cs,⟨d,?_⟩,r⟩;rcases a with a|⟨h,cap,f,c,hg,o,q⟩;·exact aO a
 ·exact aQ ⟨h,cap,f,c,hg,j.at (λe=>p (by rw[c,e];rfl)) o,q⟩
theorem ai5(w:bI)(o:Obj)(t:aS):dA UY ((w.alloc o).alloc (aY #[A t] 9)) (w.heap.size+1) 9 1 (Tc (w.heap.size+1) 1 1) [t]:=by have h:=dA.one (At:=UY) (c:=[A t]) (y:=t) (w.alloc o) 9 rfl (UY.one (d:=t) rfl) rfl;rw[oh]at h;exact h
theorem ai6:gP (jZ [])=[]:=by simp[jZ,gP]
theorem Gn{t:TypeId}(h:dR W B (.cells #[r0,r1,r2,r3] t (0,0)))(a c d f:aC):((((W.setCell (aN B 0) a).setCell (aN B 1) c).setCell (aN B 2) d).setCell (aN B 3) f).heap[B]?=some (.cells #[a,c,d,f] t (0,0)):=by have i:(W.setCell (aN B 0) a).heap[B]?=some (.cells #[a,r1,r2,r3] t (0,0)):=aP h 0 a;have j:((W.setCell (aN B 0) a).setCell (aN B 1) c).heap[B]?=some (.cells #[a,c,r2,r3] t (0,0)):=aP i 1 c;have o:(((W.setCell (aN B 0) a).setCell (aN B 1) c).setCell (aN B 2) d).heap[B]?=some (.cells #[a,c,d,r3] t (0,0)):=aP j 2 d;exact aP o 3 f
theorem Hw.fin{cs:List Ce}(d:Hw w wr R vp cs ds vs vd)(hg:w.heap.size+2<=g)(o:But g wr w2)(S:vs.ownBlock≠some g)(Q:vp.ownBlock≠some g)(N:dA QX w n 48 2 vp OE)(hn:n<=w.heap.size)(P:(fs=[]/\v3=aU)\/∃cap,v3=Tc g fs.length cap/\ji w2 g fs)(W3 Wf:bI)(f:W3=w2.setCell (aN (w.heap.size+1) 3) v3)(t:Wf=(((W3.setCell (aN w.heap.size 0)<|O R).setCell (aN w.heap.size 1) vs).setCell (aN w.heap.size 2) vp).setCell (aN w.heap.size 3) v3):w2.heap[w.heap.size+1]?=some (aY #[O R,vs,vp,vd] 39)/\W3.heap[w.heap.size+1]?=some (aY #[O R,vs,vp,v3] 39)/\dR W3 w.heap.size (aY #[O 0,aU,aU,aU] 39)/\dR Wf w.heap.size (aY #[O R,vs,vp,v3] 39)/\LC Wf n ⟨R,cs,OE,fs,0⟩ vs vp v3/\bK w Wf:=by
 obtain⟨q,r2,ab⟩:=lS (o.at bC d.loc) (o.at bC d.res) d.ZW;have F:bK w w2:=d.wB.trans<|o.below bC bC;have s2:dA CeC w2 (w.heap.size+2) 50 3 vs cs:=d.st.VJ o S;have E:dA QX w2 n 48 2 vp OE:=(N.below d.wB).VJ o Q;have l3:W3.heap[w.heap.size+1]?=some (aY #[O R,vs,vp,v3] 39):=by rw[f];exact(aP q 3 _).trans rfl
 have r3:dR W3 w.heap.size (aY #[O 0,aU,aU,aU] 39):=by rw[f];exact aX r2 cK _
 have G:bK w W3:=by rw[f];exact F.setCell cK _
 have s3:dA CeC W3 (w.heap.size+2) 50 3 vs cs:=by rw[f];exact s2.set (s2.apart q bM) _
 have p3:dA QX W3 n 48 2 vp OE:=by rw[f];exact E.set (E.apart q bM) _
 have o3:LC W3 n ⟨R,cs,OE,fs,0⟩ vs vp v3:=by
  refine⟨s3.old bC,p3,?_⟩;rcases P with a|⟨cap,a,s⟩;·exact aO a
  ·exact aQ ⟨g,cap,a,by omega,by rw[f];exact s.other bC _ _⟩
 have y:=Gn r3 (O R) vs vp v3;rw[<-t]at y;have r:∀{W:bI} {j:Nat} {u:aC},LC W n ⟨R,cs,OE,fs,0⟩ vs vp v3/\W.heap[w.heap.size]?.isSome=true->(∃c,dR W w.heap.size<|.cells c 39 (0,0))->LC (W.setCell (aN w.heap.size j) u) n ⟨R,cs,OE,fs,0⟩ vs vp v3/\(W.setCell (aN w.heap.size j) u).heap[w.heap.size]?.isSome=true/\∃c,(W.setCell (aN w.heap.size j) u).heap[w.heap.size]?=some (.cells c 39 (0,0)):=λ{W j u} p h=>by
  obtain⟨c,h⟩:=h;have C:=aP h j u;refine⟨⟨p.1.st.set (p.1.st.apart h bM) _,p.1.pr.set (p.1.pr.apart h bM) _,?_⟩,by rw[C];rfl,_,C⟩;rcases p.1.di with a|⟨L,cap,a,s,z⟩;·exact aO a
  ·refine aQ ⟨L,cap,a,s,z.other (λe=>?_) _ _⟩;obtain⟨aa,i,_⟩:=z;rw[<-e,h]at i;injection i with i;injection i with _ i;exact aM i bM
 obtain⟨o4,U,H⟩:=r (j:=0) (u:=O R) ⟨o3,by rw[r3];rfl⟩ ⟨_,r3⟩;obtain⟨o5,V,I⟩:=r (j:=1) (u:=vs) ⟨o4,U⟩ H;obtain⟨o6,Z,K⟩:=r (j:=2) (u:=vp) ⟨o5,V⟩ I;obtain⟨D,_,_⟩:=r (j:=3) (u:=v3) ⟨o6,Z⟩ K;rw[<-t]at D;refine⟨q,l3,r3,y,D,?_⟩;rw[t];exact(((G.setCell cK _).setCell cK _).setCell cK _).setCell cK _
theorem U0(w:bI)(c:lu)(nm:List (aS × aS))(s:gM)(R:Int)(K:iL w c nm s)(hV:dA WT w c.n 140 1 c.vv c.bs)(hN:∀z∈nm,z.1.size<=8/\z.2.size<=8)(hn:nm.length<=1048576)(bi:s.pr.length<=1048576):aD 25 #[gK c.p,O R] w λe w'=>∃v1 v2 v3,e=dz (.agg #[O R,v1,v2,v3])/\J (LC w' c.n ⟨R,Rn.TB nm s.vs,s.pr,gP<|jZ<|Rn.did nm s.vs s.pr,0⟩ v1 v2 v3/\bK w w'):=by
 obtain⟨HM,HV,HN⟩:=fE K hV hN;obtain⟨vp,hp,ay⟩:=K.qY;have Q:=Y ay;obtain⟨ap,D,rfl⟩:=ay.form;obtain⟨av,cv,aA⟩:=hV.form;have a9:=Y aA;rw[aA]at hp;obtain⟨-,m1,-,-,m4⟩:=ZC5 hp;obtain⟨nb,V⟩:=aV c.bs.length;obtain⟨np,af⟩:=aV s.pr.length;rw[<-V]at m1 a9;rw[<-af]at m4 Q;obtain⟨bq,Ee⟩:=bV V af;have HC:=Y (λwx (p:bK w wx)=>And.intro (aG m1 p)<|aG m4 p);have F:J (nb=nm.length/\nb=s.vs.length/\nb<=1048576/\np<=1048576):=Y ⟨by rw[V,K.uj],by rw[V,K.uj,K.lens],by rw[V,K.uj];exact hn,by rw[af];exact bi⟩;obtain⟨zs,bk⟩:=aV<|nm.zip s.vs;obtain⟨HZ,br⟩:=bV bk<|Hw.new w R<|X ap np D;have zp:c.p<w.heap.size:=aR hp;have vV:nb<=1048576:=F.2.2.1;have b1:np<=1048576:=F.2.2.2;clear K hV hN hn bi ay aA V af bk hp;go_enter func25,ntmps25;go_wp2_with fail;generalize ((w.alloc<|aY #[O 0,aU,aU,aU] 39).alloc (aY #[O R,aU,X ap np D,aU] 39))=W1 at *;clear m1 m4;go_loopw[7,21] (λ_ i wx=>∃j:Nat,j<=nb/\i=O j/\∃vs vd,Hw w wx R (X ap np D) (EL<|zs.take j) (uw<|zs.take j) vs vd) (λ_ i _=>nb - (intOf i).toNat);exact⟨0,bN _,rfl,_,_,br⟩
 rename_i Qa Ka a4;obtain⟨j,hj,rfl,vs,vd,h⟩:=hrel;by_cases ax:j<nb
 ·obtain⟨b,p⟩:∃b,c.bs[j]?=some b:=⟨_,aZ (by rw[<-bq];exact ax)⟩;obtain⟨x,hx⟩:∃b,nm[j]?=some b:=⟨_,aZ (by rw[<-F.1];exact ax)⟩;obtain⟨v,hv⟩:∃b,s.vs[j]?=some b:=⟨_,aZ (by rw[<-F.2.1];exact ax)⟩;have ba:J (zs.take (j+1)=zs.take j++[(x,v)]):=Y (by rw[HZ];exact aeU hx hv);obtain⟨g,hg⟩:∃g,av=some (aN g 0)/\bJ w g j=some (gK b):=by
   have aq:=HV.out;rcases aq.shape with⟨E,I⟩|⟨g,cap,e,_⟩;·rw[I]at p;simp at p
   ·rw[e]at aq;obtain⟨cc,_,ae,ac⟩:=aq.cell p;have h0:=ae 0 bM;unfold WT at ac;subst ac;have e':=a9.out;rw[e]at e';injection e' with E;exact⟨g,E.symm,by simpa using h0⟩
  obtain⟨rfl,p0⟩:=hg;have S:=Y<|HM.var j b x v p hx hv;have wH:J (x.1.size<=8/\x.2.size<=8):=Y<|HN x<|dG hx;have bL:=aG p0 h.wB;have f:=Y h;obtain⟨-,l1,-,C⟩:=h.cells;obtain⟨q0,q1,q2,q3,q4⟩:=(S.below h.wB).cells;have zB:w.heap.size+1<wr.heap.size:=aR h.loc;have zb:b<wr.heap.size:=aR<|S.below h.wB;obtain⟨sa,sc,al⟩:=h.st.form;obtain⟨da,dc,ak⟩:=h.di.form;subst al ak;obtain⟨ns,Z⟩:=aV<|(EL<|zs.take j).length;obtain⟨nd,y⟩:=aV<|(uw<|zs.take j).length;rw[<-Z]at l1 f;rw[<-y]at C f;have D8:J (ns=(EL<|zs.take j).length/\(EL<|zs.take j).length<=1048576):=Y ⟨Z,by unfold EL;rw[dV,iA];omega⟩;have G:J (nd=(uw<|zs.take j).length/\(uw<|zs.take j).length<=2097152):=Y ⟨y,by have:=LD<|zs.take j;rw[iA]at this;omega⟩;clear Z y p hx hv h p0;go_wp2_with fail;go_cut [7,21]from 21 to 89 (λa i wx=>a=gK b/\i=O j/\∃v1,Hw w wx R (X ap np D) (EL (zs.take j)++[⟨x.1,x.2,v.val⟩]) (uw<|zs.take j) v1<|X da nd dc);case first=>
   rename_i Qb Kb a3 Kc a2 Jd Kd a1 a0;clear a4 a3 a2
   go_region_law (first
    | (refine qm (At:=CeC) dH _ _ 28 50 3 40 _ dH underlying28 aj3 bM bM bM (w.heap.size+2) _ (EL<|zs.take j) dH (f.st.below<|by repeat(first|exact aH _ _|apply iX)) _ [A x.1,A x.2,O v.val] (⟨x.1,x.2,v.val⟩:Ce) dH (λj' u hu=>(by have N:=(cO.1 hu).1;simp at N;obtain rfl|rfl|rfl:j'=0\/j'=1\/j'=2:=bC;all_goals(simp at hu;subst hu;simp[go_sem]))) rfl (CeC.one (d:=(⟨x.1,x.2,v.val⟩:Ce)) rfl) rfl (by have:=D8.out;omega) (bE f.out.ZW (aH wr<|aY #[A x.1,A x.2,O v.val] 50).size) ?_;intro g' ab w7 q r;have o:=Y<|Hw.aph (wx:=wr.drew) (ob:=(aY #[A x.1,A x.2,O v.val] 50)) (f.below<|iX<|bQ _ _) q r;have u1:=(aj o.1 1).trans rfl;have z1:=aF o.1 1;clear q r)
    | fail)
   all_goals go_wp2;go_meet;case rel=>exact⟨rfl,rfl,_,o.2.1⟩
  case rest=>
   obtain⟨rfl,rfl,v1,h⟩:=hcut;clear l1 C q0 q1 q2 q3 q4 zB zb f bL;have f:=Y h;obtain⟨-,-,-,C⟩:=h.cells;obtain⟨q0,q1,q2,q3,q4⟩:=(S.below h.wB).cells;have zB:w.heap.size+1<wc.heap.size:=aR h.loc;have zb:b<wc.heap.size:=aR<|S.below h.wB;have k1:(9223372036854775807<2+x.1.size)=False:=eq_false (by have:=wH.out;omega);have k2:(9223372036854775807<2+x.1.size+1)=False:=eq_false (by have:=wH.out;omega);have k3:(9223372036854775807<2+x.1.size+1+x.2.size)=False:=eq_false (by have:=wH.out;omega);clear h;go_upto_if 48 with fail;go_cut [7,21]from 21 to 89 (λa i wx=>a=gK b/\i=O j/\∃v3,Hw w wx R (X ap np D) (EL (zs.take j)++[⟨x.1,x.2,v.val⟩]) (uw (zs.take j)++(if v.rd=true then [Rn.tag 114 x]else [])) v1 v3);case first=>
    rename_i Qb Kb a3 Kc a2 Jd Kd a1 a0;clear a4 a3 a2;cases ag:v.rd;·rw[ag]at q3;go_wp2;go_meet;case rel=>exact⟨rfl,rfl,_,by rw[aI (by rw[ag];simp),gL];exact f⟩
    ·rw[ag]at q3;go_wp2_with fail;go_region_law (first
     | (refine qm (At:=UY) dH _ _ 22 9 1 16 _ dH underlying22 rF bM bM bM (w.heap.size+2) _ (uw<|zs.take j) dH (f.di.below<|by repeat(first|exact aH _ _|apply iX)) _ [A (Rn.tag 114 x)] (Rn.tag 114 x) dH (λj' u hu=>(by have N:=(cO.1 hu).1;simp at N;subst N;simp at hu;subst hu;simp[go_sem];rfl)) rfl (UY.one (d:=Rn.tag 114 x) rfl) rfl (by have:=G.out;simp;omega) (bE f.out.ZW (aH wc<|aY #[A (Rn.tag 114 x)] 9).size) ?_;intro g' ab w7 q r;have o:=Y<|Hw.X8 (wx:=wc.drew) (ob:=(aY #[A (Rn.tag 114 x)] 9)) (f.below<|iX<|bQ _ _) q r;have u1:=(aj o.1 3).trans rfl;have z1:=aF o.1 3;clear q r)
     | fail)
     all_goals go_wp2;go_meet;case rel=>exact⟨rfl,rfl,_,by rw[aK ag];exact o.2.1⟩
   case rest=>
    obtain⟨rfl,rfl,v3,h⟩:=hcut;clear C q0 q1 q2 q3 q4 zB zb f;have P:=Y h;obtain⟨-,-,-,C⟩:=h.cells;obtain⟨q0,q1,q2,q3,q4⟩:=(S.below h.wB).cells;have zB:w.heap.size+1<wc.heap.size:=aR h.loc;have zb:b<wc.heap.size:=aR<|S.below h.wB;obtain⟨ea,ec,Zi⟩:=h.di.form;subst Zi;have lG:J ((uw (zs.take j)++(if v.rd=true then [Rn.tag 114 x]else [])).length<=2097153):=Y (by have:=G.out;rw[bg];split<;>simp<;>omega);obtain⟨dr,au⟩:=aV<|uw (zs.take j)++(if v.rd=true then [Rn.tag 114 x]else []);rw[<-au]at C P lG;have aE:=Y au;obtain⟨ne,bh⟩:=aV dr.length;rw[<-bh]at C P;clear bh au;clear h;clear a4;cases ai:v.st
    ·rw[ai]at q4;go_wp2;go_roundw;exact⟨j+1,by omega,by go_num,_,_,by rw[ba,Oo,Oq,aI (show ¬v.st=true by rw[ai];simp),gL,<-aE];exact P⟩;exact gV
    ·rw[ai]at q4;go_wp2_with fail
     go_region_law (first
      | (refine qm (At:=UY) dH _ _ 22 9 1 16 _ dH underlying22 rF bM bM bM (w.heap.size+2) _ dr dH (P.di.below<|by repeat(first|exact aH _ _|apply iX)) _ [A (Rn.tag 119 x)] (Rn.tag 119 x) dH (λj' u hu=>(by have N:=(cO.1 hu).1;simp at N;subst N;simp at hu;subst hu;simp[go_sem];rfl)) rfl (UY.one (d:=Rn.tag 119 x) rfl) rfl (by exact bE lG.out bM) (bE P.out.ZW (aH wc<|aY #[A (Rn.tag 119 x)] 9).size) ?_;intro g' ab w7 q r;have o:=Y<|Hw.X8 (wx:=wc.drew) (ob:=(aY #[A (Rn.tag 119 x)] 9)) (P.below<|iX<|bQ _ _) q r;have u1:=(aj o.1 3).trans rfl;have z1:=aF o.1 3;clear q r)
      | fail)
     all_goals
      go_wp2;go_roundw;exact⟨j+1,by omega,by go_num,_,_,by rw[ba,Oo,Oq,aK ai,<-iK,<-aE];exact o.2.1⟩;exact gV
 ·have bx:j=nb:=by omega
  subst bx;have DU:J (zs.take j=zs):=Y (fQ (by rw[HZ,He,<-F.1,<-F.2.1];omega));rw[DU]at h;obtain⟨-,m4⟩:=HC wr h.wB;have f:=Y h;clear h;go_wp2_with fail;clear m4;go_loopw[9,95] (λ_ i wx=>∃t:Nat,t<=np/\i=O t/\∃bS bY,Hw w wx R (X ap np D) (EL zs) (uw zs++(s.pr.take t).map λd=>yj d.1) bS bY) (λ_ i _=>np - (intOf i).toNat);exact⟨0,bN _,rfl,_,_,by rw[JG,jV,gL];exact f⟩
  clear f vs vd;obtain⟨t,ht,rfl,vs,vd,h⟩:=hrel;have Md:J ((uw zs++(s.pr.take t).map λd=>yj d.1).length<=16777000):=Y (by
   have h1:=LD zs;have h2:zs.length<=j:=by rw[HZ,He,<-F.1,<-F.2.1];omega
   rw[bg,dV,iA];omega)
  by_cases bA:t<np
  ·obtain⟨d,U⟩:∃b,s.pr[t]?=some b:=⟨_,aZ (by rw[<-Ee];exact bA)⟩;obtain⟨g,rfl,p0,p1⟩:∃g,ap=some (aN g 0)/\bJ w g (t*2)=some (A d.1)/\bJ w g (t*2+1)=some (O d.2):=by
    have ao:=Q.out;rcases ao.shape with⟨E,I⟩|⟨g,cap,e,_⟩;·rw[I]at U;simp at U
    ·rw[e]at ao;obtain⟨cc,_,ae,ac⟩:=ao.cell U;obtain⟨h0,h1⟩:=eY (ae 0 bM)<|ae 1 bM;unfold QX at ac;subst ac;injection e with E;exact⟨g,E,h0,h1⟩
   have k1:(9223372036854775807<2+d.1.size)=False:=eq_false (by have:=HM.OE d<|dG U;omega);have bu:J ((s.pr.take<|t+1).map (λd=>yj d.1)=(s.pr.take t).map (λd=>yj d.1)++[yj d.1]):=Y (by rw[gy,U];simp);replace p0:=aG p0 h.wB;replace p1:=aG p1 h.wB;have f:=Y h;obtain⟨-,-,-,C⟩:=h.cells;have zB:w.heap.size+1<wr.heap.size:=aR h.loc;obtain⟨da,dc,rfl⟩:=h.di.form;generalize ad:uw zs++(s.pr.take t).map (λd=>yj d.1)=ds at *;have bo:=Y ad;clear ad U;obtain⟨nd,y⟩:=aV ds.length;rw[<-y]at C f;have G:=Y y;clear h y;go_wp2_with ((at_builtin;refine fG (At:=UY) rfl _ _ 22 9 1 16 _ rfl underlying22 rF bM bM bM (w.heap.size+2) _ ds rfl (f.di.below<|up (aH _ _)<|aH _ _) _ _ [yj d.1] rfl (ai5 _ _<|yj d.1) (by have:=Md.out;simp;omega) (by have:=f.ZW;simp;omega) ?_;intro v7 w7 q r;have o:=Y<|Hw.X8 (f.below<|aH _ _) q r;obtain⟨a7,c7,rfl⟩:=q.form;generalize (ds++[yj d.1]).length=n7 at *;have u3:=(aj o.1 3).trans rfl;have z3:=aF o.1 3;clear q r));go_roundw;exact⟨t+1,by omega,by go_num,_,_,by rw[bu,<-iK,bo];exact o.2.1⟩;exact gV
  ·have bB:t=np:=by omega
   subst bB;have bv:J (s.pr.take t=s.pr):=Y (fQ (by rw[<-Ee];omega));rw[bv]at h Md;have wu:J (c.n<=w.heap.size):=Y (by have:=HM.base;omega);have f:=Y h;obtain⟨-,-,-,C⟩:=h.cells;have am:J (Rn.did nm s.vs s.pr=uw zs++s.pr.map λd=>yj d.1):=Y (by rw[HZ];rfl);have a8:J (Rn.TB nm s.vs=EL zs):=Y (by rw[HZ];rfl);obtain⟨ds,ad⟩:=aV<|uw zs++s.pr.map λd=>yj d.1;rw[<-ad]at f Md am;have bs:=Y (UZ wr (w.heap.size+2) vd ds f.di (by have:=Md.out;omega));obtain⟨da,dc,ak⟩:=f.di.form;obtain⟨nd,y⟩:=aV ds.length;rw[<-y]at ak;subst ak;have G:=Y y;obtain⟨sa,sc,al⟩:=f.st.form;obtain⟨ns,Z⟩:=aV<|(EL zs).length;rw[<-Z]at al;subst al;clear ad y h Z;go_wp2_with fail;refine bs.mono ?_;rintro e w1 ⟨rfl,bz⟩;clear C;rcases bz with⟨be,az,rfl⟩|⟨g,cap,az,bc,aw,bj,XR⟩;·injection az with E I e3;subst E I e3;have uK:=Y (λW3 H h3 hf=>Hw.fin (v3:=aU) (fs:=[]) (g:=w1.heap.size) f f.ZW (But.refl _ _) (λe=>by have:=(f.st.lt _ e).2;omega) (λe=>by have:=(Q.lt _ e).2;have:=f.ZW;omega) Q wu (aO ⟨rfl,rfl⟩) W3 H h3 hf);obtain⟨x0,x1,x2,x3⟩:=f.cells;obtain⟨r0,r1,r2,r3⟩:=xX f.res;obtain⟨bm,bp⟩:=bV (Bp w1) be;obtain⟨y3,z0,z1,z2⟩:=rY (aF f.loc 3) (aF f.res 0) (aF f.res 1)<|aF f.res 2;have z3:=aF f.res 3;clear be;go_wp2_with fail;refine bm.mono ?_;rintro e w2 ⟨rfl,rfl⟩;obtain⟨H,L⟩:=aV<|(((((w2.setCell (aN (w.heap.size+1) 3)<|aU).setCell (aN w.heap.size 0) (O R)).setCell (aN w.heap.size 1) (X sa ns sc)).setCell (aN w.heap.size 2) (X ap t D)).setCell (aN w.heap.size 3) (aU));obtain⟨-,-,-,i4,ho,p⟩:=uK _ H rfl L;obtain⟨f0,f1,f2,f3⟩:=xX i4;obtain⟨HO,HB⟩:=bV ho p;clear ho p i4;go_wp2_with fail;rw[<-L];clear L;refine cZ (v:=.agg #[O R,X sa ns sc,X ap t D,(aU)]) (by simp[results,results25,go_sem,f0,f1,f2,f3]) rfl ?_;exact⟨_,_,_,rfl,Y ⟨by rw[am,bp,a8,ai6];exact HO,HB⟩⟩
   ·injection az with E I e3;subst E e3;obtain⟨b0,ar⟩:=f.di.typ (g:=g) rfl;obtain⟨Ip,WI,Mc,a6⟩:=lD (Pv w1 g nd dc (jZ ds) bj (by rw[J2];exact G) (by rw[G];exact bc) (by have:=Md.out;have:=G.out;omega)) (XR.at (show w.heap.size+1≠g by omega) f.loc) (XR.at (show w.heap.size≠g by omega) f.res) aw;have uK:=Y (λw2 (bw:But g w1 w2) (ah:ji w2 g (gP<|jZ ds)) ab W3 H h3 hf=>Hw.fin (v3:=Tc g (gP<|jZ ds).length ab) (fs:=gP<|jZ ds) (g:=g) f aw (XR.trans bw) (f.st.apart ar bM) ((Q.below f.wB).apart ar bM) Q wu (aQ ⟨ab,rfl,ah⟩) W3 H h3 hf);clear ar bj XR bc I aw;have x3:=aj WI 3;go_wp2_with fail;refine Ip.mono ?_;rintro e w2 ⟨c9,rfl,ah,ZX⟩;clear x3;obtain⟨bb,aa,a5⟩:=fE (ZX.at (show w.heap.size+1≠g by have:=a6.out;omega) WI) (ZX.at (show w.heap.size≠g by have:=a6.out;omega) Mc) (uK w2 ZX ah c9);clear ah ZX WI Mc uK Ip;obtain⟨fl,bf⟩:=aV<|(gP<|jZ ds).length;rw[<-bf]at a5 ⊢;clear bf;obtain⟨x0,x1,x2,x3⟩:=xX bb;obtain⟨r0,r1,r2,r3⟩:=xX aa;obtain⟨y3,z0,z1,z2⟩:=rY (aF bb 3) (aF aa 0) (aF aa 1)<|aF aa 2;have z3:=aF aa 3;obtain⟨H,L⟩:=aV<|(((((w2.setCell (aN (w.heap.size+1) 3)<|Tc g fl c9).setCell (aN w.heap.size 0) (O R)).setCell (aN w.heap.size 1) (X sa ns sc)).setCell (aN w.heap.size 2) (X ap t D)).setCell (aN w.heap.size 3) (Tc g fl c9));obtain⟨-,-,-,i4,ho,p⟩:=a5 _ H rfl L;obtain⟨f0,f1,f2,f3⟩:=xX i4;obtain⟨HO,HB⟩:=bV ho p;clear ho p i4;go_wp2_with fail;rw[<-L];clear L;refine cZ (v:=.agg #[O R,X sa ns sc,X ap t D,(Tc g fl c9)]) (by simp[results,results25,go_sem,f0,f1,f2,f3]) rfl ?_;exact⟨_,_,_,rfl,Y ⟨by rw[am,a8];exact HO,HB⟩⟩
theorem akJ(q:∀(b off cap:Nat),vl=X (some<|aN b off) l.length cap->∀(i:Nat) (y:Mo) (vf:aC),l[i]?=some y->bJ w b (off+i*4+3)=some vf->uL vf)(r:jN w m vl l)(t:bK w W):∀(b off cap:Nat),vl=X (some<|aN b off) l.length cap->∀(i:Nat) (y:Mo) (vf:aC),l[i]?=some y->bJ W b (off+i*4+3)=some vf->uL vf:=λb off cap e i y vf d C=>by
 obtain⟨D,E,P,F,j,s,_,u⟩:=r;have f:=e;rw[j]at f;injection f with c G H;have z:0<l.length:=by have:=(cO.1 d).1;omega
 rw[s z]at c;injection c with c;injection c with o p;subst o p;obtain⟨S,U,Q,I,K,L,h,N⟩:=u i y d;have a:=aG h t;replace a:=C.symm.trans a;injection a with a;subst a;exact q _ _ _ e i y _ d h
theorem zR.below(a:zR w m vl l)(c:jN w m vl l)(d:bK w W):zR W m vl l:=⟨a.ok,akJ a.cap c d⟩
theorem ai7(m:Nat)(w:bI)(vl va vs:aC)(l:List Mo)(mod D:aS)(args:List Int)(store:List Ce)(fuel:Int)(hL:jN w m vl l)(ar:∀y∈l,xH m y<=1048576)(am:∀(b off cap:Nat),vl=X (some<|aN b off) l.length cap->∀(i:Nat) (y:Mo) (vf:aC),l[i]?=some y->w.cell? (aN b<|off+i*4+3)=some vf->uL vf)(hA:Ints w va args)(ai:∀x∈args,mq x)(hS:yI w vs store)(K:Tab w)(g:Nat)(hg:10000*(m+2)+m<=g):aD 8 #[vl,A mod,A D,va,vs,O fuel] w λe w'=>∃v1 v2 v3,e=dz (.tuple #[.agg #[O (Rn.run g m l mod D args store fuel).res,v1,v2,v3],O (Rn.run g m l mod D args store fuel).err])/\J (qN w' (Rn.run g m l mod D args store fuel) v1 v2 v3/\bK w w'):=by
 obtain⟨RR,ad⟩:=aV<|Rn.run g m l mod D args store fuel;rw[<-ad];have HR:=Y ad;clear ad;obtain⟨L,P⟩:=sO w<|aY #[O 0,aU,aU,aU] 39;obtain⟨N,Zf,a1,HA,aA,HS⟩:=vC hL ar am hA ai hS;obtain⟨HT,HG⟩:=bV K hg;obtain⟨W0,ae⟩:=aV<|w.alloc<|aY #[O 0,aU,aU,aU] 39;have a8:=Y ae;rw[<-ae]at L P;obtain⟨al,bl,ol,cl,ag,_⟩:=hL;obtain⟨aa,ba,oa,ca,ay,_⟩:=hA;obtain⟨bf,bs,os,cs,az,_⟩:=hS;generalize l.length=nl at ag;generalize args.length=na at ay;generalize store.length=bh at az;subst ag ay az;clear ae ar am ai K hg;go_enter func8,ntmps8;go_wp2_with fail;rw[<-a8];refine(ajz m W0 _ l (N.below L) Zf<|HT.below L).mono ?_;rintro e w1 ⟨rfl,I⟩;by_cases G:F6 m l=0
 ·have OH:=Y<|ah7 G
  have f:J (RR=if fuel<1\/10000<fuel then Rn.bad 1 else match Rn.tV l mod D with
   | none=>Rn.bad 4
   | some (a,k)=>Rn.out (mP store l l.length).1<|Rn.enter (Rn.M (mP store l l.length).1 l g) l a k args ⟨fuel.toNat,(mP store l l.length).2,[]⟩):=Y (by rw[HR,Rn.run,aI (by rw[G];simp)];rfl)
  rw[G];obtain⟨h,d⟩:=bV (up L I)<|(I.block _<|aR P).trans P;clear I G;by_cases hf:fuel<1\/10000<fuel
  ·rw[aK hf]at f;obtain⟨r0,r1,r2,r3⟩:=xX d;obtain⟨z0,z1,z2,z3⟩:=rY (aF d 0) (aF d 1) (aF d 2)<|aF d 3;have hcut:(decide (fuel<1)=true)\/(decide (fuel<1)=false/\decide (fuel > 10000)=true):=by
    rcases hf with F|F;·exact aO (by simpa using F)
    ·exact aQ ⟨by simp;omega,by simpa using F⟩
   rcases hcut with d1|⟨d1,d2⟩;all_goals go_wp2_with fail;obtain⟨r,q⟩:=aV<|((((w1.setCell (aN w.heap.size 0)<|O 0).setCell (aN w.heap.size 1) (aU)).setCell (aN w.heap.size 2) (aU)).setCell (aN w.heap.size 3) (aU));have j:=Gn d (O 0) (aU) (aU)<|aU;have s:J (bK w r):=Y (by rw[q];exact(((h.setCell cK _).setCell cK _).setCell cK _).setCell cK _);rw[<-q]at j ⊢;obtain⟨u,f1,f2,C⟩:=xX j;clear j;refine cZ (v:=.tuple #[.agg #[O 0,aU,aU,aU],O 1]) (by simp[results,results8,go_sem,u,f1,f2,C]) rfl ?_;exact⟨_,_,_,by rw[f];rfl,Y ⟨by rw[f];exact qN.bad _ _,s⟩⟩
  ·rw[aI hf]at f;have d1:decide (fuel<1)=false:=by simp;omega
   have d2:decide (fuel > 10000)=false:=by simp;omega
   obtain⟨E,ac⟩:∃n:Nat,fuel=n:=⟨fuel.toNat,by omega⟩;subst ac;have ac:E<=10000:=by omega
   rw[vQ]at f;go_wp2_with fail;refine(aeI m w1 _ l mod D<|N.below h).mono ?_;rintro e w2 ⟨a,k,rfl,hF⟩;obtain⟨HF,aE,a5⟩:=fE hF.out.1 (up h hF.2)<|(hF.2.block _<|aR d).trans d;clear hF d1 d2 hf;obtain⟨h,d⟩:=eY aE a5;cases hk:Rn.tV l mod D with
   | none =>rw[hk]at f;simp only at f;simp only[nE];obtain⟨r0,r1,r2,r3⟩:=xX d;obtain⟨z0,z1,z2,z3⟩:=rY (aF d 0) (aF d 1) (aF d 2)<|aF d 3;go_wp2_with fail;obtain⟨r,q⟩:=aV<|((((w2.setCell (aN w.heap.size 0)<|O 0).setCell (aN w.heap.size 1) (aU)).setCell (aN w.heap.size 2) (aU)).setCell (aN w.heap.size 3) (aU));have j:=Gn d (O 0) (aU) (aU)<|aU;have s:J (bK w r):=Y (by rw[q];exact(((h.setCell cK _).setCell cK _).setCell cK _).setCell cK _);rw[<-q]at j ⊢;obtain⟨u,f1,f2,C⟩:=xX j;clear j;refine cZ (v:=.tuple #[.agg #[O 0,aU,aU,aU],O 4]) (by simp[results,results8,go_sem,u,f1,f2,C]) rfl ?_;exact⟨_,_,_,by rw[f];rfl,Y ⟨by rw[f];exact qN.bad _ _,s⟩⟩
   | some p=>
    obtain⟨a',k'⟩:=p;rw[hk]at f;simp only at f;simp only[nD];obtain⟨rfl,rfl⟩:=HF a' k' hk;obtain⟨y,a9,hy,aq⟩:=aeV hk;have HY:=Y<|And.intro hy aq;clear hk hy aq;go_wp2_with fail;refine(agK m w2 _ _ l store E (N.below h) (HS.below h) ac OH.1 (λy hy=>(NS<|OH.2 y hy).1)).mono ?_;rintro e w3 ⟨rfl,ak⟩;obtain⟨c,Z,ao,af,bc,au,U⟩:=ak.out;obtain⟨Q,a0,wu⟩:=fE au U Z;have ET:J (∀z∈(mP store l l.length).1,z.1.size<=8/\z.2.size<=8):=Y (λz hz=>ajD OH.2 hz);obtain⟨st,ax⟩:=aV<|mP store l l.length;rw[<-ax]at Q ET f;rw[show w2.heap.size+1=c.p from ao.symm];have ah:=Y (ab6 w2 c st.1 l m (by rw[af];exact zR.below ⟨OH.2,a1⟩ N h) w3 ⟨E,st.2,[]⟩ a' k' _ args (by rw[Z];exact U) Z (by rw[af];exact N.below h) Q.ma y a9 HY.1 HY.2 ((HA.below h).below U) aA g (by have:=HG.out;have h2:E*(m+2)<=10000*(m+2):=qR _ ac;show E*(m+2)+m<=g;omega));obtain⟨o,hE⟩:=aV<|Rn.enter (Rn.M st.1 l g) l a' k' args ⟨E,st.2,[]⟩;have Ve:J (o.2.2.pr.length<=1048576):=Y (by have h1:=Nu (Ww st.1 l g) l a' k' args ⟨E,st.2,[]⟩;rw[<-hE]at h1;simp only[Ef]at h1;omega);rw[<-hE]at ah f;have a6:=Y<|(U.block _<|aR d).trans d;have V:w.heap.size<c.n:=by rw[Z];exact aR d
    clear ak Z ao af bc au U ax hE;go_wp2_with fail;refine ah.mono ?_;rintro e w4 ⟨rfl,S⟩;obtain⟨tQ,a4,Wh⟩:=fE S.out.1 (Q.vv.kp S.2.1 Q.ma bM bM bM)<|(S.2.1.below.block _ V).trans a6;have xU:J (bK w w4):=Y (h.trans<|(a0.trans (by rw[<-wu];exact S.2.1.below)).mono (by have:=wu.out;omega));clear S;obtain⟨h,d⟩:=eY xU Wh;by_cases he:o.2.1=0
    ·rw[he];unfold Rn.out at f;rw[aK he]at f;have MF:J (st.1.length<=1048576):=Y Q.out.small;have qL:=Y<|U0 w4 c st.1 o.2.2 o.1 tQ a4 ET MF Ve;have a3:J (VD RR):=Y (by
      rw[f];refine⟨λx hx=>?_,⟨?_,?_,?_⟩,λt K=>?_⟩;·simp only at hx;unfold Rn.TB at hx;obtain⟨⟨z,v⟩,hz,rfl⟩:=iZ.1 hx;exact tQ.val v (List.of_mem_zip hz).2
      ·simp only;unfold Rn.TB;rw[dV,He];have:=MF.out;omega
      ·have:=Ve.out;simp only;omega
      ·simp only;have h1:=adQ<|jZ<|Rn.did st.1 o.2.2.vs o.2.2.pr;rw[J2]at h1;have h2:(Rn.did st.1 o.2.2.vs o.2.2.pr).length<=2*(st.1.zip o.2.2.vs).length+o.2.2.pr.length:=by unfold Rn.did;rw[bg,dV];exact Nat.add_le_add_right (LD _) _
       rw[He]at h2;have:=Ve.out;have:=MF.out;omega
      ·simp only at K;rw[yY,vT]at K;exact bE (ab7 ET tQ.OE K) bM)
     go_wp2_with fail;refine qL.mono ?_;rintro e w5 ⟨v1,v2,v3,rfl,hO⟩;obtain⟨H,eD,a7⟩:=fE hO.out.1 (h.trans<|hO.2.mono (by have:=h.size;omega)) ((hO.2.block _<|aR d).trans d);obtain⟨x1,y1,rfl⟩:=H.st.form;obtain⟨x2,y2,rfl⟩:=H.pr.form;obtain⟨x3,n3,y3,rfl⟩:∃a n c,v3=X a n c:=by
      rcases H.di with⟨_,F⟩|⟨g',c',F,_⟩;·exact⟨_,_,_,F⟩
      ·exact⟨_,_,_,F⟩
     obtain⟨n1,av⟩:=aV<|(Rn.TB st.1 o.2.2.vs).length;obtain⟨n2,aw⟩:=aV o.2.2.pr.length;rw[<-av,<-aw]at H ⊢;rw[<-f]at H;clear hO av aw;obtain⟨h,d⟩:=eY eD a7;obtain⟨r0,r1,r2,r3⟩:=xX d;obtain⟨z0,z1,z2,z3⟩:=rY (aF d 0) (aF d 1) (aF d 2)<|aF d 3;go_wp2_with fail;obtain⟨r,q⟩:=aV<|((((w5.setCell (aN w.heap.size 0)<|O o.1).setCell (aN w.heap.size 1) (X x1 n1 y1)).setCell (aN w.heap.size 2) (X x2 n2 y2)).setCell (aN w.heap.size 3) (X x3 n3 y3));have j:=Gn d (O o.1) (X x1 n1 y1) (X x2 n2 y2)<|X x3 n3 y3;have s:J (bK w r):=Y (by rw[q];exact(((h.setCell cK _).setCell cK _).setCell cK _).setCell cK _);have a2:J (LC r c.n RR (X x1 n1 y1) (X x2 n2 y2)<|X x3 n3 y3):=Y (by rw[q];exact(((H.set V 0 _).set V 1 _).set V 2 _).set V 3 _);rw[<-q]at j ⊢;obtain⟨u,f1,f2,C⟩:=xX j;clear j;refine cZ (v:=.tuple #[.agg #[O o.1,X x1 n1 y1,X x2 n2 y2,X x3 n3 y3],O 0]) (by simp[results,results8,go_sem,u,f1,f2,C]) rfl ?_;exact⟨_,_,_,by rw[f],Y ⟨a2.out.out a3,s⟩⟩
    ·have be:=eO he;unfold Rn.out at f;rw[aI he]at f;obtain⟨ee,ab⟩:=aV o.2.1;rw[<-ab]at f be ⊢;clear ab he;obtain⟨r0,r1,r2,r3⟩:=xX d;obtain⟨z0,z1,z2,z3⟩:=rY (aF d 0) (aF d 1) (aF d 2)<|aF d 3;go_wp2_with fail;obtain⟨r,q⟩:=aV<|((((w4.setCell (aN w.heap.size 0)<|O 0).setCell (aN w.heap.size 1) (aU)).setCell (aN w.heap.size 2) (aU)).setCell (aN w.heap.size 3) (aU));have j:=Gn d (O 0) (aU) (aU)<|aU;have s:J (bK w r):=Y (by rw[q];exact(((h.setCell cK _).setCell cK _).setCell cK _).setCell cK _);rw[<-q]at j ⊢;obtain⟨u,f1,f2,C⟩:=xX j;clear j;refine cZ (v:=.tuple #[.agg #[O 0,aU,aU,aU],O ee]) (by simp[results,results8,go_sem,u,f1,f2,C]) rfl ?_;exact⟨_,_,_,by rw[f];rfl,Y ⟨by rw[f];exact qN.bad _ _,s⟩⟩
 ·have f:J (RR=Rn.bad (F6 m l)):=Y (by rw[HR,Rn.run,aK G]);have bb:=eO G;obtain⟨h,d⟩:=bV (up L I)<|(I.block _<|aR P).trans P;obtain⟨ee,ab⟩:=aV<|F6 m l;rw[<-ab]at f bb ⊢;clear I G ab;obtain⟨r0,r1,r2,r3⟩:=xX d;obtain⟨z0,z1,z2,z3⟩:=rY (aF d 0) (aF d 1) (aF d 2)<|aF d 3;go_wp2_with fail;obtain⟨r,q⟩:=aV<|((((w1.setCell (aN w.heap.size 0)<|O 0).setCell (aN w.heap.size 1) (aU)).setCell (aN w.heap.size 2) (aU)).setCell (aN w.heap.size 3) (aU));have j:=Gn d (O 0) (aU) (aU)<|aU;have s:J (bK w r):=Y (by rw[q];exact(((h.setCell cK _).setCell cK _).setCell cK _).setCell cK _);rw[<-q]at j ⊢;obtain⟨u,f1,f2,C⟩:=xX j;clear j;refine cZ (v:=.tuple #[.agg #[O 0,aU,aU,aU],O ee]) (by simp[results,results8,go_sem,u,f1,f2,C]) rfl ?_;exact⟨_,_,_,by rw[f];rfl,Y ⟨by rw[f];exact qN.bad _ _,s⟩⟩
