import Derived.Test.YtajaekfdcpjjfaaGreatDoorSZBW
import Derived.Test.YtajaekfdcpjjfaaGreatDoorSZRB
set_option maxHeartbeats 0
set_option maxRecDepth 99999
namespace Go.Proofs.YtajaekfdcpjjfaaGreatDoor
open Ck bS
open Go.Proofs.Tryz
open Go.RowKit Go.Maps Go.WideMaps
variable{w W x:bI}{n cap k m B i:Nat}{v v1 v2 v3:aC}
theorem U8(w:bI)(c:Nat):xO w (X none 0 c) []:=⟨none,0,0,c,rfl,λa=>aM a cK,by simp,λi y b=>by simp at b⟩
def MJ(w w':bI)(b:Ck.Fi)(v:Value):Prop:=∃a,xO w' v a/\(a=[]\/(a=b.1/\b.2.2=0/\b.2.1=[]))/\bK w w'
theorem agV(m:Nat)(w:bI)(q p o:aC)(ss:aJ)(G:Nat)(L:Nat->Nat)(Z:aL)(l:List Mo)(a:aS)(y:Strs w q ss)(hR:EX w p G L Z)(hK:xQ w m o l)(ad:∀x∈l,xH m x<=1048576)(ht:Tab w)(hn:a.size<=maxLen):aD 9 #[.agg #[q,p],o,A a] w λe w'=>∃v,e=dz v/\J (MJ w w' (Ck.an ⟨m,ss,G,L,Z,l⟩ a) v):=by
 obtain⟨c,z⟩:∃c,c=(⟨m,ss,G,L,Z,l⟩:Cx):=⟨_,rfl⟩;obtain⟨Zk,f⟩:=aV<|Ck.an c a;rw[<-z,<-f];obtain⟨u,r,F⟩:=Zk;have ah:J (∀wx,bK w wx->aD 39 #[.agg #[q,p],o,A a] wx λe w'=>∃b g,e=dz (.tuple #[.agg #[b,g],O F])/\J (xO w' b u/\jg w' g r/\bK wx w')):=Y (λwx hb=>by
  have h:=agF m wx q p o ss G L Z l a (Ck.uni ss l) (y.below hb) (hR.below hb) (hK.below hb) ad (ht.below hb) hn Ik;rw[<-z,<-f]at h;refine h.mono ?_;rintro e w' ⟨b,g,rfl,C⟩;have h1:=C.1;refine⟨b,g,rfl,Y ⟨?_,C.2.1,C.2.2⟩⟩;have h2:eZ Ht w' 0 35 6 b (Ck.an c a).1:=by rw[<-f];exact h1
  have h3:=amB (c:=c) h2;rw[<-f]at h3;exact h3)
 obtain⟨I,N,S⟩:=jc y;obtain⟨a1,b1,o1,P,lA,al,am,lC,e1,-⟩:=hR;obtain⟨a5,b5,f5,c5,U,-⟩:=hK;generalize ss.length=n0 at S;generalize l.length=n5 at U;subst S e1 U;clear y ad ht hn z f;obtain⟨iO,lH⟩:=Z6 w<|aY #[X I n0 N,X a1 G P] 25;obtain⟨LB,ab⟩:=aV w.heap.size;go_enter func9,ntmps9;go_upto_region 1 with fail;rw[<-ab]at lH ⊢;generalize w.alloc (aY #[X I n0 N,X a1 G P] 25)=W at *;clear ab;obtain⟨x0,x1⟩:=jv lH;go_wp2_with fail;refine(ah W iO).mono ?_;rintro e E ⟨b,g,rfl,d⟩;obtain⟨K,ae⟩:=bV d.out.1<|up iO d.2.2;obtain⟨sa,sb,so,sc,rfl,-⟩:=d.1;obtain⟨Q,db,ai,R,rfl,-⟩:=d.2.1;obtain⟨ns,ac⟩:=aV u.length;obtain⟨j,D⟩:=aV r.length;rw[<-ac]at K ⊢;rw[<-D];have TI:=Y D;clear d x0 x1 ac D;go_upto_region 2 with fail;obtain⟨V,H⟩:=Z6 E<|aY #[X sa ns sc,X Q j R] 64;obtain⟨s,ag⟩:=bV (up ae V)<|K.below V;obtain⟨AB,aa⟩:=aV E.heap.size;rw[<-aa]at H ⊢;generalize E.alloc (aY #[X sa ns sc,X Q j R] 64)=W3 at *;clear aa;obtain⟨z0,z1⟩:=jv H;by_cases hE:F=0
 ·subst hE;by_cases hd:j=0;·subst hd;have af:J (r=[]):=Y<|List.eq_nil_of_length_eq_zero TI.symm;go_wp2;go_ret;exact⟨_,rfl,Y ⟨u,ag,aQ ⟨rfl,rfl,af⟩,s⟩⟩
  ·have ak:(0:Int)<(j:Int):=by omega
   go_wp2;go_ret;exact⟨_,rfl,Y ⟨[],U8 _ _,aO rfl,s⟩⟩
 ·have hz:=eO hE;go_wp2;go_ret;exact⟨_,rfl,Y ⟨[],U8 _ _,aO rfl,s⟩⟩
theorem agW{E:aJ}{s:aS}(h:s∈E):decide (0<=dU E s)=true:=gW<|Fl.wD.2 h
theorem agX(w:bI)(e:Nat)(ev:aC)(b:aJ)(s:aS)(j:bJ w e 5=some ev)(d:Strs w ev b)(h:s∈b):aD 13 #[A s,gK e] w λg w'=>g=dz (.bool false)/\w'=w:=by have f:=Y<|kS w ev b s d;rw[agW h]at f;obtain⟨a,c,rfl⟩:=jc d;generalize b.length=n at *;clear d h;go_enter func13,ntmps13;go_wp2_with fail;refine f.mono ?_;rintro g w1 ⟨rfl,rfl⟩;go_wp2;go_ret;exact⟨rfl,rfl⟩
theorem acw(w:bI)(v:aC)(D:aJ)(e:Nat)(ev:aC)(d:aJ)(L:Strs w v D)(q:bJ w e 5=some ev)(r:Strs w ev d)(u:∀t∈D,t∈d):aD 45 #[v,.func (.func 13) #[] #[gK e]] w λp w'=>p=dz (O<|-1)/\w'=w:=by
 obtain⟨a,b,off,cap,rfl,g,N,Q,y⟩:=L;have F:=Y y;obtain⟨n,l⟩:=aV D.length;have H:=Y l;rw[<-l]at g N F ⊢;have G:=Y g;have I:=Y (λs (c:s∈D)=>agX w e ev d s q r<|u s c);clear y g q r u l Q;go_enter func45,ntmps45;go_wp2_with fail;go_loopw[5,8] (λ_ i wr=>∃j:Nat,j<=n/\i=O j/\J (wr=w)) (λ_ i _=>n - (intOf i).toNat);exact⟨0,bN _,rfl,Y rfl⟩
 obtain⟨j,S,rfl,f⟩:=hrel;obtain⟨U,E⟩:=aV wr;by_cases P:j<n
 ·obtain⟨s,c⟩:∃s,D[j]?=some s:=⟨_,aZ (by have:=H.out;omega)⟩;obtain rfl:=G bC;have h:=F j P;rw[show D.getD j ByteArray.empty=s by rw[List.getD,c];rfl]at h;have o:=Y<|I s<|dG c;have z:=f.out;rw[<-z]at h o;clear c z E;go_wp2_with fail;refine o.mono ?_;rintro p R ⟨rfl,C⟩;have K:J (R=w):=Y<|C.trans f;clear C h;go_wp2;go_roundw;exact⟨j+1,by omega,by go_num,K⟩;exact gV
 ·clear E;go_wp2;go_ret;exact⟨rfl,f⟩
theorem ajB(w:bI)(v:aC)(D:aJ)(d:Nat)(ev:aC)(b:aJ)(e:Strs w v D)(g:bJ w d 5=some ev)(h:Strs w ev b)(j:∀t∈D,t∈b):aD 12 #[v,.func (.func 13) #[] #[gK d]] w λf w'=>f=dz (.bool false)/\w'=w:=by have l:=Y<|acw w v D d ev b e g h j;obtain⟨a,c,rfl⟩:=jc e;generalize D.length=n at *;clear e g h j;go_enter func12,ntmps12;go_wp2_with fail;refine l.mono ?_;rintro f w1 ⟨rfl,rfl⟩;go_wp2;go_ret;exact⟨rfl,rfl⟩
theorem Ints.apD{a:Option Addr}{l:List Int}(c:Ints w (X a n cap) l)(q:k<=l.length):Ints w (X a k cap) (l.take k):=by
 obtain⟨s,b,off,u,e,h,z,o⟩:=c;injection e with f y g;subst f g;refine⟨a,b,off,cap,by rw[iA,Nat.min_eq_left q],λc=>h ?_,by rw[iA];omega,λj r d=>?_⟩;·rw[iA]at c;omega
 ·have p:j<k:=by have:=(cO.1 d).1;rw[iA]at this;omega
  rw[nM p]at d;exact o j r d
theorem xQ.caps{l:List Mo}(o:xQ w m v l):∀(b off cap:Nat),v=X (some<|aN b off) l.length cap->∀(i:Nat) (y:Mo) (vf:aC),l[i]?=some y->bJ w b (off+i*4+3)=some vf->uL vf:=λb off cap f i y vf e k3=>by
 obtain⟨u,z,K,C,g,p,_,r⟩:=o;have d:=f;rw[g]at d;injection d with c D E;have s:0<l.length:=by have:=(cO.1 e).1;omega
 rw[p s]at c;injection c with c;injection c with h j;subst h j;obtain⟨N,P,L,F,G,H,a,I,q⟩:=r i y e;replace a:=k3.symm.trans a;injection a with a;subst a;exact q.fus
theorem qN.amC{r:Rn.Fx}(f:qN w r v1 v2 v3):∃a1 a a2 b a3 c3,v1=X a1 r.TB.length a/\v2=X a2 r.pr.length b/\v3=X a3 r.did.length c3:=by obtain⟨⟨a1,_,_,a,c,_⟩,⟨a2,_,_,b,d,_⟩,⟨a3,_,_,c3,e,_⟩⟩:=f;exact⟨a1,a,a2,b,a3,c3,c,d,e⟩
section
variable {W : World} {B : Nat} {t : TypeId} {n : Int} {a1 a2 a3 : Option Addr} {n1 n2 n3 k1 k2 k3 : Nat}
theorem Gt{b q:Nat}{s:aS}(d:dR W B (.cells #[O n,X a1 n1 k1,X a2 n2 k2,X a3 n3 k3] t (0,0)))(a:W.cell? (aN b q)=some (A s)):b≠B:=λc=>by
 subst c;rw[aj d]at a;match q,a with
 | 0,a=>simp at a
 | 1,a=>simp at a
 | 2,a=>simp at a
 | 3,a=>simp at a
 | q+4,a=>simp at a
theorem Al{b q i:Nat}{v:aC}(e:b≠B)(a:bJ W b q=some v)(c:aC):(W.setCell (aN B i) c).cell? (aN b q)=some v:=by obtain⟨o,d⟩:∃o,W.heap[b]?=some o:=⟨_,Array.getElem?_eq_getElem<|eH _ _ a⟩;exact(jH<|(aX d e c).trans d.symm).trans a
theorem qh{b q:Nat}{v:aC}(a:b≠B)(g:bJ W b q=some v)(c d e f:aC):((((W.setCell (aN B 0) c).setCell (aN B 1) d).setCell (aN B 2) e).setCell (aN B 3) f).cell? (aN b q)=some v:=Al a (Al a (Al a (Al a g c) d) e) f
theorem acy{r:Rn.Fx}{v1 v2 v3:aC}(D:qN W r v1 v2 v3)(d:dR W B (.cells #[O n,X a1 n1 k1,X a2 n2 k2,X a3 n3 k3] t (0,0)))(l o p q:aC):qN ((((W.setCell (aN B 0) l).setCell (aN B 1) o).setCell (aN B 2) p).setCell (aN B 3) q) r v1 v2 v3:=by
 obtain⟨⟨R,y1,z1,w1,s,G,K,E⟩,⟨S,V,z2,P,u,H,L,F⟩,⟨U,Z,z3,Q,z,I,N,s3,f⟩⟩:=D;refine⟨⟨R,y1,z1,w1,s,G,K,λi y e=>?_⟩,⟨S,V,z2,P,u,H,L,λi y e=>?_⟩,⟨U,Z,z3,Q,z,I,N,s3,λj h=>?_⟩⟩;·obtain⟨g,b,c,C⟩:=E i y e;have a:=Gt d b;exact⟨g,qh a b _ _ _ _,qh a c _ _ _ _,qh a C _ _ _ _⟩
 ·obtain⟨b,c⟩:=F i y e;have a:=Gt d b;exact⟨qh a b _ _ _ _,qh a c _ _ _ _⟩
 ·exact qh (Gt d<|f j h) (f j h) _ _ _ _
end
theorem Vb(b:J (W.heap.size<=B))(a:J (bK W x)):J (bK W<|x.setCell (aN B i) v):=Y<|a.setCell (p:=(aN B i)) b v
theorem CS(m:Nat)(w:bI)(vn vl I va vs:aC)(ss:aJ)(G:Nat)(L:Nat->Nat)(Z:aL)(l:List Mo)(name:aS)(k:Int)(args:List Int)(store:List Ce)(hS:Strs w vn ss)(hR:EX w vl G L Z)(a:xQ w m I l)(am:∀x∈l,xH m x<=1048576)(hA:Ints w va args)(ay:∀x∈args,mq x)(ax:uL va)(a4:yI w vs store)(ht:Tab w)(o:Qo w)(hn:name.size<=maxLen):aD 3 #[.agg #[vn,vl],I,A name,O k,va,vs] w λc w'=>c=dz (.bool true)/\bK w w':=by
 obtain⟨h,ag⟩:∃h,h=Ck.an ⟨m,ss,G,L,Z,l⟩ name:=⟨_,rfl⟩;obtain⟨g,hg⟩:∃g,g=10000*(m+2)+m:=⟨_,rfl⟩;have br:=Y (λwx (b:bK w wx)=>acu wx (ht.below b)<|o.below b);have bs:J (∀wx,bK w wx->aD 9 #[.agg #[vn,vl],I,A name] wx λc w'=>∃v,c=dz v/\J (MJ wx w' h v)):=Y (λwx b=>by rw[ag];exact agV m wx vn vl I ss G L Z l name (hS.below b) (hR.below b) (a.below b) am (ht.below b) hn);have S9:J (∀(y:Sc) (r:Nat),h.2.2=0->h.2.1=[]->h.1[r]?=some y->y.bounds.length<=args.length->((Rn.run g m l name y.fn (args.take y.bounds.length) store 1000).err=0\/(Rn.run g m l name y.fn (args.take y.bounds.length) store 1000).err=6)/\∀t∈(Rn.run g m l name y.fn (args.take y.bounds.length) store 1000).did,t∈y.gY):=Y (λy r h0 h1 H b=>by rw[ag]at h0 h1 H;have s:=ajl h0 h1 H (args:=args.take y.bounds.length) (by rw[iA];omega) g store (fuel:=1000) bC;exact⟨s.1,s.2.1⟩);obtain⟨aa,ba,oa,ca,ea,bh⟩:=hA;have a6:=ax _ _ _ ea;have av:J (∀(y:Sc) (n:Nat) wx,n<=args.length->bK w wx->aD 11 #[I,A name,A y.fn,X aa n ca,vs,O 1000] wx λc w'=>∃v1 v2 v3,c=dz (.tuple #[.agg #[O (Rn.run g m l name y.fn (args.take n) store 1000).res,v1,v2,v3],O (Rn.run g m l name y.fn (args.take n) store 1000).err])/\J (qN w' (Rn.run g m l name y.fn (args.take n) store 1000) v1 v2 v3/\bK wx w')):=Y (λy n wx bA b =>ai7 m wx I _ vs l name y.fn (args.take n) store 1000 (a.mos.below b) am ((a.below b).caps) (Ints.apD (Ints.below ⟨aa,ba,oa,ca,rfl,bh⟩ b) bA) (λx z=>ay x<|N8 z) (a4.below b) (ht.below b) g bC);obtain⟨a0,c0,e0⟩:=jc hS;obtain⟨a1,b1,o1,c1,lA,b8,b9,lC,e1,-⟩:=hR;obtain⟨a5,b5,f5,c5,e5,-⟩:=a;obtain⟨b3,_,_,b4,es,-⟩:=a4;generalize ss.length=n0 at e0;generalize l.length=n5 at e5;generalize store.length=cb at es;obtain⟨na,be⟩:∃n,n=args.length:=⟨_,rfl⟩;rw[<-be]at ea a6 av S9;subst e0 e1 e5 ea es;clear am ht hn o ay ax bh be hg ag;obtain⟨iO,lH⟩:=Z6 w<|aY #[X a0 n0 c0,X a1 G c1] 25;obtain⟨LB,aA⟩:∃B,B=w.heap.size:=⟨_,rfl⟩;go_enter func3,ntmps3;go_upto_region 1 with fail;rw[<-aA]at lH ⊢;generalize w.alloc (aY #[X a0 n0 c0,X a1 G c1] 25)=W at *;clear aA;go_wp2_with fail;refine(br.out W iO.out).mono ?_;rintro c w1 ⟨rfl,ah⟩;obtain⟨ao,jG⟩:=bV (up iO.out ah)<|bH lH.out ah;clear ah;obtain⟨x0,x1⟩:=jv jG.out;go_wp2_with fail;refine(bs.out w1 ao.out).mono ?_;rintro c w2 ⟨v,rfl,WL⟩;obtain⟨S,b0,bf,a7⟩:=WL.out;obtain⟨bo,aq⟩:=bV bf<|up ao.out a7;obtain⟨sa,sb,so,sc,rfl,al,WM,bj⟩:=b0;obtain⟨ns,ak⟩:∃n,n=S.length:=⟨_,rfl⟩;rw[<-ak]at al WM ⊢;obtain⟨bq,bu,D8⟩:=fE al bj ak;clear WL bf a7 x0 x1 al bj ak;by_cases hs:ns=0;·subst hs;go_wp2;go_ret;exact⟨rfl,aq.out⟩
 ·have ad:0<ns:=by omega
  obtain rfl:=bq.out ad;have VX:J (S=h.1/\h.2.2=0/\h.2.1=[]):=Y (bo.out.elim (λs=>aM (by rw[D8.out,s];rfl) hs) id);have bY:((ns:Int)==0)=false:=by simp;omega
  obtain⟨r,hr⟩:∃r:Nat,r=Hy k ns:=⟨_,rfl⟩;have Mc:J (aD 10 #[O k,O ns] w2 λc w'=>c=dz (O (r:Nat))/\w'=w2):=Y (by rw[hr];exact acv w2 k ns ad WM);have bi:r<ns:=by rw[hr];exact agU ad
  obtain⟨y,H⟩:∃y,S[r]?=some y:=⟨_,aZ (by rw[<-D8.out];exact bi)⟩;obtain⟨vb,ve,g0,g1,g2,g3,g4,g5,a8,ai⟩:=bu.out r y H;have bk:=Y ai;have HY:J (h.1[r]?=some y):=Y (by rw[<-VX.out.1];exact H);obtain⟨eb,ec,rfl⟩:=jc ai;obtain⟨V,bc,rfl⟩:=a8.Hr;obtain⟨bn,ac⟩:∃n,n=y.bounds.length:=⟨_,rfl⟩;have bp:J (bn<=na->((Rn.run g m l name y.fn (args.take bn) store 1000).err=0\/(Rn.run g m l name y.fn (args.take bn) store 1000).err=6)/\∀t∈(Rn.run g m l name y.fn (args.take bn) store 1000).did,t∈y.gY):=Y (λs=>by have h3:=S9.out y r VX.out.2.1 VX.out.2.2 HY.out (by rw[<-ac];exact s);rw[<-ac]at h3;exact h3);rw[<-ac]at g3;generalize y.gY.length=en at *;have bL:(0:Int)<=(r:Int):=by omega
  have bS:(r:Int)<(ns:Int):=by omega
  clear ai a8 ac H hr ad hs WM;go_wp2_with fail;refine Mc.out.mono ?_;rintro c w3 ⟨rfl,b2⟩;subst b2;go_upto_region 7 with fail;obtain⟨ZA,N⟩:=Z6 w3<|aY #[A y.fn,O y.mask,O y.level,X V bn bc,O y.pc,X eb en ec] 35;obtain⟨ae,bv⟩:=bV (up aq.out ZA.out)<|bk.out.below ZA.out;obtain⟨C,az⟩:∃B,B=w3.heap.size:=⟨_,rfl⟩;rw[<-az]at N ⊢;generalize w3.alloc (aY #[A y.fn,O y.mask,O y.level,X V bn bc,O y.pc,X eb en ec] 35)=D at *;clear az g0 g1 g2 g3 g4 g5 bL bS bi bY;obtain⟨f0,-,-,f3⟩:=xX N.out;by_cases bz:na<bn
  ·have b7:(na:Int)<(bn:Int):=by omega
   go_wp2;go_ret;exact⟨rfl,ae.out⟩
  ·have bB:¬((na:Int)<(bn:Int)):=by omega
   have b6:bn<=ca:=by omega
   have af:=Y<|bp.out bC;have aw:=Y (λwx=>av.out y bn wx bC);obtain⟨R,aE⟩:∃R,R=Rn.run g m l name y.fn (args.take bn) store 1000:=⟨_,rfl⟩;rw[<-aE]at af aw;clear aE a6;go_upto_region 9 with fail;clear bz bB;go_cut [15,16]from 17 (λp c x=>∃OB v1 v2 v3,p=gK OB/\c=O R.err/\J (dR x OB (aY #[O R.res,v1,v2,v3] 39)/\qN x R v1 v2 v3/\bK D x));case first=>
    rename_i Q9 K9 h9 J9 L9 h8 h7;clear h9;have Aw:J (bK D D):=Y<|bQ _ _;have Vt:J (∀x,J (bK D x)->bJ x C 0=some (A y.fn)/\bJ x C 3=some (X V bn bc)):=Y (λx z=>⟨(aj (bH N.out z.out) 0).trans rfl,(aj (bH N.out z.out) 3).trans rfl⟩);clear f0 f3;refine dx [some false,some false,some false,some true,some false,some false,some true,some false,some false,some false,none,none,none,none,none,none,none] 15 (λx=>bJ x C 0=some (A y.fn)/\bJ x C 3=some (X V bn bc)) 7 dw dw (λ_ _ d _ _ s=>(by cases d<;>exact s)) (Vt.out _<|eG Aw) ?_;dsimp only[gB];repeat(first|(refine fO (v:=?_) dH ?_ ?_;rotate_left 1;(focus(intro w;go_simp;try(with_reducible rfl)));simp only[Act.put,dS,dY,eX])|(refine fP (v:=?_) dH ?_ ?_;rotate_left 1;(focus(intro w bx;obtain⟨q0,q1⟩:=bx;go_simp;try(with_reducible rfl)));simp only[Act.put,dS,dY,eX]))
    refine dW ?_;refine nG ?_;intro x z;have f:J (bK D x):=by rw[z];exact(by repeat(first|with_reducible exact Aw|with_reducible refine eG ?_))
    clear z;have Q:J (bK x x):=Y<|bQ _ _
    iterate 7 (
     all_goals rename World=>U
     all_goals first
      | refine aT (i:=16) (by decide +kernel) dH (λK a=>?_)
      | refine aT (i:=15) (by decide +kernel) dH (λK a=>?_)
      | refine aT (i:=14) (by decide +kernel) dH (λK a=>?_)
      | refine aT (i:=13) (by decide +kernel) dH (λK a=>?_)
      | refine aT (i:=12) (by decide +kernel) dH (λK a=>?_)
      | refine aT (i:=11) (by decide +kernel) dH (λK a=>?_)
      | refine aT (i:=10) (by decide +kernel) dH (λK a=>?_)
      | refine gG (i:=10) (k:=14) (by decide +kernel) dH dH (λK a=>?_) (λK a=>?_)
      | refine gG (i:=11) (k:=14) (by decide +kernel) dH dH (λK a=>?_) (λK a=>?_)
      | refine gG (i:=12) (k:=14) (by decide +kernel) dH dH (λK a=>?_) (λK a=>?_)
      | refine gG (i:=13) (k:=14) (by decide +kernel) dH dH (λK a=>?_) (λK a=>?_)
      | refine gG (i:=12) (k:=13) (by decide +kernel) dH dH (λK a=>?_) (λK a=>?_)
      | refine gG (i:=13) (k:=15) (by decide +kernel) dH dH (λK a=>?_) (λK a=>?_)
      | refine xC (i:=12) (j:=13) (k:=14) (by decide +kernel) dH dH dH (λK a=>?_) (λK a=>?_) (λK a=>?_)
     all_goals try(have o0:=(aj e.out 0).trans rfl;have o1:=(aj e.out 1).trans rfl;have o2:=(aj e.out 2).trans rfl;have o3:=(aj e.out 3).trans rfl;have z0:=aF e.out 0;have z1:=aF e.out 1;have z2:=aF e.out 2;have z3:=aF e.out 3)
     all_goals go_simp
     all_goals first
      | (go_at_call 11;refine(aw.out _<|up ae.out<|gT<|by repeat(first|with_reducible exact f|with_reducible refine eG ?_|with_reducible refine jU ?_)).mono ?_;rintro c u ⟨v1,v2,v3,rfl,hh⟩;obtain⟨F,b⟩:=hh.out;have q:J (bK U u):=Y (up (gT<|by repeat(first|with_reducible exact Q|with_reducible refine eG ?_|with_reducible refine jU ?_)) b);obtain⟨p1,d1,p2,d2,p3,d3,rfl,rfl,rfl⟩:=F.amC;have E:=Y F;clear hh F b)
      | skip
     all_goals(
      try(replace f:=Y<|up f.out q.out;(try replace e:=Y<|bH e.out q.out);clear q;replace Q:J (bK u u):=Y<|bQ _ _;dsimp only)
      with_reducible refine a.out _ _ (λ_=>Vt.out _<|by repeat(first|with_reducible exact f|with_reducible refine eG ?_|with_reducible refine jU ?_|with_reducible refine Vb au ?_)) ?_
      clear a K
      have bm:=Y f.out.size
      rename World=>U
      refine nG ?_
      intro u P
      first
       | (have q:J (bK U u):=?h1;(case h1=>(rw[P];repeat(first|with_reducible exact Q|with_reducible refine eG ?_|with_reducible refine jU ?_)));replace f:=Y<|up f.out q.out;(try replace e:=Y<|bH e.out q.out);(try replace HF:=Y<|bH HF.out q.out);(try replace E:=Y<|E.out.below q.out);(first|(have e:J (dR u U.heap.size<|aY #[O 0,aU,aU,aU] 39):=Y (by rw[P];with_reducible(first|exact EK _ _ rfl|exact Ll<|EK _ _ rfl));have au:=bm)|skip);clear q)
       | (replace f:J (bK D u):=(by rw[P];exact(by repeat(first|with_reducible exact f|with_reducible refine eG ?_|with_reducible refine jU ?_|with_reducible refine Vb au ?_)));have HF:=Y<|DF e.out (O R.res) (X p1 R.TB.length d1) (X p2 R.pr.length d2)<|X p3 R.did.length d3;replace E:=Y<|acy E.out e.out (O R.res) (X p1 R.TB.length d1) (X p2 R.pr.length d2)<|X p3 R.did.length d3;rw[<-P]at HF E;clear e o0 o1 o2 o3 z0 z1 z2 z3)
      clear P
      try clear o0 o1 o2 o3 z0 z1 z2 z3
      replace Q:J (bK u u):=Y<|bQ _ _))
    all_goals(refine dP dw ?_ _;go_wp2;go_meet;exact⟨_,_,_,_,rfl,rfl,Y ⟨HF.out,E.out,f.out⟩⟩)
   case rest=>
    obtain⟨OB,v1,v2,v3,rfl,rfl,a9⟩:=hcut;obtain⟨hO,F,ab⟩:=a9.out;have o3:=aj hO 3;have bw:=Y<|bv.out.below ab;have lG:J (aD 12 #[v3,.func (.func 13) #[] #[gK C]] wc λc w'=>c=dz (.bool false)/\w'=wc):=Y<|ajB wc v3 R.did C _ y.gY F.2.2 ((aj (bH N.out ab) 5).trans rfl) bw.out af.out.2;have ar:=Y<|up ae.out ab;have o:=af.out.1;clear a9 hO F ab f0 f3;rcases o with o|o;·rw[o];clear o;go_wp2_with fail;refine lG.out.mono ?_;rintro c w9 ⟨rfl,rfl⟩;go_wp2;go_ret;exact⟨rfl,ar.out⟩
    ·rw[o];clear o;go_wp2;go_ret;exact⟨rfl,ar.out⟩
