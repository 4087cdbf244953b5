import Derived.Test.YtiebmbnfedbdeaaGreatDoorTZGF
import Derived.Test.YtiebmbnfedbdeaaGreatDoorTBE
set_option maxHeartbeats 0
set_option maxRecDepth 99999
namespace Go.Proofs.YtiebmbnfedbdeaaGreatDoor
open Ck bS
open Go.Proofs.Tryz
open Go.RowKit Go.Maps Go.WideMaps
variable{w w' W:bI}{fn name:aS}{i1 i2 i3:Int}{ba ea a:Option Addr}{bn bc en ec b off cap B:Nat}
def at5(w w':bI)(c:Ck.Fi)(d:Ending):Prop:=
 ∃(fn:aS) (i1 i2:Int) (ba:Option Addr) (bn bc:Nat) (i3:Int) (ea:Option Addr) (en ec:Nat) (ok:Bool),d=.returned (.tuple #[.agg #[.string fn,.int .i64 i1,.int .i64 i2,.slice ba bn bc,.int .i64 i3,.slice ea en ec],.bool ok])/\(ok=true->c.2.2=0/\c.2.1=[]/\∃(r:Nat) (y:Sc),c.1[r]?=some y/\fn=y.fn/\i3=y.pc/\Ints w' (.slice ba bn bc) y.bounds/\Strs w' (.slice ea en ec) y.gY)/\bK w w'
theorem at5.no{c:Ck.Fi}(e:bK w w'):at5 w w' c (dz<|.tuple #[.agg #[A fn,O i1,O i2,X ba bn bc,O i3,X ea en ec],.bool false]):=by refine⟨_,_,_,_,_,_,_,_,_,_,false,rfl,λd=>?_,e⟩;cases d
theorem aur{v:aC}{l:List Sc}(o:eZ Ht w 0 35 6 v l)(m:v=X a l.length cap)(p:0<l.length->a=some (aN b off))(i:Nat)(y:Sc)(k:l[i]?=some y):∃e f,bJ w b (off+i*6)=some (A y.fn)/\bJ w b (off+i*6+1)=some (O y.mask)/\bJ w b (off+i*6+2)=some (O y.level)/\bJ w b (off+i*6+3)=some e/\bJ w b (off+i*6+4)=some (O y.pc)/\bJ w b (off+i*6+5)=some f/\dJ w e y.bounds/\pJ w 0 f y.gY:=by obtain⟨g,z,h,c,_,t,e,f,s,r,u⟩:=o.get k;rw[m,p (by have:=(cO.1 k).1;omega)]at h;injection h with d;injection d with d;injection d with d n;subst d n;have q:=λj x=>t j x;rw[s]at q;rw[d9];exact⟨e,f,q 0 bM,q 1 bM,q 2 bM,q 3 bM,q 4 bM,q 5 bM,r,u⟩
theorem aus{c:Cx}{y:Sc}(d:y∈(Ck.an c name).1):(∀u∈y.gY,u.size<=maxLen)/\y.gY.length<=1048576:=by
 by_cases f:nN (dD c.ss c.G c.L c.Z) c.m c.l=0;·have e:=Ik f;exact⟨λu g=>e.size u<|(Ii e y d).1 u g,bE (Ii e y d).2 e.len⟩
 ·unfold Ck.an at d;rw[aK f]at d;cases d
theorem aug{t:TypeId}{cs:Array aC}(e:dR W B (.cells cs t (0,0)))(c d f g h i:aC):mV t W ((((((W.setCell (aN B 0) c).setCell (aN B 1) d).setCell (aN B 2) f).setCell (aN B 3) g).setCell (aN B 4) h).setCell (aN B 5) i):=
 (((((mV.set e c).trans (mV.set (aP e 0 c) d)).trans (mV.set (aP (aP e 0 c) 1 d) f)).trans (mV.set (aP (aP (aP e 0 c) 1 d) 2 f) g)).trans (mV.set (aP (aP (aP (aP e 0 c) 1 d) 2 f) 3 g) h)).trans (mV.set (aP (aP (aP (aP (aP e 0 c) 1 d) 2 f) 3 g) 4 h) i)
theorem auh(m:Nat)(w:bI)(vn vl vk:aC)(ss:aJ)(G:Nat)(L:Nat->Nat)(Z:aL)(l:List Mo)(name:aS)(k:Int)(hS:Strs w vn ss)(hR:EX w vl G L Z)(hK:xQ w m vk l)(ar:∀x∈l,xH m x<=1048576)(ht:Tab w)(hn:name.size<=maxLen):aD 14 #[.agg #[vn,vl],vk,A name,O k] w λe w'=>at5 w w' (Ck.an ⟨m,ss,G,L,Z,l⟩ name) e:=by
 obtain⟨c,hc⟩:∃c,c=(⟨m,ss,G,L,Z,l⟩:Cx):=⟨_,rfl⟩;obtain⟨Zk,R⟩:=aV<|Ck.an c name;rw[<-hc,<-R];obtain⟨P,DA,EA⟩:=Zk;have a2:J (∀wx,bK w wx->aD 20 #[.agg #[vn,vl],vk,A name] wx λe w'=>∃N vd,e=dz (.tuple #[.agg #[N,vd],O EA])/\J (xO w' N P/\jg w' vd DA/\bK wx w'/\eZ Ht w' 0 35 6 N P)):=Y (λwx K=>by
  have h:=agF m wx vn vl vk ss G L Z l name (Ck.uni ss l) (hS.below K) (hR.below K) (hK.below K) ar (ht.below K) hn Ik;rw[<-hc,<-R]at h;refine h.mono ?_;rintro e w' ⟨N,vd,rfl,hh⟩;have h1:=hh.1;refine⟨N,vd,rfl,Y ⟨?_,hh.2.1,hh.2.2,h1⟩⟩;have h2:eZ Ht w' 0 35 6 N (Ck.an c name).1:=by rw[<-R];exact h1
  have h3:=amB (c:=c) h2;rw[<-R]at h3;exact h3)
 have az:J (∀y∈P,(∀u∈y.gY,u.size<=maxLen)/\y.gY.length<=1048576):=Y (λy C=>aus (c:=c) (name:=name) (by rw[<-R];exact C));obtain⟨a0,c0,e0⟩:=jc hS;obtain⟨a1,b1,o1,c1,lA,bq,br,lC,e1,-⟩:=hR;obtain⟨a5,b5,z,c5,e5,-⟩:=hK;generalize ss.length=n0 at e0;generalize l.length=n5 at e5;subst e0 e1 e5;clear hS ar ht hn hc R;obtain⟨W,hW,k0,k1,bf,aq⟩:=AL w (aY #[X a0 n0 c0,X a1 G c1] 25)<|aY #[A ⟨#[]⟩,O 0,O 0,aU,O 0,aU] 35;obtain⟨x0,x1⟩:=jv k0;obtain⟨iO,jG⟩:=bV aq k1;obtain⟨RB,ae⟩:=aV<|w.heap.size+1;have ab:J (w.heap.size<=RB):=Y bC;clear k0 k1 bf aq;go_enter func14,ntmps14;go_upto_region 1 with fail;rw[<-hW,<-ae];rw[<-ae]at jG;clear hW ae;go_wp2_with fail;refine(a2 W iO).mono ?_;rintro e g ⟨N,vd,rfl,D⟩;obtain⟨bm,ax,IJ⟩:=fE D.out.1 (up iO D.2.2.1)<|bH jG D.2.2.1;obtain⟨p,S,U,q,rfl,ah,WM,be⟩:=D.1;obtain⟨da,db,bo,j,rfl,-⟩:=D.2.1;obtain⟨al,aE⟩:=bV ah<|aur D.2.2.2 rfl ah;obtain⟨ns,ag⟩:=aV P.length;obtain⟨d,af⟩:=aV DA.length;rw[<-ag]at al WM ⊢;rw[<-af];obtain⟨D8,TI,a4⟩:=fE ag af WM;clear D x0 x1 ag af ah be WM;go_upto_region 2 with fail;obtain⟨n,ak⟩:=Z6 g<|aY #[X p ns q,X da d j] 71;obtain⟨f,aa⟩:=bV (bH IJ n)<|up ax n;have a3:J (∀(i:Nat) y,P[i]?=some y->∃(ba:Option Addr) (bn bc:Nat) (ea:Option Addr) (en ec:Nat),(g.alloc<|aY #[X p ns q,X da d j] 71).cell? (aN S<|U+i*6)=some (A y.fn)/\(g.alloc<|aY #[X p ns q,X da d j] 71).cell? (aN S<|U+i*6+1)=some (O y.mask)/\(g.alloc<|aY #[X p ns q,X da d j] 71).cell? (aN S<|U+i*6+2)=some (O y.level)/\(g.alloc<|aY #[X p ns q,X da d j] 71).cell? (aN S<|U+i*6+3)=some (X ba bn bc)/\(g.alloc<|aY #[X p ns q,X da d j] 71).cell? (aN S<|U+i*6+4)=some (O y.pc)/\(g.alloc<|aY #[X p ns q,X da d j] 71).cell? (aN S<|U+i*6+5)=some (X ea en ec)/\J (dJ (g.alloc<|aY #[X p ns q,X da d j] 71) (X ba bn bc) y.bounds/\pJ (g.alloc<|aY #[X p ns q,X da d j] 71) 0 (X ea en ec) y.gY)):=Y (λi y C=>by obtain⟨vb,ve,V,g1,g2,g3,g4,g5,K,he⟩:=aE i y C;obtain⟨ba,bc,rfl⟩:=K.form;obtain⟨ea,ec,rfl⟩:=he.form;exact⟨_,_,_,_,_,_,aG V n,aG g1 n,aG g2 n,aG g3 n,aG g4 n,aG g5 n,Y ⟨K.below n,he.below n⟩⟩);obtain⟨AB,ao⟩:=aV g.heap.size;rw[<-ao]at ak ⊢;generalize g.alloc (aY #[X p ns q,X da d j] 71)=Q at *;clear ao;obtain⟨z0,z1⟩:=jv ak;obtain⟨r0,r1,r2,r3,r4,r5⟩:=ZC6 f;obtain⟨q0,q1,q2,q3⟩:=rY (aF f 0) (aF f 1) (aF f 2)<|aF f 3;obtain⟨q4,q5⟩:=eY (aF f 4)<|aF f 5;by_cases hE:EA=0
 ·subst hE;by_cases hd:d=0
  ·by_cases o:ns=0;·subst hd o;go_wp2_with fail;have o:=EC f (A ⟨#[]⟩) (O 0) (O 0) (aU) (O 0)<|aU;obtain⟨E,f1,F,H,I,z⟩:=ZC6 o;refine cZ (v:=.tuple #[.agg #[A ⟨#[]⟩,O 0,O 0,aU,O 0,aU],.bool false]) (by simp[results,results14,go_sem,E,f1,F,H,I,z]) rfl ?_;exact at5.no<|Lg aa ab _ _ _ _ _ _
   ·have ac:0<ns:=by omega
    obtain rfl:=al ac;have ay:J (DA=[]):=Y (List.eq_nil_of_length_eq_zero (by rw[<-TI];exact hd));subst hd;have a9:((ns:Int)==0)=false:=by simp;omega
    have bb:¬((ns:Int)=0):=by omega
    go_upto_region 4 with fail;clear a9 bb o;obtain⟨r,hr⟩:∃r:Nat,r=Hy k ns:=⟨_,rfl⟩;have Mc:J (∀k' os,aD 7 #[O k,O ns] (gn Q k' os) λe w'=>e=dz (O (r:Nat))/\Below (gn Q k' os).heap.size (gn Q k' os) w'):=Y (λk' os=>by rw[hr];exact(acv (gn Q k' os) k ns ac a4).mono λe w' h=>⟨h.1,by rw[h.2];exact bQ _ _⟩);have a8:r<ns:=by rw[hr];exact agU ac
    obtain⟨y,C⟩:∃y,P[r]?=some y:=⟨_,aZ (by rw[<-D8];exact a8)⟩;obtain⟨ba,bn,bc,ea,en,ec,V,g1,g2,g3,g4,g5,av⟩:=a3 r y C;obtain⟨aA,ai⟩:=bV C<|az y<|dG C;have am:=av;replace V:=bD V;replace g1:=bD g1;replace g2:=bD g2;replace g3:=bD g3;replace g4:=bD g4;replace g5:=bD g5;have bj:=bD z0;have a6:(0:Int)<=(r:Int):=by omega
    have a7:(r:Int)<(ns:Int):=by omega
    clear av hr C z0 z1 r0 r1 r2 r3 r4 r5 q0 q1 q2 q3 q4 q5;refine gq 9 dw dw ?_;dsimp only[List.take,List.drop];repeat(quiet_step ((exact Calls.oZ<|Mc.out _ _)))
    refine wpQuiet_nil ?_;intro w6 bh;obtain⟨⟨nq,bi⟩,aw⟩:=bh;have ad:J (bK Q w6):=Y (by rw[aw];exact bU Q nq bi);clear aw V g1 g2 g3 g4 g5 bj a6 a7;obtain⟨s,fD⟩:=bV (bH f.out ad.out)<|up aa.out ad.out;obtain⟨r0,r1,r2,r3,r4,r5⟩:=ZC6 s.out;obtain⟨q0,q1,q2,q3⟩:=rY (aF s.out 0) (aF s.out 1) (aF s.out 2)<|aF s.out 3;obtain⟨q4,q5⟩:=eY (aF s.out 4)<|aF s.out 5;go_wp2_with fail;have o:=EC s.out (A y.fn) (O y.mask) (O y.level) (X ba bn bc) (O y.pc)<|X ea en ec;obtain⟨E,f1,F,H,I,z⟩:=ZC6 o;refine cZ (v:=.tuple #[.agg #[A y.fn,O y.mask,O y.level,X ba bn bc,O y.pc,X ea en ec],.bool true]) (by simp[results,results14,go_sem,E,f1,F,H,I,z]) rfl ?_;have au:=(mV.below (t:=35) ad.out).trans (aug s.out (A y.fn) (O y.mask) (O y.level) (X ba bn bc) (O y.pc)<|X ea en ec);exact⟨_,_,_,_,_,_,_,_,_,_,_,rfl,λ_=>⟨rfl,ay.out,r,y,aA.out,rfl,rfl,(am.out.1.st au bM).ints,(am.out.2.st au bM).strs ai.out.1 (by have:=ai.out.2;omega)⟩,Lg fD.out ab.out _ _ _ _ _ _⟩
  ·have bp:(0:Int)<(d:Int):=by omega
   go_wp2_with fail;have o:=EC f (A ⟨#[]⟩) (O 0) (O 0) (aU) (O 0)<|aU;obtain⟨E,f1,F,H,I,z⟩:=ZC6 o;refine cZ (v:=.tuple #[.agg #[A ⟨#[]⟩,O 0,O 0,aU,O 0,aU],.bool false]) (by simp[results,results14,go_sem,E,f1,F,H,I,z]) rfl ?_;exact at5.no<|Lg aa ab _ _ _ _ _ _
 ·have hz:=eO hE;go_wp2_with fail;have o:=EC f (A ⟨#[]⟩) (O 0) (O 0) (aU) (O 0)<|aU;obtain⟨E,f1,F,H,I,z⟩:=ZC6 o;refine cZ (v:=.tuple #[.agg #[A ⟨#[]⟩,O 0,O 0,aU,O 0,aU],.bool false]) (by simp[results,results14,go_sem,E,f1,F,H,I,z]) rfl ?_;exact at5.no<|Lg aa ab _ _ _ _ _ _
def auN(ss:List aS)(Z:Nat->Nat->Bool)(y:Sc)(R:Rn.Fx):Prop:=(R.err=0\/R.err=6)/\(∀t∈R.did,t∈y.gY)/\∀p∈R.pr,0<=dU ss p.1/\dU ss p.1<ss.length/\Z y.pc.toNat (dU ss p.1).toNat=true
theorem atX(m:Nat)(w:bI)(vn vl vk va vs:aC)(ss:aJ)(G:Nat)(L:Nat->Nat)(Z:aL)(l:List Mo)(name:aS)(k:Int)(args:List Int)(store:List Ce)(hS:Strs w vn ss)(hR:EX w vl G L Z)(c:xQ w m vk l)(a2:∀x∈l,xH m x<=1048576)(hA:Ints w va args)(bk:∀x∈args,mq x)(bj:uL va)(br:yI w vs store)(D:Tab w)(C:Qo w)(hn:name.size<=maxLen):aD 4 #[.agg #[vn,vl],vk,A name,O k,va,vs] w λe w'=>e=dz (.bool true)/\bK w w':=by
 obtain⟨Zk,ak⟩:∃Zk,Zk=Ck.an ⟨m,ss,G,L,Z,l⟩ name:=⟨_,rfl⟩;obtain⟨g,hg⟩:∃g,g=10000*(m+2)+m:=⟨_,rfl⟩;have cr:=Y (λwx (f:bK w wx)=>auf wx (D.below f)<|C.below f);have ct:J (∀wx,bK w wx->aD 14 #[.agg #[vn,vl],vk,A name,O k] wx λe w'=>at5 wx w' Zk e):=Y (λwx f=>by rw[ak];exact auh m wx vn vl vk ss G L Z l name k (hS.below f) (hR.below f) (c.below f) a2 (D.below f) hn);have S9:J (∀(y:Sc) (r:Nat),Zk.2.2=0->Zk.2.1=[]->Zk.1[r]?=some y->y.bounds.length<=args.length->dD ss G L Z=0/\(0<=y.pc/\y.pc<ss.length)/\auN ss Z y (Rn.run g m l name y.fn (args.take y.bounds.length) store 800)):=Y (λy r z h1 hy f=>by rw[ak]at z h1 hy;have I:=ajl z h1 hy (args:=args.take y.bounds.length) (by rw[iA];omega) g store (fuel:=800) bC;have h2:=auL z h1 hy;exact⟨h2.1,h2.2,I.1,I.2.1,I.2.2.1⟩);obtain⟨aa,ba,oa,ca,ea,b8⟩:=hA;have bu:=bj _ _ _ ea;have bf:J (∀(y:Sc) (n:Nat) wx,n<=args.length->bK w wx->aD 8 #[vk,A name,A y.fn,X aa n ca,vs,O 800] wx λe w'=>∃Q S v3,e=dz (.tuple #[.agg #[O (Rn.run g m l name y.fn (args.take n) store 800).res,Q,S,v3],O (Rn.run g m l name y.fn (args.take n) store 800).err])/\J (qN w' (Rn.run g m l name y.fn (args.take n) store 800) Q S v3/\bK wx w')):=Y (λy n wx cC f =>ai7 m wx vk _ vs l name y.fn (args.take n) store 800 (c.mos.below f) a2 ((c.below f).caps) (Ints.apD (Ints.below ⟨aa,ba,oa,ca,rfl,b8⟩ f) cC) (λx N=>bk x<|N8 N) (br.below f) (D.below f) g bC);obtain⟨gI,cl⟩:=bV hS hR;obtain⟨a0,c0,e0⟩:=jc hS;obtain⟨a1,b1,o1,c1,lA,b9,cb,lC,e1,b2,-,-,b6,b7⟩:=hR;obtain⟨jD,cn,co⟩:=fE b2 b6 b7;obtain⟨a5,b5,f5,c5,e5,-⟩:=c;obtain⟨cG,_,_,cJ,es,-⟩:=br;obtain⟨n0,aw⟩:∃n,n=ss.length:=⟨_,rfl⟩;rw[<-aw]at e0;generalize l.length=n5 at e5;generalize store.length=cT at es;obtain⟨na,bS⟩:∃n,n=args.length:=⟨_,rfl⟩;rw[<-bS]at ea bu bf S9;subst e0 e1 e5 ea es;clear a2 D hn C bk bj b8 bS hg ak aw hS b2 b6 b7;obtain⟨iO,lH⟩:=Z6 w<|aY #[X a0 n0 c0,X a1 G c1] 25;obtain⟨LB,bo⟩:∃B,B=w.heap.size:=⟨_,rfl⟩;go_enter func4,ntmps4;go_upto_region 1 with fail;rw[<-bo]at lH ⊢;generalize w.alloc (aY #[X a0 n0 c0,X a1 G c1] 25)=W at *;clear bo;go_wp2_with fail;refine(cr.out W iO.out).mono ?_;rintro e w1 ⟨rfl,am⟩;obtain⟨a3,jG⟩:=bV (up iO.out am)<|bH lH.out am;clear am;obtain⟨x0,x1⟩:=jv jG.out;go_wp2_with fail;refine(ct.out w1 a3.out).mono ?_;rintro e w2 ⟨fn,i1,i2,bb,bn,bc,i3,eb,en,ec,ok,rfl,bY,ao⟩;obtain⟨OH,cc,IJ⟩:=fE bY (up a3.out ao)<|bH jG.out ao;clear bY ao x0 x1;go_upto_region 4 with fail;obtain⟨ZA,V⟩:=Z6 w2<|aY #[A fn,O i1,O i2,X bb bn bc,O i3,X eb en ec] 35;obtain⟨ab,a7⟩:=bV (up cc.out ZA.out)<|bH IJ.out ZA.out;obtain⟨FB,bm⟩:∃B,B=w2.heap.size:=⟨_,rfl⟩;rw[<-bm]at V ⊢;obtain⟨W3,bs⟩:∃W,W=w2.alloc (aY #[A fn,O i1,O i2,X bb bn bc,O i3,X eb en ec] 35):=⟨_,rfl⟩;rw[<-bs]at ZA V ab a7 ⊢;clear bm bs;obtain⟨f0,-,-,f3⟩:=xX V.out;cases ok with
 | false =>go_wp2;go_ret;exact⟨rfl,ab.out⟩
 | true=>
  obtain⟨z,h1,r,y,hy,rfl,rfl,bv,ar⟩:=OH.out rfl;have cu:=Y<|ar.below ZA.out;have aq:bn=y.bounds.length:=by obtain⟨_,_,_,_,e,_⟩:=bv;injection e
  have cy:en=y.gY.length:=by obtain⟨_,_,_,_,e,_⟩:=ar;injection e
  have cm:J (bn<=na->dD ss G L Z=0/\(0<=y.pc/\y.pc<ss.length)/\auN ss Z y (Rn.run g m l name y.fn (args.take bn) store 800)):=Y (λI=>by have h3:=S9.out y r z h1 hy (by rw[<-aq];exact I);rw[<-aq]at h3;exact h3);clear bv ar aq cy hy z h1;by_cases cA:na<bn
  ·have cS:(na:Int)<(bn:Int):=by omega
   go_wp2;go_ret;exact⟨rfl,ab.out⟩
  ·have cD:¬((na:Int)<(bn:Int)):=by omega
   have cQ:bn<=ca:=by omega
   have be:=Y<|cm.out bC;have bh:=Y (λwx=>bf.out y bn wx bC);obtain⟨R,bq⟩:∃R,R=Rn.run g m l name y.fn (args.take bn) store 800:=⟨_,rfl⟩;rw[<-bq]at be bh;clear bq bu;go_upto_region 6 with fail;clear cA cD;go_cut [15,16]from 23 (λp e x=>∃OB Q S v3,p=gK OB/\e=O R.err/\J (dR x OB (aY #[O R.res,Q,S,v3] 39)/\qN x R Q S v3/\bK W3 x));case first=>
    rename_i Q9 K9 h9 J9 L9 h8 h7;clear h9;have Aw:J (bK W3 W3):=Y<|bQ _ _;have Vt:J (∀x,J (bK W3 x)->bJ x FB 0=some (A y.fn)/\bJ x FB 3=some (X bb bn bc)):=Y (λx N=>⟨(aj (bH V.out N.out) 0).trans rfl,(aj (bH V.out N.out) 3).trans rfl⟩);clear f0 f3;refine dx [some false,some false,some false,some true,some false,some false,some true,some false,some false,some false,none,none,none,none,none,none,none] 15 (λx=>bJ x FB 0=some (A y.fn)/\bJ x FB 3=some (X bb bn bc)) 7 dw dw (λ_ _ d _ _ I=>(by cases d<;>exact I)) (Vt.out _<|eG Aw) ?_;dsimp only[gB];repeat(first|(refine fO (v:=?_) dH ?_ ?_;rotate_left 1;(focus(intro w;go_simp;try(with_reducible rfl)));simp only[Act.put,dS,dY,eX])|(refine fP (v:=?_) dH ?_ ?_;rotate_left 1;(focus(intro w cx;obtain⟨q0,q1⟩:=cx;go_simp;try(with_reducible rfl)));simp only[Act.put,dS,dY,eX]))
    refine dW ?_;refine nG ?_;intro x N;have o:J (bK W3 x):=by rw[N];exact(by repeat(first|with_reducible exact Aw|with_reducible refine eG ?_))
    clear N;have H0:J (bK x x):=Y<|bQ _ _
    iterate 7 (
     all_goals rename World=>KE
     all_goals first
      | refine aT (i:=16) (by decide +kernel) dH (λK c=>?_)
      | refine aT (i:=15) (by decide +kernel) dH (λK c=>?_)
      | refine aT (i:=14) (by decide +kernel) dH (λK c=>?_)
      | refine aT (i:=13) (by decide +kernel) dH (λK c=>?_)
      | refine aT (i:=12) (by decide +kernel) dH (λK c=>?_)
      | refine aT (i:=11) (by decide +kernel) dH (λK c=>?_)
      | refine aT (i:=10) (by decide +kernel) dH (λK c=>?_)
      | refine gG (i:=10) (k:=14) (by decide +kernel) dH dH (λK c=>?_) (λK c=>?_)
      | refine gG (i:=11) (k:=14) (by decide +kernel) dH dH (λK c=>?_) (λK c=>?_)
      | refine gG (i:=12) (k:=14) (by decide +kernel) dH dH (λK c=>?_) (λK c=>?_)
      | refine gG (i:=13) (k:=14) (by decide +kernel) dH dH (λK c=>?_) (λK c=>?_)
      | refine gG (i:=12) (k:=13) (by decide +kernel) dH dH (λK c=>?_) (λK c=>?_)
      | refine gG (i:=13) (k:=15) (by decide +kernel) dH dH (λK c=>?_) (λK c=>?_)
      | refine xC (i:=12) (j:=13) (k:=14) (by decide +kernel) dH dH dH (λK c=>?_) (λK c=>?_) (λK c=>?_)
     all_goals try(have o0:=(aj h.out 0).trans rfl;have o1:=(aj h.out 1).trans rfl;have o2:=(aj h.out 2).trans rfl;have o3:=(aj h.out 3).trans rfl;have z0:=aF h.out 0;have z1:=aF h.out 1;have z2:=aF h.out 2;have z3:=aF h.out 3)
     all_goals go_simp
     all_goals first
      | (go_at_call 8;refine(bh.out _<|up ab.out<|gT<|by repeat(first|with_reducible exact o|with_reducible refine eG ?_|with_reducible refine jU ?_)).mono ?_;rintro e u ⟨Q,S,v3,rfl,hh⟩;obtain⟨F,f⟩:=hh.out;have E:J (bK KE u):=Y (up (gT<|by repeat(first|with_reducible exact H0|with_reducible refine eG ?_|with_reducible refine jU ?_)) f);obtain⟨p1,d1,p2,d2,p3,d3,rfl,rfl,rfl⟩:=F.amC;have q:=Y F;clear hh F f)
      | skip
     all_goals(
      try(replace o:=Y<|up o.out E.out;(try replace h:=Y<|bH h.out E.out);clear E;replace H0:J (bK u u):=Y<|bQ _ _;dsimp only)
      with_reducible refine c.out _ _ (λ_=>Vt.out _<|by repeat(first|with_reducible exact o|with_reducible refine eG ?_|with_reducible refine jU ?_|with_reducible refine Vb a6 ?_)) ?_
      clear c K
      have cj:=Y o.out.size
      rename World=>KE
      refine nG ?_
      intro u hu
      first
       | (have E:J (bK KE u):=?h1;(case h1=>(rw[hu];repeat(first|with_reducible exact H0|with_reducible refine eG ?_|with_reducible refine jU ?_)));replace o:=Y<|up o.out E.out;(try replace h:=Y<|bH h.out E.out);(try replace HF:=Y<|bH HF.out E.out);(try replace q:=Y<|q.out.below E.out);(first|(have h:J (dR u KE.heap.size<|aY #[O 0,aU,aU,aU] 39):=Y (by rw[hu];with_reducible(first|exact EK _ _ rfl|exact Ll<|EK _ _ rfl));have a6:=cj)|skip);clear E)
       | (replace o:J (bK W3 u):=(by rw[hu];exact(by repeat(first|with_reducible exact o|with_reducible refine eG ?_|with_reducible refine jU ?_|with_reducible refine Vb a6 ?_)));have HF:=Y<|DF h.out (O R.res) (X p1 R.TB.length d1) (X p2 R.pr.length d2)<|X p3 R.did.length d3;replace q:=Y<|acy q.out h.out (O R.res) (X p1 R.TB.length d1) (X p2 R.pr.length d2)<|X p3 R.did.length d3;rw[<-hu]at HF q;clear h o0 o1 o2 o3 z0 z1 z2 z3)
      clear hu
      try clear o0 o1 o2 o3 z0 z1 z2 z3
      replace H0:J (bK u u):=Y<|bQ _ _))
    all_goals(refine dP dw ?_ _;go_wp2;go_meet;exact⟨_,_,_,_,rfl,rfl,Y ⟨HF.out,q.out,o.out⟩⟩)
   case rest=>
    obtain⟨OB,Q,S,v3,rfl,rfl,bw⟩:=hcut;obtain⟨hO,F,ac⟩:=bw.out;obtain⟨q1,d1,q2,d2,q3,d3,rfl,rfl,rfl⟩:=F.amC;obtain⟨HO,q,U,ck,OI,cv⟩:=vC hO F (up ab.out ac) (bH a7.out ac) (bH V.out ac)<|cu.out.below ac;obtain⟨ai,b0,C,bx,aE⟩:=be.out;obtain⟨hG,hL⟩:=aub (qF ai).square;obtain⟨pc,bi⟩:∃p:Nat,y.pc=(p:Int):=⟨y.pc.toNat,by omega⟩;rw[bi]at OI b0 aE f0 f3;have aA:pc<G:=by omega
    obtain rfl:=jD.out bC;have cf:=Y<|cn.out pc aA;have ce:=Y (λwx s (f:bK wc wx)=>find_ok wx _ _ ss G L Z s (gI.out.below<|up U.out f) (cl.out.below<|up U.out f) ai);have cq:J (∀p∈R.pr,∃i:Nat,atY ss p.1=(i:Int)/\atZ ss p.1=0/\i<L pc/\lA pc=some (aN (b9 pc)<|cb pc)/\bJ w (b9 pc) (cb pc+i)=some (.bool true)):=Y (λp hp=>by
     obtain⟨s1,s2,s3⟩:=aE p hp;obtain⟨i,hi⟩:∃i:Nat,dU ss p.1=(i:Int):=⟨(dU ss p.1).toNat,by omega⟩;rw[hi]at s2 s3;have ae:i<L pc:=by rw[hL pc bC];omega
     obtain⟨g3,g2⟩:=co.out pc i aA ae;rw[vQ,vQ]at s3;rw[s3]at g2;exact⟨i,by unfold atY;rw[hi,aI bC],by unfold atZ;rw[hi,aI bC],ae,g3,g2⟩)
    have cH:(0:Int)<=(pc:Int):=by omega
    have cI:(pc:Int)<(G:Int):=by omega
    have cd:=Y bx;obtain⟨n1,ax⟩:∃n,n=R.TB.length:=⟨_,rfl⟩;obtain⟨n2,ay⟩:∃n,n=R.pr.length:=⟨_,rfl⟩;obtain⟨n3,az⟩:∃n,n=R.did.length:=⟨_,rfl⟩;rw[<-ax,<-ay,<-az]at q HO;have HN:=Y<|And.intro ax<|And.intro ay az;have cP:n2<=9223372036854775807:=by obtain⟨_,⟨_,_,_,_,_,_,hq,_⟩,_⟩:=F;omega
    have cN:n3<=9223372036854775807:=by obtain⟨_,_,⟨_,_,_,_,_,_,hq,_⟩⟩:=F;omega
    have o3:=aj HO.out 3;clear bw hO F ac f0 f3 ai b0 aE bx ax ay az hG hL aA bi;rcases C with C|C
    ·rw[C];clear C;go_wp2_with fail;go_loopw[18,64] (λ_ i wr=>∃j:Nat,j<=n3/\i=O j/\J (bK wc wr)) (λ_ i _=>n3 - (intOf i).toNat);exact⟨0,bN _,rfl,Y<|bQ _ _⟩
     obtain⟨j,hj,rfl,H⟩:=hrel;by_cases cz:j<n3
     ·obtain⟨t,D⟩:∃t,R.did[j]?=some t:=⟨_,aZ (by rw[<-HN.out.2.2];exact cz)⟩;obtain⟨b,off,rfl,P⟩:∃b off,q3=some (aN b off)/\bJ wc b (off+j)=some (A t):=by obtain⟨a,b,off,cap,e,z,_,_,au⟩:=q.out.2.2;injection e with e1;have g0:=au j (cO.1 D).1;rw[show R.did.getD j ByteArray.empty=t by rw[List.getD,D];rfl]at g0;exact⟨b,off,by rw[e1];exact z (by have:=(cO.1 D).1;omega),g0⟩
      replace P:=aG P H.out;have a4:=Y<|kS wr _ y.gY t<|cv.out.below H.out;rw[agW (cd.out t<|dG D)]at a4;have f5:=aj (bH OI.out H.out) 5;clear D;go_wp2_with fail;refine a4.out.mono ?_;rintro e w6 ⟨rfl,cF⟩;subst cF;clear P f5;go_wp2;go_roundw;exact⟨j+1,by omega,by go_num,H⟩;exact gV
     ·have a9:=Y<|bH HO.out H.out;have o2:=aj a9.out 2;clear o3;obtain⟨WL,al⟩:∃W,W=wr:=⟨_,rfl⟩;rw[<-al]at H a9 o2;rw[<-al];clear al;go_wp2_with fail;go_loopw[20,21,22,77] (λ_ _ _ i wr=>∃j:Nat,j<=n2/\i=O j/\J (bK WL wr)) (λ_ _ _ i _=>n2 - (intOf i).toNat);exact⟨0,bN _,rfl,Y<|bQ _ _⟩
      obtain⟨j',cR,rfl,ag⟩:=hrel;by_cases cw:j'<n2
      ·obtain⟨d,hd⟩:∃d,R.pr[j']?=some d:=⟨_,aZ (by rw[<-HN.out.2.1];exact cw)⟩;obtain⟨b,off,rfl,P,p1⟩:∃b off,q2=some (aN b off)/\bJ wc b (off+j'*2)=some (A d.1)/\bJ wc b (off+j'*2+1)=some (O d.2):=by obtain⟨a,b,off,cap,e,z,_,au⟩:=q.out.2.1;injection e with e1;obtain⟨g0,g1⟩:=au j' d hd;exact⟨b,off,by rw[e1];exact z (by have:=(cO.1 hd).1;omega),g0,g1⟩
       have ah:=Y<|up H.out ag.out;replace P:=aG P ah.out;replace p1:=aG p1 ah.out;obtain⟨i,bA,bz,ae,bL,bB⟩:=cq.out d<|dG hd;obtain⟨qO,a8⟩:=Z6 wr<|aY #[A d.1,O d.2] 48;obtain⟨cp,YR⟩:=bV (up ag.out qO.out)<|up ah.out qO.out;have HC:=Y<|ce.out _ d.1 YR.out;rw[bA,bz]at HC;have av:=cf.out;rw[bL]at av;obtain⟨cg,ch⟩:=bV (aG av U.out)<|aG bB U.out;have b3:(0:Int)<=(i:Int):=by omega
       have b4:(i:Int)<(L pc:Int):=by omega
       clear hd bA bz ae bL av bB;go_upto_region 18 with fail;obtain⟨PB,bp⟩:∃B,B=wr.heap.size:=⟨_,rfl⟩;rw[<-bp]at a8 ⊢;generalize wr.alloc (aY #[A d.1,O d.2] 48)=W5 at *;clear bp P p1;have z0:=aj a8.out 0;have tX:=Y<|bH ck.out YR.out;obtain⟨y0,y1⟩:=jv tX.out;go_wp2_with fail;refine HC.out.mono ?_;rintro e w6 ⟨rfl,ad⟩;obtain⟨mI,af⟩:=bV (up cp.out ad)<|up YR.out ad;have cU:=(aj (bH tX.out ad) 1).trans rfl;have f4:=aj (bH OI.out af.out) 4;have cL:=aG cg.out af.out;have cM:=aG ch.out af.out;clear ad z0 y0 y1;generalize L pc=lp at *;go_wp2;go_roundw;exact⟨j'+1,by omega,by go_num,mI⟩;exact gV
      ·go_wp2;go_ret;exact⟨rfl,up U.out<|up H.out ag.out⟩
    ·rw[C];clear C;go_wp2;go_ret;exact⟨rfl,U.out⟩
