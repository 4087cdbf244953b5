import Derived.Deep.Grids
import Derived.Test.YtajaekfdcpjjfaaGreatDoorDZPC
import Derived.Test.YtajaekfdcpjjfaaGreatDoorDZBR
set_option maxHeartbeats 0
set_option maxRecDepth 99999
namespace Go.Proofs.YtajaekfdcpjjfaaGreatDoor
open bS bO Sv
open Go.Proofs.Tryz
open Go.ChangeShapes Go.WideShapes Go.ChangeAt Go.RowKit Go.Deep Go.Joins
variable{W:bI}{m b0 N n G:Nat}{v:aC}{Z:aL}{V:Nat->Nat × Nat}{ss:aJ}{L:Nat->Nat}
theorem akL:prog.cellsOf 9=1:=by kernel_rfl
theorem agx:prog.cellsOf 49=1:=by kernel_rfl
theorem ab2:prog.cellsOf 4=1:=by kernel_rfl
theorem af8:prog.cellsOf 25=2:=by kernel_rfl
theorem open_strs{i:Type}{enc:TypeId × aC->i}{y:DataW i × List MemPlace}(f:DataW.trod enc prog W 0 (λ_=>true) true m 22 [v]=some y):∃ss,Strs W v ss:=by
 rcases open_strings underlying22 underlying9 akL f with⟨c,_⟩|⟨a,len,cap,ss,c,_,u,p,r,_,g,q⟩;·simp at c;subst c;exact⟨[],none,0,0,0,rfl,λf=>aM f<|Nat.lt_irrefl _,by decide,λs h=>by simp at h,λj d=>aM d<|fU _⟩
 ·simp at c;subst c;simp only[if_true]at r;unfold maxLen at p;have e:(ss.take len).length=len:=by rw[iA];omega
  obtain⟨b,off,t⟩:=a;refine⟨ss.take len,some ⟨b,off,t⟩,b,off,cap,by rw[e],λo=>?_,by rw[e];omega,λs h=>q s<|N8 h,λj d=>?_⟩;·rw[e]at o;have:=Lx<|g 0 bC;simp[Addr.add]at this;rw[this]
  ·rw[e]at d;have k:=g j bC;have:=Lx<|g 0 bC;simp[Addr.add]at this;subst this;rw[add_plain]at k;have l:(ss.take len).getD j ByteArray.empty=ss.getD j ByteArray.empty:=by rw[List.getD,List.getD,nM d]
   rw[l];exact k
theorem agy{j:Type}{enc:TypeId × aC->j}{y:DataW j × List MemPlace}(h:DataW.trod enc prog W 0 (λ_=>true) true m 23 [v]=some y):∃G L Z,EX W v G L Z:=by
 rcases open_bool_rows underlying23 underlying49 underlying4 agx ab2 h with⟨d,_⟩|⟨a,len,cap,f,L,C,B,d,_,I,x,_,e⟩;·simp at d;subst d;exact⟨0,λ_=>0,λ_ _=>false,none,0,0,0,λ_=>none,λ_=>0,λ_=>0,λ_=>0,rfl,λh=>aM h<|Nat.lt_irrefl _,by decide,λr b=>aM b<|fU _,λr b=>aM b<|fU _,λr c b=>aM b<|fU _⟩
 ·simp at d;subst d;unfold maxLen at x;obtain⟨k,l,s⟩:=a;refine⟨len,L,B,some ⟨k,l,s⟩,k,l,cap,f,λr=>((f r).getD default).block,λr=>((f r).getD default).off,C,rfl,λF=>?_,by omega,λr b=>?_,λr b=>?_,λr c b H=>?_⟩;·have:=Lx (e 0 bC).1;simp[Addr.add]at this;rw[this]
  ·obtain⟨_,i,t,_⟩:=e r bC;unfold maxLen at t;omega
  ·have i:=(e r bC).1;have:=Lx (e 0 bC).1;simp[Addr.add]at this;subst this;rwa[add_plain]at i
  ·obtain⟨_,i,_,u,w⟩:=e r bC;cases g:f r with
   | none=>have:=u g;omega
   | some q =>obtain⟨z,D,E⟩:=q;obtain⟨_,p⟩:=w _ g;obtain⟨o,has⟩:=eY (p c bC)<|Lx<|p 0 bC;simp[Addr.add]at has;subst has;rw[add_plain]at o;refine⟨by simp[g],?_⟩;simpa[g]using o
theorem QV{a:Type}{enc:TypeId × aC->a}{d:DataW a}{p:List MemPlace}(j:Value.okWide prog W .any b0 25 v)(g:DataW.Trod enc prog W 0 (λ_=>true) true 25 v d p):∃c b ss G L Z,v=.agg #[c,b]/\Strs W c ss/\EX W b G L Z:=by obtain⟨e,f,o,y1,m,rfl,_,_,k,l⟩:=open_agg2 underlying25 dw af8 j g;obtain⟨ss,i⟩:=open_strs k;obtain⟨G,L,Z,h⟩:=agy l;exact⟨e,f,ss,G,L,Z,rfl,i,h⟩
theorem own:ownKnob prog.godebug=none:=by kernel_rfl
def nH:List ByteArray:=[⟨#[108,111,119]⟩,⟨#[104,105,103,104]⟩]
def qg:Nat->Nat->Bool:=λa b=>!(a==1&&b==0)
theorem Om:dD nH 2 (λ_=>2) qg=0:=by decide +kernel
theorem ZQ(w:bI):aD 19 #[] w λe w'=>∃d b,e=dz (.agg #[d,b])/\Strs w' d nH/\EX w' b 2 (λ_=>2) qg/\bK w w':=by
 go_enter func19,ntmps19;go_wp2;refine cZ (v:=.agg #[Tc (w.heap.size+1) 2 2,Tc (w.heap.size+1+1+1+1) 2 2]) (by simp[results,results19,go_sem]) rfl ⟨_,_,rfl,?_,?_,?_⟩
 ·refine⟨_,w.heap.size+1,0,2,rfl,λ_=>rfl,by decide,λs a=>?_,λj g=>?_⟩;·simp only[nH,fV,qZ,or_false]at a;rcases a with rfl|rfl<;>decide
  ·have k:j<2:=g;obtain rfl|rfl:j=0\/j=1:=by omega
   ·simp[go_sem,nH]
   ·simp[go_sem,nH]
 ·refine⟨_,w.heap.size+1+1+1+1,0,2,λr=>some<|aN (w.heap.size+1+1+r) 0,λr=>w.heap.size+1+1+r,λ_=>0,λ_=>2,rfl,λ_=>rfl,by decide,λr _=>(by decide:(2:Nat)<=9223372036854775807),λr h=>?_,λr c h f=>⟨rfl,?_⟩⟩
  ·obtain rfl|rfl:r=0\/r=1:=by omega
   ·simp[go_sem]
   ·simp[go_sem]
  ·have i:c<2:=f;obtain rfl|rfl:r=0\/r=1:=by omega
   ·obtain rfl|rfl:c=0\/c=1:=by omega
    ·simp[go_sem,qg]
    ·simp[go_sem,qg]
   ·obtain rfl|rfl:c=0\/c=1:=by omega
    ·simp[go_sem,qg]
    ·simp[go_sem,qg]
 ·exact(((((bQ _ _).alloc (bG _) _).alloc cK _).alloc (by simp;omega) _).alloc (by simp;omega) _).alloc (by simp;omega) _
open Go.Maps Go.WideMaps
namespace Sm
open Fl
def X9(Z:Nat->Nat->Bool)(N n:Nat)(cs:List Co)(V:Nat->Nat × Nat):Bool:=
 ((List.range n).all λv=>decide ((V v).1<16)&&decide ((V v).2<N)&&cs.any λc=>decide (c.to.toNat=v)&&decide (c.lab=V v))&&cs.all λc=>Sv.le Z c.lab (V c.to.toNat)&&c.fr.all λf=>Sv.le Z (V f.toNat) (V c.to.toNat)
theorem agA{cs:List Co}(d:X9 Z N n cs V=true):Bf Z N n cs V:=by
 unfold X9 at d;rw[dK,iB,iB]at d;obtain⟨h,i⟩:=d;have a:∀v,v<n->(V v).1<16/\(V v).2<N/\∃c∈cs,c.to.toNat=v/\c.lab=V v:=λv a=>by have:=h v<|jE.2 a;simp only[dK,iy,RY]at this;exact⟨this.1.1,this.1.2,this.2⟩
 refine⟨λv b=>⟨(a v b).1,(a v b).2.1⟩,λc e=>?_,λk _ j v b=>?_⟩;·have:=i c e;rw[dK,iB]at this;exact this
 ·obtain⟨_,_,c,e,f,g⟩:=a v b;have:=(j c e).1;rw[f,g]at this;exact this
theorem adF(h:dD ss G L Z=0):bS.Joins Z ss.length:=sD (Jq (qF h).order) (qF h).joins
theorem ZR{x:Mo}{f:Fu}(g:dD ss G L Z=0)(b:x.bq[0]?=some f)(d:Vq ss G L Z m x 0 [] [] [] 40 1000=0)(e:X9 Z ss.length ((gH ss Z x 0 [] [] [] f).jd m f).names.length ((gH ss Z x 0 [] [] [] f).jd m f).cons V=true):qI ss G L Z m x [] [] 1=0/\inf ss Z m x [] [] 1=([eF Z ss.length V ((gH ss Z x 0 [] [] [] f).jd m f) f],GJ Z ss.length V ((gH ss Z x 0 [] [] [] f).jd m f) f.name):=by refine⟨by rw[Oe rfl];exact d,?_⟩;obtain⟨c,a⟩:=eY (EH (k:=0) b d)<|Ul (adF g)<|agA e;rw[tL b];simp only[inf,sP];rw[Un c.pb a f,Uo c.pb a f.name]
end Sm
namespace Rd
def f1:Fu:=⟨⟨#[102]⟩,[⟨#[112]⟩],[⟨1,⟨#[121]⟩,⟨3,0,⟨#[43]⟩,[⟨2,0,⟨#[112]⟩,[]⟩,⟨2,0,⟨#[120]⟩,[]⟩]⟩,[],[]⟩,⟨4,⟨#[108,111,119]⟩,⟨2,0,⟨#[120]⟩,[]⟩,[],[]⟩],⟨2,0,⟨#[120]⟩,[]⟩⟩
def s1:Mo:=⟨⟨#[109]⟩,[],[⟨⟨#[120]⟩,⟨#[108,111,119]⟩⟩,⟨⟨#[121]⟩,⟨#[104,105,103,104]⟩⟩],
 [f1]⟩
def t1:ByteArray:=⟨#[40,109,111,100,117,108,101,32,109,32,40,118,97,114,32,120,32,108,111,119,41,32,40,118,97,114,32,121,32,104,105,103,104,41,32,40,102,117,110,32,102,32,40,112,41,32,40,115,101,116,32,121,32,40,43,32,112,32,120,41,41,32,40,112,114,105,110,116,32,108,111,119,32,120,41,32,120,41,41]⟩
theorem ZT:prE t1=0/\prX t1=s1:=⟨by kernel_rfl,by kernel_rfl⟩
end Rd
namespace Sm
def y1:Sc:=eF qg nH.length (λ_=>(1,0)) ((Fl.gH nH qg Rd.s1 0 [] [] [] Rd.f1).jd 8196 Rd.f1) Rd.f1
theorem asD:ans nH 2 (λ_=>2) qg 8196 Rd.s1 [] []=([y1],[],0):=by
 obtain⟨d,e⟩:=ZR (ss:=nH) (G:=2) (L:=λ_=>2) (Z:=qg) (m:=8196) (x:=Rd.s1) (f:=Rd.f1) (V:=λ_=>(1,0)) Om rfl dw dw;have a:AO (dD nH 2 (λ_=>2) qg) 8196 Rd.s1 []=0:=by kernel_rfl
 have b:bO.once (D9 nH Rd.s1 [] 8196)=[]:=by kernel_rfl
 have c:GJ qg nH.length (λ_=>(1,0)) ((Fl.gH nH qg Rd.s1 0 [] [] [] Rd.f1).jd 8196 Rd.f1) Rd.f1.name=[]:=by kernel_rfl
 unfold ans;rw[aI (by rw[a];decide),aI (by rw[b];simp)];rw[show Rd.s1.bq.length=1 from rfl,d,e];rw[aI bM];dsimp only;rw[c,aI cK];rfl
end Sm
theorem at7(w:bI)(y:Sc)(a i b j:Option Addr)(c k d d':Nat)(q:Ints w (X a y.bounds.length c) y.bounds)(r:Strs w (X i y.gY.length k) y.gY)(z:Ints w (X b y.bounds.length d) y.bounds)(B:Strs w (X j y.gY.length d') y.gY):aD 96 #[.agg #[A y.fn,O y.mask,O y.level,X a y.bounds.length c,O y.pc,X i y.gY.length k],.agg #[A y.fn,O y.mask,O y.level,X b y.bounds.length d,O y.pc,X j y.gY.length d']] w λl w'=>l=dz (.bool true)/\bK w w':=by
 have E:=Y (λg (f:bK w g)=>acZ g _ _ y.bounds (q.below f)<|z.below f);have F:=Y (λg (f:bK w g)=>auw g _ _ y.gY (r.below f)<|B.below f);generalize y.bounds.length=C at *;generalize y.gY.length=D at *;obtain⟨W,t,o,e,M,s⟩:=AL w (aY #[A y.fn,O y.mask,O y.level,X a C c,O y.pc,X i D k] 35)<|aY #[A y.fn,O y.mask,O y.level,X b C d,O y.pc,X j D d'] 35;obtain⟨x,Q,P⟩:=fE s o e;have aa:∀w,Sem.run prog (Op.equalIn 10000 33 (.agg #[O y.mask,O y.level])<|.agg #[O y.mask,O y.level]) w=.ok true w:=λw=>by rw[auJ];simp
 have ab:∀op a b w,Sem.run prog (eqGuard op 33 a b (.agg #[O y.mask,O y.level])<|.agg #[O y.mask,O y.level]) w=.ok () w:=λop a b w=>auz op a b _ _ _ _ w;have e1:(y.fn.toList==y.fn.toList)=true:=by simp
 obtain⟨S,U,x2,x3⟩:=xX o;obtain⟨y0,y1,y2,y3⟩:=rY ((aj e 0).trans rfl) ((aj e 1).trans rfl) ((aj e 2).trans rfl) ((aj e 3).trans rfl);clear q r z B o e s M;go_enter func96,ntmps96;go_upto_region 1 with fail;rw[<-t];clear t;go_wp2_with fail;refine(E W x).mono ?_;rintro l R ⟨rfl,h⟩;obtain⟨p,I,H⟩:=fE (up x h) (bH Q h)<|bH P h;clear h S U x2 x3 y0 y1 y2 y3;obtain⟨-,-,-,-,x4,x5⟩:=ZC6 I;obtain⟨-,-,-,-,y4,y5⟩:=ZC6 H;go_wp2_with fail;refine(F R p).mono ?_;rintro l w6 ⟨rfl,u⟩;have K:=Y<|up p u;clear u;go_wp2;go_ret;exact⟨rfl,K⟩
theorem aup(w:bI)(v v':aC)(l:List Sc)(h:xO w v l)(h':xO w v' l):aD 95 #[v,v',.func (.func 96) #[] #[]] w λB w'=>B=dz (.bool true)/\bK w w':=by
 obtain⟨a,b,off,cap,rfl,K,hl,Q⟩:=h;obtain⟨a',b',ad,ac,rfl,M,_,z⟩:=h';obtain⟨j5,u⟩:=bV Q K;have aa:=Y z;have x:=Y M;clear Q K z M;obtain⟨len,o⟩:=aV l.length;have HL:=Y o;rw[<-o]at hl u x ⊢;clear o;go_enter func95,ntmps95;go_wp2;go_loopw[17] (λi wr=>∃j:Nat,j<=len/\i=O j/\bK w wr) (λi _=>len - (intOf i).toNat);exact⟨0,bN _,rfl,bQ _ _⟩
 obtain⟨j,hj,rfl,c⟩:=hrel;by_cases ab:j<len
 ·obtain⟨y,p⟩:∃y,l[j]?=some y:=⟨_,aZ (by rw[<-HL];exact ab)⟩;obtain⟨vb,ve,C,D,E,F,H,I,f,he⟩:=j5 j y p;obtain⟨ae,ve',z0,z1,z2,z3,z4,z5,g,k⟩:=aa.out j y p;obtain rfl:=u bC;obtain rfl:=x.out bC;obtain⟨q,s,e1⟩:=f.Hr;obtain⟨r,t,e2⟩:=jc he;obtain⟨R,U,e3⟩:=g.Hr;obtain⟨S,r4,e4⟩:=jc k;subst e1 e2 e3 e4;have d:=Y<|aH wr<|aY #[A y.fn,O y.mask,O y.level,X q y.bounds.length s,O y.pc,X r y.gY.length t] 35;replace C:=aG C c;replace D:=aG D c;replace E:=aG E c;replace F:=aG F c;replace H:=aG H c;replace I:=aG I c;replace z0:=aG z0<|up c d;replace z1:=aG z1<|up c d;replace z2:=aG z2<|up c d;replace z3:=aG z3<|up c d;replace z4:=aG z4<|up c d;replace z5:=aG z5<|up c d;have e:=Y<|up (up c d)<|aH (wr.alloc<|aY #[A y.fn,O y.mask,O y.level,X q y.bounds.length s,O y.pc,X r y.gY.length t] 35)<|aY #[A y.fn,O y.mask,O y.level,X R y.bounds.length U,O y.pc,X S y.gY.length r4] 35;have HC:=Y<|at7 _ y q r R S s t U r4 (f.below e) (he.below e) (g.below e)<|k.below e;generalize y.bounds.length=n1 at *;generalize y.gY.length=n2 at *;clear f he g k p c;go_wp2_with fail;refine HC.mono ?_;rintro B w5 ⟨rfl,P⟩;have CW:=Y<|up e P;clear P;go_wp2;go_roundw;exact⟨j+1,by omega,by go_num,CW⟩;exact gV
 ·go_wp2;go_ret;exact⟨rfl,c⟩
theorem aua(w:bI)(p E o D:aC)(f:List Sc)(g:List Dg)(i:xO w p f)(j:jg w E g)(c:xO w o f)(l:jg w D g):aD 24 #[.agg #[p,E],.agg #[o,D]] w λd w'=>d=dz (.bool true)/\bK w w':=by have K:J (∀a,bK w a->aD 52 #[p,o] a λd w'=>d=dz (.bool true)/\bK a w'):=Y (λa e=>by have H:=Y<|aup a _ _ f (i.below e)<|c.below e;obtain⟨q,S,o1,s,rfl,-⟩:=i;obtain⟨r,U,o2,t,rfl,-⟩:=c;generalize f.length=n at *;clear j l e;go_enter func52,ntmps52;go_wp2_with fail;refine H.mono ?_;rintro d F ⟨rfl,b⟩;have h:=Y b;clear b;go_wp2;go_ret;exact⟨rfl,h⟩);have I:=Y (λa (e:bK w a)=>aeo a _ _ g (j.below e)<|l.below e);obtain⟨q,S,o1,s,rfl,-⟩:=i;obtain⟨r,U,o2,t,rfl,-⟩:=c;obtain⟨M,b3,o3,c3,rfl,-⟩:=j;obtain⟨P,b4,o4,c4,rfl,-⟩:=l;generalize f.length=B at *;generalize g.length=C at *;obtain⟨W,x,k,c,aa,u⟩:=AL w (aY #[X q B s,X M C c3] 64)<|aY #[X r B t,X P C c4] 64;have x0:=aj k 0;have y0:=aj c 0;obtain⟨z,lH,jG⟩:=fE u k c;clear k c aa u;go_enter func24,ntmps24;go_upto_region 1 with fail;rw[<-x];clear x;go_wp2_with fail;refine(K W z).mono ?_;rintro d F ⟨rfl,b⟩;obtain⟨h,R,Q⟩:=fE (up z b) (bH lH b)<|bH jG b;clear b x0 y0;obtain⟨-,x1⟩:=jv R;obtain⟨-,y1⟩:=jv Q;go_wp2_with fail;refine(I F h).mono ?_;rintro d w6 ⟨rfl,y⟩;have fD:=Y<|up h y;clear y;go_wp2;go_ret;exact⟨rfl,fD⟩
