import Derived.Deep.Grids
import Derived.Test.YtageneidjnbedaaGreatDoorTZBR
import Derived.Test.YtageneidjnbedaaGreatDoorTZPC
set_option maxHeartbeats 0
set_option maxRecDepth 99999
namespace Go.Proofs.YtageneidjnbedaaGreatDoor
open bS Sv
open Go.Proofs.Tryz
open Go.ChangeShapes Go.WideShapes Go.ChangeAt Go.RowKit Go.Deep Go.Joins
variable{W w w' w0:bI}{m b0 N n G:Nat}{v vi vf:aC}{Z:aL}{c:List aC}{x:Mo}
theorem akL:prog.cellsOf 9=1:=by kernel_rfl
theorem agx:prog.cellsOf 43=1:=by kernel_rfl
theorem ab2:prog.cellsOf 4=1:=by kernel_rfl
theorem af8:prog.cellsOf 25=2:=by kernel_rfl
theorem open_strs{H:Type}{enc:TypeId × aC->H}{y:DataW H × List MemPlace}(h:DataW.trod enc prog W 0 (λ_=>true) true m 22 [v]=some y):∃ss,Strs W v ss:=by
 rcases open_strings underlying22 underlying9 akL h with⟨d,_⟩|⟨a,len,cap,ss,d,_,B,r,u,_,g,t⟩;·simp at d;subst d;exact⟨[],none,0,0,0,rfl,λh=>aM h<|Nat.lt_irrefl _,by decide,λs i=>by simp at i,λj e=>aM e<|fU _⟩
 ·simp at d;subst d;simp only[if_true]at u;unfold maxLen at r;have f:(ss.take len).length=len:=by rw[iA];omega
  obtain⟨b,off,z⟩:=a;refine⟨ss.take len,some ⟨b,off,z⟩,b,off,cap,by rw[f],λq=>?_,by rw[f];omega,λs i=>t s<|N8 i,λj e=>?_⟩;·rw[f]at q;have:=Lx<|g 0 bC;simp[Addr.add]at this;rw[this]
  ·rw[f]at e;have k:=g j bC;have:=Lx<|g 0 bC;simp[Addr.add]at this;subst this;rw[add_plain]at k;have p:(ss.take len).getD j ByteArray.empty=ss.getD j ByteArray.empty:=by rw[List.getD,List.getD,nM e]
   rw[p];exact k
theorem agy{H:Type}{enc:TypeId × aC->H}{y:DataW H × List MemPlace}(h:DataW.trod enc prog W 0 (λ_=>true) true m 23 [v]=some y):∃G L Z,EX W v G L Z:=by
 rcases open_bool_rows underlying23 underlying43 underlying4 agx ab2 h with⟨d,_⟩|⟨a,len,cap,f,L,C,B,d,_,Q,E,_,e⟩;·simp at d;subst d;exact⟨0,λ_=>0,λ_ _=>false,none,0,0,0,λ_=>none,λ_=>0,λ_=>0,λ_=>0,rfl,λh=>aM h<|Nat.lt_irrefl _,by decide,λr b=>aM b<|fU _,λr b=>aM b<|fU _,λr c b=>aM b<|fU _⟩
 ·simp at d;subst d;unfold maxLen at E;obtain⟨j,k,t⟩:=a;refine⟨len,L,B,some ⟨j,k,t⟩,j,k,cap,f,λr=>((f r).getD default).block,λr=>((f r).getD default).off,C,rfl,λM=>?_,by omega,λr b=>?_,λr b=>?_,λr c b P=>?_⟩;·have:=Lx (e 0 bC).1;simp[Addr.add]at this;rw[this]
  ·obtain⟨_,i,u,_⟩:=e r bC;unfold maxLen at u;omega
  ·have i:=(e r bC).1;have:=Lx (e 0 bC).1;simp[Addr.add]at this;subst this;rwa[add_plain]at i
  ·obtain⟨_,i,_,z,D⟩:=e r bC;cases g:f r with
   | none=>have:=z g;omega
   | some s =>obtain⟨F,I,K⟩:=s;obtain⟨_,q⟩:=D _ g;obtain⟨p,has⟩:=eY (q c bC)<|Lx<|q 0 bC;simp[Addr.add]at has;subst has;rw[add_plain]at p;refine⟨by simp[g],?_⟩;simpa[g]using p
theorem QV{H:Type}{enc:TypeId × aC->H}{d:DataW H}{p:List MemPlace}(j:Value.okWide prog W .any b0 25 v)(h:DataW.Trod enc prog W 0 (λ_=>true) true 25 v d p):∃b a ss G L Z,v=.agg #[b,a]/\Strs W b ss/\EX W a G L Z:=by obtain⟨e,f,r,s,m,rfl,_,_,k,q⟩:=open_agg2 underlying25 dw af8 j h;obtain⟨ss,i⟩:=open_strs k;obtain⟨G,L,Z,g⟩:=agy q;exact⟨e,f,ss,G,L,Z,rfl,i,g⟩
theorem own:ownKnob prog.godebug=none:=by kernel_rfl
section
variable {H : Type} {enc : TypeId × Value → H} {W : World}
theorem agz{b0:Nat}{v:aC}{d:DataW H}{p:List MemPlace}(hv:Value.okWide prog W .any b0 26 v)(h:DataW.Trod enc prog W 0 (λ_=>true) true 26 v d p):∃m l,xQ W m v l/\∀y∈l,xH m y<=Rows.uptoBulk d:=by
 obtain⟨B,l0,C,rfl⟩:=okWide_slice underlying26 hv;obtain⟨f,U⟩:=h;have V:DataW.trod enc prog W 0 (λ_=>true) true f 26 [X B l0 C]=some (d,p):=U;obtain⟨a,b,off,len,cap,D,ab,P,hl,hD,u,S⟩:=kD underlying26 aha bM V;have E:∀i,i<len->∃x:Mo,∃d',D[i]?=some d'/\xH f x<=Rows.uptoBulk d'/\∃vi e vf,bJ W b (off+i*4)=some (A x.name)/\bJ W b (off+i*4+1)=some vi/\bJ W b (off+i*4+2)=some e/\bJ W b (off+i*4+3)=some vf/\jl W f (.agg #[A x.name,vi,e,vf]) x/\Bg W vi vf:=by intro i j;obtain⟨n',cs,d',ad,ac,aa,g,qx,z⟩:=S i j;obtain⟨x,vi,e,vf,rfl,t,hw,R⟩:=abk aa qx;refine⟨x,d',z,by rw[aag t (k:=f) bC];exact hw,vi,e,vf,g 0 bM,g 1 bM,g 2 bM,g 3 bM,t.Yr bC,R⟩
 obtain⟨l,q,r⟩:=jO len E;refine⟨f,l,⟨a,b,off,cap,ab.trans (by rw[q]),by rw[q];exact P,by rw[q];exact hl,λi s hs=>?_⟩,λy hy=>?_⟩;·obtain⟨_,_,_,vi,e,vf,F,I,K,L,hm,Q⟩:=r i s hs;exact⟨vi,e,vf,F,I,K,L,hm,Q⟩
 ·obtain⟨i,j,rfl⟩:=gU.1 hy;obtain⟨d',M,h2,_⟩:=r i _<|aZ j;have h3:Rows.uptoBulk d'<=Rows.uptoBulkAll D:=adS M;have h4:Rows.uptoBulkAll D+1<=Rows.uptoBulk d:=u;omega
end
def nH:List ByteArray:=[⟨#[108,111,119]⟩,⟨#[104,105,103,104]⟩]
def qg:Nat->Nat->Bool:=λa b=>!(a==1&&b==0)
theorem Om:dD nH 2 (λ_=>2) qg=0:=by decide +kernel
theorem ZQ(w:bI):aD 10 #[] w λe w'=>∃d b,e=dz (.agg #[d,b])/\Strs w' d nH/\EX w' b 2 (λ_=>2) qg/\bK w w':=by
 go_enter func10,ntmps10;go_wp2;refine cZ (v:=.agg #[Tc (w.heap.size+1) 2 2,Tc (w.heap.size+1+1+1+1) 2 2]) (by simp[results,results10,go_sem]) rfl ⟨_,_,rfl,?_,?_,?_⟩
 ·refine⟨_,w.heap.size+1,0,2,rfl,λ_=>rfl,by decide,λs a=>?_,λj g=>?_⟩;·simp only[nH,fV,qZ,or_false]at a;rcases a with rfl|rfl<;>decide
  ·have k:j<2:=g;obtain rfl|rfl:j=0\/j=1:=by omega
   ·simp[go_sem,nH]
   ·simp[go_sem,nH]
 ·refine⟨_,w.heap.size+1+1+1+1,0,2,λr=>some<|aN (w.heap.size+1+1+r) 0,λr=>w.heap.size+1+1+r,λ_=>0,λ_=>2,rfl,λ_=>rfl,by decide,λr _=>(by decide:(2:Nat)<=9223372036854775807),λr h=>?_,λr c h f=>⟨rfl,?_⟩⟩
  ·obtain rfl|rfl:r=0\/r=1:=by omega
   ·simp[go_sem]
   ·simp[go_sem]
  ·have i:c<2:=f;obtain rfl|rfl:r=0\/r=1:=by omega
   ·obtain rfl|rfl:c=0\/c=1:=by omega
    ·simp[go_sem,qg]
    ·simp[go_sem,qg]
   ·obtain rfl|rfl:c=0\/c=1:=by omega
    ·simp[go_sem,qg]
    ·simp[go_sem,qg]
 ·exact(((((bQ _ _).alloc (bG _) _).alloc cK _).alloc (by simp;omega) _).alloc (by simp;omega) _).alloc (by simp;omega) _
open Go.Maps Go.WideMaps
namespace Sm
open Fl
def X9(Z:Nat->Nat->Bool)(N n:Nat)(cs:List Co)(V:Nat->Nat × Nat):Bool:=
 ((List.range n).all λv=>decide ((V v).1<16)&&decide ((V v).2<N)&&cs.any λc=>decide (c.to.toNat=v)&&decide (c.lab=V v))&&cs.all λc=>Sv.le Z c.lab (V c.to.toNat)&&c.fr.all λf=>Sv.le Z (V f.toNat) (V c.to.toNat)
theorem agA{cs:List Co}{V:Nat->Nat × Nat}(h:X9 Z N n cs V=true):Bf Z N n cs V:=by
 unfold X9 at h;rw[dK,iB,iB]at h;obtain⟨g,i⟩:=h;have a:∀v,v<n->(V v).1<16/\(V v).2<N/\∃c∈cs,c.to.toNat=v/\c.lab=V v:=λv a=>by have:=g v<|jE.2 a;simp only[dK,iy,RY]at this;exact⟨this.1.1,this.1.2,this.2⟩
 refine⟨λv b=>⟨(a v b).1,(a v b).2.1⟩,λc d=>?_,λk _ j v b=>?_⟩;·have:=i c d;rw[dK,iB]at this;exact this
 ·obtain⟨_,_,c,d,e,f⟩:=a v b;have:=(j c d).1;rw[e,f]at this;exact this
theorem adF{ss:aJ}{L:Nat->Nat}(h:dD ss G L Z=0):bS.Joins Z ss.length:=sD (Jq (qF h).order) (qF h).joins
end Sm
namespace Rd
def f1:Fu:=⟨⟨#[102]⟩,[⟨#[112]⟩],[⟨1,⟨#[121]⟩,⟨3,0,⟨#[43]⟩,[⟨2,0,⟨#[112]⟩,[]⟩,⟨2,0,⟨#[120]⟩,[]⟩]⟩,[],[]⟩,⟨4,⟨#[108,111,119]⟩,⟨2,0,⟨#[120]⟩,[]⟩,[],[]⟩],⟨2,0,⟨#[120]⟩,[]⟩⟩
def s1:Mo:=⟨⟨#[109]⟩,[],[⟨⟨#[120]⟩,⟨#[108,111,119]⟩⟩,⟨⟨#[121]⟩,⟨#[104,105,103,104]⟩⟩],
 [f1]⟩
end Rd
namespace Sm
end Sm
theorem Bg.sub(h:Bg w vi vf)(g:Sub w w'):Bg w' vi vf:=⟨h.imp,h.fus,λb off n c a i f=>by obtain⟨j,d,e⟩:=h.par b off n c a i f;exact⟨j,g _ _ d,e⟩⟩
theorem auk:(prog.info? 47).map (λi=>(i.zero,i.size,i.bytes))=some (some<|.agg #[A ⟨#[]⟩,aU,aU,aU],4,88):=by kernel_rfl
def MoC(w0:bI)(m:Nat)(c:List Value)(x:Mo):Prop:=∃vi a vf,c=[.string x.name,vi,a,vf]/\jl w0 m (.agg #[.string x.name,vi,a,vf]) x/\Bg w0 vi vf
theorem MoC.forms(h:MoC w m c x):∃b r f d s g e t i,c=[A x.name,X b r f,X d s g,X e t i]:=by obtain⟨vi,u,vf,rfl,q,_⟩:=h;obtain⟨b,d,e,a,_,j,k,p⟩:=q;injection a with a;simp only[Array.mk.injEq,R9,and_true,true_and]at a;obtain⟨rfl,rfl,rfl⟩:=a;obtain⟨_,_,_,_,rfl,_⟩:=j;obtain⟨_,_,_,_,rfl,_⟩:=k;obtain⟨_,_,_,_,rfl,_⟩:=p;exact⟨_,_,_,_,_,_,_,_,_,rfl⟩
theorem MoC.one(h:MoC w0 m c x):∀b∈c,b.oneCell'=true:=by obtain⟨_,_,_,_,_,_,_,_,_,rfl⟩:=h.forms;intro b a;simp at a;rcases a with rfl|rfl|rfl|rfl<;>rfl
theorem MoC.sub(h:MoC w m c x)(a:Sub w w'):MoC w' m c x:=by obtain⟨vi,f,vf,b,e,d⟩:=h;exact⟨vi,f,vf,b,e.sub a,d.sub a⟩
section
variable {w0 w w' : World} {m n : Nat} {v : Value} {l : List Mo}
end
