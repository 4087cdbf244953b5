import Derived.Deep.Grids
import Derived.Test.YtajaekfdcpjjfaaGreatDoorSZBR
import Derived.Test.YtajaekfdcpjjfaaGreatDoorSZPC
set_option maxHeartbeats 0
set_option maxRecDepth 99999
namespace Go.Proofs.YtajaekfdcpjjfaaGreatDoor
open bS bO Rd Sv
open Go.Proofs.Tryz
open Go.ChangeShapes Go.WideShapes Go.ChangeAt Go.RowKit Go.Deep Go.Joins
variable{W:bI}{m b0 N n G:Nat}{v:aC}{Z:aL}{V:Nat->Nat × Nat}{ss:aJ}{L:Nat->Nat}
theorem akL:prog.cellsOf 9=1:=by kernel_rfl
theorem agx:prog.cellsOf 49=1:=by kernel_rfl
theorem ab2:prog.cellsOf 4=1:=by kernel_rfl
theorem af8:prog.cellsOf 25=2:=by kernel_rfl
theorem open_strs{H:Type}{enc:TypeId × aC->H}{y:DataW H × List MemPlace}(f:DataW.trod enc prog W 0 (λ_=>true) true m 22 [v]=some y):∃ss,Strs W v ss:=by
 rcases open_strings underlying22 underlying9 akL f with⟨c,_⟩|⟨a,len,cap,ss,c,_,t,o,q,_,g,p⟩;·simp at c;subst c;exact⟨[],none,0,0,0,rfl,λf=>aM f<|Nat.lt_irrefl _,by decide,λs h=>by simp at h,λj d=>aM d<|fU _⟩
 ·simp at c;subst c;simp only[if_true]at q;unfold maxLen at o;have e:(ss.take len).length=len:=by rw[iA];omega
  obtain⟨b,off,r⟩:=a;refine⟨ss.take len,some ⟨b,off,r⟩,b,off,cap,by rw[e],λl=>?_,by rw[e];omega,λs h=>p s<|N8 h,λj d=>?_⟩;·rw[e]at l;have:=Lx<|g 0 bC;simp[Addr.add]at this;rw[this]
  ·rw[e]at d;have i:=g j bC;have:=Lx<|g 0 bC;simp[Addr.add]at this;subst this;rw[add_plain]at i;have k:(ss.take len).getD j ByteArray.empty=ss.getD j ByteArray.empty:=by rw[List.getD,List.getD,nM d]
   rw[k];exact i
theorem agy{H:Type}{enc:TypeId × aC->H}{y:DataW H × List MemPlace}(h:DataW.trod enc prog W 0 (λ_=>true) true m 23 [v]=some y):∃G L Z,EX W v G L Z:=by
 rcases open_bool_rows underlying23 underlying49 underlying4 agx ab2 h with⟨d,_⟩|⟨a,len,cap,f,L,C,B,d,_,I,w,_,e⟩;·simp at d;subst d;exact⟨0,λ_=>0,λ_ _=>false,none,0,0,0,λ_=>none,λ_=>0,λ_=>0,λ_=>0,rfl,λh=>aM h<|Nat.lt_irrefl _,by decide,λr b=>aM b<|fU _,λr b=>aM b<|fU _,λr c b=>aM b<|fU _⟩
 ·simp at d;subst d;unfold maxLen at w;obtain⟨j,k,q⟩:=a;refine⟨len,L,B,some ⟨j,k,q⟩,j,k,cap,f,λr=>((f r).getD default).block,λr=>((f r).getD default).off,C,rfl,λE=>?_,by omega,λr b=>?_,λr b=>?_,λr c b F=>?_⟩;·have:=Lx (e 0 bC).1;simp[Addr.add]at this;rw[this]
  ·obtain⟨_,i,s,_⟩:=e r bC;unfold maxLen at s;omega
  ·have i:=(e r bC).1;have:=Lx (e 0 bC).1;simp[Addr.add]at this;subst this;rwa[add_plain]at i
  ·obtain⟨_,i,_,t,u⟩:=e r bC;cases g:f r with
   | none=>have:=t g;omega
   | some p =>obtain⟨x,z,D⟩:=p;obtain⟨_,o⟩:=u _ g;obtain⟨l,has⟩:=eY (o c bC)<|Lx<|o 0 bC;simp[Addr.add]at has;subst has;rw[add_plain]at l;refine⟨by simp[g],?_⟩;simpa[g]using l
theorem QV{H:Type}{enc:TypeId × aC->H}{d:DataW H}{p:List MemPlace}(i:Value.okWide prog W .any b0 25 v)(f:DataW.Trod enc prog W 0 (λ_=>true) true 25 v d p):∃b a ss G L Z,v=.agg #[b,a]/\Strs W b ss/\EX W a G L Z:=by obtain⟨c,e,l,y1,m,rfl,_,_,j,k⟩:=open_agg2 underlying25 dw af8 i f;obtain⟨ss,h⟩:=open_strs j;obtain⟨G,L,Z,g⟩:=agy k;exact⟨c,e,ss,G,L,Z,rfl,h,g⟩
theorem own:ownKnob prog.godebug=none:=by kernel_rfl
section
variable {H : Type} {enc : TypeId × Value → H} {W : World}
theorem agz{b0:Nat}{v:aC}{d:DataW H}{p:List MemPlace}(hv:Value.okWide prog W .any b0 26 v)(h:DataW.Trod enc prog W 0 (λ_=>true) true 26 v d p):∃m l,xQ W m v l/\∀y∈l,xH m y<=Rows.uptoBulk d:=by
 obtain⟨a0,l0,c0,rfl⟩:=okWide_slice underlying26 hv;obtain⟨fuel,hf⟩:=h;have hf':DataW.trod enc prog W 0 (λ_=>true) true fuel 26 [X a0 l0 c0]=some (d,p):=hf;obtain⟨a,b,off,len,cap,D,hv',ha,hl,hD,Dj,hel⟩:=kD underlying26 aha bM hf';have each:∀i,i<len->∃x:Mo,∃d',D[i]?=some d'/\xH fuel x<=Rows.uptoBulk d'/\∃vi vv vf,bJ W b (off+i*4)=some (A x.name)/\bJ W b (off+i*4+1)=some vi/\bJ W b (off+i*4+2)=some vv/\bJ W b (off+i*4+3)=some vf/\jl W fuel (.agg #[A x.name,vi,vv,vf]) x/\Bg W vi vf:=by intro i hi;obtain⟨n',cs,d',pl',hn',hlen',hcell,qx,Yq⟩:=hel i hi;obtain⟨x,vi,vv,vf,rfl,hx',hw,hcp⟩:=abk hlen' qx;refine⟨x,d',Yq,by rw[aag hx' (k:=fuel) bC];exact hw,vi,vv,vf,hcell 0 bM,hcell 1 bM,hcell 2 bM,hcell 3 bM,hx'.Yr bC,hcp⟩
 obtain⟨l,hll,hp⟩:=jO len each;refine⟨fuel,l,⟨a,b,off,cap,hv'.trans (by rw[hll]),by rw[hll];exact ha,by rw[hll];exact hl,λi s hs=>?_⟩,λy hy=>?_⟩;·obtain⟨_,_,_,vi,vv,vf,g0,g1,g2,g3,hm,hc⟩:=hp i s hs;exact⟨vi,vv,vf,g0,g1,g2,g3,hm,hc⟩
 ·obtain⟨i,hi,rfl⟩:=gU.1 hy;obtain⟨d',h1,h2,_⟩:=hp i _ (aZ hi);have h3:Rows.uptoBulk d'<=Rows.uptoBulkAll D:=adS h1;have h4:Rows.uptoBulkAll D+1<=Rows.uptoBulk d:=Dj;omega
end
def nH:List ByteArray:=[⟨#[108,111,119]⟩,⟨#[104,105,103,104]⟩]
def qg:Nat->Nat->Bool:=λa b=>!(a==1&&b==0)
theorem Om:dD nH 2 (λ_=>2) qg=0:=by decide +kernel
theorem ZQ(w:bI):aD 19 #[] w λe w'=>∃d b,e=dz (.agg #[d,b])/\Strs w' d nH/\EX w' b 2 (λ_=>2) qg/\bK w w':=by
 go_enter func19,ntmps19;go_wp2;refine cZ (v:=.agg #[Tc (w.heap.size+1) 2 2,Tc (w.heap.size+1+1+1+1) 2 2]) (by simp[results,results19,go_sem]) rfl ⟨_,_,rfl,?_,?_,?_⟩
 ·refine⟨_,w.heap.size+1,0,2,rfl,λ_=>rfl,by decide,λs a=>?_,λj g=>?_⟩;·simp only[nH,fV,qZ,or_false]at a;rcases a with rfl|rfl<;>decide
  ·have k:j<2:=g;obtain rfl|rfl:j=0\/j=1:=by omega
   ·simp[go_sem,nH]
   ·simp[go_sem,nH]
 ·refine⟨_,w.heap.size+1+1+1+1,0,2,λr=>some<|aN (w.heap.size+1+1+r) 0,λr=>w.heap.size+1+1+r,λ_=>0,λ_=>2,rfl,λ_=>rfl,by decide,λr _=>(by decide:(2:Nat)<=9223372036854775807),λr h=>?_,λr c h f=>⟨rfl,?_⟩⟩
  ·obtain rfl|rfl:r=0\/r=1:=by omega
   ·simp[go_sem]
   ·simp[go_sem]
  ·have i:c<2:=f;obtain rfl|rfl:r=0\/r=1:=by omega
   ·obtain rfl|rfl:c=0\/c=1:=by omega
    ·simp[go_sem,qg]
    ·simp[go_sem,qg]
   ·obtain rfl|rfl:c=0\/c=1:=by omega
    ·simp[go_sem,qg]
    ·simp[go_sem,qg]
 ·exact(((((bQ _ _).alloc (bG _) _).alloc cK _).alloc (by simp;omega) _).alloc (by simp;omega) _).alloc (by simp;omega) _
open Go.Maps Go.WideMaps
namespace Sm
open Fl
def X9(Z:Nat->Nat->Bool)(N n:Nat)(cs:List Co)(V:Nat->Nat × Nat):Bool:=
 ((List.range n).all λv=>decide ((V v).1<16)&&decide ((V v).2<N)&&cs.any λc=>decide (c.to.toNat=v)&&decide (c.lab=V v))&&cs.all λc=>Sv.le Z c.lab (V c.to.toNat)&&c.fr.all λf=>Sv.le Z (V f.toNat) (V c.to.toNat)
theorem agA{cs:List Co}(d:X9 Z N n cs V=true):Bf Z N n cs V:=by
 unfold X9 at d;rw[dK,iB,iB]at d;obtain⟨h,i⟩:=d;have a:∀v,v<n->(V v).1<16/\(V v).2<N/\∃c∈cs,c.to.toNat=v/\c.lab=V v:=λv a=>by have:=h v<|jE.2 a;simp only[dK,iy,RY]at this;exact⟨this.1.1,this.1.2,this.2⟩
 refine⟨λv b=>⟨(a v b).1,(a v b).2.1⟩,λc e=>?_,λk _ j v b=>?_⟩;·have:=i c e;rw[dK,iB]at this;exact this
 ·obtain⟨_,_,c,e,f,g⟩:=a v b;have:=(j c e).1;rw[f,g]at this;exact this
theorem adF(h:dD ss G L Z=0):bS.Joins Z ss.length:=sD (Jq (qF h).order) (qF h).joins
theorem ZR{x:Mo}{f:Fu}(g:dD ss G L Z=0)(b:x.bq[0]?=some f)(d:Vq ss G L Z m x 0 [] [] [] 40 1000=0)(e:X9 Z ss.length ((gH ss Z x 0 [] [] [] f).jd m f).names.length ((gH ss Z x 0 [] [] [] f).jd m f).cons V=true):qI ss G L Z m x [] [] 1=0/\inf ss Z m x [] [] 1=([eF Z ss.length V ((gH ss Z x 0 [] [] [] f).jd m f) f],GJ Z ss.length V ((gH ss Z x 0 [] [] [] f).jd m f) f.name):=by refine⟨by rw[Oe rfl];exact d,?_⟩;obtain⟨c,a⟩:=eY (EH (k:=0) b d)<|Ul (adF g)<|agA e;rw[tL b];simp only[inf,sP];rw[Un c.pb a f,Uo c.pb a f.name]
end Sm
namespace Rd
def f1:Fu:=⟨⟨#[102]⟩,[⟨#[112]⟩],[⟨1,⟨#[121]⟩,⟨3,0,⟨#[43]⟩,[⟨2,0,⟨#[112]⟩,[]⟩,⟨2,0,⟨#[120]⟩,[]⟩]⟩,[],[]⟩,⟨4,⟨#[108,111,119]⟩,⟨2,0,⟨#[120]⟩,[]⟩,[],[]⟩],⟨2,0,⟨#[120]⟩,[]⟩⟩
def s1:Mo:=⟨⟨#[109]⟩,[],[⟨⟨#[120]⟩,⟨#[108,111,119]⟩⟩,⟨⟨#[121]⟩,⟨#[104,105,103,104]⟩⟩],
 [f1]⟩
def t1:ByteArray:=⟨#[40,109,111,100,117,108,101,32,109,32,40,118,97,114,32,120,32,108,111,119,41,32,40,118,97,114,32,121,32,104,105,103,104,41,32,40,102,117,110,32,102,32,40,112,41,32,40,115,101,116,32,121,32,40,43,32,112,32,120,41,41,32,40,112,114,105,110,116,32,108,111,119,32,120,41,32,120,41,41]⟩
theorem ZT:prE t1=0/\prX t1=s1:=⟨by kernel_rfl,by kernel_rfl⟩
def fB:Fu:=⟨⟨#[102]⟩,[],[⟨2,⟨#[]⟩,⟨2,0,⟨#[121]⟩,[]⟩,[⟨1,⟨#[120]⟩,⟨1,1,⟨#[]⟩,[]⟩,[],[]⟩],[]⟩],⟨1,0,⟨#[]⟩,[]⟩⟩
def sB:Mo:=⟨⟨#[109]⟩,[],[⟨⟨#[120]⟩,⟨#[108,111,119]⟩⟩,⟨⟨#[121]⟩,⟨#[104,105,103,104]⟩⟩],
 [fB]⟩
def tB:ByteArray:=⟨#[40,109,111,100,117,108,101,32,109,32,40,118,97,114,32,120,32,108,111,119,41,32,40,118,97,114,32,121,32,104,105,103,104,41,32,40,102,117,110,32,102,32,40,41,32,40,105,102,32,121,32,40,40,115,101,116,32,120,32,49,41,41,32,40,41,41,32,48,41,41]⟩
theorem ZU:prE tB=0/\prX tB=sB:=⟨by kernel_rfl,by kernel_rfl⟩
end Rd
namespace Sm
def y1:Sc:=eF qg nH.length (λ_=>(1,0)) ((Fl.gH nH qg Rd.s1 0 [] [] [] Rd.f1).jd 8196 Rd.f1) Rd.f1
theorem IK:y1.level=0/\y1.pc=0/\y1.bounds=[1]:=⟨by kernel_rfl,by kernel_rfl,by kernel_rfl⟩
theorem asD:ans nH 2 (λ_=>2) qg 8196 Rd.s1 [] []=([y1],[],0):=by
 obtain⟨d,e⟩:=ZR (ss:=nH) (G:=2) (L:=λ_=>2) (Z:=qg) (m:=8196) (x:=Rd.s1) (f:=Rd.f1) (V:=λ_=>(1,0)) Om rfl dw dw;have a:AO (dD nH 2 (λ_=>2) qg) 8196 Rd.s1 []=0:=by kernel_rfl
 have b:bO.once (D9 nH Rd.s1 [] 8196)=[]:=by kernel_rfl
 have c:GJ qg nH.length (λ_=>(1,0)) ((Fl.gH nH qg Rd.s1 0 [] [] [] Rd.f1).jd 8196 Rd.f1) Rd.f1.name=[]:=by kernel_rfl
 unfold ans;rw[aI (by rw[a];decide),aI (by rw[b];simp)];rw[show Rd.s1.bq.length=1 from rfl,d,e];rw[aI bM];dsimp only;rw[c,aI cK];rfl
theorem asE:ans nH 2 (λ_=>2) qg 8196 Rd.sB [] []=([],[⟨6,⟨#[102]⟩,⟨#[120]⟩⟩],0):=by
 obtain⟨d,e⟩:=ZR (ss:=nH) (G:=2) (L:=λ_=>2) (Z:=qg) (m:=8196) (x:=Rd.sB) (f:=fB) (V:=λ_=>(0,0)) Om rfl dw dw;have a:AO (dD nH 2 (λ_=>2) qg) 8196 Rd.sB []=0:=by kernel_rfl
 have b:bO.once (D9 nH Rd.sB [] 8196)=[]:=by kernel_rfl
 have c:GJ qg nH.length (λ_=>(0,0)) ((Fl.gH nH qg Rd.sB 0 [] [] [] fB).jd 8196 fB) fB.name=[⟨6,⟨#[102]⟩,⟨#[120]⟩⟩]:=by kernel_rfl
 unfold ans;rw[aI (by rw[a];decide),aI (by rw[b];simp)];rw[show Rd.sB.bq.length=1 from rfl,d,e];rw[aI bM];dsimp only;rw[c,aK cK];exact Prod.ext rfl (Prod.ext dw rfl)
end Sm
