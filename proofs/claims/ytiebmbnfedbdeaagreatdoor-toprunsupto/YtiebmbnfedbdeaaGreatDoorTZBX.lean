import Derived.Deep.Grids
import Derived.Test.YtiebmbnfedbdeaaGreatDoorTZBR
import Derived.Test.YtiebmbnfedbdeaaGreatDoorTZPC
set_option maxHeartbeats 0
set_option maxRecDepth 99999
namespace Go.Proofs.YtiebmbnfedbdeaaGreatDoor
open bS Sv
open Go.Proofs.Tryz
open Go.ChangeShapes Go.WideShapes Go.ChangeAt Go.RowKit Go.Deep Go.Joins
variable{W:bI}{m b0 N n G:Nat}{v:aC}{Z:aL}
theorem akL:prog.cellsOf 9=1:=by kernel_rfl
theorem agx:prog.cellsOf 45=1:=by kernel_rfl
theorem ab2:prog.cellsOf 4=1:=by kernel_rfl
theorem af8:prog.cellsOf 25=2:=by kernel_rfl
theorem open_strs{H:Type}{enc:TypeId × aC->H}{y:DataW H × List MemPlace}(f:DataW.trod enc prog W 0 (λ_=>true) true m 22 [v]=some y):∃ss,Strs W v ss:=by
 rcases open_strings underlying22 underlying9 akL f with⟨c,_⟩|⟨a,len,cap,ss,c,_,t,o,q,_,g,p⟩;·simp at c;subst c;exact⟨[],none,0,0,0,rfl,λf=>aM f<|Nat.lt_irrefl _,by decide,λs h=>by simp at h,λj d=>aM d<|fU _⟩
 ·simp at c;subst c;simp only[if_true]at q;unfold maxLen at o;have e:(ss.take len).length=len:=by rw[iA];omega
  obtain⟨b,off,r⟩:=a;refine⟨ss.take len,some ⟨b,off,r⟩,b,off,cap,by rw[e],λl=>?_,by rw[e];omega,λs h=>p s<|N8 h,λj d=>?_⟩;·rw[e]at l;have:=Lx<|g 0 bC;simp[Addr.add]at this;rw[this]
  ·rw[e]at d;have i:=g j bC;have:=Lx<|g 0 bC;simp[Addr.add]at this;subst this;rw[add_plain]at i;have k:(ss.take len).getD j ByteArray.empty=ss.getD j ByteArray.empty:=by rw[List.getD,List.getD,nM d]
   rw[k];exact i
theorem agy{H:Type}{enc:TypeId × aC->H}{y:DataW H × List MemPlace}(h:DataW.trod enc prog W 0 (λ_=>true) true m 23 [v]=some y):∃G L Z,EX W v G L Z:=by
 rcases open_bool_rows underlying23 underlying45 underlying4 agx ab2 h with⟨d,_⟩|⟨a,len,cap,f,L,C,B,d,_,I,w,_,e⟩;·simp at d;subst d;exact⟨0,λ_=>0,λ_ _=>false,none,0,0,0,λ_=>none,λ_=>0,λ_=>0,λ_=>0,rfl,λh=>aM h<|Nat.lt_irrefl _,by decide,λr b=>aM b<|fU _,λr b=>aM b<|fU _,λr c b=>aM b<|fU _⟩
 ·simp at d;subst d;unfold maxLen at w;obtain⟨j,k,q⟩:=a;refine⟨len,L,B,some ⟨j,k,q⟩,j,k,cap,f,λr=>((f r).getD default).block,λr=>((f r).getD default).off,C,rfl,λE=>?_,by omega,λr b=>?_,λr b=>?_,λr c b F=>?_⟩;·have:=Lx (e 0 bC).1;simp[Addr.add]at this;rw[this]
  ·obtain⟨_,i,s,_⟩:=e r bC;unfold maxLen at s;omega
  ·have i:=(e r bC).1;have:=Lx (e 0 bC).1;simp[Addr.add]at this;subst this;rwa[add_plain]at i
  ·obtain⟨_,i,_,t,u⟩:=e r bC;cases g:f r with
   | none=>have:=t g;omega
   | some p =>obtain⟨x,z,D⟩:=p;obtain⟨_,o⟩:=u _ g;obtain⟨l,has⟩:=eY (o c bC)<|Lx<|o 0 bC;simp[Addr.add]at has;subst has;rw[add_plain]at l;refine⟨by simp[g],?_⟩;simpa[g]using l
theorem QV{H:Type}{enc:TypeId × aC->H}{d:DataW H}{p:List MemPlace}(i:Value.okWide prog W .any b0 25 v)(f:DataW.Trod enc prog W 0 (λ_=>true) true 25 v d p):∃b a ss G L Z,v=.agg #[b,a]/\Strs W b ss/\EX W a G L Z:=by obtain⟨c,e,l,o,m,rfl,_,_,j,k⟩:=open_agg2 underlying25 dw af8 i f;obtain⟨ss,h⟩:=open_strs j;obtain⟨G,L,Z,g⟩:=agy k;exact⟨c,e,ss,G,L,Z,rfl,h,g⟩
theorem own:ownKnob prog.godebug=none:=by kernel_rfl
section
variable {H : Type} {enc : TypeId × Value → H} {W : World}
theorem agz{b0:Nat}{v:aC}{d:DataW H}{p:List MemPlace}(hv:Value.okWide prog W .any b0 26 v)(F:DataW.Trod enc prog W 0 (λ_=>true) true 26 v d p):∃m l,xQ W m v l/\∀y∈l,xH m y<=Rows.uptoBulk d:=by
 obtain⟨t,l0,u,rfl⟩:=okWide_slice underlying26 hv;obtain⟨fuel,R⟩:=F;have S:DataW.trod enc prog W 0 (λ_=>true) true fuel 26 [X t l0 u]=some (d,p):=R;obtain⟨a,b,off,len,cap,D,aa,K,U,hD,q,Q⟩:=kD underlying26 aha bM S;have w:∀i,i<len->∃x:Mo,∃d',D[i]?=some d'/\xH fuel x<=Rows.uptoBulk d'/\∃c e vf,bJ W b (off+i*4)=some (A x.name)/\bJ W b (off+i*4+1)=some c/\bJ W b (off+i*4+2)=some e/\bJ W b (off+i*4+3)=some vf/\jl W fuel (.agg #[A x.name,c,e,vf]) x/\Bg W c vf:=by intro i g;obtain⟨n',cs,d',ac,ab,V,f,qx,r⟩:=Q i g;obtain⟨x,c,e,vf,rfl,o,hw,P⟩:=abk V qx;refine⟨x,d',r,by rw[aag o (k:=fuel) bC];exact hw,c,e,vf,f 0 bM,f 1 bM,f 2 bM,f 3 bM,o.Yr bC,P⟩
 obtain⟨l,h,j⟩:=jO len w;refine⟨fuel,l,⟨a,b,off,cap,aa.trans (by rw[h]),by rw[h];exact K,by rw[h];exact U,λi s hs=>?_⟩,λy hy=>?_⟩;·obtain⟨_,_,_,c,e,vf,z,B,C,E,hm,L⟩:=j i s hs;exact⟨c,e,vf,z,B,C,E,hm,L⟩
 ·obtain⟨i,g,rfl⟩:=gU.1 hy;obtain⟨d',I,h2,_⟩:=j i _<|aZ g;have h3:Rows.uptoBulk d'<=Rows.uptoBulkAll D:=adS I;have h4:Rows.uptoBulkAll D+1<=Rows.uptoBulk d:=q;omega
end
def nH:List ByteArray:=[⟨#[108,111,119]⟩,⟨#[104,105,103,104]⟩]
def qg:Nat->Nat->Bool:=λa b=>!(a==1&&b==0)
theorem Om:dD nH 2 (λ_=>2) qg=0:=by decide +kernel
theorem ZQ(w:bI):aD 17 #[] w λe w'=>∃d b,e=dz (.agg #[d,b])/\Strs w' d nH/\EX w' b 2 (λ_=>2) qg/\bK w w':=by
 go_enter func17,ntmps17;go_wp2;refine cZ (v:=.agg #[Tc (w.heap.size+1) 2 2,Tc (w.heap.size+1+1+1+1) 2 2]) (by simp[results,results17,go_sem]) rfl ⟨_,_,rfl,?_,?_,?_⟩
 ·refine⟨_,w.heap.size+1,0,2,rfl,λ_=>rfl,by decide,λs a=>?_,λj g=>?_⟩;·simp only[nH,fV,qZ,or_false]at a;rcases a with rfl|rfl<;>decide
  ·have k:j<2:=g;obtain rfl|rfl:j=0\/j=1:=by omega
   ·simp[go_sem,nH]
   ·simp[go_sem,nH]
 ·refine⟨_,w.heap.size+1+1+1+1,0,2,λr=>some<|aN (w.heap.size+1+1+r) 0,λr=>w.heap.size+1+1+r,λ_=>0,λ_=>2,rfl,λ_=>rfl,by decide,λr _=>(by decide:(2:Nat)<=9223372036854775807),λr h=>?_,λr c h f=>⟨rfl,?_⟩⟩
  ·obtain rfl|rfl:r=0\/r=1:=by omega
   ·simp[go_sem]
   ·simp[go_sem]
  ·have i:c<2:=f;obtain rfl|rfl:r=0\/r=1:=by omega
   ·obtain rfl|rfl:c=0\/c=1:=by omega
    ·simp[go_sem,qg]
    ·simp[go_sem,qg]
   ·obtain rfl|rfl:c=0\/c=1:=by omega
    ·simp[go_sem,qg]
    ·simp[go_sem,qg]
 ·exact(((((bQ _ _).alloc (bG _) _).alloc cK _).alloc (by simp;omega) _).alloc (by simp;omega) _).alloc (by simp;omega) _
open Go.Maps Go.WideMaps
namespace Sm
open Fl
def X9(Z:Nat->Nat->Bool)(N n:Nat)(cs:List Co)(V:Nat->Nat × Nat):Bool:=
 ((List.range n).all λv=>decide ((V v).1<16)&&decide ((V v).2<N)&&cs.any λc=>decide (c.to.toNat=v)&&decide (c.lab=V v))&&cs.all λc=>Sv.le Z c.lab (V c.to.toNat)&&c.fr.all λf=>Sv.le Z (V f.toNat) (V c.to.toNat)
theorem agA{cs:List Co}{V:Nat->Nat × Nat}(d:X9 Z N n cs V=true):Bf Z N n cs V:=by
 unfold X9 at d;rw[dK,iB,iB]at d;obtain⟨h,i⟩:=d;have a:∀v,v<n->(V v).1<16/\(V v).2<N/\∃c∈cs,c.to.toNat=v/\c.lab=V v:=λv a=>by have:=h v<|jE.2 a;simp only[dK,iy,RY]at this;exact⟨this.1.1,this.1.2,this.2⟩
 refine⟨λv b=>⟨(a v b).1,(a v b).2.1⟩,λc e=>?_,λk _ j v b=>?_⟩;·have:=i c e;rw[dK,iB]at this;exact this
 ·obtain⟨_,_,c,e,f,g⟩:=a v b;have:=(j c e).1;rw[f,g]at this;exact this
theorem adF{ss:aJ}{L:Nat->Nat}(h:dD ss G L Z=0):bS.Joins Z ss.length:=sD (Jq (qF h).order) (qF h).joins
end Sm
namespace Rd
def f1:Fu:=⟨⟨#[102]⟩,[⟨#[112]⟩],[⟨1,⟨#[121]⟩,⟨3,0,⟨#[43]⟩,[⟨2,0,⟨#[112]⟩,[]⟩,⟨2,0,⟨#[120]⟩,[]⟩]⟩,[],[]⟩,⟨4,⟨#[108,111,119]⟩,⟨2,0,⟨#[120]⟩,[]⟩,[],[]⟩],⟨2,0,⟨#[120]⟩,[]⟩⟩
def s1:Mo:=⟨⟨#[109]⟩,[],[⟨⟨#[120]⟩,⟨#[108,111,119]⟩⟩,⟨⟨#[121]⟩,⟨#[104,105,103,104]⟩⟩],
 [f1]⟩
end Rd
namespace Sm
end Sm
