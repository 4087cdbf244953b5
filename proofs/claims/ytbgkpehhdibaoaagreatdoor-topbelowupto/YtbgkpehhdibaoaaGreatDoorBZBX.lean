/- part -/
import Derived.Deep.Grids
import Derived.Test.YtbgkpehhdibaoaaGreatDoorBZBR
import Derived.Test.YtbgkpehhdibaoaaGreatDoorBZPC
set_option maxHeartbeats 0
set_option maxRecDepth 99999
namespace Go.Proofs.YtbgkpehhdibaoaaGreatDoor
open bN Sv
open Go.Proofs.Tryz
open Go.ChangeShapes Go.WideShapes Go.ChangeAt Go.RowKit Go.Deep Go.Joins
variable{W:World}{m b0 N n G:Nat}{v:Value}{Z:Nat->Nat->Bool}
theorem QT:prog.cellsOf 9=1:=by kernel_rfl
theorem cellsRow:prog.cellsOf 49=1:=by kernel_rfl
theorem YW:prog.cellsOf 4=1:=by kernel_rfl
theorem NM:prog.cellsOf 25=2:=by kernel_rfl
theorem open_strs{H:Type}{enc:TypeId × Value->H}{y:DataW H × List MemPlace}(h:DataW.trod enc prog W 0 (λ_=>true) true m 22 [v]=some y):∃ss,Strs W v ss:=by
 rcases open_strings underlying22 underlying9 QT h with⟨hcs,_⟩|⟨a,len,cap,ss,hcs,_,hl,hm,hz,_,hcell,hws⟩;·simp at hcs;subst hcs;exact⟨[],none,0,0,0,rfl,λh=>aM h (Nat.lt_irrefl _),by decide,λs hs=>by simp at hs,λj hj=>aM hj (fT _)⟩
 ·simp at hcs;subst hcs;simp only[if_true]at hz;unfold maxLen at hm;have hlen:(ss.take len).length=len:=by rw[jB];omega
  obtain⟨b,off,spot⟩:=a;refine⟨ss.take len,some ⟨b,off,spot⟩,b,off,cap,by rw[hlen],λh0=>?_,by rw[hlen];omega,λs hs=>hws s (PZ hs),λj hj=>?_⟩;·rw[hlen]at h0;have:=IW (hcell 0 aX);simp[Addr.add]at this;rw[this]
  ·rw[hlen]at hj;have h1:=hcell j aX;have:=IW (hcell 0 aX);simp[Addr.add]at this;subst this;rw[add_plain]at h1;have e:(ss.take len).getD j ByteArray.empty=ss.getD j ByteArray.empty:=by rw[List.getD,List.getD,qL hj]
   rw[e];exact h1
theorem open_rag{H:Type}{enc:TypeId × Value->H}{y:DataW H × List MemPlace}(h:DataW.trod enc prog W 0 (λ_=>true) true m 23 [v]=some y):∃G L Z,Fg W v G L Z:=by
 rcases open_bool_rows underlying23 underlying49 underlying4 cellsRow YW h with⟨hcs,_⟩|⟨a,len,cap,aag,L,C,B,hcs,_,hl,hm,_,hrows⟩;·simp at hcs;subst hcs;exact⟨0,λ_=>0,λ_ _=>false,none,0,0,0,λ_=>none,λ_=>0,λ_=>0,λ_=>0,rfl,λh=>aM h (Nat.lt_irrefl _),by decide,λr hr=>aM hr (fT _),λr hr=>aM hr (fT _),λr c hr=>aM hr (fT _)⟩
 ·simp at hcs;subst hcs;unfold maxLen at hm;obtain⟨gb,go,gs⟩:=a;refine⟨len,L,B,some ⟨gb,go,gs⟩,gb,go,cap,aag,λr=>((aag r).getD default).block,λr=>((aag r).getD default).off,C,rfl,λh0=>?_,by omega,λr hr=>?_,λr hr=>?_,λr c hr hc=>?_⟩;·have:=IW (hrows 0 aX).1;simp[Addr.add]at this;rw[this]
  ·obtain⟨_,h1,h2,_⟩:=hrows r aX;unfold maxLen at h2;omega
  ·have h1:=(hrows r aX).1;have:=IW (hrows 0 aX).1;simp[Addr.add]at this;subst this;rwa[add_plain]at h1
  ·obtain⟨_,h1,_,h3,h4⟩:=hrows r aX;cases hA:aag r with
   | none=>have:=h3 hA;omega
   | some a' =>obtain⟨ab,ao,asp⟩:=a';obtain⟨_,hcell⟩:=h4 _ hA;obtain⟨h5,has⟩:=eY (hcell c aX) (IW (hcell 0 aX));simp[Addr.add]at has;subst has;rw[add_plain]at h5;refine⟨by simp[hA],?_⟩;simpa[hA]using h5
theorem NP{H:Type}{enc:TypeId × Value->H}{d:DataW H}{p:List MemPlace}(hv:Value.okWide prog W .any b0 25 v)(h:DataW.Trod enc prog W 0 (λ_=>true) true 25 v d p):∃vn vl ss G L Z,v=.agg #[vn,vl]/\Strs W vn ss/\Fg W vl G L Z:=by obtain⟨c0,c1,y0,y1,m,rfl,_,_,hy0,hy1⟩:=open_agg2 underlying25 bR NM hv h;obtain⟨ss,hS⟩:=open_strs hy0;obtain⟨G,L,Z,hR⟩:=open_rag hy1;exact⟨c0,c1,ss,G,L,Z,rfl,hS,hR⟩
theorem own:ownKnob prog.godebug=none:=by kernel_rfl
section
variable {H : Type} {enc : TypeId × Value → H} {W : World}
theorem open_mks{b0:Nat}{v:Value}{d:DataW H}{p:List MemPlace}(hv:Value.okWide prog W .any b0 26 v)(h:DataW.Trod enc prog W 0 (λ_=>true) true 26 v d p):∃m l,vD W m v l/\∀y∈l,vF m y<=Rows.uptoBulk d:=by
 obtain⟨a0,l0,c0,rfl⟩:=okWide_slice underlying26 hv;obtain⟨fuel,hf⟩:=h;have hf':DataW.trod enc prog W 0 (λ_=>true) true fuel 26 [.slice a0 l0 c0]=some (d,p):=hf;obtain⟨a,b,off,len,cap,D,hv',ha,hl,hD,Gb,hel⟩:=lM underlying26 cellsMo (by decide) hf';have each:∀i,i<len->∃x:Mo,∃d',D[i]?=some d'/\vF fuel x<=Rows.uptoBulk d'/\∃vi vv vf,W.cell? ⟨b,off+i*4,none⟩=some (.string x.name)/\W.cell? ⟨b,off+i*4+1,none⟩=some vi/\W.cell? ⟨b,off+i*4+2,none⟩=some vv/\W.cell? ⟨b,off+i*4+3,none⟩=some vf/\iY W fuel (.agg #[.string x.name,vi,vv,vf]) x/\yR W vi vf:=by intro i hi;obtain⟨n',cs,d',pl',hn',hlen',hcell,sU,Y2⟩:=hel i hi;obtain⟨x,vi,vv,vf,rfl,hx',hw,hcp⟩:=X9 hlen' sU;refine⟨x,d',Y2,by rw[Wx hx' (k:=fuel) (by omega)];exact hw,vi,vv,vf,hcell 0 (by decide),hcell 1 (by decide),hcell 2 (by decide),hcell 3 (by decide),hx'.UC (by omega),hcp⟩
 obtain⟨l,hll,hp⟩:=kr len each;refine⟨fuel,l,⟨a,b,off,cap,by rw[hv',<-hll],by rw[hll];exact ha,by rw[hll];exact hl,λi s hs=>?_⟩,λy hy=>?_⟩;·obtain⟨_,_,_,vi,vv,vf,g0,g1,g2,g3,hm,hc⟩:=hp i s hs;exact⟨vi,vv,vf,g0,g1,g2,g3,hm,hc⟩
 ·obtain⟨i,hi,rfl⟩:=gZ.1 hy;obtain⟨d',h1,h2,_⟩:=hp i _ (bD hi);have h3:Rows.uptoBulk d'<=Rows.uptoBulkAll D:=Oh h1;have h4:Rows.uptoBulkAll D+1<=Rows.uptoBulk d:=Gb;omega
end
def mU:List ByteArray:=[⟨#[108,111,119]⟩,⟨#[104,105,103,104]⟩]
def nX:Nat->Nat->Bool:=λa b=>!(a==1&&b==0)
theorem YX:bX mU 2 (λ_=>2) nX=0:=by decide +kernel
theorem two_any(w:World):Calls prog 27 #[] w λe w'=>∃vn vl,e=dz (.agg #[vn,vl])/\Strs w' vn mU/\Fg w' vl 2 (λ_=>2) nX/\bG w w':=by
 go_enter func27,ntmps27;go_wp2;refine bV (v:=.agg #[Y (some (X (w.heap.size+1) 0)) 2 2,Y (some (X (w.heap.size+1+1+1+1) 0)) 2 2]) (by simp[results,results27,go_sem]) rfl ⟨_,_,rfl,?_,?_,?_⟩
 ·refine⟨_,w.heap.size+1,0,2,rfl,λ_=>rfl,by decide,λs hs=>?_,λj hj=>?_⟩;·simp only[mU,fK,uT,or_false]at hs;rcases hs with rfl|rfl<;>decide
  ·have hj':j<2:=hj;obtain rfl|rfl:j=0\/j=1:=by omega
   ·simp[go_sem,mU]
   ·simp[go_sem,mU]
 ·refine⟨_,w.heap.size+1+1+1+1,0,2,λr=>some (X (w.heap.size+1+1+r) 0),λr=>w.heap.size+1+1+r,λ_=>0,λ_=>2,rfl,λ_=>rfl,by decide,λr _=>(by decide:(2:Nat)<=9223372036854775807),λr hr=>?_,λr c hr hc=>⟨rfl,?_⟩⟩
  ·obtain rfl|rfl:r=0\/r=1:=by omega
   ·simp[go_sem]
   ·simp[go_sem]
  ·have hc':c<2:=hc;obtain rfl|rfl:r=0\/r=1:=by omega
   ·obtain rfl|rfl:c=0\/c=1:=by omega
    ·simp[go_sem,nX]
    ·simp[go_sem,nX]
   ·obtain rfl|rfl:c=0\/c=1:=by omega
    ·simp[go_sem,nX]
    ·simp[go_sem,nX]
 ·exact(((((bP _ _).alloc (bE _) _).alloc dx _).alloc (by simp;omega) _).alloc (by simp;omega) _).alloc (by simp;omega) _
open Go.Maps Go.WideMaps
namespace Sm
open Fl
def Um(Z:Nat->Nat->Bool)(N n:Nat)(cs:List Co)(V:Nat->Nat × Nat):Bool:=
 ((List.range n).all λv=>decide ((V v).1<16)&&decide ((V v).2<N)&&cs.any λc=>decide (c.to.toNat=v)&&decide (c.lab=V v))&&cs.all λc=>Sv.le Z c.lab (V c.to.toNat)&&c.fr.all λf=>Sv.le Z (V f.toNat) (V c.to.toNat)
theorem least_of{cs:List Co}{V:Nat->Nat × Nat}(h:Um Z N n cs V=true):yQ Z N n cs V:=by
 unfold Um at h;rw[dJ,iB,iB]at h;obtain⟨h1,h2⟩:=h;have hv:∀v,v<n->(V v).1<16/\(V v).2<N/\∃c∈cs,c.to.toNat=v/\c.lab=V v:=λv hv=>by have:=h1 v (jr.2 hv);simp only[dJ,gP,OG]at this;exact⟨this.1.1,this.1.2,this.2⟩
 refine⟨λv hn=>⟨(hv v hn).1,(hv v hn).2.1⟩,λc hc=>?_,λU _ hs v hn=>?_⟩;·have:=h2 c hc;rw[dJ,iB]at this;exact this
 ·obtain⟨_,_,c,hc,e1,e2⟩:=hv v hn;have:=(hs c hc).1;rw[e1,e2]at this;exact this
theorem QU{ss:List aY}{L:Nat->Nat}(h:bX ss G L Z=0):bN.Joins Z ss.length:=vZ (Lf (pU h).order) (pU h).joins
end Sm
namespace Rd
def f1:Fu:=⟨⟨#[102]⟩,[⟨#[112]⟩],[⟨1,⟨#[121]⟩,⟨3,0,⟨#[43]⟩,[⟨2,0,⟨#[112]⟩,[]⟩,⟨2,0,⟨#[120]⟩,[]⟩]⟩,[],[]⟩,⟨4,⟨#[108,111,119]⟩,⟨2,0,⟨#[120]⟩,[]⟩,[],[]⟩],⟨2,0,⟨#[120]⟩,[]⟩⟩
def s1:Mo:=⟨⟨#[109]⟩,[],[⟨⟨#[120]⟩,⟨#[108,111,119]⟩⟩,⟨⟨#[121]⟩,⟨#[104,105,103,104]⟩⟩],
 [f1]⟩
end Rd
namespace Sm
end Sm
end Go.Proofs.YtbgkpehhdibaoaaGreatDoor
