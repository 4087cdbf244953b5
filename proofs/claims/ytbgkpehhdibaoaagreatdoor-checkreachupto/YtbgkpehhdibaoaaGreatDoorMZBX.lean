/- part -/
import Derived.Deep.Grids
import Derived.Test.YtbgkpehhdibaoaaGreatDoorMZBR
import Derived.Test.YtbgkpehhdibaoaaGreatDoorMZPC
set_option maxHeartbeats 0
set_option maxRecDepth 99999
namespace Go.Proofs.YtbgkpehhdibaoaaGreatDoor
open bO aO Rd Sv
open Go.Proofs.Tryz
open Go.ChangeShapes Go.WideShapes Go.ChangeAt Go.RowKit Go.Deep Go.Joins
variable{W w w0 w':World}{m b0 k N n G g i cap:Nat}{v vi vv vf:Value}{l:List Mo}{Z:Nat->Nat->Bool}{V:Nat->Nat × Nat}{ss:List aZ}{L:Nat->Nat}{x:Mo}
theorem TR:prog.cellsOf 9=1:=by kernel_rfl
theorem cellsRow:prog.cellsOf 49=1:=by kernel_rfl
theorem cellsBool:prog.cellsOf 4=1:=by kernel_rfl
theorem P7:prog.cellsOf 25=2:=by kernel_rfl
theorem open_strs{H:Type}{enc:TypeId × Value->H}{y:DataW H × List MemPlace}(h:DataW.trod enc prog W 0 (λ_=>true) true m 22 [v]=some y):∃ss,Strs W v ss:=by
 rcases open_strings underlying22 underlying9 TR h with⟨hcs,_⟩|⟨a,len,cap,ss,hcs,_,hl,hm,hz,_,hcell,hws⟩;·simp at hcs;subst hcs;exact⟨[],none,0,0,0,rfl,λh=>aN h (Nat.lt_irrefl _),by decide,λs hs=>by simp at hs,λj hj=>aN hj (fK _)⟩
 ·simp at hcs;subst hcs;simp only[if_true]at hz;unfold maxLen at hm;have hlen:(ss.take len).length=len:=by rw[jO];omega
  obtain⟨b,off,spot⟩:=a;refine⟨ss.take len,some ⟨b,off,spot⟩,b,off,cap,by rw[hlen],λh0=>?_,by rw[hlen];omega,λs hs=>hws s (Sy hs),λj hj=>?_⟩;·rw[hlen]at h0;have:=Kw (hcell 0 aV);simp[Addr.add]at this;rw[this]
  ·rw[hlen]at hj;have h1:=hcell j aV;have:=Kw (hcell 0 aV);simp[Addr.add]at this;subst this;rw[add_plain]at h1;have e:(ss.take len).getD j ByteArray.empty=ss.getD j ByteArray.empty:=by rw[List.getD,List.getD,rZ hj]
   rw[e];exact h1
theorem open_rag{H:Type}{enc:TypeId × Value->H}{y:DataW H × List MemPlace}(h:DataW.trod enc prog W 0 (λ_=>true) true m 23 [v]=some y):∃G L Z,Fb W v G L Z:=by
 rcases open_bool_rows underlying23 underlying49 underlying4 cellsRow cellsBool h with⟨hcs,_⟩|⟨a,len,cap,aaj,L,C,B,hcs,_,hl,hm,_,hrows⟩;·simp at hcs;subst hcs;exact⟨0,λ_=>0,λ_ _=>false,none,0,0,0,λ_=>none,λ_=>0,λ_=>0,λ_=>0,rfl,λh=>aN h (Nat.lt_irrefl _),by decide,λr hr=>aN hr (fK _),λr hr=>aN hr (fK _),λr c hr=>aN hr (fK _)⟩
 ·simp at hcs;subst hcs;unfold maxLen at hm;obtain⟨gb,go,gs⟩:=a;refine⟨len,L,B,some ⟨gb,go,gs⟩,gb,go,cap,aaj,λr=>((aaj r).getD default).block,λr=>((aaj r).getD default).off,C,rfl,λh0=>?_,by omega,λr hr=>?_,λr hr=>?_,λr c hr hc=>?_⟩;·have:=Kw (hrows 0 aV).1;simp[Addr.add]at this;rw[this]
  ·obtain⟨_,h1,h2,_⟩:=hrows r aV;unfold maxLen at h2;omega
  ·have h1:=(hrows r aV).1;have:=Kw (hrows 0 aV).1;simp[Addr.add]at this;subst this;rwa[add_plain]at h1
  ·obtain⟨_,h1,_,h3,h4⟩:=hrows r aV;cases hA:aaj r with
   | none=>have:=h3 hA;omega
   | some a' =>obtain⟨ab,ao,asp⟩:=a';obtain⟨_,hcell⟩:=h4 _ hA;obtain⟨h5,has⟩:=eD (hcell c aV) (Kw (hcell 0 aV));simp[Addr.add]at has;subst has;rw[add_plain]at h5;refine⟨by simp[hA],?_⟩;simpa[hA]using h5
theorem P8{H:Type}{enc:TypeId × Value->H}{d:DataW H}{p:List MemPlace}(hv:Value.okWide prog W .any b0 25 v)(h:DataW.Trod enc prog W 0 (λ_=>true) true 25 v d p):∃vn vl ss G L Z,v=.agg #[vn,vl]/\Strs W vn ss/\Fb W vl G L Z:=by obtain⟨c0,c1,y0,y1,m,rfl,_,_,hy0,hy1⟩:=open_agg2 underlying25 bU P7 hv h;obtain⟨ss,hS⟩:=open_strs hy0;obtain⟨G,L,Z,hR⟩:=open_rag hy1;exact⟨c0,c1,ss,G,L,Z,rfl,hS,hR⟩
theorem own:ownKnob prog.godebug=none:=by kernel_rfl
theorem tQ.Fy(h:tQ w m v l)(hk:m<=k):tQ w k v l:=by obtain⟨a,b,off,cap,e,h0,hl,h1⟩:=h;refine⟨a,b,off,cap,e,h0,hl,λi x hx=>?_⟩;obtain⟨vi,vv,vf,g0,g1,g2,g3,hm,hc⟩:=h1 i x hx;exact⟨vi,vv,vf,g0,g1,g2,g3,hm.Fy hk,hc⟩
section
variable {H : Type} {enc : TypeId × Value → H} {W : World}
theorem open_mks{b0:Nat}{v:Value}{d:DataW H}{p:List MemPlace}(hv:Value.okWide prog W .any b0 26 v)(h:DataW.Trod enc prog W 0 (λ_=>true) true 26 v d p):∃m l,tQ W m v l/\∀y∈l,qx m y<=Rows.uptoBulk d:=by
 obtain⟨a0,l0,c0,rfl⟩:=okWide_slice underlying26 hv;obtain⟨fuel,hf⟩:=h;have hf':DataW.trod enc prog W 0 (λ_=>true) true fuel 26 [.slice a0 l0 c0]=some (d,p):=hf;obtain⟨a,b,off,len,cap,D,hv',ha,hl,hD,Il,hel⟩:=mF underlying26 NC (by decide) hf';have each:∀i,i<len->∃x:Mo,∃d',D[i]?=some d'/\qx fuel x<=Rows.uptoBulk d'/\∃vi vv vf,W.cell? ⟨b,off+i*4,none⟩=some (.string x.name)/\W.cell? ⟨b,off+i*4+1,none⟩=some vi/\W.cell? ⟨b,off+i*4+2,none⟩=some vv/\W.cell? ⟨b,off+i*4+3,none⟩=some vf/\gT W fuel (.agg #[.string x.name,vi,vv,vf]) x/\nY W vi vf:=by intro i hi;obtain⟨n',cs,d',pl',hn',hlen',hcell,uG,hDi⟩:=hel i hi;obtain⟨x,vi,vv,vf,rfl,hx',hw,hcp⟩:=open_moSC hlen' uG;refine⟨x,d',hDi,by rw[D8 hx' (k:=fuel) (by omega)];exact hw,vi,vv,vf,hcell 0 (by decide),hcell 1 (by decide),hcell 2 (by decide),hcell 3 (by decide),hx'.Fy (by omega),hcp⟩
 obtain⟨l,hll,hp⟩:=kT len each;refine⟨fuel,l,⟨a,b,off,cap,by rw[hv',<-hll],by rw[hll];exact ha,by rw[hll];exact hl,λi s hs=>?_⟩,λy hy=>?_⟩;·obtain⟨_,_,_,vi,vv,vf,g0,g1,g2,g3,hm,hc⟩:=hp i s hs;exact⟨vi,vv,vf,g0,g1,g2,g3,hm,hc⟩
 ·obtain⟨i,hi,rfl⟩:=gP.1 hy;obtain⟨d',h1,h2,_⟩:=hp i _ (bg hi);have h3:Rows.uptoBulk d'<=Rows.uptoBulkAll D:=QG h1;have h4:Rows.uptoBulkAll D+1<=Rows.uptoBulk d:=Il;omega
end
def mM:List ByteArray:=[⟨#[108,111,119]⟩,⟨#[104,105,103,104]⟩]
def pz:Nat->Nat->Bool:=λa b=>!(a==1&&b==0)
theorem Nj:dh mM 2 (λ_=>2) pz=0:=by decide +kernel
theorem YL(w:World):Calls prog 27 #[] w λe w'=>∃vn vl,e=cO (.agg #[vn,vl])/\Strs w' vn mM/\Fb w' vl 2 (λ_=>2) pz/\bG w w':=by
 go_enter func27,ntmps27;go_wp2;refine bW (v:=.agg #[Y (some (X (w.heap.size+1) 0)) 2 2,Y (some (X (w.heap.size+1+1+1+1) 0)) 2 2]) (by simp[results,results27,go_sem]) rfl ⟨_,_,rfl,?_,?_,?_⟩
 ·refine⟨_,w.heap.size+1,0,2,rfl,λ_=>rfl,by decide,λs hs=>?_,λj hj=>?_⟩;·simp only[mM,gy,tT,or_false]at hs;rcases hs with rfl|rfl<;>decide
  ·have hj':j<2:=hj;obtain rfl|rfl:j=0\/j=1:=by omega
   ·simp[go_sem,mM]
   ·simp[go_sem,mM]
 ·refine⟨_,w.heap.size+1+1+1+1,0,2,λr=>some (X (w.heap.size+1+1+r) 0),λr=>w.heap.size+1+1+r,λ_=>0,λ_=>2,rfl,λ_=>rfl,by decide,λr _=>(by decide:(2:Nat)<=9223372036854775807),λr hr=>?_,λr c hr hc=>⟨rfl,?_⟩⟩
  ·obtain rfl|rfl:r=0\/r=1:=by omega
   ·simp[go_sem]
   ·simp[go_sem]
  ·have hc':c<2:=hc;obtain rfl|rfl:r=0\/r=1:=by omega
   ·obtain rfl|rfl:c=0\/c=1:=by omega
    ·simp[go_sem,pz]
    ·simp[go_sem,pz]
   ·obtain rfl|rfl:c=0\/c=1:=by omega
    ·simp[go_sem,pz]
    ·simp[go_sem,pz]
 ·exact(((((bN _ _).alloc (bF _) _).alloc cZ _).alloc (by simp;omega) _).alloc (by simp;omega) _).alloc (by simp;omega) _
open Go.Maps Go.WideMaps
namespace Sm
open Fl
def WJ(Z:Nat->Nat->Bool)(N n:Nat)(cs:List Co)(V:Nat->Nat × Nat):Bool:=
 ((List.range n).all λv=>decide ((V v).1<16)&&decide ((V v).2<N)&&cs.any λc=>decide (c.to.toNat=v)&&decide (c.lab=V v))&&cs.all λc=>Sv.le Z c.lab (V c.to.toNat)&&c.fr.all λf=>Sv.le Z (V f.toNat) (V c.to.toNat)
theorem least_of{cs:List Co}(h:WJ Z N n cs V=true):Ac Z N n cs V:=by
 unfold WJ at h;rw[dS,gY,gY]at h;obtain⟨h1,h2⟩:=h;have hv:∀v,v<n->(V v).1<16/\(V v).2<N/\∃c∈cs,c.to.toNat=v/\c.lab=V v:=λv hv=>by have:=h1 v (jG.2 hv);simp only[dS,iA,Q8]at this;exact⟨this.1.1,this.1.2,this.2⟩
 refine⟨λv hn=>⟨(hv v hn).1,(hv v hn).2.1⟩,λc hc=>?_,λU _ hs v hn=>?_⟩;·have:=h2 c hc;rw[dS,gY]at this;exact this
 ·obtain⟨_,_,c,hc,e1,e2⟩:=hv v hn;have:=(hs c hc).1;rw[e1,e2]at this;exact this
theorem TS(h:dh ss G L Z=0):bO.Joins Z ss.length:=xL (Ny (qj h).order) (qj h).joins
theorem YM{f:Fu}(hc:dh ss G L Z=0)(hf:x.bq[0]?=some f)(hw:Qn ss G L Z m x 0 [] [] [] 40 1000=0)(hV:WJ Z ss.length ((fP ss Z x 0 [] [] [] f).jq m f).names.length ((fP ss Z x 0 [] [] [] f).jq m f).cons V=true):qm ss G L Z m x [] [] 1=0/\inf ss Z m x [] [] 1=([eB Z ss.length V ((fP ss Z x 0 [] [] [] f).jq m f) f],Gf Z ss.length V ((fP ss Z x 0 [] [] [] f).jq m f) f.name):=by refine⟨by rw[M8 rfl];exact hw,?_⟩;obtain⟨hr,he⟩:=eD (Hy (k:=0) hf hw) (Tc (TS hc) (least_of hV));rw[yS hf];simp only[inf,rX];rw[Te hr.pb he f,Tf hr.pb he f.name]
end Sm
namespace Rd
def f1:Fu:=⟨⟨#[102]⟩,[⟨#[112]⟩],[⟨1,⟨#[121]⟩,⟨3,0,⟨#[43]⟩,[⟨2,0,⟨#[112]⟩,[]⟩,⟨2,0,⟨#[120]⟩,[]⟩]⟩,[],[]⟩,⟨4,⟨#[108,111,119]⟩,⟨2,0,⟨#[120]⟩,[]⟩,[],[]⟩],⟨2,0,⟨#[120]⟩,[]⟩⟩
def s1:Mo:=⟨⟨#[109]⟩,[],[⟨⟨#[120]⟩,⟨#[108,111,119]⟩⟩,⟨⟨#[121]⟩,⟨#[104,105,103,104]⟩⟩],
 [f1]⟩
def t1:ByteArray:=⟨#[40,109,111,100,117,108,101,32,109,32,40,118,97,114,32,120,32,108,111,119,41,32,40,118,97,114,32,121,32,104,105,103,104,41,32,40,102,117,110,32,102,32,40,112,41,32,40,115,101,116,32,121,32,40,43,32,112,32,120,41,41,32,40,112,114,105,110,116,32,108,111,119,32,120,41,32,120,41,41]⟩
theorem YN:prE t1=0/\prX t1=s1:=⟨by kernel_rfl,by kernel_rfl⟩
def fB:Fu:=⟨⟨#[102]⟩,[],[⟨2,⟨#[]⟩,⟨2,0,⟨#[121]⟩,[]⟩,[⟨1,⟨#[120]⟩,⟨1,1,⟨#[]⟩,[]⟩,[],[]⟩],[]⟩],⟨1,0,⟨#[]⟩,[]⟩⟩
def sB:Mo:=⟨⟨#[109]⟩,[],[⟨⟨#[120]⟩,⟨#[108,111,119]⟩⟩,⟨⟨#[121]⟩,⟨#[104,105,103,104]⟩⟩],
 [fB]⟩
def tB:ByteArray:=⟨#[40,109,111,100,117,108,101,32,109,32,40,118,97,114,32,120,32,108,111,119,41,32,40,118,97,114,32,121,32,104,105,103,104,41,32,40,102,117,110,32,102,32,40,41,32,40,105,102,32,121,32,40,40,115,101,116,32,120,32,49,41,41,32,40,41,41,32,48,41,41]⟩
theorem YO:prE tB=0/\prX tB=sB:=⟨by kernel_rfl,by kernel_rfl⟩
end Rd
namespace Sm
def y1:Sc:=eB pz mM.length (λ_=>(1,0)) ((Fl.fP mM pz Rd.s1 0 [] [] [] Rd.f1).jq 8196 Rd.f1) Rd.f1
theorem y1_is:y1.level=0/\y1.pc=0/\y1.bounds=[1]:=⟨by kernel_rfl,by kernel_rfl,by kernel_rfl⟩
theorem ask1:ans mM 2 (λ_=>2) pz 8196 Rd.s1 [] []=([y1],[],0):=by
 obtain⟨h1,h2⟩:=YM (ss:=mM) (G:=2) (L:=λ_=>2) (Z:=pz) (m:=8196) (x:=Rd.s1) (f:=Rd.f1) (V:=λ_=>(1,0)) Nj rfl bU bU;have e1:yK (dh mM 2 (λ_=>2) pz) 8196 Rd.s1 []=0:=by kernel_rfl
 have e2:aO.once (aO.Aj mM Rd.s1 [] 8196)=[]:=by kernel_rfl
 have e3:Gf pz mM.length (λ_=>(1,0)) ((Fl.fP mM pz Rd.s1 0 [] [] [] Rd.f1).jq 8196 Rd.f1) Rd.f1.name=[]:=by kernel_rfl
 unfold ans;rw[aJ (by rw[e1];decide),aJ (by rw[e2];simp)];rw[show Rd.s1.bq.length=1 from rfl,h1,h2];rw[aJ bP];dsimp only;rw[e3,aJ cZ];rfl
theorem ask2:ans mM 2 (λ_=>2) pz 8196 Rd.sB [] []=([],[⟨6,⟨#[102]⟩,⟨#[120]⟩⟩],0):=by
 obtain⟨h1,h2⟩:=YM (ss:=mM) (G:=2) (L:=λ_=>2) (Z:=pz) (m:=8196) (x:=Rd.sB) (f:=fB) (V:=λ_=>(0,0)) Nj rfl bU bU;have e1:yK (dh mM 2 (λ_=>2) pz) 8196 Rd.sB []=0:=by kernel_rfl
 have e2:aO.once (aO.Aj mM Rd.sB [] 8196)=[]:=by kernel_rfl
 have e3:Gf pz mM.length (λ_=>(0,0)) ((Fl.fP mM pz Rd.sB 0 [] [] [] fB).jq 8196 fB) fB.name=[⟨6,⟨#[102]⟩,⟨#[120]⟩⟩]:=by kernel_rfl
 unfold ans;rw[aJ (by rw[e1];decide),aJ (by rw[e2];simp)];rw[show Rd.sB.bq.length=1 from rfl,h1,h2];rw[aJ bP];dsimp only;rw[e3,aL cZ];exact Prod.ext rfl (Prod.ext bU rfl)
end Sm
theorem WK(w:World)(y:Sc)(a a' b b':Option Addr)(c c' d d':Nat)(h1:Ints w (Y a y.bounds.length c) y.bounds)(h2:Strs w (Y a' y.gU.length c') y.gU)(k1:Ints w (Y b y.bounds.length d) y.bounds)(k2:Strs w (Y b' y.gU.length d') y.gU):Calls prog 79 #[.agg #[A y.fn,O y.mask,O y.level,Y a y.bounds.length c,O y.pc,Y a' y.gU.length c'],.agg #[A y.fn,O y.mask,O y.level,Y b y.bounds.length d,O y.pc,Y b' y.gU.length d']] w λe w'=>e=cO (.bool true)/\bG w w':=by
 have HEI:=I (λwx (hb:bG w wx)=>QK wx _ _ y.bounds (h1.below hb) (k1.below hb));have HES:=I (λwx (hb:bG w wx)=>eqS_same wx _ _ y.gU (h2.below hb) (k2.below hb));generalize y.bounds.length=n1 at *;generalize y.gU.length=n2 at *;obtain⟨W,hW,k0,k1',hsz,hBW⟩:=wG w (aY #[A y.fn,O y.mask,O y.level,Y a n1 c,O y.pc,Y a' n2 c'] 35) (aY #[A y.fn,O y.mask,O y.level,Y b n1 d,O y.pc,Y b' n2 d'] 35);obtain⟨iN,lD,jl⟩:=fq hBW k0 k1';have heq:∀w,Sem.run prog (Op.equalIn 10000 33 (.agg #[O y.mask,O y.level]) (.agg #[O y.mask,O y.level])) w=.ok true w:=λw=>by rw[eqIn_lb];simp
 have hgd:∀op a b w,Sem.run prog (eqGuard op 33 a b (.agg #[O y.mask,O y.level]) (.agg #[O y.mask,O y.level])) w=.ok () w:=λop a b w=>guard_lb op a b _ _ _ _ w;have e1:(y.fn.toList==y.fn.toList)=true:=by simp
 obtain⟨x0,x1,x2,x3⟩:=Js k0;obtain⟨y0,y1,y2,y3⟩:=rG ((aj k1' 0).trans rfl) ((aj k1' 1).trans rfl) ((aj k1' 2).trans rfl) ((aj k1' 3).trans rfl);clear h1 h2 k1 k2 k0 k1' hBW hsz;go_enter func79,ntmps79;go_upto_region 1 with fail;rw[<-hW];clear hW;go_wp2_with fail;refine(HEI W iN).mono ?_;rintro e w5 ⟨rfl,hb5⟩;obtain⟨dW,HK05,HK15⟩:=fq (up iN hb5) (aU lD hb5) (aU jl hb5);clear hb5 x0 x1 x2 x3 y0 y1 y2 y3;obtain⟨-,-,-,-,x4,x5⟩:=Xl HK05;obtain⟨-,-,-,-,y4,y5⟩:=Xl HK15;go_wp2_with fail;refine(HES w5 dW).mono ?_;rintro e w6 ⟨rfl,hb6⟩;have eF:=I (up dW hb6);clear hb6;go_wp2_with fail;go_ret;exact⟨rfl,eF⟩
theorem eqfSc_any(w:World)(v v':Value)(l:List Sc)(h:sF w v l)(h':sF w v' l):Calls prog 78 #[v,v',.func (.func 79) #[] #[]] w λe w'=>e=cO (.bool true)/\bG w w':=by
 obtain⟨a,b,off,cap,rfl,ha,hl,hel⟩:=h;obtain⟨a',b',off',cap',rfl,ha',_,hel'⟩:=h';obtain⟨kg,HA⟩:=bT hel ha;have HEL':=I hel';have HA':=I ha';clear hel ha hel' ha';obtain⟨len,hlen⟩:=bC l.length;have HL:=I hlen;rw[<-hlen]at hl HA HA' ⊢;clear hlen;go_enter func78,ntmps78;go_wp2;go_loopw[17] (λi wr=>∃j:Nat,j<=len/\i=O j/\bG w wr) (λi _=>len - (intOf i).toNat);case atStart=>exact⟨0,bI _,rfl,bN _ _⟩
 case round=>
  obtain⟨j,hj,rfl,hnx⟩:=hrel;by_cases hjl:j<len
  ·obtain⟨y,hy⟩:∃y,l[j]?=some y:=⟨_,bg (by rw[<-HL];exact hjl)⟩;obtain⟨vb,ve,g0,g1,g2,g3,g4,g5,hb,he⟩:=kg j y hy;obtain⟨vb',ve',z0,z1,z2,z3,z4,z5,hb',he'⟩:=HEL'.out j y hy;obtain rfl:=HA aV;obtain rfl:=HA'.out aV;obtain⟨q1,r1,e1⟩:=hb.Dx;obtain⟨q2,r2,e2⟩:=iD he;obtain⟨q3,r3,e3⟩:=hb'.Dx;obtain⟨q4,r4,e4⟩:=iD he';subst e1 e2 e3 e4;have dO:=I (aH wr (aY #[A y.fn,O y.mask,O y.level,Y q1 y.bounds.length r1,O y.pc,Y q2 y.gU.length r2] 35));replace g0:=aC g0 hnx;replace g1:=aC g1 hnx;replace g2:=aC g2 hnx;replace g3:=aC g3 hnx;replace g4:=aC g4 hnx;replace g5:=aC g5 hnx;replace z0:=aC z0 (up hnx dO);replace z1:=aC z1 (up hnx dO);replace z2:=aC z2 (up hnx dO);replace z3:=aC z3 (up hnx dO);replace z4:=aC z4 (up hnx dO);replace z5:=aC z5 (up hnx dO);have HB2:=I (up (up hnx dO) (aH (wr.alloc (aY #[A y.fn,O y.mask,O y.level,Y q1 y.bounds.length r1,O y.pc,Y q2 y.gU.length r2] 35)) (aY #[A y.fn,O y.mask,O y.level,Y q3 y.bounds.length r3,O y.pc,Y q4 y.gU.length r4] 35)));have HC:=I (WK _ y q1 q2 q3 q4 r1 r2 r3 r4 (hb.below HB2) (he.below HB2) (hb'.below HB2) (he'.below HB2));generalize y.bounds.length=n1 at *;generalize y.gU.length=n2 at *;clear hb he hb' he' hy hnx;go_wp2_with fail;refine HC.mono ?_;rintro e w5 ⟨rfl,hb5⟩;have kG:=I (up HB2 hb5);clear hb5;go_wp2_with fail;go_roundw;case rel=>exact⟨j+1,by omega,by go_num,kG⟩
   case measure=>simp[intOf];omega
  ·go_wp2;go_ret;exact⟨rfl,hnx⟩
theorem WL(w:World)(vs vd us ud:Value)(S:List Sc)(D:List Dg)(h1:sF w vs S)(h2:iE w vd D)(k1:sF w us S)(k2:iE w ud D):Calls prog 22 #[.agg #[vs,vd],.agg #[us,ud]] w λe w'=>e=cO (.bool true)/\bG w w':=by have HS:Hid (∀wx,bG w wx->Calls prog 47 #[vs,us] wx λe w'=>e=cO (.bool true)/\bG wx w'):=I (λwx hb=>by have HC:=I (eqfSc_any wx _ _ S (h1.below hb) (k1.below hb));obtain⟨a1,b1,o1,c1,rfl,-⟩:=h1;obtain⟨a2,b2,o2,c2,rfl,-⟩:=k1;generalize S.length=n at *;clear h2 k2 hb;go_enter func47,ntmps47;go_wp2_with fail;refine HC.mono ?_;rintro e w5 ⟨rfl,hb5⟩;have dW:=I hb5;clear hb5;go_wp2_with fail;go_ret;exact⟨rfl,dW⟩);have HD:=I (λwx (hb:bG w wx)=>RU wx _ _ D (h2.below hb) (k2.below hb));obtain⟨a1,b1,o1,c1,rfl,-⟩:=h1;obtain⟨a2,b2,o2,c2,rfl,-⟩:=k1;obtain⟨a3,b3,o3,c3,rfl,-⟩:=h2;obtain⟨a4,b4,o4,c4,rfl,-⟩:=k2;generalize S.length=n1 at *;generalize D.length=n2 at *;obtain⟨W,hW,k0,k1,hsz,hBW⟩:=wG w (aY #[Y a1 n1 c1,Y a3 n2 c3] 61) (aY #[Y a2 n1 c2,Y a4 n2 c4] 61);have x0:=aj k0 0;have y0:=aj k1 0;obtain⟨iN,lD,jl⟩:=fq hBW k0 k1;clear k0 k1 hsz hBW;go_enter func22,ntmps22;go_upto_region 1 with fail;rw[<-hW];clear hW;go_wp2_with fail;refine(HS W iN).mono ?_;rintro e w5 ⟨rfl,hb5⟩;obtain⟨dW,HK05,HK15⟩:=fq (up iN hb5) (aU lD hb5) (aU jl hb5);clear hb5 x0 y0;obtain⟨-,x1⟩:=jm HK05;obtain⟨-,y1⟩:=jm HK15;go_wp2_with fail;refine(HD w5 dW).mono ?_;rintro e w6 ⟨rfl,hb6⟩;have eF:=I (up dW hb6);clear hb6;go_wp2_with fail;go_ret;exact⟨rfl,eF⟩
def MkC(w0:World)(m:Nat)(c:List Value)(x:Mo):Prop:=∃vi vv vf,c=[.string x.name,vi,vv,vf]/\gT w0 m (.agg #[.string x.name,vi,vv,vf]) x/\nY w0 vi vf
theorem MkC.one{c:List Value}(h:MkC w0 m c x):∀u∈c,u.oneCell'=true:=by obtain⟨vi,vv,vf,rfl,hm,_⟩:=h;obtain⟨a1,a2,a3,e,_,h1,h2,h3⟩:=hm;injection e with e;simp only[Array.mk.injEq,ZQ40Z,and_true,true_and]at e;obtain⟨rfl,rfl,rfl⟩:=e;obtain⟨_,_,_,_,rfl,_⟩:=h1;obtain⟨_,_,_,_,rfl,_⟩:=h2;obtain⟨_,_,_,_,rfl,_⟩:=h3;intro u hu;simp at hu;rcases hu with rfl|rfl|rfl|rfl<;>rfl
def uY(w0:World)(m:Nat)(w:World)(g:Nat)(l:List Mo):Prop:=∃cur:Array Value,w.heap[g]?=some (.cells cur 58 (0,0))/\l.length*4<=cur.size/\∀(i:Nat) x,l[i]?=some x->∃vi vv vf,cur[i*4]?=some (.string x.name)/\cur[i*4+1]?=some vi/\cur[i*4+2]?=some vv/\cur[i*4+3]?=some vf/\gT w0 m (.agg #[.string x.name,vi,vv,vf]) x/\nY w0 vi vf
theorem uY.below(h:uY w0 m w g l)(hb:bG w w'):uY w0 m w' g l:=by obtain⟨cur,h1,h2⟩:=h;exact⟨cur,aU h1 hb,h2⟩
theorem uY.cell(h:uY w0 m w g l)(hx:l[i]?=some x):∃vi vv vf,w.cell? (X g (i*4))=some (A x.name)/\w.cell? (X g (i*4+1))=some vi/\w.cell? (X g (i*4+2))=some vv/\w.cell? (X g (i*4+3))=some vf/\gT w0 m (.agg #[A x.name,vi,vv,vf]) x/\nY w0 vi vf:=by obtain⟨cur,h1,_,h3⟩:=h;obtain⟨vi,vv,vf,g0,g1,g2,g3,hm,hc⟩:=h3 i x hx;exact⟨vi,vv,vf,(aj h1 _).trans g0,(aj h1 _).trans g1,(aj h1 _).trans g2,(aj h1 _).trans g3,hm,hc⟩
theorem uY.free(h:uY w0 m w g l)(k:Nat):w.frozen? (X g k)=false:=by obtain⟨cur,h1,_⟩:=h;exact aG h1 k
theorem uY.mks(h:uY w0 m w g l)(hb:bG w0 w)(hl:l.length<=9223372036854775807):tQ w m (Y (some (X g 0)) l.length cap) l:=by refine⟨_,g,0,cap,rfl,λ_=>rfl,hl,λi x hx=>?_⟩;obtain⟨vi,vv,vf,g0,g1,g2,g3,hm,hc⟩:=h.cell hx;simp only[eu];exact⟨vi,vv,vf,g0,g1,g2,g3,hm.below hb,hc.below hb⟩
theorem uY.set(h:uY w0 m w g l)(hk:k<l.length)(hm:gT w0 m (.agg #[A x.name,vi,vv,vf]) x)(hc:nY w0 vi vf):uY w0 m ((((w.setCell (X g (k*4)) (A x.name)).setCell (X g (k*4+1)) vi).setCell (X g (k*4+2)) vv).setCell (X g (k*4+3)) vf) g (l.set k x):=by
 obtain⟨cur,h1,h2,h3⟩:=h;refine⟨_,aP (aP (aP (aP h1 (k*4) (A x.name)) (k*4+1) vi) (k*4+2) vv) (k*4+3) vf,by simp;exact h2,λi y hy=>?_⟩;by_cases hik:k=i;·subst hik;rw[List.getElem?_set_self hk]at hy;obtain rfl:=H9 hy;refine⟨vi,vv,vf,?_,?_,?_,?_,hm,hc⟩;all_goals simp only[Ow,Array.size_setIfInBounds];repeat(first|rw[aL trivial]|rw[aL aV]|rw[aJ aV])
 ·rw[List.getElem?_set_ne hik]at hy;obtain⟨vi',vv',vf',g0,g1,g2,g3,hm',hc'⟩:=h3 i y hy;refine⟨vi',vv',vf',?_,?_,?_,?_,hm',hc'⟩;all_goals
   simp only[Ow,Array.size_setIfInBounds];repeat(first|rw[aJ aV])
   assumption
theorem own_rowM{base:Nat}{cs:List (List Value)}(h:w.ownsRow base 58 4 (Y (some (X g 0)) n cap) n cs.flatten)(hn:n=l.length)(hcs:cs.length=l.length)(hat:∀(i:Nat) c y,cs[i]?=some c->l[i]?=some y->MkC w0 m c y):uY w0 m w g l:=by
 have hk:∀c∈cs,c.length=4:=λc hc=>by obtain⟨i,hi,rfl⟩:=gP.1 hc;obtain⟨_,_,_,e,_⟩:=hat i _ _ (bg hi) (bg aV);rw[e];rfl
 have hget:=λ(i:Nat) (c:List Value) (hc:cs[i]?=some c) (j:Nat) (hj:j<4)=>Nw h aV hk hc hj;rcases h.2 with⟨h1,_⟩|⟨g',cap',cur,h1,_,hh,_,_,hsz,_⟩;·simp at h1
 ·simp at h1;obtain⟨rfl,rfl⟩:=h1;refine⟨cur,hh,by rw[hsz,<-hn];omega,λi d hd=>?_⟩;have hi:i<cs.length:=by rw[hcs];exact(dz.1 hd).1
  have hc:=bg hi;obtain⟨vi,vv,vf,e,hm,hcp⟩:=hat i _ d hc hd;obtain⟨g0,g1,g2,g3⟩:=rG (hget i _ hc 0 bP) (hget i _ hc 1 bP) (hget i _ hc 2 bP) (hget i _ hc 3 bP);rw[aj hh]at g0 g1 g2 g3;rw[e]at g0 g1 g2 g3;exact⟨vi,vv,vf,by simpa using g0,by simpa using g1,by simpa using g2,by simpa using g3,hm,hcp⟩
theorem WM(m:Nat)(w:World)(v:Value)(l:List Mo)(h:tQ w m v l)(hl:l.length<=1048576)(h0l:0<l.length):Calls prog 21 #[v] w λe w'=>∃g cap,e=cO (Y (some (X g 0)) l.length cap)/\Hid (bG w w'/\w.heap.size<=g/\uY w m w' g l):=by
 obtain⟨a,b,off,cap,rfl,h0,-,hel⟩:=h;obtain rfl:=h0 h0l;obtain⟨cs,k1,k2,k3,k4⟩:=QB (At:=MkC w m) (w:=w) (b:=b) (off:=off) (k:=4) (l:=l) bP (λi y hy=>by
  obtain⟨vi,vv,vf,g0,g1,g2,g3,hm,hc⟩:=hel i y hy;refine⟨[A y.name,vi,vv,vf],rfl,λj u hu=>?_,⟨vi,vv,vf,rfl,hm,hc⟩⟩;match j,hu with
  | 0,hu=>simp at hu;subst hu;exact g0
  | 1,hu=>simp at hu;subst hu;exact g1
  | 2,hu=>simp at hu;subst hu;exact g2
  | 3,hu=>simp at hu;subst hu;exact g3
  | j+4,hu=>simp at hu)
 have A8:Hid (cs.flatten.length=l.length*4):=I (by rw[pU cs k2,k1]);obtain⟨jl,UW,dO⟩:=fq k1 k3 (aH w (aY #[] 58));have HK4:Hid (∀(j:Nat) u,cs.flatten[j]?=some u->(w.alloc (aY #[] 58)).cell? (X b (off+j))=some u):=I λj u hu=>aC (k4 j u hu) dO;have wW:Hid (∀u∈cs.flatten,u.oneCell'=true):=I λu hu=>by obtain⟨c,hc,hu'⟩:=List.mem_flatten.1 hu;obtain⟨i,hi,rfl⟩:=gP.1 hc;exact(k3 i _ _ (bg hi) (bg aV)).one u hu'
 have HH0:Hid (0<l.length->some ((X b off):Addr)=some (X b off)):=I (λ_=>rfl);obtain⟨nl,hnl⟩:=bC l.length;rw[<-hnl]at A8 HH0 jl hl h0l ⊢;obtain⟨HNL,HL,vH⟩:=fq hnl hl h0l;clear hnl hl h0 hel k1 k2 k3 k4 h0l;have hnil:∀w n c,(binOp .eql 26 (Y (some (X b off)) n c) (J)).run prog w=.ok (.bool false) w:=λw n c=>Lib.run_eql_slice_nil w 26 58 (some (X b off)) n c 0 0 underlying26;have HOW:=I (DZ w 58 4);go_enter func21,ntmps21
 go_wp2_with (first
  | (at_builtin;refine jw rfl _ _ 26 58 4 88 _ rfl underlying26 YH bP bP w.heap.size _ 0 [] rfl HOW (some (X b off)) b off nl cap cs.flatten rfl HH0 A8 HK4 wW (by have:=HL.out;unfold maxLen;omega) (by have:=HL.out;omega) dO.size ?_;intro v7 w7 iY dK Qe hp7;have BP:=I iY;have HZ7:=I Qe;have HP7:=I hp7;have jB:=I (Below.grown dO dK dO.size (λk e=>by have:=(HOW.lt k e).1;omega));clear iY dK Qe hp7)
  | fail)
 go_ret;have ho:=BP.out;rw[eu,rX]at ho;have hrow:=ho.2;rcases hrow with⟨h1,h2⟩|⟨g,cap',cur,h1,hg,hh,hc,_⟩;·exfalso;have h3:=(HZ7 h2).symm.trans h1;injection h3 with h4;cases h4
 ·subst h1;exact⟨g,⟨cap',rfl⟩,I ⟨jB,hg,own_rowM ho HNL (by rw[jl,HNL]) UW⟩⟩
end Go.Proofs.YtbgkpehhdibaoaaGreatDoor
