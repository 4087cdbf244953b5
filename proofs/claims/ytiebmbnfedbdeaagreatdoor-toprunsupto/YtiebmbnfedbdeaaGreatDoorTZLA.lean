import Derived.Test.YtiebmbnfedbdeaaGreatDoorTZI2
import Derived.StillTail
import Derived.Deep.RegionHeld
set_option maxHeartbeats 0
set_option maxRecDepth 99999
namespace Go.Proofs.YtiebmbnfedbdeaaGreatDoor
open bS
open Go.Proofs.Tryz
namespace Sv
def sub(a b:Nat):Bool:=(a &&& b)==a
def le(Z:Nat->Nat->Bool)(x y:Nat × Nat):Bool:=sub x.1 y.1&&Z x.2 y.2
def Ok(N:Nat)(x:Nat × Nat):Prop:=x.1<16/\x.2<N
def join(Z:Nat->Nat->Bool)(N:Nat)(x y:Nat × Nat):Nat × Nat:=(x.1 ||| y.1,nT Z N x.2 y.2)
theorem ql(a b:Nat):sub a b=true↔∀i,a.testBit i=true->b.testBit i=true:=by
 unfold sub;rw[beq_iff_eq];constructor;·intro c i d;rw[<-c,Nat.testBit_and,dK]at d;exact d.2
 ·intro c;refine Nat.eq_of_testBit_eq λi=>?_;rw[Nat.testBit_and];cases e:a.testBit i;·rfl
  ·rw[c i e];rfl
theorem adj(a:Nat):sub a a=true:=(ql a a).2 λ_ h=>h
theorem aao{a b c:Nat}(d:sub a b=true)(k:sub b c=true):sub a c=true:=(ql a c).2 λi e=>(ql b c).1 k i ((ql a b).1 d i e)
theorem adk{a b:Nat}(h:sub a b=true)(k:sub b a=true):a=b:=by unfold sub at h k;rw[beq_iff_eq]at h k;rw[<-h,Nat.and_comm,k]
theorem adl(a b:Nat):sub a (a ||| b)=true:=(ql _ _).2 λi c=>by rw[Nat.testBit_or,c];rfl
theorem aap(a b:Nat):sub b (a ||| b)=true:=(ql _ _).2 λi c=>by rw[Nat.testBit_or,c,Bool.or_true]
theorem adn{a b c:Nat}(e:sub a c=true)(k:sub b c=true):sub (a ||| b) c=true:=(ql _ _).2 λi d=>by
 rw[Nat.testBit_or,GK]at d;rcases d with d|d;·exact(ql _ _).1 e i d
 ·exact(ql _ _).1 k i d
theorem amQ{a b:Nat}(h:a<16)(k:b<16):a ||| b<16:=Nat.or_lt_two_pow (n:=4) h k
theorem sub_zero(a:Nat):sub 0 a=true:=(ql _ _).2 λi b=>by simp at b
variable {Z : Nat → Nat → Bool} {N : Nat}
theorem le_refl(a:bS.Joins Z N){x:Nat × Nat}(b:Ok N x):le Z x x=true:=by unfold le;rw[adj,a.refl _ b.2];rfl
theorem le_trans(c:bS.Joins Z N){x y a:Nat × Nat}(d:Ok N x)(e:Ok N y)(f:Ok N a)(b:le Z x y=true)(k:le Z y a=true):le Z x a=true:=by unfold le at *;rw[dK]at *;exact⟨aao b.1 k.1,c.trans _ _ _ d.2 e.2 f.2 b.2 k.2⟩
theorem ahi(b:bS.Joins Z N){x y:Nat × Nat}(c:Ok N x)(d:Ok N y)(a:le Z x y=true)(k:le Z y x=true):x=y:=by unfold le at *;rw[dK]at *;exact Prod.ext (adk a.1 k.1)<|b.anti _ _ c.2 d.2 a.2 k.2
theorem YE(c:bS.Joins Z N){x y:Nat × Nat}(a:Ok N x)(b:Ok N y):Ok N (join Z N x y):=⟨amQ a.1 b.1,c.lt a.2 b.2⟩
theorem aaq(a:bS.Joins Z N){x y:Nat × Nat}(b:Ok N x)(c:Ok N y):le Z x (join Z N x y)=true:=by unfold le;rw[dK];exact⟨adl _ _,(a.spec b.2 c.2).left⟩
theorem apj(a:bS.Joins Z N){x y:Nat × Nat}(b:Ok N x)(c:Ok N y):le Z y (join Z N x y)=true:=by unfold le;rw[dK];exact⟨aap _ _,(a.spec b.2 c.2).right⟩
theorem adh(c:bS.Joins Z N){x y a:Nat × Nat}(d:Ok N x)(e:Ok N y)(f:Ok N a)(b:le Z x a=true)(k:le Z y a=true):le Z (join Z N x y) a=true:=by unfold le at *;rw[dK]at *;exact⟨adn b.1 k.1,(c.spec d.2 e.2).least _ f.2 b.2 k.2⟩
theorem ado{α:Type}{p q:α->Bool}:∀{l:List α},(∀x∈l,p x=true->q x=true)->(∃x∈l,q x=true/\p x=false)->l.countP p<l.countP q:=by
 intro l;induction l with
 | nil=>rintro _ ⟨x,b,_⟩;simp at b
 | cons a l i=>
  intro c g;have j:l.countP p<=l.countP q:=List.countP_mono_left (λx b=>c x<|by simp[b]);rw[List.countP_cons,List.countP_cons];by_cases d:q a=true/\p a=false;·rw[aK d.1,aI (by rw[d.2];simp)];omega
  ·have k:l.countP p<l.countP q:=i (λx b=>c x<|by simp[b]) (by
    obtain⟨x,b,e,f⟩:=g;rcases fV.1 b with rfl|b;·exact aM ⟨e,f⟩ d
    ·exact⟨x,b,e,f⟩)
   have:=c a cK;cases h:p a;·cases m:q a<;>simp<;>omega
   ·rw[this h];simp;omega
def high(Z:Nat->Nat->Bool)(N:Nat)(x:Nat × Nat):Nat:=(List.range (16*N)).countP λc=>le Z (c / N,c % N) x
theorem ahj(Z:aL)(N:Nat)(x:Nat × Nat):high Z N x<=16*N:=by unfold high;have:=List.countP_le_length (p:=λc=>le Z (c / N,c % N) x) (l:=List.range<|16*N);rwa[uJ]at this
theorem YF{c:Nat}(b:c<16*N):Ok N (c / N,c % N):=by
 have d:0<N:=by
  rcases Nat.eq_zero_or_pos N with a|a;·subst a;omega
  ·exact a
 exact⟨Nat.div_lt_of_lt_mul (by rw[Nat.mul_comm];exact b),Nat.mod_lt _ d⟩
theorem Nl(a:bS.Joins Z N){x y:Nat × Nat}(d:Ok N x)(e:Ok N y)(b:le Z x y=true):high Z N x<=high Z N y:=
 List.countP_mono_left (λ_ c k=>le_trans a (YF<|jE.1 c) d e k b)
theorem ahk(b:bS.Joins Z N){x y:Nat × Nat}(j:Ok N x)(a:Ok N y)(f:le Z x y=true)(i:le Z y x=false):high Z N x<high Z N y:=by
 refine ado (λc h k=>le_trans b (YF<|jE.1 h) j a k f) ⟨y.1*N+y.2,?_,?_⟩;·rw[jE];have l:y.1*N<=15*N:=qR N (by have:=a.1;omega);have:=a.2;omega
 ·have g:0<N:=by have:=a.2;omega
  have d:(y.1*N+y.2) / N=y.1:=by rw[Nat.mul_comm,Nat.mul_add_div g,Nat.div_eq_of_lt a.2,sN]
  have e:(y.1*N+y.2) % N=y.2:=by rw[Nat.mul_comm,Nat.mul_add_mod,Nat.mod_eq_of_lt a.2]
  rw[d,e];exact⟨le_refl b a,i⟩
def Mr(f:Nat->Nat):Nat->Nat
 | 0=>0
 | n+1=>Mr f n+f n
theorem OX{f g:Nat->Nat}:∀{n:Nat},(∀v,v<n->f v<=g v)->Mr f n<=Mr g n
 | 0,_=>bG _
 | n+1,a=>Nat.add_le_add (OX λv b=>a v bC)<|a n bC
theorem YG{f g:Nat->Nat}:∀{n:Nat},(∀v,v<n->f v<=g v)->(∃v,v<n/\f v<g v)->Mr f n<Mr g n
 | 0,_,⟨v,b,_⟩=>by omega
 | n+1,a,⟨v,b,d⟩=>by
  have e:=a n bC;have h:Mr f n<=Mr g n:=OX λv b=>a v bC;show Mr f n+f n<Mr g n+g n;by_cases c:v=n;·subst c;omega
  ·have:=YG (n:=n) (λv b=>a v bC) ⟨v,by omega,d⟩;omega
def left(Z:Nat->Nat->Bool)(N n:Nat)(V:Nat->Nat × Nat):Nat:=Mr (λv=>16*N - high Z N (V v)) n
structure Co where
 to:Int
 fr:List Int
 mask:Int
 level:Int
def Co.lab(c:Co):Nat × Nat:=(c.mask.toNat,c.level.toNat)
def uf(n:Nat)(v:Int):Bool:=decide (0<=v)&&decide (v<n)
def Au(N:Nat)(m l:Int):Bool:=decide (0<=m)&&decide (m<=15)&&decide (0<=l)&&decide (l<N)
def Ms(N n:Nat)(c:Co):Bool:=c.fr.all (uf n)&&(uf n c.to&&Au N c.mask c.level)
theorem lU{n:Nat}{v:Int}(h:uf n v=true):0<=v/\v.toNat<n/\v=(v.toNat:Int):=by unfold uf at h;simp only[dK,iy]at h;omega
theorem wX{N:Nat}{m l:Int}(h:Au N m l=true):Ok N (m.toNat,l.toNat)/\m=(m.toNat:Int)/\l=(l.toNat:Int):=by unfold Au at h;simp only[dK,iy]at h;exact⟨⟨by show m.toNat<16;omega,by show l.toNat<N;omega⟩,by omega,by omega⟩
theorem Dt{N n:Nat}{c:Co}(a:Ms N n c=true):(∀f∈c.fr,uf n f=true)/\uf n c.to=true/\Au N c.mask c.level=true:=by unfold Ms at a;simp only[dK]at a;exact⟨λf b=>iB.1 a.1 f b,a.2.1,a.2.2⟩
def Sol(Z:Nat->Nat->Bool)(cs:List Co)(U:Nat->Nat × Nat):Prop:=
 ∀c∈cs,le Z c.lab (U c.to.toNat)=true/\∀f∈c.fr,le Z (U f.toNat) (U c.to.toNat)=true
def yS(N n:Nat)(V:Nat->Nat × Nat):Prop:=∀v,v<n->Ok N (V v)
def OY(Z:Nat->Nat->Bool)(n:Nat)(V U:Nat->Nat × Nat):Prop:=∀v,v<n->le Z (V v) (U v)=true
structure Bf(Z:Nat->Nat->Bool)(N n:Nat)(cs:List Co)(V:Nat->Nat × Nat):Prop where
 ok:yS N n V
 sol:Sol Z cs V
 least:∀U,yS N n U->Sol Z cs U->OY Z n V U
theorem Bf.unique(d:bS.Joins Z N){n:Nat}{cs:List Co}{V c:Nat->Nat × Nat}(a:Bf Z N n cs V)(k:Bf Z N n cs c):∀v,v<n->V v=c v:=
 λv b=>ahi d (a.ok v b) (k.ok v b) (a.least c k.ok k.sol v b)<|k.least V a.ok a.sol v b
theorem Sol.less{cs a:List Co}{U:Nat->Nat × Nat}(b:Sol Z (cs++a) U):Sol Z cs U:=λc d=>b c<|M7 _ d
def put(V:Nat->Nat × Nat)(i:Nat)(x:Nat × Nat):Nat->Nat × Nat:=λv=>if v=i then x else V v
def up(Z:Nat->Nat->Bool)(N:Nat)(V:Nat->Nat × Nat)(i:Nat)(a:Nat × Nat):Nat->Nat × Nat:=if le Z a (V i)then V else put V i (join Z N (V i) a)
theorem aj9{n i:Nat}{V:Nat->Nat × Nat}{x:Nat × Nat}(a:yS N n V)(c:Ok N x):yS N n (put V i x):=λv b=>by
 unfold put;split;·exact c
 ·exact a v b
theorem KU(c:bS.Joins Z N){n i:Nat}{V:Nat->Nat × Nat}{a:Nat × Nat}(b:yS N n V)(e:i<n)(d:Ok N a):yS N n (up Z N V i a):=by
 unfold up;split;·exact b
 ·exact aj9 b<|YE c (b i e) d
theorem Vs(b:bS.Joins Z N){n i:Nat}{V:Nat->Nat × Nat}{a:Nat × Nat}(c:yS N n V)(f:i<n)(e:Ok N a):OY Z n V (up Z N V i a):=λv d=>by
 unfold up;split;·exact le_refl b<|c v d
 ·unfold put;split;·subst v;exact aaq b (c i f) e
  ·exact le_refl b<|c v d
theorem MC(b:bS.Joins Z N){n i:Nat}{V:Nat->Nat × Nat}{a:Nat × Nat}(c:yS N n V)(e:i<n)(d:Ok N a):le Z a (up Z N V i a i)=true:=by
 unfold up;split;·assumption
 ·unfold put;rw[aK rfl];exact apj b (c i e) d
theorem F7(e:bS.Joins Z N){n i:Nat}{V U:Nat->Nat × Nat}{a:Nat × Nat}(f:yS N n V)(g:yS N n U)(c:i<n)(h:Ok N a)(b:OY Z n V U)(j:le Z a (U i)=true):OY Z n (up Z N V i a) U:=λv d=>by
 unfold up;split;·exact b v d
 ·unfold put;split;·subst v;exact adh e (f i c) h (g i c) (b i c) j
  ·exact b v d
theorem RQ(a:bS.Joins Z N){n:Nat}{V:Nat->Nat × Nat}(b:yS N n V):OY Z n V V:=λv c=>le_refl a<|b v c
theorem FC(c:bS.Joins Z N){n:Nat}{V b T:Nat->Nat × Nat}(g:yS N n V)(f:yS N n b)(e:yS N n T)(d:OY Z n V b)(k:OY Z n b T):OY Z n V T:=λv a=>le_trans c (g v a) (f v a) (e v a) (d v a)<|k v a
theorem ahl(c:bS.Joins Z N){n:Nat}{V a:Nat->Nat × Nat}(f:yS N n V)(e:yS N n a)(d:OY Z n V a):left Z N n a<=left Z N n V:=
 OX λv b=>by have:=Nl c (f v b) (e v b)<|d v b;omega
theorem ahm(c:bS.Joins Z N){n i:Nat}{V:Nat->Nat × Nat}{a:Nat × Nat}(d:yS N n V)(b:i<n)(e:Ok N a)(k:le Z a (V i)=false):left Z N n (up Z N V i a)<left Z N n V:=by
 obtain⟨f,h⟩:=eY (KU c d b e)<|Vs c d b e;refine YG (λv g=>?_) ⟨i,b,?_⟩;·have:=Nl c (d v g) (f v g)<|h v g;omega
 ·have l:=ahk c (d i b) (f i b) (h i b) (by
   cases j:le Z (up Z N V i a i) (V i);·rfl
   ·have:=le_trans c e (f i b) (d i b) (MC c d b e) j;rw[k]at this;cases this)
  have m:=ahj Z N<|up Z N V i a i;omega
end Sv
open Go.RowKit
theorem ads:(prog.info? 4).map (λi=>(i.zero,i.size,i.bytes))=some (some<|.bool false,1,1):=by kernel_rfl
theorem ahn:(prog.info? 45).map (λi=>(i.zero,i.size,i.bytes))=some (some<|aU,1,24):=by kernel_rfl
def top(N n:Nat)(r:Nat):Nat->Value:=λj=>if j<r then .slice (some ⟨N+1+j,0,none⟩) n n else .slice none 0 0
structure RS(w wr:World)(n r:Nat)(Z:Nat->Nat->Bool):Prop where
 since:Below w.heap.size w wr
 size:wr.heap.size=w.heap.size+1+r
 top:wr.rowIs w.heap.size 45 n (top w.heap.size n r)
 done:∀j,j<r->wr.rowIs (w.heap.size+1+j) 4 n (λc=>.bool (Z j c))
structure Inner(w wi:World)(n r c:Nat)(Z:Nat->Nat->Bool):Prop where
 since:Below w.heap.size w wi
 size:wi.heap.size=w.heap.size+1+r+1
 top:wi.rowIs w.heap.size 45 n (top w.heap.size n (r+1))
 done:∀j,j<r->wi.rowIs (w.heap.size+1+j) 4 n (λc=>.bool (Z j c))
 cur:wi.rowIs (w.heap.size+1+r) 4 n (λi=>if i<c then .bool (Z r i)else .bool false)
theorem RU(w:bI)(n:Nat)(Z:aL):RS w (w.alloc<|.cells (madeCells #[aU] n) 45) n 0 Z:=
 ⟨(bQ _ _).alloc (bG _) _,by simp,(World.rowIs_made w _ n 45).congr (λj _=>by simp[top]),λj a=>aM a<|fU _⟩
theorem aeh{w wr:bI}{n r:Nat}{Z:aL}(a:RS w wr n r Z):Inner w ((wr.alloc<|.cells (madeCells #[.bool false] n) 4).setCell (aN w.heap.size r) (Tc (w.heap.size+1+r) n n)) n r 0 Z:=by
 have d:=World.rowIs_made wr (.bool false) n 4;rw[a.size]at d;refine⟨(a.since.alloc (by rw[a.size];omega) _).setCell (bG _) _,by simp[a.size],((a.top.alloc _).set r _).congr (λj _=>?_),λj e=>((a.done j e).alloc _).setOther (by show w.heap.size+1+j≠w.heap.size;omega) _,(d.setOther (by show w.heap.size+1+r≠w.heap.size;omega) _).congr (λi _=>by simp)⟩;simp only[top];by_cases b:j=r;·subst b;simp
 ·rw[aI b];by_cases c:j<r;·rw[aK c,aK bC]
  ·rw[aI c,aI bC]
theorem aej{w f:bI}{n r c:Nat}{Z:aL}(a:Inner w f n r c Z){b:Bool}(g:b=Z r c):Inner w (f.setCell (aN (w.heap.size+1+r) c)<|.bool b).drew n r (c+1) Z:=by
 subst g
 refine⟨(a.since.setCell (by show w.heap.size<=w.heap.size+1+r;omega) _).drew,by simp[a.size],(a.top.setOther (by show w.heap.size≠w.heap.size+1+r;omega) _).drew,
  λj h=>((a.done j h).setOther (by show w.heap.size+1+j≠w.heap.size+1+r;omega) _).drew,((a.cur.set c _).congr (λi _=>?_)).drew⟩
 by_cases d:i=c;·subst d;simp
 ·rw[aI d];by_cases e:i<c;·rw[aK e,aK bC]
  ·rw[aI e,aI bC]
theorem aeN{w b:bI}{n r:Nat}{Z:aL}(a:Inner w b n r n Z):RS w b n (r+1) Z:=
 ⟨a.since,by rw[a.size];omega,a.top,λj e=>by
  by_cases c:j=r;·subst c;exact a.cur.congr (λi d=>by rw[aK d])
  ·exact a.done j bC⟩
theorem VO{w w':bI}{n:Nat}{Z:aL}(b:RS w w' n n Z):vF w' (Tc w.heap.size n n) n Z:=
 ⟨w.heap.size,0,n,λj=>w.heap.size+1+j,λ_=>0,λ_=>n,rfl,
  λr a=>by rw[d9,b.top.cell a];simp[top,a],
  λr c a d=>by rw[d9];exact(b.done r a).cell d⟩
theorem BN(w:bI)(v:aC)(n:Nat)(Z:aL)(hG:vF w v n Z)(hn:n<=6):aD 55 #[v] w λe w'=>∃v',e=dz v'/\vF w' v' n (bS.tr Z)/\bK w w':=by
 obtain⟨gb,go,gc,RB,RO,C,rfl,hrow,hcell⟩:=hG;have amR:=run_make_row' (P:=prog) 23 45 (aU) 24 underlying23 ahn rfl .i64 .i64 n bC bC;go_enter func55,ntmps55;go_wp2;clear amR;go_loopg [11] n (λg i wr=>∃r:Nat,r<=n/\g=n - r/\i=O r/\RS w wr n r (bS.tr Z));exact⟨0,bN _,rfl,rfl,RU w n _⟩
 obtain⟨r,hr,rfl,rfl,hO⟩:=hrel;by_cases hrG:r<n
 ·have hrz:(r:Int)<(n:Int):=by omega
  obtain⟨hsize,amS⟩:=eY hO.size (run_make_row' (P:=prog) 45 4 (.bool false) 1 underlying45 ads rfl .i64 .i64 n bC bC);have apV:∀o,(wr.alloc o).cell? (aN w.heap.size r)=some (top w.heap.size n r r):=λo=>(hO.top.alloc o).cell hrG;have apW:∀o,(wr.alloc o).frozen? (aN w.heap.size r)=false:=λo=>(hO.top.alloc o).frozen r;go_wp2;have hI0:=aeh hO;clear amS apV apW hsize hO;go_loopg [25] n (λg i wi=>∃c:Nat,c<=n/\g=n - c/\i=O c/\Inner w wi n r c (bS.tr Z));exact⟨0,bN _,rfl,rfl,hI0⟩
  obtain⟨c,hc,rfl,rfl,hI⟩:=hrel;clear hI0;by_cases hcL:c<n
  ·have hcz:(c:Int)<(n:Int):=by omega
   have t1:wr.cell? (aN w.heap.size r)=some (Tc (w.heap.size+1+r) n n):=by simpa[top]using hI.top.cell hrG
   have t2:wr.cell? (aN gb (go+c))=some (X (some (aN (RB c) (RO c))) n (C c)):=by rw[hI.since.cell (eH _ _ (hrow c hcL))];exact hrow c hcL
   have t3:wr.cell? (aN (RB c) (RO c+r))=some (.bool (Z c r)):=by rw[hI.since.cell (eH _ _ (hcell c r hcL hrG))];exact hcell c r hcL hrG
   have t4:wr.cell? (aN (w.heap.size+1+r) c)=some (.bool false):=by simpa using hI.cur.cell hcL
   have t5:wr.frozen? (aN (w.heap.size+1+r) c)=false:=hI.cur.frozen c;clear hrow hcell;go_wp2_with fail;go_big_region;go_wp2;go_roundg (n - (c+1));case measure=>go_light;omega
   case rel=>go_light;exact⟨c+1,by omega,rfl,by simp,aej hI rfl⟩
  ·obtain rfl:c=n:=by omega
   have hcz:¬((c:Int)<(c:Int)):=by omega
   go_wp2;go_roundg (c - (r+1));case measure=>go_light;omega
   case rel=>go_light;exact⟨r+1,by omega,rfl,by simp,aeN hI⟩
 ·have hrz:¬((r:Int)<(n:Int)):=by omega
  go_wp2;go_ret;obtain rfl:r=n:=by omega
  exact⟨_,rfl,VO hO,hO.since⟩
namespace bS
def dD(ss:List aS)(G:Nat)(L:Nat->Nat)(Z:Nat->Nat->Bool):Int:=
 if mY ss=false then 1 else if 6<ss.length then 2 else if mR G L ss.length=false then 5 else if BD Z ss.length=false then 5
 else if qQ Z ss.length=false then 5 else if qQ (tr Z) ss.length=false then 5 else 0
end bS
theorem Du{w:bI}{v:aC}{G n:Nat}{L:Nat->Nat}{Z:aL}(c:EX w v G L Z)(f:0<n)(a:mR G L n=true):vF w v n Z:=by
 unfold mR at a;obtain⟨d,e⟩:=mF.1 a;have b:G=n:=by simpa using d
 subst b;exact c.grid f (λr g=>by simpa[wM]using uz e g)
theorem aar{ss:aJ}(h:mY ss=true):0<ss.length:=by unfold mY at h;simpa using(mF.1 h).2
theorem zW(w:bI)(v c:aC)(ss:aJ)(G:Nat)(L:Nat->Nat)(Z:aL)(t:Strs w v ss)(s:EX w c G L Z):aD 26 #[.agg #[v,c]] w λg w'=>g=dz (O<|dD ss G L Z)/\bK w w':=by
 obtain⟨q,D⟩:=bV t s;obtain⟨a,b,off,cap,rfl,F,H,K,E⟩:=t;clear F K E s;obtain⟨n,k⟩:=aV ss.length
 have f:J (dD ss G L Z=if mY ss=false then 1 else if 6<n then 2 else if mR G L n=false then 5 else if BD Z n=false then 5
  else if qQ Z n=false then 5 else if qQ (bS.tr Z) n=false then 5 else 0):=by rw[k];rfl
 have B:J (mY ss=true->0<n):=by rw[k];exact aar
 rw[<-k]at H q ⊢;clear k;go_enter func26,ntmps26;go_wp2_with fail;refine(adE _ _ ss<|q.below<|(bQ _ _).alloc (bG _) _).mono ?_;rintro g w1 ⟨rfl,j⟩;have e:=Y<|Z7 j;obtain⟨q0,q1⟩:=eY (aG (Rf w (X a n cap) c 25) j)<|aG (vH w (X a n cap) c 25) j;clear j;cases d:mY ss;·go_wp2;go_ret;exact⟨bZ (by rw[f,aK d]),e⟩
 ·have I:=B d;by_cases i:6<n;·go_wp2;go_ret;exact⟨bZ (by rw[f,d,aI cK,aK i]),e⟩
  ·have p:=Y<|D.below e;go_wp2_with fail;refine(afv w1 c G n L Z p bC).mono ?_;rintro g w' ⟨rfl,h⟩;subst h;cases zs:mR G L n;·go_wp2;go_ret;exact⟨bZ (by rw[f,d,aI cK,aI i,aK zs]),e⟩
   ·have m:=Y<|Du p I zs;go_wp2_with fail;refine(an1 w' c n Z m bC).mono ?_;rintro g R ⟨rfl,h⟩;subst h;cases l:BD Z n;·go_wp2;go_ret;exact⟨bZ (by rw[f,d,aI cK,aI i,zs,aI cK,aK l]),e⟩
    ·go_wp2_with fail;refine(Dc R c n Z m bC).mono ?_;rintro g U ⟨rfl,h⟩;subst h;cases o:qQ Z n;·go_wp2;go_ret;exact⟨bZ (by rw[f,d,aI cK,aI i,zs,aI cK,l,aI cK,aK o]),e⟩
     ·go_wp2_with fail;refine(BN U c n Z m bC).mono ?_;rintro g V ⟨v',rfl,r,u⟩;obtain⟨z,x⟩:=bV r<|up e u;clear r u;go_wp2_with fail;refine(Dc V v' n (bS.tr Z) z bC).mono ?_;rintro g W ⟨rfl,h⟩;subst h;cases y:qQ (bS.tr Z) n;·go_wp2;go_ret;exact⟨bZ (by rw[f,d,aI cK,aI i,zs,aI cK,l,aI cK,o,aI cK,aK y]),x⟩
      ·go_wp2;go_ret;exact⟨bZ (by rw[f,d,aI cK,aI i,zs,aI cK,l,aI cK,o,aI cK,y,aI cK]),x⟩
section
variable {P : Program} {ops : Array Oper} {md : Region.Mode} {C : World → Prop}
def Dv(P:Program)(md:Region.Mode)(ops:Array Oper)(C:bI->Prop)(n:Nat)(L:Array Bool->Act->Prop):Nat->Array Bool->Act->Prop
 | 0,s,a=>L s a
 | f+1,s,a=>Region.ready md ops s≠[]/\∀i∈Region.ready md ops s,i<n/\qOp P ops C i (Dv P md ops C n L f (s.setIfInBounds i true)) a
theorem aev{n g:Nat}{L:Array Bool->Act->Prop}{Q':Exit->Act->bI->Prop}(j:∀s a w,C w->L s a->wpAny P md ops Q' g s a w)(f:Nat):∀(s:Array Bool) (a:Act) (w:bI),C w->Dv P md ops C n L f s a->wpAny P md ops Q' (f+g) s a w:=by
 induction f with
 | zero=>intro s a w c b;rw[d9];exact j s a w c b
 | succ f m =>intro s a w c b;rw[Nat.add_right_comm];exact⟨λh=>aM h b.1,λi k=>wpOp_of_qOp c (λd w' l e=>m _ d w' l e) (b.2 i k).2⟩
theorem acC{n i:Nat}{m:Oper}{v:aC}{L:Array Bool->Act->Prop}(u:ops[i]?=some m)(E:∀(j:Nat) (o:Oper) cs b,ops[j]?=some o->o.op≠.select cs b)(hs:Region.sinkB md ops n=true)(I:Region.chainB md ops n=true)(hn:n<ops.size)(V:i<n)(K:∀s a,L s a->∀j∈Region.ready md ops s,n<=j)(f:Nat):∀(s:Array Bool) (a:Act),HeadInv md ops n s->(∀j h,ops[j]?=some h->j≠i->s.getD j true=false->(∀c∈h.after,Region.binds md c=true->c.on≠i)->m.apart ops h=true)->i∈Region.ready md ops s->YieldsIn P ops C m v a->Dv P md ops C n L f (s.setIfInBounds i true) (a.put m.dst v)->Dv P md ops C n L (f+1) s a:=by
 have p:∀{s:Array Bool},HeadInv md ops n s->i∈Region.ready md ops s->∀j∈Region.ready md ops s,j<n:=λ{s} g e j d=>by
  rcases Fa j n with r|r;·exact r
  ·exact aM d<|tail_waits hs I hn g _ i rfl V (mem_ready.1 e).1 j r
 induction f with
 | zero=>
  intro s a g _ e q l;refine⟨List.ne_nil_of_mem e,λj d=>⟨p g e j d,?_⟩⟩;by_cases c:j=i;·rw[c];exact q.qOp u l
  ·have t:=K _ _ l j<|ready_mono d c;have x:=p g e j d;omega
 | succ f ih=>
  intro s a g z e q l;refine⟨List.ne_nil_of_mem e,λj d=>⟨p g e j d,?_⟩⟩;by_cases c:j=i;·rw[c];exact q.qOp u l
  ·obtain⟨D,h,w,G⟩:=mem_ready.1 d;have ab:∀c∈h.after,Region.binds md c=true->c.on≠i:=λc R H U=>by have t:=G c R H;rw[U,getD_both (mem_ready.1 e).1]at t;cases t
   have x:=qOp_put w (z j h w c D ab) (λcs b=>E i m cs b u) (λcs b=>E j h cs b w) q (l.2 j<|ready_mono d c).2;refine qOp_mono (λF y=>ih _ F (g.set d<|p g e j d) (λk ok W aa ad ac=>z k ok W aa ?_ ac) (ready_mono e<|Ne.symm c) y.1 ?_) x
   ·by_cases B:j=k;·rw[<-B];exact D
    ·rwa[getD_set_ne true B]at ad
   ·rw[X3 _ _ c];exact y.2
theorem alf{n g:Nat}{d:Act->Prop}(E:Region.noSelect ops=true)(D:Region.sinkB md ops n=true)(w:Region.chainB md ops n=true)(y:n<ops.size):∀(l:List Oper) (k:Nat) (s:Array Bool) (a:Act),(∀j,j<l.length->l[j]?=ops[k+j]?)->k+l.length=n->HeadInv md ops n s->Region.lexHead md ops g l.length k s=true->wpQuiet P ops C d l a->Dv P md ops C n (λq h=>Region.seqB md ops g n q=true/\d h) l.length s a:=by
 intro l;induction l with
 | nil=>
  intro k s a _ f _ c e;obtain rfl:k=n:=by simpa using f
  exact⟨by simpa[Region.lexHead]using c,e⟩
 | cons o l G=>
  intro k s a i f p c e;have b:ops[k]?=some o:=by simpa using(i 0 cK).symm
  simp only[vN,Region.lexHead,dK]at c f;obtain⟨⟨B,x⟩,r⟩:=c;have m:k∈Region.ready md ops s:=by simpa using B
  have z:qOp P ops C k (wpQuiet P ops C d l) a:=by unfold qOp;simp only[b];exact e
  obtain⟨v,F,t⟩:=yieldsIn_of_qOp b z;refine acC b (Region.noSelect_spec E) D w y bC (λq h u=>seqB_ready u.1) l.length s a p (Region.free_spec b x) m F<|G (k+1) _ _ (λj H=>?_) bC (p.set m bC) r t;have:=i (j+1) (by simp;omega);simpa[Nat.add_assoc,Nat.add_comm 1 j]using this
end
theorem yT{P:Program}{C:bI->Prop}{id:Nat}{Q:Exit->Act->bI->Prop}{a:Act}{w:bI}{l:List Oper}(n:Nat)(u:P.follows .mixedOrders=true)(d:Region.lexTailB .any l.toArray n=true)(o:C { w with drawn:=w.drawn+1 })(m:wpQuiet P l.toArray C (λc=>∀w',C w'->wpList P l.toArray Q (l.drop n) c w') (l.take n) a):(Code.region id l.toArray true).wp P Q a w:=by
 simp only[Region.lexTailB,Bool.and_eq_true,decide_eq_true_eq]at d;obtain⟨⟨⟨⟨x,i⟩,v⟩,p⟩,r⟩:=d;have D:n<l.length:=by simpa using i
 have b:(l.take n).length=n:=by simp;omega
 have f:(l.drop n).length=l.toArray.size - n:=by simp
 have B:HeadInv .any l.toArray n (Array.replicate l.toArray.size false):=⟨by simp,λj E _ q=>absurd q (by rw[getD_replicate_false];simp),λt _ y=>getD_in (by simpa using y) (getD_replicate_false _ _)⟩;have k:=alf (md:=.any) (g:=l.toArray.size - n) x v p i (l.take n) 0 _ a (λj h=>by rw[b]at h;simp[h]) (by simpa using b) B (by rw[b];exact r) m;have K:=aev (Q':=Q) (g:=l.toArray.size - n) (λs c w' z e=>by have:=wpAny_of_seq (md:=.any) (Q':=Q) (l.drop n) n s c w' (λj=>by simp[List.getElem?_drop]) (by rw[f];exact e.1) (e.2 w' z);rwa[f]at this) _ _ _ _ o k;rw[b,show n+(l.toArray.size - n)=l.toArray.size by omega]at K;exact wp_region_any u K
theorem gq{P:Program}{id:Nat}{Q:Exit->Act->bI->Prop}{a:Act}{w:bI}{l:List Oper}(n:Nat)(e:P.follows .mixedOrders=true)(d:Region.lexTailB .any l.toArray n=true)
  (c:wpQuiet P l.toArray (λw'=>∃p:GrownBy,w'=gn w p.n p.os) (λb=>∀w',(∃p:GrownBy,w'=gn w p.n p.os)->wpList P l.toArray Q (l.drop n) b w') (l.take n) a):(Code.region id l.toArray true).wp P Q a w:=
 yT (C:=λw'=>∃p:GrownBy,w'=gn w p.n p.os) n e d ⟨⟨w.drawn+1,#[]⟩,by simp[gn]⟩ c
section
variable {P : Program} {ops : Array Oper} {Q : Exit → Act → World → Prop} {md : Region.Mode} {S : World → Prop} {st : Nat}
def jA(P:Program)(md:Region.Mode)(ops:Array Oper)(Q:Exit->Act->bI->Prop)(S:bI->Prop)(st:Nat):Nat->Array Bool->Act->bI->Prop
 | 0,b,a,w=>Region.ready md ops b=[]/\Q .normal a w
 | fuel+1,b,a,w=>
  (Region.ready md ops b=[]->Q .normal a w)/\
  ∀i∈Region.ready md ops b,wpOp P ops Q i (λc w'=>((b.setIfInBounds i true).getD st true=false->S w')/\jA P md ops Q S st fuel (b.setIfInBounds i true) c w') a w
theorem JN:∀(fuel:Nat) (c:Array Bool) (a:Act) (w:bI),jA P md ops Q S st fuel c a w->wpAny P md ops Q fuel c a w
 | 0,_,_,_,b=>b
 | fuel+1,_,_,_,b=>⟨b.1,λi f=>wpOp_mono (λd w' e=>JN fuel _ d w' e.2)<|b.2 i f⟩
def O1(md:Region.Mode)(ops:Array Oper)(st i:Nat):Bool:=match ops[st]? with
 | some o=>o.after.toList.any λe=>Region.binds md e&&e.on==i
 | none=>false
theorem Nn{i:Nat}{listed:Array Bool}(b:O1 md ops st i=true)(g:listed.getD i true=false):st∉Region.ready md ops listed:=by intro j;obtain⟨_,o,h,e⟩:=mem_ready.1 j;unfold O1 at b;rw[h]at b;obtain⟨d,f,a⟩:=RY.1 b;simp only[dK,beq_iff_eq]at a;have c:=e d (by simpa using f) a.1;rw[a.2,getD_both g]at c;cases c
theorem O4{i:Nat}{h:Oper}{v:aC}(x:ops[i]?=some h)(G:∀(j:Nat) (o:Oper) cs b,ops[j]?=some o->o.op≠.select cs b)(U:∀c a w,Q (.panic c) (a.put h.dst v) w->Q (.panic c) a w)(K:O1 md ops st i=true):∀(fuel:Nat) (e:Array Bool) (a:Act) (w:bI),(∀j l,ops[j]?=some l->j≠i->e.getD j true=false->(∀d∈l.after,Region.binds md d=true->d.on≠i)->h.apart ops l=true)->i∈Region.ready md ops e->e.getD st true=false->YieldsIf P ops S h v a->S w->jA P md ops Q S st fuel (e.setIfInBounds i true) (a.put h.dst v) w->jA P md ops Q S st (fuel+1) e a w:=by
 intro fuel;induction fuel with
 | zero=>
  intro e a w _ g _ r n m;refine⟨λs=>(by rw[s]at g;cases g),λj p=>?_⟩;by_cases f:j=i;·subst f;exact r.wpOp x n ⟨λ_=>n,m⟩
  ·have:=ready_mono p f;rw[m.1]at this;cases this
 | succ fuel ih=>
  intro e a w B g H r n m;refine⟨λs=>(by rw[s]at g;cases g),λj p=>?_⟩;by_cases f:j=i;·subst f;exact r.wpOp x n ⟨λ_=>n,m⟩
  ·have q:=m.2 j<|ready_mono p f;obtain⟨F,l,y,V⟩:=mem_ready.1 p;have t:=(mem_ready.1 g).1;have af:∀d∈l.after,Region.binds md d=true->d.on≠i:=λd he W aa=>by have q:=V d he W;rw[aa,getD_both t]at q;cases q
   have E:j≠st:=λd=>Nn K t (by rw[<-d];exact p);have ac:i≠st:=λd=>Nn K t (by rw[<-d];exact g);have R:=wpOp_putIf y (B j l y f F af) (λcs b=>G i h cs b x) (λcs b=>G j l cs b y) U r q;have ab:∀k ok,ops[k]?=some ok->k≠i->(e.setIfInBounds j true).getD k true=false->(∀d∈ok.after,Region.binds md d=true->d.on≠i)->h.apart ops ok=true:=λk ok hk ad I ae=>by
    refine B k ok hk ad ?_ ae;by_cases D:j=k;·subst D;exact F
    ·rw[getD_set_ne true D]at I;exact I
   refine wpOp_mono (λL w' u=>?_) R;have z:S w':=u.2.1 (by rw[getD_set_ne true E,getD_set_ne true ac];exact H);refine⟨λ_=>z,ih (e.setIfInBounds j true) L w' ab (ready_mono g<|Ne.symm f) (by rw[getD_set_ne true E];exact H) u.1 z ?_⟩;rw[X3 _ _ f];exact u.2.2
theorem Mt{i:Nat}{l:Oper}{v:aC}(u:ops[i]?=some l)(F:∀(j:Nat) (o:Oper) cs b,ops[j]?=some o->o.op≠.select cs b)(L:∀c a w,Q (.panic c) (a.put l.dst v) w->Q (.panic c) a w)(x:i≠st):∀(fuel:Nat) (f:Array Bool) (a:Act) (w:bI),(∀j m,ops[j]?=some m->j≠i->f.getD j true=false->(∀e∈m.after,Region.binds md e=true->e.on≠i)->l.apart ops m=true)->i∈Region.ready md ops f->YieldsIf P ops (λ_=>True) l v a->(f.getD st true=false->S w)->jA P md ops Q S st fuel (f.setIfInBounds i true) (a.put l.dst v) w->jA P md ops Q S st (fuel+1) f a w:=by
 intro fuel;induction fuel with
 | zero=>
  intro f a w _ h r t n;refine⟨λd=>(by rw[d]at h;cases h),λj q=>?_⟩;by_cases g:j=i;·subst g;exact r.wpOp u trivial ⟨λd=>t (by rw[getD_set_ne true x]at d;exact d),n⟩
  ·have:=ready_mono q g;rw[n.1]at this;cases this
 | succ fuel ih=>
  intro f a w B h r t n;refine⟨λd=>(by rw[d]at h;cases h),λj q=>?_⟩;by_cases g:j=i;·subst g;exact r.wpOp u trivial ⟨λd=>t (by rw[getD_set_ne true x]at d;exact d),n⟩
  ·have p:=n.2 j<|ready_mono q g;obtain⟨E,m,y,R⟩:=mem_ready.1 q;have I:=(mem_ready.1 h).1;have ad:∀e∈m.after,Region.binds md e=true->e.on≠i:=λe V U W=>by have p:=R e V U;rw[W,getD_both I]at p;cases p
   have K:=wpOp_putIf y (B j m y g E ad) (λcs b=>F i l cs b u) (λcs b=>F j m cs b y) L r p;have aa:∀k ok,ops[k]?=some ok->k≠i->(f.setIfInBounds j true).getD k true=false->(∀e∈ok.after,Region.binds md e=true->e.on≠i)->l.apart ops ok=true:=λk ok hk ab G ac=>by
    refine B k ok hk ab ?_ ac;by_cases D:j=k;·subst D;exact E
    ·rw[getD_set_ne true D]at G;exact G
   refine wpOp_mono (λH w' s=>?_) K;have z:(f.setIfInBounds j true).getD st true=false->S w':=λd=>s.2.1 (by rw[X3 _ _ (Ne.symm g),getD_set_ne true x];exact d);refine⟨z,ih (f.setIfInBounds j true) H w' aa (ready_mono h<|Ne.symm g) s.1 z ?_⟩;rw[X3 _ _ g];exact s.2.2
theorem dP{d:Array Bool}{a:Act}{w:bI}(c:Region.ready md ops d=[])(b:Q .normal a w):∀fuel,jA P md ops Q S st fuel d a w
 | 0=>⟨c,b⟩
 | _+1=>⟨λ_=>b,by rw[c];simp⟩
theorem aT{i fuel:Nat}{c:Array Bool}{a:Act}{w:bI}{o:Oper}(f:Region.ready md ops c=[i])(m:ops[i]?=some o)(g:∀b:Act->bI->Prop,J (∀a w,((c.setIfInBounds i true).getD st true=false->S w)->jA P md ops Q S st fuel (c.setIfInBounds i true) a w->b a w)->if Region.wanted o (yielded ops a.tmps)=true then Oper.wp P o a w b Q else b (a.put o.dst undef) w):jA P md ops Q S st (fuel+1) c a w:=by refine⟨λd=>(by rw[f]at d;cases d),λj e=>?_⟩;rw[f,dh]at e;subst e;exact wpOp_step m (λb l=>g b<|Y (λa w h k=>l a w ⟨h,k⟩))
theorem gG{i k fuel:Nat}{c:Array Bool}{a:Act}{w:bI}{o f:Oper}(m:Region.ready md ops c=[i,k])(p:ops[i]?=some o)(q:ops[k]?=some f)(n:∀b:Act->bI->Prop,J (∀a w,((c.setIfInBounds i true).getD st true=false->S w)->jA P md ops Q S st fuel (c.setIfInBounds i true) a w->b a w)->if Region.wanted o (yielded ops a.tmps)=true then Oper.wp P o a w b Q else b (a.put o.dst undef) w)(d:∀b:Act->bI->Prop,J (∀a w,((c.setIfInBounds k true).getD st true=false->S w)->jA P md ops Q S st fuel (c.setIfInBounds k true) a w->b a w)->if Region.wanted f (yielded ops a.tmps)=true then Oper.wp P f a w b Q else b (a.put f.dst undef) w):jA P md ops Q S st (fuel+1) c a w:=by
 refine⟨λl=>(by rw[m]at l;cases l),λj e=>?_⟩;rw[m]at e;rcases fV.1 e with rfl|e;·exact wpOp_step p (λb h=>n b<|Y (λa w g d=>h a w ⟨g,d⟩))
 ·rw[dh]at e;subst e;exact wpOp_step q (λb h=>d b<|Y (λa w g d=>h a w ⟨g,d⟩))
def rO(P:Program)(ops:Array Oper)(S:bI->Prop)(L:Act->Prop):List (Bool × Oper)->Act->Prop
 | [],a=>L a
 | (true,o)::rest,a=>∃v,YieldsIf P ops S o v a/\rO P ops S L rest (a.put o.dst v)
 | (false,o)::rest,a=>∃v,YieldsIf P ops (λ_=>True) o v a/\rO P ops S L rest (a.put o.dst v)
theorem dW{L:Act->Prop}{a:Act}(h:L a):rO P ops S L [] a:=h
theorem fO{L:Act->Prop}{a:Act}{o:Oper}{rest:List (Bool × Oper)}{v:aC}(c:Region.wanted o (yielded ops a.tmps)=true)(d:∀w,(execOp a.eval o).run P w=.ok (.value v) w)(b:rO P ops S L rest (a.put o.dst v)):rO P ops S L ((false,o)::rest) a:=⟨v,aO ⟨c,λw _=>d w⟩,b⟩
theorem fP{L:Act->Prop}{a:Act}{o:Oper}{rest:List (Bool × Oper)}{v:aC}(c:Region.wanted o (yielded ops a.tmps)=true)(d:∀w,S w->(execOp a.eval o).run P w=.ok (.value v) w)(b:rO P ops S L rest (a.put o.dst v)):rO P ops S L ((true,o)::rest) a:=⟨v,aO ⟨c,d⟩,b⟩
def gB:List (Option Bool)->List Oper->List (Bool × Oper)
 | some b::a,o::l=>(b,o)::gB a l
 | none::a,_::l=>gB a l
 | _,_=>[]
def zX:List (Option Bool)->Nat
 | []=>0
 | some _::a=>zX a+1
 | none::a=>zX a
def Dw:List (Option Bool)->Nat->Array Bool->Array Bool
 | [],_,s=>s
 | some _::a,k,s=>Dw a (k+1) (s.setIfInBounds k true)
 | none::a,k,s=>Dw a (k+1) s
def RZ(md:Region.Mode)(ops:Array Oper)(st:Nat):List (Option Bool)->Nat->Array Bool->Bool
 | [],_,_=>true
 | some b::a,k,s=>Region.free md ops s k&&(Region.ready md ops s).contains k&&(!b||O1 md ops st k)&&(!(k==st))&&(!(s.getD st true))&&RZ md ops st a (k+1) (s.setIfInBounds k true)
 | none::a,k,s=>RZ md ops st a (k+1) s
theorem Dx{f:Nat}{w:bI}(n:Region.noSelect ops=true)(i:∀c a d v w,Q (.panic c) (Act.put a d v) w->Q (.panic c) a w)(m:S w):∀(e:List (Option Bool)) (l:List Oper) (k:Nat) (s:Array Bool) (a:Act),e.length<=l.length->(∀j,l[j]?=ops[k+j]?)->RZ md ops st e k s=true->
 rO P ops S (λD=>jA P md ops Q S st f (Dw e k s) D w) (gB e l) a->jA P md ops Q S st (f+zX e) s a w
 | [],l,k,s,a,_,_,_,g=>by
  have E:gB [] l=[]:=by unfold gB;rfl
  rw[E]at g;exact g
 | b::e,[],k,s,a,h,_,_,_=>by simp at h
 | none::e,o::l,k,s,a,h,r,q,g=>by refine Dx n i m e l (k+1) s a (by simpa using h) (λj=>?_) q g;have:=r<|j+1;rw[Yw]at this;rw[this];congr 1;omega
 | some b::e,o::l,k,s,a,h,r,q,g=>by
  have p:ops[k]?=some o:=by simpa using(r 0).symm
  simp only[RZ,dK,Bool.not_eq_true',beq_eq_false_iff_ne]at q;obtain⟨⟨⟨⟨⟨x,y⟩,F⟩,H⟩,G⟩,z⟩:=q;have B:∀j,l[j]?=ops[k+1+j]?:=λj=>by have:=r<|j+1;rw[Yw]at this;rw[this];congr 1;omega
  cases b with
  | true =>obtain⟨v,u,t⟩:=g;exact O4 (v:=v) p (Region.noSelect_spec n) (λc a w g=>i c a _ _ w g) (by simpa using F) (f+zX e) s a w (Region.free_spec p x) (by simpa using y) G u m (Dx n i m e l (k+1) _ _ (by simpa using h) B z t)
  | false =>obtain⟨v,u,t⟩:=g;exact Mt (v:=v) p (Region.noSelect_spec n) (λc a w g=>i c a _ _ w g) H (f+zX e) s a w (Region.free_spec p x) (by simpa using y) u (λ_=>m) (Dx n i m e l (k+1) _ _ (by simpa using h) B z t)
theorem dx{id:Nat}{a:Act}{w:bI}{l:List Oper}(b:List (Option Bool))(st:Nat)(S:bI->Prop)(f:Nat)(p:P.follows .mixedOrders=true)(e:(Region.noSelect l.toArray&&RZ .any l.toArray st b 0 (Array.replicate l.toArray.size false)&&decide (b.length=l.length)&&decide (f+zX b=l.length))=true)(n:∀c a d v w,Q (.panic c) (Act.put a d v) w->Q (.panic c) a w)(o:S w.drew)(h:rO P l.toArray S (λg=>jA P .any l.toArray Q S st f (Dw b 0<|Array.replicate l.toArray.size false) g w.drew) (gB b l) a):(Code.region id l.toArray true).wp P Q a w:=by simp only[dK,iy]at e;obtain⟨⟨⟨i,k⟩,q⟩,m⟩:=e;have K:=Dx (f:=f) (w:=w.drew) i n o b l 0 _ a bC (λj=>by rw[d9];simp) k h;rw[m]at K;exact wp_region_any p<|JN _ _ _ _<|by simpa using K
end
