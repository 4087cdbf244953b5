import Derived.Test.YtageneidjnbedaaGreatDoorTZI2
import Derived.StillTail
import Derived.Deep.RegionHeld
set_option maxHeartbeats 0
set_option maxRecDepth 99999
namespace Go.Proofs.YtageneidjnbedaaGreatDoor
open bS
open Go.Proofs.Tryz
namespace Sv
def sub(a b:Nat):Bool:=(a &&& b)==a
def le(Z:Nat->Nat->Bool)(x y:Nat × Nat):Bool:=sub x.1 y.1&&Z x.2 y.2
def Ok(N:Nat)(x:Nat × Nat):Prop:=x.1<16/\x.2<N
def join(Z:Nat->Nat->Bool)(N:Nat)(x y:Nat × Nat):Nat × Nat:=(x.1 ||| y.1,nT Z N x.2 y.2)
theorem ql(a b:Nat):sub a b=true↔∀i,a.testBit i=true->b.testBit i=true:=by
 unfold sub;rw[beq_iff_eq];constructor;·intro h i d;rw[<-h,Nat.testBit_and,dK]at d;exact d.2
 ·intro h;refine Nat.eq_of_testBit_eq λi=>?_;rw[Nat.testBit_and];cases e:a.testBit i;·rfl
  ·rw[h i e];rfl
theorem adj(a:Nat):sub a a=true:=(ql a a).2 λ_ h=>h
theorem aao{a b c:Nat}(h:sub a b=true)(k:sub b c=true):sub a c=true:=(ql a c).2 λi d=>(ql b c).1 k i ((ql a b).1 h i d)
theorem adk{a b:Nat}(h:sub a b=true)(k:sub b a=true):a=b:=by unfold sub at h k;rw[beq_iff_eq]at h k;rw[<-h,Nat.and_comm,k]
theorem adl(a b:Nat):sub a (a ||| b)=true:=(ql _ _).2 λi d=>by rw[Nat.testBit_or,d];rfl
theorem aap(a b:Nat):sub b (a ||| b)=true:=(ql _ _).2 λi d=>by rw[Nat.testBit_or,d,Bool.or_true]
theorem adn{a b c:Nat}(h:sub a c=true)(k:sub b c=true):sub (a ||| b) c=true:=(ql _ _).2 λi d=>by
 rw[Nat.testBit_or,GK]at d;rcases d with d|d;·exact(ql _ _).1 h i d
 ·exact(ql _ _).1 k i d
theorem amQ{a b:Nat}(h:a<16)(k:b<16):a ||| b<16:=Nat.or_lt_two_pow (n:=4) h k
theorem sub_zero(a:Nat):sub 0 a=true:=(ql _ _).2 λi b=>by simp at b
variable {Z : Nat → Nat → Bool} {N : Nat}
theorem le_refl(a:bS.Joins Z N){x:Nat × Nat}(h:Ok N x):le Z x x=true:=by unfold le;rw[adj,a.refl _ h.2];rfl
theorem le_trans(b:bS.Joins Z N){x y a:Nat × Nat}(d:Ok N x)(e:Ok N y)(f:Ok N a)(h:le Z x y=true)(k:le Z y a=true):le Z x a=true:=by unfold le at *;rw[dK]at *;exact⟨aao h.1 k.1,b.trans _ _ _ d.2 e.2 f.2 h.2 k.2⟩
theorem ahi(a:bS.Joins Z N){x y:Nat × Nat}(b:Ok N x)(d:Ok N y)(h:le Z x y=true)(k:le Z y x=true):x=y:=by unfold le at *;rw[dK]at *;exact Prod.ext (adk h.1 k.1)<|a.anti _ _ b.2 d.2 h.2 k.2
theorem YE(d:bS.Joins Z N){x y:Nat × Nat}(a:Ok N x)(b:Ok N y):Ok N (join Z N x y):=⟨amQ a.1 b.1,d.lt a.2 b.2⟩
theorem aaq(a:bS.Joins Z N){x y:Nat × Nat}(b:Ok N x)(d:Ok N y):le Z x (join Z N x y)=true:=by unfold le;rw[dK];exact⟨adl _ _,(a.spec b.2 d.2).left⟩
theorem apj(a:bS.Joins Z N){x y:Nat × Nat}(b:Ok N x)(d:Ok N y):le Z y (join Z N x y)=true:=by unfold le;rw[dK];exact⟨aap _ _,(a.spec b.2 d.2).right⟩
theorem adh(b:bS.Joins Z N){x y a:Nat × Nat}(d:Ok N x)(e:Ok N y)(f:Ok N a)(h:le Z x a=true)(k:le Z y a=true):le Z (join Z N x y) a=true:=by unfold le at *;rw[dK]at *;exact⟨adn h.1 k.1,(b.spec d.2 e.2).least _ f.2 h.2 k.2⟩
theorem ado{α:Type}{p q:α->Bool}:∀{l:List α},(∀x∈l,p x=true->q x=true)->(∃x∈l,q x=true/\p x=false)->l.countP p<l.countP q:=by
 intro l;induction l with
 | nil=>rintro _ ⟨x,b,_⟩;simp at b
 | cons a l j=>
  intro d h;have k:l.countP p<=l.countP q:=List.countP_mono_left (λx b=>d x<|by simp[b]);rw[List.countP_cons,List.countP_cons];by_cases e:q a=true/\p a=false;·rw[aK e.1,aI (by rw[e.2];simp)];omega
  ·have m:l.countP p<l.countP q:=j (λx b=>d x<|by simp[b]) (by
    obtain⟨x,b,f,g⟩:=h;rcases fV.1 b with rfl|b;·exact aM ⟨f,g⟩ e
    ·exact⟨x,b,f,g⟩)
   have:=d a cK;cases i:p a;·cases n:q a<;>simp<;>omega
   ·rw[this i];simp;omega
def high(Z:Nat->Nat->Bool)(N:Nat)(x:Nat × Nat):Nat:=(List.range (16*N)).countP λc=>le Z (c / N,c % N) x
theorem ahj(Z:aL)(N:Nat)(x:Nat × Nat):high Z N x<=16*N:=by unfold high;have:=List.countP_le_length (p:=λc=>le Z (c / N,c % N) x) (l:=List.range<|16*N);rwa[uJ]at this
theorem YF{c:Nat}(h:c<16*N):Ok N (c / N,c % N):=by
 have b:0<N:=by
  rcases Nat.eq_zero_or_pos N with a|a;·subst a;omega
  ·exact a
 exact⟨Nat.div_lt_of_lt_mul (by rw[Nat.mul_comm];exact h),Nat.mod_lt _ b⟩
theorem Nl(a:bS.Joins Z N){x y:Nat × Nat}(d:Ok N x)(e:Ok N y)(h:le Z x y=true):high Z N x<=high Z N y:=
 List.countP_mono_left (λ_ b k=>le_trans a (YF<|jE.1 b) d e k h)
theorem ahk(b:bS.Joins Z N){x y:Nat × Nat}(j:Ok N x)(a:Ok N y)(h:le Z x y=true)(i:le Z y x=false):high Z N x<high Z N y:=by
 refine ado (λc g k=>le_trans b (YF<|jE.1 g) j a k h) ⟨y.1*N+y.2,?_,?_⟩;·rw[jE];have l:y.1*N<=15*N:=qR N (by have:=a.1;omega);have:=a.2;omega
 ·have f:0<N:=by have:=a.2;omega
  have d:(y.1*N+y.2) / N=y.1:=by rw[Nat.mul_comm,Nat.mul_add_div f,Nat.div_eq_of_lt a.2,sN]
  have e:(y.1*N+y.2) % N=y.2:=by rw[Nat.mul_comm,Nat.mul_add_mod,Nat.mod_eq_of_lt a.2]
  rw[d,e];exact⟨le_refl b a,i⟩
def Mr(f:Nat->Nat):Nat->Nat
 | 0=>0
 | n+1=>Mr f n+f n
theorem OX{f g:Nat->Nat}:∀{n:Nat},(∀v,v<n->f v<=g v)->Mr f n<=Mr g n
 | 0,_=>bG _
 | n+1,h=>Nat.add_le_add (OX λv a=>h v bC)<|h n bC
theorem YG{f g:Nat->Nat}:∀{n:Nat},(∀v,v<n->f v<=g v)->(∃v,v<n/\f v<g v)->Mr f n<Mr g n
 | 0,_,⟨v,a,_⟩=>by omega
 | n+1,h,⟨v,a,d⟩=>by
  have e:=h n bC;have i:Mr f n<=Mr g n:=OX λv a=>h v bC;show Mr f n+f n<Mr g n+g n;by_cases b:v=n;·subst b;omega
  ·have:=YG (n:=n) (λv a=>h v bC) ⟨v,by omega,d⟩;omega
def left(Z:Nat->Nat->Bool)(N n:Nat)(V:Nat->Nat × Nat):Nat:=Mr (λv=>16*N - high Z N (V v)) n
structure Co where
 to:Int
 fr:List Int
 mask:Int
 level:Int
def Co.lab(c:Co):Nat × Nat:=(c.mask.toNat,c.level.toNat)
def uf(n:Nat)(v:Int):Bool:=decide (0<=v)&&decide (v<n)
def Au(N:Nat)(m l:Int):Bool:=decide (0<=m)&&decide (m<=15)&&decide (0<=l)&&decide (l<N)
def Ms(N n:Nat)(c:Co):Bool:=c.fr.all (uf n)&&(uf n c.to&&Au N c.mask c.level)
theorem lU{n:Nat}{v:Int}(h:uf n v=true):0<=v/\v.toNat<n/\v=(v.toNat:Int):=by unfold uf at h;simp only[dK,iy]at h;omega
theorem wX{N:Nat}{m l:Int}(h:Au N m l=true):Ok N (m.toNat,l.toNat)/\m=(m.toNat:Int)/\l=(l.toNat:Int):=by unfold Au at h;simp only[dK,iy]at h;exact⟨⟨by show m.toNat<16;omega,by show l.toNat<N;omega⟩,by omega,by omega⟩
theorem Dt{N n:Nat}{c:Co}(h:Ms N n c=true):(∀f∈c.fr,uf n f=true)/\uf n c.to=true/\Au N c.mask c.level=true:=by unfold Ms at h;simp only[dK]at h;exact⟨λf a=>iB.1 h.1 f a,h.2.1,h.2.2⟩
def Sol(Z:Nat->Nat->Bool)(cs:List Co)(U:Nat->Nat × Nat):Prop:=
 ∀c∈cs,le Z c.lab (U c.to.toNat)=true/\∀f∈c.fr,le Z (U f.toNat) (U c.to.toNat)=true
def yS(N n:Nat)(V:Nat->Nat × Nat):Prop:=∀v,v<n->Ok N (V v)
def OY(Z:Nat->Nat->Bool)(n:Nat)(V U:Nat->Nat × Nat):Prop:=∀v,v<n->le Z (V v) (U v)=true
structure Bf(Z:Nat->Nat->Bool)(N n:Nat)(cs:List Co)(V:Nat->Nat × Nat):Prop where
 ok:yS N n V
 sol:Sol Z cs V
 least:∀U,yS N n U->Sol Z cs U->OY Z n V U
theorem Bf.unique(d:bS.Joins Z N){n:Nat}{cs:List Co}{V b:Nat->Nat × Nat}(h:Bf Z N n cs V)(k:Bf Z N n cs b):∀v,v<n->V v=b v:=
 λv a=>ahi d (h.ok v a) (k.ok v a) (h.least b k.ok k.sol v a)<|k.least V h.ok h.sol v a
theorem Sol.less{cs a:List Co}{U:Nat->Nat × Nat}(h:Sol Z (cs++a) U):Sol Z cs U:=λc b=>h c<|List.mem_append_left _ b
def put(V:Nat->Nat × Nat)(i:Nat)(x:Nat × Nat):Nat->Nat × Nat:=λv=>if v=i then x else V v
def up(Z:Nat->Nat->Bool)(N:Nat)(V:Nat->Nat × Nat)(i:Nat)(a:Nat × Nat):Nat->Nat × Nat:=if le Z a (V i)then V else put V i (join Z N (V i) a)
theorem aj9{n i:Nat}{V:Nat->Nat × Nat}{x:Nat × Nat}(h:yS N n V)(b:Ok N x):yS N n (put V i x):=λv a=>by
 unfold put;split;·exact b
 ·exact h v a
theorem KU(b:bS.Joins Z N){n i:Nat}{V:Nat->Nat × Nat}{a:Nat × Nat}(h:yS N n V)(e:i<n)(d:Ok N a):yS N n (up Z N V i a):=by
 unfold up;split;·exact h
 ·exact aj9 h<|YE b (h i e) d
theorem Vs(b:bS.Joins Z N){n i:Nat}{V:Nat->Nat × Nat}{a:Nat × Nat}(h:yS N n V)(f:i<n)(e:Ok N a):OY Z n V (up Z N V i a):=λv d=>by
 unfold up;split;·exact le_refl b<|h v d
 ·unfold put;split;·subst v;exact aaq b (h i f) e
  ·exact le_refl b<|h v d
theorem MC(b:bS.Joins Z N){n i:Nat}{V:Nat->Nat × Nat}{a:Nat × Nat}(h:yS N n V)(e:i<n)(d:Ok N a):le Z a (up Z N V i a i)=true:=by
 unfold up;split;·assumption
 ·unfold put;rw[aK rfl];exact apj b (h i e) d
theorem F7(f:bS.Joins Z N){n i:Nat}{V U:Nat->Nat × Nat}{a:Nat × Nat}(h:yS N n V)(g:yS N n U)(d:i<n)(j:Ok N a)(b:OY Z n V U)(k:le Z a (U i)=true):OY Z n (up Z N V i a) U:=λv e=>by
 unfold up;split;·exact b v e
 ·unfold put;split;·subst v;exact adh f (h i d) j (g i d) (b i d) k
  ·exact b v e
theorem RQ(a:bS.Joins Z N){n:Nat}{V:Nat->Nat × Nat}(h:yS N n V):OY Z n V V:=λv b=>le_refl a<|h v b
theorem FC(d:bS.Joins Z N){n:Nat}{V b T:Nat->Nat × Nat}(g:yS N n V)(f:yS N n b)(e:yS N n T)(h:OY Z n V b)(k:OY Z n b T):OY Z n V T:=λv a=>le_trans d (g v a) (f v a) (e v a) (h v a)<|k v a
theorem ahl(d:bS.Joins Z N){n:Nat}{V a:Nat->Nat × Nat}(f:yS N n V)(e:yS N n a)(h:OY Z n V a):left Z N n a<=left Z N n V:=
 OX λv b=>by have:=Nl d (f v b) (e v b)<|h v b;omega
theorem ahm(d:bS.Joins Z N){n i:Nat}{V:Nat->Nat × Nat}{a:Nat × Nat}(h:yS N n V)(b:i<n)(e:Ok N a)(l:le Z a (V i)=false):left Z N n (up Z N V i a)<left Z N n V:=by
 obtain⟨f,j⟩:=eY (KU d h b e)<|Vs d h b e;refine YG (λv g=>?_) ⟨i,b,?_⟩;·have:=Nl d (h v g) (f v g)<|j v g;omega
 ·have m:=ahk d (h i b) (f i b) (j i b) (by
   cases k:le Z (up Z N V i a i) (V i);·rfl
   ·have:=le_trans d e (f i b) (h i b) (MC d h b e) k;rw[l]at this;cases this)
  have p:=ahj Z N<|up Z N V i a i;omega
end Sv
open Go.RowKit
theorem ads:(prog.info? 4).map (λi=>(i.zero,i.size,i.bytes))=some (some<|.bool false,1,1):=by kernel_rfl
theorem ahn:(prog.info? 43).map (λi=>(i.zero,i.size,i.bytes))=some (some<|aU,1,24):=by kernel_rfl
def top(N n:Nat)(r:Nat):Nat->Value:=λj=>if j<r then .slice (some ⟨N+1+j,0,none⟩) n n else .slice none 0 0
structure RS(w wr:World)(n r:Nat)(Z:Nat->Nat->Bool):Prop where
 since:Below w.heap.size w wr
 size:wr.heap.size=w.heap.size+1+r
 top:wr.rowIs w.heap.size 43 n (top w.heap.size n r)
 done:∀j,j<r->wr.rowIs (w.heap.size+1+j) 4 n (λc=>.bool (Z j c))
structure Inner(w wi:World)(n r c:Nat)(Z:Nat->Nat->Bool):Prop where
 since:Below w.heap.size w wi
 size:wi.heap.size=w.heap.size+1+r+1
 top:wi.rowIs w.heap.size 43 n (top w.heap.size n (r+1))
 done:∀j,j<r->wi.rowIs (w.heap.size+1+j) 4 n (λc=>.bool (Z j c))
 cur:wi.rowIs (w.heap.size+1+r) 4 n (λi=>if i<c then .bool (Z r i)else .bool false)
theorem RU(w:bI)(n:Nat)(Z:aL):RS w (w.alloc<|.cells (madeCells #[aU] n) 43) n 0 Z:=
 ⟨(bQ _ _).alloc (bG _) _,by simp,(World.rowIs_made w _ n 43).congr (λj _=>by simp[top]),λj a=>aM a<|fU _⟩
theorem aeh{w wr:bI}{n r:Nat}{Z:aL}(h:RS w wr n r Z):Inner w ((wr.alloc<|.cells (madeCells #[.bool false] n) 4).setCell (aN w.heap.size r) (Tc (w.heap.size+1+r) n n)) n r 0 Z:=by
 have d:=World.rowIs_made wr (.bool false) n 4;rw[h.size]at d;refine⟨(h.since.alloc (by rw[h.size];omega) _).setCell (bG _) _,by simp[h.size],((h.top.alloc _).set r _).congr (λj _=>?_),λj e=>((h.done j e).alloc _).setOther (by show w.heap.size+1+j≠w.heap.size;omega) _,(d.setOther (by show w.heap.size+1+r≠w.heap.size;omega) _).congr (λi _=>by simp)⟩;simp only[top];by_cases a:j=r;·subst a;simp
 ·rw[aI a];by_cases b:j<r;·rw[aK b,aK bC]
  ·rw[aI b,aI bC]
theorem aej{w e:bI}{n r c:Nat}{Z:aL}(h:Inner w e n r c Z){b:Bool}(f:b=Z r c):Inner w (e.setCell (aN (w.heap.size+1+r) c)<|.bool b).drew n r (c+1) Z:=by
 subst f
 refine⟨(h.since.setCell (by show w.heap.size<=w.heap.size+1+r;omega) _).drew,by simp[h.size],(h.top.setOther (by show w.heap.size≠w.heap.size+1+r;omega) _).drew,
  λj g=>((h.done j g).setOther (by show w.heap.size+1+j≠w.heap.size+1+r;omega) _).drew,((h.cur.set c _).congr (λi _=>?_)).drew⟩
 by_cases a:i=c;·subst a;simp
 ·rw[aI a];by_cases d:i<c;·rw[aK d,aK bC]
  ·rw[aI d,aI bC]
theorem aeN{w a:bI}{n r:Nat}{Z:aL}(h:Inner w a n r n Z):RS w a n (r+1) Z:=
 ⟨h.since,by rw[h.size];omega,h.top,λj e=>by
  by_cases b:j=r;·subst b;exact h.cur.congr (λi d=>by rw[aK d])
  ·exact h.done j bC⟩
theorem VO{w w':bI}{n:Nat}{Z:aL}(h:RS w w' n n Z):vF w' (Tc w.heap.size n n) n Z:=
 ⟨w.heap.size,0,n,λj=>w.heap.size+1+j,λ_=>0,λ_=>n,rfl,
  λr a=>by rw[d9,h.top.cell a];simp[top,a],
  λr c a b=>by rw[d9];exact(h.done r a).cell b⟩
theorem BN(w:bI)(v:aC)(n:Nat)(Z:aL)(hG:vF w v n Z)(hn:n<=6):aD 27 #[v] w λe w'=>∃v',e=dz v'/\vF w' v' n (bS.tr Z)/\bK w w':=by
 obtain⟨gb,go,gc,RB,RO,C,rfl,hrow,hcell⟩:=hG;have amR:=run_make_row' (P:=prog) 23 43 (aU) 24 underlying23 ahn rfl .i64 .i64 n bC bC;go_enter func27,ntmps27;go_wp2;clear amR;go_loopg [11] n (λg i wr=>∃r:Nat,r<=n/\g=n - r/\i=O r/\RS w wr n r (bS.tr Z));exact⟨0,bN _,rfl,rfl,RU w n _⟩
 obtain⟨r,hr,rfl,rfl,hO⟩:=hrel;by_cases hrG:r<n
 ·have hrz:(r:Int)<(n:Int):=by omega
  obtain⟨hsize,amS⟩:=eY hO.size (run_make_row' (P:=prog) 43 4 (.bool false) 1 underlying43 ads rfl .i64 .i64 n bC bC);have apV:∀o,(wr.alloc o).cell? (aN w.heap.size r)=some (top w.heap.size n r r):=λo=>(hO.top.alloc o).cell hrG;have apW:∀o,(wr.alloc o).frozen? (aN w.heap.size r)=false:=λo=>(hO.top.alloc o).frozen r;go_wp2;have hI0:=aeh hO;clear amS apV apW hsize hO;go_loopg [25] n (λg i wi=>∃c:Nat,c<=n/\g=n - c/\i=O c/\Inner w wi n r c (bS.tr Z));exact⟨0,bN _,rfl,rfl,hI0⟩
  obtain⟨c,hc,rfl,rfl,hI⟩:=hrel;clear hI0;by_cases hcL:c<n
  ·have hcz:(c:Int)<(n:Int):=by omega
   have t1:wr.cell? (aN w.heap.size r)=some (Tc (w.heap.size+1+r) n n):=by simpa[top]using hI.top.cell hrG
   have t2:wr.cell? (aN gb (go+c))=some (X (some (aN (RB c) (RO c))) n (C c)):=by rw[hI.since.cell (eH _ _ (hrow c hcL))];exact hrow c hcL
   have t3:wr.cell? (aN (RB c) (RO c+r))=some (.bool (Z c r)):=by rw[hI.since.cell (eH _ _ (hcell c r hcL hrG))];exact hcell c r hcL hrG
   have t4:wr.cell? (aN (w.heap.size+1+r) c)=some (.bool false):=by simpa using hI.cur.cell hcL
   have t5:wr.frozen? (aN (w.heap.size+1+r) c)=false:=hI.cur.frozen c;clear hrow hcell;go_wp2_with fail;go_big_region;go_wp2;go_roundg (n - (c+1));case measure=>go_light;omega
   case rel=>go_light;exact⟨c+1,by omega,rfl,by simp,aej hI rfl⟩
  ·obtain rfl:c=n:=by omega
   have hcz:¬((c:Int)<(c:Int)):=by omega
   go_wp2;go_roundg (c - (r+1));case measure=>go_light;omega
   case rel=>go_light;exact⟨r+1,by omega,rfl,by simp,aeN hI⟩
 ·have hrz:¬((r:Int)<(n:Int)):=by omega
  go_wp2;go_ret;obtain rfl:r=n:=by omega
  exact⟨_,rfl,VO hO,hO.since⟩
namespace bS
def dD(ss:List aS)(G:Nat)(L:Nat->Nat)(Z:Nat->Nat->Bool):Int:=
 if mY ss=false then 1 else if 6<ss.length then 2 else if mR G L ss.length=false then 5 else if BD Z ss.length=false then 5
 else if qQ Z ss.length=false then 5 else if qQ (tr Z) ss.length=false then 5 else 0
end bS
theorem Du{w:bI}{v:aC}{G n:Nat}{L:Nat->Nat}{Z:aL}(h:EX w v G L Z)(f:0<n)(a:mR G L n=true):vF w v n Z:=by
 unfold mR at a;obtain⟨d,e⟩:=mF.1 a;have b:G=n:=by simpa using d
 subst b;exact h.grid f (λr g=>by simpa[wM]using uz e g)
theorem aar{ss:aJ}(h:mY ss=true):0<ss.length:=by unfold mY at h;simpa using(mF.1 h).2
theorem zW(w:bI)(y d:aC)(ss:aJ)(G:Nat)(L:Nat->Nat)(Z:aL)(v:Strs w y ss)(u:EX w d G L Z):aD 11 #[.agg #[y,d]] w λh w'=>h=dz (O<|dD ss G L Z)/\bK w w':=by
 obtain⟨s,F⟩:=bV v u;obtain⟨a,b,off,cap,rfl,I,K,R,H⟩:=v;clear I R H u;obtain⟨n,l⟩:=aV ss.length
 have g:J (dD ss G L Z=if mY ss=false then 1 else if 6<n then 2 else if mR G L n=false then 5 else if BD Z n=false then 5
  else if qQ Z n=false then 5 else if qQ (bS.tr Z) n=false then 5 else 0):=by rw[l];rfl
 have E:J (mY ss=true->0<n):=by rw[l];exact aar
 rw[<-l]at K s ⊢;clear l;go_enter func11,ntmps11;go_wp2_with fail;refine(adE _ _ ss<|s.below<|(bQ _ _).alloc (bG _) _).mono ?_;rintro h w1 ⟨rfl,k⟩;have f:=Y<|Z7 k;obtain⟨q0,q1⟩:=eY (aG (Rf w (X a n cap) d 25) k)<|aG (vH w (X a n cap) d 25) k;clear k;cases e:mY ss;·go_wp2;go_ret;exact⟨bZ (by rw[g,aK e]),f⟩
 ·have M:=E e;by_cases j:6<n;·go_wp2;go_ret;exact⟨bZ (by rw[g,e,aI cK,aK j]),f⟩
  ·have r:=Y<|F.below f;go_wp2_with fail;refine(afv w1 d G n L Z r bC).mono ?_;rintro h w' ⟨rfl,i⟩;subst i;cases zs:mR G L n;·go_wp2;go_ret;exact⟨bZ (by rw[g,e,aI cK,aI j,aK zs]),f⟩
   ·have p:=Y<|Du r M zs;go_wp2_with fail;refine(an1 w' d n Z p bC).mono ?_;rintro h U ⟨rfl,i⟩;subst i;cases m:BD Z n;·go_wp2;go_ret;exact⟨bZ (by rw[g,e,aI cK,aI j,zs,aI cK,aK m]),f⟩
    ·go_wp2_with fail;refine(Dc U d n Z p bC).mono ?_;rintro h V ⟨rfl,i⟩;subst i;cases q:qQ Z n;·go_wp2;go_ret;exact⟨bZ (by rw[g,e,aI cK,aI j,zs,aI cK,m,aI cK,aK q]),f⟩
     ·go_wp2_with fail;refine(BN V d n Z p bC).mono ?_;rintro h W ⟨v',rfl,t,x⟩;obtain⟨D,z⟩:=bV t<|up f x;clear t x;go_wp2_with fail;refine(Dc W v' n (bS.tr Z) D bC).mono ?_;rintro h w5 ⟨rfl,i⟩;subst i;cases B:qQ (bS.tr Z) n;·go_wp2;go_ret;exact⟨bZ (by rw[g,e,aI cK,aI j,zs,aI cK,m,aI cK,q,aI cK,aK B]),z⟩
      ·go_wp2;go_ret;exact⟨bZ (by rw[g,e,aI cK,aI j,zs,aI cK,m,aI cK,q,aI cK,B,aI cK]),z⟩
section
variable {P : Program} {ops : Array Oper} {md : Region.Mode} {C : World → Prop}
def Dv(P:Program)(md:Region.Mode)(ops:Array Oper)(C:bI->Prop)(n:Nat)(L:Array Bool->Act->Prop):Nat->Array Bool->Act->Prop
 | 0,s,a=>L s a
 | f+1,s,a=>Region.ready md ops s≠[]/\∀i∈Region.ready md ops s,i<n/\qOp P ops C i (Dv P md ops C n L f (s.setIfInBounds i true)) a
theorem aev{n g:Nat}{L:Array Bool->Act->Prop}{Q':Exit->Act->bI->Prop}(k:∀s a w,C w->L s a->wpAny P md ops Q' g s a w)(f:Nat):∀(s:Array Bool) (a:Act) (w:bI),C w->Dv P md ops C n L f s a->wpAny P md ops Q' (f+g) s a w:=by
 induction f with
 | zero=>intro s a w b h;rw[d9];exact k s a w b h
 | succ f p =>intro s a w b h;rw[Nat.add_right_comm];exact⟨λj=>aM j h.1,λi l=>wpOp_of_qOp b (λd w' m e=>p _ d w' m e) (h.2 i l).2⟩
theorem acC{n i:Nat}{q:Oper}{v:aC}{L:Array Bool->Act->Prop}(w:ops[i]?=some q)(F:∀(j:Nat) (o:Oper) cs b,ops[j]?=some o->o.op≠.select cs b)(hs:Region.sinkB md ops n=true)(K:Region.chainB md ops n=true)(hn:n<ops.size)(V:i<n)(M:∀s a,L s a->∀j∈Region.ready md ops s,n<=j)(f:Nat):∀(s:Array Bool) (a:Act),HeadInv md ops n s->(∀j m,ops[j]?=some m->j≠i->s.getD j true=false->(∀d∈m.after,Region.binds md d=true->d.on≠i)->q.apart ops m=true)->i∈Region.ready md ops s->YieldsIn P ops C q v a->Dv P md ops C n L f (s.setIfInBounds i true) (a.put q.dst v)->Dv P md ops C n L (f+1) s a:=by
 have r:∀{s:Array Bool},HeadInv md ops n s->i∈Region.ready md ops s->∀j∈Region.ready md ops s,j<n:=λ{s} l g j e=>by
  rcases Fa j n with h|h;·exact h
  ·exact aM e<|tail_waits hs K hn l _ i rfl V (mem_ready.1 g).1 j h
 induction f with
 | zero=>
  intro s a l _ g t p;refine⟨List.ne_nil_of_mem g,λj e=>⟨r l g j e,?_⟩⟩;by_cases d:j=i;·rw[d];exact t.qOp w p
  ·have u:=M _ _ p j<|ready_mono e d;have y:=r l g j e;omega
 | succ f ih=>
  intro s a l B g t p;refine⟨List.ne_nil_of_mem g,λj e=>⟨r l g j e,?_⟩⟩;by_cases d:j=i;·rw[d];exact t.qOp w p
  ·obtain⟨E,m,x,H⟩:=mem_ready.1 e;have ab:∀d∈m.after,Region.binds md d=true->d.on≠i:=λd R I U=>by have u:=H d R I;rw[U,getD_both (mem_ready.1 g).1]at u;cases u
   have y:=qOp_put x (B j m x d E ab) (λcs b=>F i q cs b w) (λcs b=>F j m cs b x) t (p.2 j<|ready_mono e d).2;refine qOp_mono (λG z=>ih _ G (l.set e<|r l g j e) (λk ok W aa ad ac=>B k ok W aa ?_ ac) (ready_mono g<|Ne.symm d) z.1 ?_) y
   ·by_cases D:j=k;·rw[<-D];exact E
    ·rwa[getD_set_ne true D]at ad
   ·rw[X3 _ _ d];exact z.2
theorem alf{n g:Nat}{e:Act->Prop}(F:Region.noSelect ops=true)(E:Region.sinkB md ops n=true)(x:Region.chainB md ops n=true)(z:n<ops.size):∀(l:List Oper) (k:Nat) (s:Array Bool) (a:Act),(∀j,j<l.length->l[j]?=ops[k+j]?)->k+l.length=n->HeadInv md ops n s->Region.lexHead md ops g l.length k s=true->wpQuiet P ops C e l a->Dv P md ops C n (λr i=>Region.seqB md ops g n r=true/\e i) l.length s a:=by
 intro l;induction l with
 | nil=>
  intro k s a _ f _ d h;obtain rfl:k=n:=by simpa using f
  exact⟨by simpa[Region.lexHead]using d,h⟩
 | cons o l H=>
  intro k s a m f q d h;have b:ops[k]?=some o:=by simpa using(m 0 cK).symm
  simp only[vN,Region.lexHead,dK]at d f;obtain⟨⟨D,y⟩,t⟩:=d;have p:k∈Region.ready md ops s:=by simpa using D
  have B:qOp P ops C k (wpQuiet P ops C e l) a:=by unfold qOp;simp only[b];exact h
  obtain⟨v,G,u⟩:=yieldsIn_of_qOp b B;refine acC b (Region.noSelect_spec F) E x z bC (λr i w=>seqB_ready w.1) l.length s a q (Region.free_spec b y) p G<|H (k+1) _ _ (λj I=>?_) bC (q.set p bC) t u;have:=m (j+1) (by simp;omega);simpa[Nat.add_assoc,Nat.add_comm 1 j]using this
end
theorem yT{P:Program}{C:bI->Prop}{id:Nat}{Q:Exit->Act->bI->Prop}{a:Act}{w:bI}{l:List Oper}(n:Nat)(x:P.follows .mixedOrders=true)(e:Region.lexTailB .any l.toArray n=true)(q:C { w with drawn:=w.drawn+1 })(h:wpQuiet P l.toArray C (λd=>∀w',C w'->wpList P l.toArray Q (l.drop n) d w') (l.take n) a):(Code.region id l.toArray true).wp P Q a w:=by
 simp only[Region.lexTailB,Bool.and_eq_true,decide_eq_true_eq]at e;obtain⟨⟨⟨⟨z,m⟩,y⟩,r⟩,v⟩:=e;have F:n<l.length:=by simpa using m
 have b:(l.take n).length=n:=by simp;omega
 have i:(l.drop n).length=l.toArray.size - n:=by simp
 have E:HeadInv .any l.toArray n (Array.replicate l.toArray.size false):=⟨by simp,λj G _ u=>absurd u (by rw[getD_replicate_false];simp),λt _ B=>getD_in (by simpa using B) (getD_replicate_false _ _)⟩;have p:=alf (md:=.any) (g:=l.toArray.size - n) z y r m (l.take n) 0 _ a (λj k=>by rw[b]at k;simp[k]) (by simpa using b) E (by rw[b];exact v) h;have K:=aev (Q':=Q) (g:=l.toArray.size - n) (λs d w' D f=>by have:=wpAny_of_seq (md:=.any) (Q':=Q) (l.drop n) n s d w' (λj=>by simp[List.getElem?_drop]) (by rw[i];exact f.1) (f.2 w' D);rwa[i]at this) _ _ _ _ q p;rw[b,show n+(l.toArray.size - n)=l.toArray.size by omega]at K;exact wp_region_any x K
theorem gq{P:Program}{id:Nat}{Q:Exit->Act->bI->Prop}{a:Act}{w:bI}{l:List Oper}(n:Nat)(e:P.follows .mixedOrders=true)(d:Region.lexTailB .any l.toArray n=true)
  (h:wpQuiet P l.toArray (λw'=>∃p:GrownBy,w'=gn w p.n p.os) (λb=>∀w',(∃p:GrownBy,w'=gn w p.n p.os)->wpList P l.toArray Q (l.drop n) b w') (l.take n) a):(Code.region id l.toArray true).wp P Q a w:=
 yT (C:=λw'=>∃p:GrownBy,w'=gn w p.n p.os) n e d ⟨⟨w.drawn+1,#[]⟩,by simp[gn]⟩ h
section
variable {P : Program} {ops : Array Oper} {Q : Exit → Act → World → Prop} {md : Region.Mode} {S : World → Prop} {st : Nat}
def jA(P:Program)(md:Region.Mode)(ops:Array Oper)(Q:Exit->Act->bI->Prop)(S:bI->Prop)(st:Nat):Nat->Array Bool->Act->bI->Prop
 | 0,b,a,w=>Region.ready md ops b=[]/\Q .normal a w
 | e+1,b,a,w=>
  (Region.ready md ops b=[]->Q .normal a w)/\
  ∀i∈Region.ready md ops b,wpOp P ops Q i (λd w'=>((b.setIfInBounds i true).getD st true=false->S w')/\jA P md ops Q S st e (b.setIfInBounds i true) d w') a w
theorem JN:∀(b:Nat) (d:Array Bool) (a:Act) (w:bI),jA P md ops Q S st b d a w->wpAny P md ops Q b d a w
 | 0,_,_,_,h=>h
 | b+1,_,_,_,h=>⟨h.1,λi g=>wpOp_mono (λe w' f=>JN b _ e w' f.2)<|h.2 i g⟩
def O1(md:Region.Mode)(ops:Array Oper)(st i:Nat):Bool:=match ops[st]? with
 | some o=>o.after.toList.any λe=>Region.binds md e&&e.on==i
 | none=>false
theorem Nn{i:Nat}{listed:Array Bool}(b:O1 md ops st i=true)(h:listed.getD i true=false):st∉Region.ready md ops listed:=by intro k;obtain⟨_,o,j,f⟩:=mem_ready.1 k;unfold O1 at b;rw[j]at b;obtain⟨e,g,a⟩:=RY.1 b;simp only[dK,beq_iff_eq]at a;have d:=f e (by simpa using g) a.1;rw[a.2,getD_both h]at d;cases d
theorem O4{i:Nat}{l:Oper}{v:aC}(y:ops[i]?=some l)(H:∀(j:Nat) (o:Oper) cs b,ops[j]?=some o->o.op≠.select cs b)(U:∀c a w,Q (.panic c) (a.put l.dst v) w->Q (.panic c) a w)(L:O1 md ops st i=true):∀(p:Nat) (e:Array Bool) (a:Act) (w:bI),(∀j m,ops[j]?=some m->j≠i->e.getD j true=false->(∀d∈m.after,Region.binds md d=true->d.on≠i)->l.apart ops m=true)->i∈Region.ready md ops e->e.getD st true=false->YieldsIf P ops S l v a->S w->jA P md ops Q S st p (e.setIfInBounds i true) (a.put l.dst v) w->jA P md ops Q S st (p+1) e a w:=by
 intro p;induction p with
 | zero=>
  intro e a w _ g _ t q n;refine⟨λh=>(by rw[h]at g;cases g),λj r=>?_⟩;by_cases f:j=i;·subst f;exact t.wpOp y q ⟨λ_=>q,n⟩
  ·have:=ready_mono r f;rw[n.1]at this;cases this
 | succ p ih=>
  intro e a w D g I t q n;refine⟨λh=>(by rw[h]at g;cases g),λj r=>?_⟩;by_cases f:j=i;·subst f;exact t.wpOp y q ⟨λ_=>q,n⟩
  ·have s:=n.2 j<|ready_mono r f;obtain⟨G,m,z,V⟩:=mem_ready.1 r;have u:=(mem_ready.1 g).1;have af:∀d∈m.after,Region.binds md d=true->d.on≠i:=λd he W aa=>by have s:=V d he W;rw[aa,getD_both u]at s;cases s
   have F:j≠st:=λd=>Nn L u (by rw[<-d];exact r);have ac:i≠st:=λd=>Nn L u (by rw[<-d];exact g);have R:=wpOp_putIf z (D j m z f G af) (λcs b=>H i l cs b y) (λcs b=>H j m cs b z) U t s;have ab:∀k ok,ops[k]?=some ok->k≠i->(e.setIfInBounds j true).getD k true=false->(∀d∈ok.after,Region.binds md d=true->d.on≠i)->l.apart ops ok=true:=λk ok hk ad K ae=>by
    refine D k ok hk ad ?_ ae;by_cases E:j=k;·subst E;exact G
    ·rw[getD_set_ne true E]at K;exact K
   refine wpOp_mono (λM w' x=>?_) R;have B:S w':=x.2.1 (by rw[getD_set_ne true F,getD_set_ne true ac];exact I);refine⟨λ_=>B,ih (e.setIfInBounds j true) M w' ab (ready_mono g<|Ne.symm f) (by rw[getD_set_ne true F];exact I) x.1 B ?_⟩;rw[X3 _ _ f];exact x.2.2
theorem Mt{i:Nat}{l:Oper}{v:aC}(x:ops[i]?=some l)(G:∀(j:Nat) (o:Oper) cs b,ops[j]?=some o->o.op≠.select cs b)(M:∀c a w,Q (.panic c) (a.put l.dst v) w->Q (.panic c) a w)(y:i≠st):∀(p:Nat) (e:Array Bool) (a:Act) (w:bI),(∀j m,ops[j]?=some m->j≠i->e.getD j true=false->(∀d∈m.after,Region.binds md d=true->d.on≠i)->l.apart ops m=true)->i∈Region.ready md ops e->YieldsIf P ops (λ_=>True) l v a->(e.getD st true=false->S w)->jA P md ops Q S st p (e.setIfInBounds i true) (a.put l.dst v) w->jA P md ops Q S st (p+1) e a w:=by
 intro p;induction p with
 | zero=>
  intro e a w _ g s u n;refine⟨λh=>(by rw[h]at g;cases g),λj r=>?_⟩;by_cases f:j=i;·subst f;exact s.wpOp x trivial ⟨λh=>u (by rw[getD_set_ne true y]at h;exact h),n⟩
  ·have:=ready_mono r f;rw[n.1]at this;cases this
 | succ p ih=>
  intro e a w D g s u n;refine⟨λh=>(by rw[h]at g;cases g),λj r=>?_⟩;by_cases f:j=i;·subst f;exact s.wpOp x trivial ⟨λh=>u (by rw[getD_set_ne true y]at h;exact h),n⟩
  ·have q:=n.2 j<|ready_mono r f;obtain⟨F,m,z,R⟩:=mem_ready.1 r;have K:=(mem_ready.1 g).1;have ad:∀d∈m.after,Region.binds md d=true->d.on≠i:=λd V U W=>by have q:=R d V U;rw[W,getD_both K]at q;cases q
   have L:=wpOp_putIf z (D j m z f F ad) (λcs b=>G i l cs b x) (λcs b=>G j m cs b z) M s q;have aa:∀k ok,ops[k]?=some ok->k≠i->(e.setIfInBounds j true).getD k true=false->(∀d∈ok.after,Region.binds md d=true->d.on≠i)->l.apart ops ok=true:=λk ok hk ab H ac=>by
    refine D k ok hk ab ?_ ac;by_cases E:j=k;·subst E;exact F
    ·rw[getD_set_ne true E]at H;exact H
   refine wpOp_mono (λI w' t=>?_) L;have B:(e.setIfInBounds j true).getD st true=false->S w':=λh=>t.2.1 (by rw[X3 _ _ (Ne.symm f),getD_set_ne true y];exact h);refine⟨B,ih (e.setIfInBounds j true) I w' aa (ready_mono g<|Ne.symm f) t.1 B ?_⟩;rw[X3 _ _ f];exact t.2.2
theorem dP{d:Array Bool}{a:Act}{w:bI}(b:Region.ready md ops d=[])(h:Q .normal a w):∀e,jA P md ops Q S st e d a w
 | 0=>⟨b,h⟩
 | _+1=>⟨λ_=>h,by rw[b];simp⟩
theorem aT{i e:Nat}{d:Array Bool}{a:Act}{w:bI}{o:Oper}(k:Region.ready md ops d=[i])(p:ops[i]?=some o)(h:∀b:Act->bI->Prop,J (∀a w,((d.setIfInBounds i true).getD st true=false->S w)->jA P md ops Q S st e (d.setIfInBounds i true) a w->b a w)->if Region.wanted o (yielded ops a.tmps)=true then Oper.wp P o a w b Q else b (a.put o.dst undef) w):jA P md ops Q S st (e+1) d a w:=by refine⟨λf=>(by rw[k]at f;cases f),λj g=>?_⟩;rw[k,dh]at g;subst g;exact wpOp_step p (λb n=>h b<|Y (λa w l m=>n a w ⟨l,m⟩))
theorem gG{i k l:Nat}{d:Array Bool}{a:Act}{w:bI}{o g:Oper}(q:Region.ready md ops d=[i,k])(r:ops[i]?=some o)(s:ops[k]?=some g)(h:∀b:Act->bI->Prop,J (∀a w,((d.setIfInBounds i true).getD st true=false->S w)->jA P md ops Q S st l (d.setIfInBounds i true) a w->b a w)->if Region.wanted o (yielded ops a.tmps)=true then Oper.wp P o a w b Q else b (a.put o.dst undef) w)(e:∀b:Act->bI->Prop,J (∀a w,((d.setIfInBounds k true).getD st true=false->S w)->jA P md ops Q S st l (d.setIfInBounds k true) a w->b a w)->if Region.wanted g (yielded ops a.tmps)=true then Oper.wp P g a w b Q else b (a.put g.dst undef) w):jA P md ops Q S st (l+1) d a w:=by
 refine⟨λp=>(by rw[q]at p;cases p),λj f=>?_⟩;rw[q]at f;rcases fV.1 f with rfl|f;·exact wpOp_step r (λb n=>h b<|Y (λa w m e=>n a w ⟨m,e⟩))
 ·rw[dh]at f;subst f;exact wpOp_step s (λb n=>e b<|Y (λa w m e=>n a w ⟨m,e⟩))
def rO(P:Program)(ops:Array Oper)(S:bI->Prop)(L:Act->Prop):List (Bool × Oper)->Act->Prop
 | [],a=>L a
 | (true,o)::rest,a=>∃v,YieldsIf P ops S o v a/\rO P ops S L rest (a.put o.dst v)
 | (false,o)::rest,a=>∃v,YieldsIf P ops (λ_=>True) o v a/\rO P ops S L rest (a.put o.dst v)
theorem dW{L:Act->Prop}{a:Act}(h:L a):rO P ops S L [] a:=h
theorem fO{L:Act->Prop}{a:Act}{o:Oper}{rest:List (Bool × Oper)}{v:aC}(b:Region.wanted o (yielded ops a.tmps)=true)(d:∀w,(execOp a.eval o).run P w=.ok (.value v) w)(h:rO P ops S L rest (a.put o.dst v)):rO P ops S L ((false,o)::rest) a:=⟨v,aO ⟨b,λw _=>d w⟩,h⟩
theorem fP{L:Act->Prop}{a:Act}{o:Oper}{rest:List (Bool × Oper)}{v:aC}(b:Region.wanted o (yielded ops a.tmps)=true)(d:∀w,S w->(execOp a.eval o).run P w=.ok (.value v) w)(h:rO P ops S L rest (a.put o.dst v)):rO P ops S L ((true,o)::rest) a:=⟨v,aO ⟨b,d⟩,h⟩
def gB:List (Option Bool)->List Oper->List (Bool × Oper)
 | some b::a,o::l=>(b,o)::gB a l
 | none::a,_::l=>gB a l
 | _,_=>[]
def zX:List (Option Bool)->Nat
 | []=>0
 | some _::a=>zX a+1
 | none::a=>zX a
def Dw:List (Option Bool)->Nat->Array Bool->Array Bool
 | [],_,s=>s
 | some _::a,k,s=>Dw a (k+1) (s.setIfInBounds k true)
 | none::a,k,s=>Dw a (k+1) s
def RZ(md:Region.Mode)(ops:Array Oper)(st:Nat):List (Option Bool)->Nat->Array Bool->Bool
 | [],_,_=>true
 | some b::a,k,s=>Region.free md ops s k&&(Region.ready md ops s).contains k&&(!b||O1 md ops st k)&&(!(k==st))&&(!(s.getD st true))&&RZ md ops st a (k+1) (s.setIfInBounds k true)
 | none::a,k,s=>RZ md ops st a (k+1) s
theorem Dx{f:Nat}{w:bI}(n:Region.noSelect ops=true)(i:∀c a d v w,Q (.panic c) (Act.put a d v) w->Q (.panic c) a w)(m:S w):∀(e:List (Option Bool)) (l:List Oper) (k:Nat) (s:Array Bool) (a:Act),e.length<=l.length->(∀j,l[j]?=ops[k+j]?)->RZ md ops st e k s=true->
 rO P ops S (λD=>jA P md ops Q S st f (Dw e k s) D w) (gB e l) a->jA P md ops Q S st (f+zX e) s a w
 | [],l,k,s,a,_,_,_,h=>by
  have E:gB [] l=[]:=by unfold gB;rfl
  rw[E]at h;exact h
 | b::e,[],k,s,a,g,_,_,_=>by simp at g
 | none::e,o::l,k,s,a,g,r,q,h=>by refine Dx n i m e l (k+1) s a (by simpa using g) (λj=>?_) q h;have:=r<|j+1;rw[Yw]at this;rw[this];congr 1;omega
 | some b::e,o::l,k,s,a,g,r,q,h=>by
  have p:ops[k]?=some o:=by simpa using(r 0).symm
  simp only[RZ,dK,Bool.not_eq_true',beq_eq_false_iff_ne]at q;obtain⟨⟨⟨⟨⟨x,y⟩,F⟩,H⟩,G⟩,z⟩:=q;have B:∀j,l[j]?=ops[k+1+j]?:=λj=>by have:=r<|j+1;rw[Yw]at this;rw[this];congr 1;omega
  cases b with
  | true =>obtain⟨v,u,t⟩:=h;exact O4 (v:=v) p (Region.noSelect_spec n) (λc a w h=>i c a _ _ w h) (by simpa using F) (f+zX e) s a w (Region.free_spec p x) (by simpa using y) G u m (Dx n i m e l (k+1) _ _ (by simpa using g) B z t)
  | false =>obtain⟨v,u,t⟩:=h;exact Mt (v:=v) p (Region.noSelect_spec n) (λc a w h=>i c a _ _ w h) H (f+zX e) s a w (Region.free_spec p x) (by simpa using y) u (λ_=>m) (Dx n i m e l (k+1) _ _ (by simpa using g) B z t)
theorem dx{id:Nat}{a:Act}{w:bI}{l:List Oper}(b:List (Option Bool))(st:Nat)(S:bI->Prop)(f:Nat)(q:P.follows .mixedOrders=true)(e:(Region.noSelect l.toArray&&RZ .any l.toArray st b 0 (Array.replicate l.toArray.size false)&&decide (b.length=l.length)&&decide (f+zX b=l.length))=true)(n:∀c a d v w,Q (.panic c) (Act.put a d v) w->Q (.panic c) a w)(p:S w.drew)(h:rO P l.toArray S (λg=>jA P .any l.toArray Q S st f (Dw b 0<|Array.replicate l.toArray.size false) g w.drew) (gB b l) a):(Code.region id l.toArray true).wp P Q a w:=by simp only[dK,iy]at e;obtain⟨⟨⟨i,k⟩,r⟩,m⟩:=e;have K:=Dx (f:=f) (w:=w.drew) i n p b l 0 _ a bC (λj=>by rw[d9];simp) k h;rw[m]at K;exact wp_region_any q (JN _ _ _ _<|by simpa using K)
end
