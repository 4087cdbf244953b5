/- part -/
import Derived.Test.YtbgkpehhdibaoaaGreatDoorBZI2
import Derived.StillTail
import Derived.Deep.RegionHeld
set_option maxHeartbeats 0
set_option maxRecDepth 99999
namespace Go.Proofs.YtbgkpehhdibaoaaGreatDoor
open bN
open Go.Proofs.Tryz
namespace Sv
def sub(a b:Nat):Bool:=(a &&& b)==a
def le(Z:Nat->Nat->Bool)(x y:Nat × Nat):Bool:=sub x.1 y.1&&Z x.2 y.2
def Ok(N:Nat)(x:Nat × Nat):Prop:=x.1<16/\x.2<N
def join(Z:Nat->Nat->Bool)(N:Nat)(x y:Nat × Nat):Nat × Nat:=(x.1 ||| y.1,mh Z N x.2 y.2)
theorem nZ(a b:Nat):sub a b=true↔∀i,a.testBit i=true->b.testBit i=true:=by
 unfold sub;rw[beq_iff_eq];constructor;·intro h i hi;rw[<-h,Nat.testBit_and,dJ]at hi;exact hi.2
 ·intro h;refine Nat.eq_of_testBit_eq λi=>?_;rw[Nat.testBit_and];cases ha:a.testBit i;·rfl
  ·rw[h i ha];rfl
theorem sub_refl(a:Nat):sub a a=true:=(nZ a a).2 λ_ h=>h
theorem WR{a b c:Nat}(h:sub a b=true)(k:sub b c=true):sub a c=true:=(nZ a c).2 λi hi=>(nZ b c).1 k i ((nZ a b).1 h i hi)
theorem sub_anti{a b:Nat}(h:sub a b=true)(k:sub b a=true):a=b:=by unfold sub at h k;rw[beq_iff_eq]at h k;rw[<-h,Nat.and_comm,k]
theorem sub_left(a b:Nat):sub a (a ||| b)=true:=(nZ _ _).2 λi hi=>by rw[Nat.testBit_or,hi];rfl
theorem WT(a b:Nat):sub b (a ||| b)=true:=(nZ _ _).2 λi hi=>by rw[Nat.testBit_or,hi,Bool.or_true]
theorem sub_both{a b c:Nat}(h:sub a c=true)(k:sub b c=true):sub (a ||| b) c=true:=(nZ _ _).2 λi hi=>by
 rw[Nat.testBit_or,Gl]at hi;rcases hi with hi|hi;·exact(nZ _ _).1 h i hi
 ·exact(nZ _ _).1 k i hi
theorem or_lt{a b:Nat}(h:a<16)(k:b<16):a ||| b<16:=Nat.or_lt_two_pow (n:=4) h k
theorem sub_zero(a:Nat):sub 0 a=true:=(nZ _ _).2 λi hi=>by simp at hi
variable {Z : Nat → Nat → Bool} {N : Nat}
theorem le_refl(aah:bN.Joins Z N){x:Nat × Nat}(h:Ok N x):le Z x x=true:=by unfold le;rw[sub_refl,aah.refl _ h.2];rfl
theorem le_trans(aah:bN.Joins Z N){x y z:Nat × Nat}(hx:Ok N x)(hy:Ok N y)(hz:Ok N z)(h:le Z x y=true)(k:le Z y z=true):le Z x z=true:=by unfold le at *;rw[dJ]at *;exact⟨WR h.1 k.1,aah.trans _ _ _ hx.2 hy.2 hz.2 h.2 k.2⟩
theorem le_anti(aah:bN.Joins Z N){x y:Nat × Nat}(hx:Ok N x)(hy:Ok N y)(h:le Z x y=true)(k:le Z y x=true):x=y:=by unfold le at *;rw[dJ]at *;exact Prod.ext (sub_anti h.1 k.1) (aah.anti _ _ hx.2 hy.2 h.2 k.2)
theorem UQ(aah:bN.Joins Z N){x y:Nat × Nat}(hx:Ok N x)(hy:Ok N y):Ok N (join Z N x y):=⟨or_lt hx.1 hy.1,aah.lt hx.2 hy.2⟩
theorem WU(aah:bN.Joins Z N){x y:Nat × Nat}(hx:Ok N x)(hy:Ok N y):le Z x (join Z N x y)=true:=by unfold le;rw[dJ];exact⟨sub_left _ _,(aah.spec hx.2 hy.2).left⟩
theorem Rz(aah:bN.Joins Z N){x y:Nat × Nat}(hx:Ok N x)(hy:Ok N y):le Z y (join Z N x y)=true:=by unfold le;rw[dJ];exact⟨WT _ _,(aah.spec hx.2 hy.2).right⟩
theorem RA(aah:bN.Joins Z N){x y z:Nat × Nat}(hx:Ok N x)(hy:Ok N y)(hz:Ok N z)(h:le Z x z=true)(k:le Z y z=true):le Z (join Z N x y) z=true:=by unfold le at *;rw[dJ]at *;exact⟨sub_both h.1 k.1,(aah.spec hx.2 hy.2).least _ hz.2 h.2 k.2⟩
theorem count_lt{α:Type}{p q:α->Bool}:∀{l:List α},(∀x∈l,p x=true->q x=true)->(∃x∈l,q x=true/\p x=false)->l.countP p<l.countP q:=by
 intro l;induction l with
 | nil=>rintro _ ⟨x,hx,_⟩;simp at hx
 | cons a l ih=>
  intro h1 h2;have hle:l.countP p<=l.countP q:=List.countP_mono_left (λx hx=>h1 x (by simp[hx]));rw[List.countP_cons,List.countP_cons];by_cases hd:q a=true/\p a=false;·rw[aL hd.1,aJ (by rw[hd.2];simp)];omega
  ·have hlt:l.countP p<l.countP q:=ih (λx hx=>h1 x (by simp[hx])) (by
    obtain⟨x,hx,k1,k2⟩:=h2;rcases fK.1 hx with rfl|hx;·exact aM ⟨k1,k2⟩ hd
    ·exact⟨x,hx,k1,k2⟩)
   have:=h1 a dx;cases hp:p a;·cases hq:q a<;>simp<;>omega
   ·rw[this hp];simp;omega
def high(Z:Nat->Nat->Bool)(N:Nat)(x:Nat × Nat):Nat:=(List.range (16*N)).countP λc=>le Z (c / N,c % N) x
theorem high_le(Z:Nat->Nat->Bool)(N:Nat)(x:Nat × Nat):high Z N x<=16*N:=by unfold high;have:=List.countP_le_length (p:=λc=>le Z (c / N,c % N) x) (l:=List.range (16*N));rwa[rM]at this
theorem UR{c:Nat}(h:c<16*N):Ok N (c / N,c % N):=by
 have hN:0<N:=by
  rcases Nat.eq_zero_or_pos N with e|e;·subst e;omega
  ·exact e
 exact⟨Nat.div_lt_of_lt_mul (by rw[Nat.mul_comm];exact h),Nat.mod_lt _ hN⟩
theorem Ka(aah:bN.Joins Z N){x y:Nat × Nat}(hx:Ok N x)(hy:Ok N y)(h:le Z x y=true):high Z N x<=high Z N y:=
 List.countP_mono_left (λ_ hc k=>le_trans aah (UR (jr.1 hc)) hx hy k h)
theorem high_lt(aah:bN.Joins Z N){x y:Nat × Nat}(hx:Ok N x)(hy:Ok N y)(h:le Z x y=true)(hne:le Z y x=false):high Z N x<high Z N y:=by
 refine count_lt (λc hc k=>le_trans aah (UR (jr.1 hc)) hx hy k h) ⟨y.1*N+y.2,?_,?_⟩;·rw[jr];have h1:y.1*N<=15*N:=Lc N (by have:=hy.1;omega);have:=hy.2;omega
 ·have hN:0<N:=by have:=hy.2;omega
  have e1:(y.1*N+y.2) / N=y.1:=by rw[Nat.mul_comm,Nat.mul_add_div hN,Nat.div_eq_of_lt hy.2,rY]
  have e2:(y.1*N+y.2) % N=y.2:=by rw[Nat.mul_comm,Nat.mul_add_mod,Nat.mod_eq_of_lt hy.2]
  rw[e1,e2];exact⟨le_refl aah hy,hne⟩
def Jp(f:Nat->Nat):Nat->Nat
 | 0=>0
 | n+1=>Jp f n+f n
theorem LG{f g:Nat->Nat}:∀{n:Nat},(∀v,v<n->f v<=g v)->Jp f n<=Jp g n
 | 0,_=>bE _
 | n+1,h=>Nat.add_le_add (LG λv hv=>h v aX) (h n aX)
theorem UU{f g:Nat->Nat}:∀{n:Nat},(∀v,v<n->f v<=g v)->(∃v,v<n/\f v<g v)->Jp f n<Jp g n
 | 0,_,⟨v,hv,_⟩=>by omega
 | n+1,h,⟨v,hv,hlt⟩=>by
  have h1:=h n aX;have h2:Jp f n<=Jp g n:=LG λv hv=>h v aX;show Jp f n+f n<Jp g n+g n;by_cases e:v=n;·subst e;omega
  ·have:=UU (n:=n) (λv hv=>h v aX) ⟨v,by omega,hlt⟩;omega
def left(Z:Nat->Nat->Bool)(N n:Nat)(V:Nat->Nat × Nat):Nat:=Jp (λv=>16*N - high Z N (V v)) n
structure Co where
 to:Int
 fr:List Int
 mask:Int
 level:Int
def Co.lab(c:Co):Nat × Nat:=(c.mask.toNat,c.level.toNat)
def rz(n:Nat)(v:Int):Bool:=decide (0<=v)&&decide (v<n)
def yw(N:Nat)(m l:Int):Bool:=decide (0<=m)&&decide (m<=15)&&decide (0<=l)&&decide (l<N)
def Jq(N n:Nat)(c:Co):Bool:=c.fr.all (rz n)&&(rz n c.to&&yw N c.mask c.level)
theorem kH{n:Nat}{v:Int}(h:rz n v=true):0<=v/\v.toNat<n/\v=(v.toNat:Int):=by unfold rz at h;simp only[dJ,gP]at h;omega
theorem uK{N:Nat}{m l:Int}(h:yw N m l=true):Ok N (m.toNat,l.toNat)/\m=(m.toNat:Int)/\l=(l.toNat:Int):=by unfold yw at h;simp only[dJ,gP]at h;exact⟨⟨by show m.toNat<16;omega,by show l.toNat<N;omega⟩,by omega,by omega⟩
theorem AV{N n:Nat}{c:Co}(h:Jq N n c=true):(∀f∈c.fr,rz n f=true)/\rz n c.to=true/\yw N c.mask c.level=true:=by unfold Jq at h;simp only[dJ]at h;exact⟨λf hf=>iB.1 h.1 f hf,h.2.1,h.2.2⟩
def Sol(Z:Nat->Nat->Bool)(cs:List Co)(U:Nat->Nat × Nat):Prop:=
 ∀c∈cs,le Z c.lab (U c.to.toNat)=true/\∀f∈c.fr,le Z (U f.toNat) (U c.to.toNat)=true
def wI(N n:Nat)(V:Nat->Nat × Nat):Prop:=∀v,v<n->Ok N (V v)
def LH(Z:Nat->Nat->Bool)(n:Nat)(V U:Nat->Nat × Nat):Prop:=∀v,v<n->le Z (V v) (U v)=true
structure yQ(Z:Nat->Nat->Bool)(N n:Nat)(cs:List Co)(V:Nat->Nat × Nat):Prop where
 ok:wI N n V
 sol:Sol Z cs V
 least:∀U,wI N n U->Sol Z cs U->LH Z n V U
theorem yQ.unique(aah:bN.Joins Z N){n:Nat}{cs:List Co}{V U:Nat->Nat × Nat}(h:yQ Z N n cs V)(k:yQ Z N n cs U):∀v,v<n->V v=U v:=
 λv hv=>le_anti aah (h.ok v hv) (k.ok v hv) (h.least U k.ok k.sol v hv) (k.least V h.ok h.sol v hv)
theorem Sol.less{cs ds:List Co}{U:Nat->Nat × Nat}(h:Sol Z (cs++ds) U):Sol Z cs U:=λc hc=>h c (List.mem_append_left _ hc)
def put(V:Nat->Nat × Nat)(i:Nat)(x:Nat × Nat):Nat->Nat × Nat:=λv=>if v=i then x else V v
def up(Z:Nat->Nat->Bool)(N:Nat)(V:Nat->Nat × Nat)(i:Nat)(a:Nat × Nat):Nat->Nat × Nat:=if le Z a (V i)then V else put V i (join Z N (V i) a)
theorem put_ok{n i:Nat}{V:Nat->Nat × Nat}{x:Nat × Nat}(h:wI N n V)(hx:Ok N x):wI N n (put V i x):=λv hv=>by
 unfold put;split;·exact hx
 ·exact h v hv
theorem up_ok(aah:bN.Joins Z N){n i:Nat}{V:Nat->Nat × Nat}{a:Nat × Nat}(h:wI N n V)(hi:i<n)(ha:Ok N a):wI N n (up Z N V i a):=by
 unfold up;split;·exact h
 ·exact put_ok h (UQ aah (h i hi) ha)
theorem up_ge(aah:bN.Joins Z N){n i:Nat}{V:Nat->Nat × Nat}{a:Nat × Nat}(h:wI N n V)(hi:i<n)(ha:Ok N a):LH Z n V (up Z N V i a):=λv hv=>by
 unfold up;split;·exact le_refl aah (h v hv)
 ·unfold put;split;·subst v;exact WU aah (h i hi) ha
  ·exact le_refl aah (h v hv)
theorem up_has(aah:bN.Joins Z N){n i:Nat}{V:Nat->Nat × Nat}{a:Nat × Nat}(h:wI N n V)(hi:i<n)(ha:Ok N a):le Z a (up Z N V i a i)=true:=by
 unfold up;split;·assumption
 ·unfold put;rw[aL rfl];exact Rz aah (h i hi) ha
theorem up_le(aah:bN.Joins Z N){n i:Nat}{V U:Nat->Nat × Nat}{a:Nat × Nat}(h:wI N n V)(hU:wI N n U)(hi:i<n)(ha:Ok N a)(hVU:LH Z n V U)(haU:le Z a (U i)=true):LH Z n (up Z N V i a) U:=λv hv=>by
 unfold up;split;·exact hVU v hv
 ·unfold put;split;·subst v;exact RA aah (h i hi) ha (hU i hi) (hVU i hi) haU
  ·exact hVU v hv
theorem OA(aah:bN.Joins Z N){n:Nat}{V:Nat->Nat × Nat}(h:wI N n V):LH Z n V V:=λv hv=>le_refl aah (h v hv)
theorem CJ(aah:bN.Joins Z N){n:Nat}{V U T:Nat->Nat × Nat}(hV:wI N n V)(hU:wI N n U)(hT:wI N n T)(h:LH Z n V U)(k:LH Z n U T):LH Z n V T:=λv hv=>le_trans aah (hV v hv) (hU v hv) (hT v hv) (h v hv) (k v hv)
theorem left_le(aah:bN.Joins Z N){n:Nat}{V U:Nat->Nat × Nat}(hV:wI N n V)(hU:wI N n U)(h:LH Z n V U):left Z N n U<=left Z N n V:=
 LG λv hv=>by have:=Ka aah (hV v hv) (hU v hv) (h v hv);omega
theorem left_lt(aah:bN.Joins Z N){n i:Nat}{V:Nat->Nat × Nat}{a:Nat × Nat}(h:wI N n V)(hi:i<n)(ha:Ok N a)(hne:le Z a (V i)=false):left Z N n (up Z N V i a)<left Z N n V:=by
 obtain⟨hok,hge⟩:=eY (up_ok aah h hi ha) (up_ge aah h hi ha);refine UU (λv hv=>?_) ⟨i,hi,?_⟩;·have:=Ka aah (h v hv) (hok v hv) (hge v hv);omega
 ·have h1:=high_lt aah (h i hi) (hok i hi) (hge i hi) (by
   cases hc:le Z (up Z N V i a i) (V i);·rfl
   ·have:=le_trans aah ha (hok i hi) (h i hi) (up_has aah h hi ha) hc;rw[hne]at this;cases this)
  have h2:=high_le Z N (up Z N V i a i);omega
end Sv
open Go.RowKit
theorem infoBool:(prog.info? 4).map (λi=>(i.zero,i.size,i.bytes))=some (some (.bool false),1,1):=by kernel_rfl
theorem infoRow:(prog.info? 49).map (λi=>(i.zero,i.size,i.bytes))=some (some (J),1,24):=by kernel_rfl
def top(N n:Nat)(r:Nat):Nat->Value:=λj=>if j<r then .slice (some ⟨N+1+j,0,none⟩) n n else .slice none 0 0
structure OB(w wr:World)(n r:Nat)(Z:Nat->Nat->Bool):Prop where
 since:Below w.heap.size w wr
 size:wr.heap.size=w.heap.size+1+r
 top:wr.rowIs w.heap.size 49 n (top w.heap.size n r)
 done:∀j,j<r->wr.rowIs (w.heap.size+1+j) 4 n (λc=>.bool (Z j c))
structure Inner(w wi:World)(n r c:Nat)(Z:Nat->Nat->Bool):Prop where
 since:Below w.heap.size w wi
 size:wi.heap.size=w.heap.size+1+r+1
 top:wi.rowIs w.heap.size 49 n (top w.heap.size n (r+1))
 done:∀j,j<r->wi.rowIs (w.heap.size+1+j) 4 n (λc=>.bool (Z j c))
 cur:wi.rowIs (w.heap.size+1+r) 4 n (λi=>if i<c then .bool (Z r i)else .bool false)
theorem OC(w:World)(n:Nat)(Z:Nat->Nat->Bool):OB w (w.alloc (.cells (madeCells #[J] n) 49)) n 0 Z:=
 ⟨(bP _ _).alloc (bE _) _,by simp,(World.rowIs_made w _ n 49).congr (λj _=>by simp[top]),λj hj=>aM hj (fT _)⟩
theorem OD{w wr:World}{n r:Nat}{Z:Nat->Nat->Bool}(h:OB w wr n r Z):Inner w ((wr.alloc (.cells (madeCells #[.bool false] n) 4)).setCell (X w.heap.size r) (Y (some (X (w.heap.size+1+r) 0)) n n)) n r 0 Z:=by
 have hnew:=World.rowIs_made wr (.bool false) n 4;rw[h.size]at hnew;refine⟨(h.since.alloc (by rw[h.size];omega) _).setCell (bE _) _,by simp[h.size],((h.top.alloc _).set r _).congr (λj _=>?_),λj hj=>((h.done j hj).alloc _).setOther (by show w.heap.size+1+j≠w.heap.size;omega) _,(hnew.setOther (by show w.heap.size+1+r≠w.heap.size;omega) _).congr (λi _=>by simp)⟩;simp only[top];by_cases e:j=r;·subst e;simp
 ·rw[aJ e];by_cases hlt:j<r;·rw[aL hlt,aL aX]
  ·rw[aJ hlt,aJ aX]
theorem RD{w wi:World}{n r c:Nat}{Z:Nat->Nat->Bool}(h:Inner w wi n r c Z){b:Bool}(hb:b=Z r c):Inner w (wi.setCell (X (w.heap.size+1+r) c) (.bool b)).drew n r (c+1) Z:=by
 subst hb
 refine⟨(h.since.setCell (by show w.heap.size<=w.heap.size+1+r;omega) _).drew,by simp[h.size],(h.top.setOther (by show w.heap.size≠w.heap.size+1+r;omega) _).drew,
  λj hj=>((h.done j hj).setOther (by show w.heap.size+1+j≠w.heap.size+1+r;omega) _).drew,((h.cur.set c _).congr (λi _=>?_)).drew⟩
 by_cases e:i=c;·subst e;simp
 ·rw[aJ e];by_cases hlt:i<c;·rw[aL hlt,aL aX]
  ·rw[aJ hlt,aJ aX]
theorem RF{w wi:World}{n r:Nat}{Z:Nat->Nat->Bool}(h:Inner w wi n r n Z):OB w wi n (r+1) Z:=
 ⟨h.since,by rw[h.size];omega,h.top,λj hj=>by
  by_cases e:j=r;·subst e;exact h.cur.congr (λi hi=>by rw[aL hi])
  ·exact h.done j aX⟩
theorem RG{w w':World}{n:Nat}{Z:Nat->Nat->Bool}(h:OB w w' n n Z):sJ w' (Y (some (X w.heap.size 0)) n n) n Z:=
 ⟨w.heap.size,0,n,λj=>w.heap.size+1+j,λ_=>0,λ_=>n,rfl,
  λr hr=>by rw[eD,h.top.cell hr];simp[top,hr],
  λr c hr hc=>by rw[eD];exact(h.done r hr).cell hc⟩
theorem zI(w:World)(v:Value)(n:Nat)(Z:Nat->Nat->Bool)(hG:sJ w v n Z)(hn:n<=6):Calls prog 70 #[v] w λe w'=>∃v',e=dz v'/\sJ w' v' n (bN.tr Z)/\bG w w':=by
 obtain⟨gb,go,gc,RB,RO,C,rfl,hrow,hcell⟩:=hG;have hmk22:=run_make_row' (P:=prog) 23 49 (J) 24 underlying23 infoRow rfl .i64 .i64 n aX aX;go_enter func70,ntmps70;go_wp2;clear hmk22;go_loopg [11] n (λg i wr=>∃r:Nat,r<=n/\g=n - r/\i=O r/\OB w wr n r (bN.tr Z));case atStart=>exact⟨0,bL _,rfl,rfl,OC w n _⟩
 case round=>
  obtain⟨r,hr,rfl,rfl,hO⟩:=hrel;by_cases hrG:r<n
  ·have hrz:(r:Int)<(n:Int):=by omega
   obtain⟨hsize,hmk23⟩:=eY hO.size (run_make_row' (P:=prog) 49 4 (.bool false) 1 underlying49 infoBool rfl .i64 .i64 n aX aX);have hst1:∀o,(wr.alloc o).cell? (X w.heap.size r)=some (top w.heap.size n r r):=λo=>(hO.top.alloc o).cell hrG;have hst2:∀o,(wr.alloc o).frozen? (X w.heap.size r)=false:=λo=>(hO.top.alloc o).frozen r;go_wp2;have hI0:=OD hO;clear hmk23 hst1 hst2 hsize hO;go_loopg [25] n (λg i wi=>∃c:Nat,c<=n/\g=n - c/\i=O c/\Inner w wi n r c (bN.tr Z));case atStart=>exact⟨0,bL _,rfl,rfl,hI0⟩
   case round=>
    obtain⟨c,hc,rfl,rfl,hI⟩:=hrel;clear hI0;by_cases hcL:c<n
    ·have hcz:(c:Int)<(n:Int):=by omega
     have t1:wr.cell? (X w.heap.size r)=some (Y (some (X (w.heap.size+1+r) 0)) n n):=by simpa[top]using hI.top.cell hrG
     have t2:wr.cell? (X gb (go+c))=some (Y (some (X (RB c) (RO c))) n (C c)):=by rw[hI.since.cell (eX _ _ (hrow c hcL))];exact hrow c hcL
     have t3:wr.cell? (X (RB c) (RO c+r))=some (.bool (Z c r)):=by rw[hI.since.cell (eX _ _ (hcell c r hcL hrG))];exact hcell c r hcL hrG
     have t4:wr.cell? (X (w.heap.size+1+r) c)=some (.bool false):=by simpa using hI.cur.cell hcL
     have t5:wr.frozen? (X (w.heap.size+1+r) c)=false:=hI.cur.frozen c;clear hrow hcell;go_wp2_with fail;go_big_region;go_wp2;go_roundg (n - (c+1));case measure=>go_light;omega
     case rel=>go_light;exact⟨c+1,by omega,rfl,by simp,RD hI rfl⟩
    ·obtain rfl:c=n:=by omega
     have hcz:¬((c:Int)<(c:Int)):=by omega
     go_wp2;go_roundg (c - (r+1));case measure=>go_light;omega
     case rel=>go_light;exact⟨r+1,by omega,rfl,by simp,RF hI⟩
  ·have hrz:¬((r:Int)<(n:Int)):=by omega
   go_wp2;go_ret;obtain rfl:r=n:=by omega
   exact⟨_,rfl,RG hO,hO.since⟩
namespace bN
def bX(ss:List aY)(G:Nat)(L:Nat->Nat)(Z:Nat->Nat->Bool):Int:=
 if lN ss=false then 1 else if 6<ss.length then 2 else if lH G L ss.length=false then 5 else if zk Z ss.length=false then 5
 else if oU Z ss.length=false then 5 else if oU (tr Z) ss.length=false then 5 else 0
end bN
theorem AX{w:World}{v:Value}{G n:Nat}{L:Nat->Nat}{Z:Nat->Nat->Bool}(h:Fg w v G L Z)(hn:0<n)(hs:lH G L n=true):sJ w v n Z:=by
 unfold lH at hs;obtain⟨h1,h2⟩:=kX.1 hs;have e:G=n:=by simpa using h1
 subst e;exact h.grid hn (λr hr=>by simpa[uy]using rC h2 hr)
theorem WV{ss:List aY}(h:lN ss=true):0<ss.length:=by unfold lN at h;simpa using(kX.1 h).2
theorem xS(w:World)(vn vl:Value)(ss:List aY)(G:Nat)(L:Nat->Nat)(Z:Nat->Nat->Bool)(hS:Strs w vn ss)(hR:Fg w vl G L Z):Calls prog 37 #[.agg #[vn,vl]] w λe w'=>e=dz (O (bX ss G L Z))/\bG w w':=by
 obtain⟨HS,HR⟩:=bU hS hR;obtain⟨a,b,off,cap,rfl,ha,hl,hs,h1⟩:=hS;clear ha hs h1 hR;obtain⟨n,hlen⟩:=bC ss.length
 have HE:Hid (bX ss G L Z=if lN ss=false then 1 else if 6<n then 2 else if lH G L n=false then 5 else if zk Z n=false then 5
  else if oU Z n=false then 5 else if oU (bN.tr Z) n=false then 5 else 0):=by rw[hlen];rfl
 have HP:Hid (lN ss=true->0<n):=by rw[hlen];exact WV
 rw[<-hlen]at hl HS ⊢;clear hlen;go_enter func37,ntmps37;go_wp2_with fail;refine(Jl _ _ ss (HS.below ((bP _ _).alloc (bE _) _))).mono ?_;rintro e w1 ⟨rfl,hb1⟩;have HB:=I (Wn hb1);obtain⟨q0,q1⟩:=eY (aD (N7 w (Y a n cap) vl 25) hb1) (aD (sM w (Y a n cap) vl 25) hb1);clear hb1;cases zn:lN ss;·go_wp2;go_ret;exact⟨bT (by rw[HE,aL zn]),HB⟩
 ·have hpos:=HP zn;by_cases h6:6<n;·go_wp2;go_ret;exact⟨bT (by rw[HE,zn,aJ dx,aL h6]),HB⟩
  ·have HR1:=I (HR.below HB);go_wp2_with fail;refine(Lg w1 vl G n L Z HR1 aX).mono ?_;rintro e w' ⟨rfl,hw⟩;subst hw;cases zs:lH G L n;·go_wp2;go_ret;exact⟨bT (by rw[HE,zn,aJ dx,aJ h6,aL zs]),HB⟩
   ·have HG:=I (AX HR1 hpos zs);go_wp2_with fail;refine(Od w' vl n Z HG aX).mono ?_;rintro e w'' ⟨rfl,hw⟩;subst hw;cases zo:zk Z n;·go_wp2;go_ret;exact⟨bT (by rw[HE,zn,aJ dx,aJ h6,zs,aJ dx,aL zo]),HB⟩
    ·go_wp2_with fail;refine(Aw w'' vl n Z HG aX).mono ?_;rintro e w3 ⟨rfl,hw⟩;subst hw;cases zj:oU Z n;·go_wp2;go_ret;exact⟨bT (by rw[HE,zn,aJ dx,aJ h6,zs,aJ dx,zo,aJ dx,aL zj]),HB⟩
     ·go_wp2_with fail;refine(zI w3 vl n Z HG aX).mono ?_;rintro e w4 ⟨v',rfl,hG4,hb4⟩;obtain⟨HG4,DZ⟩:=bU hG4 (up HB hb4);clear hG4 hb4;go_wp2_with fail;refine(Aw w4 v' n (bN.tr Z) HG4 aX).mono ?_;rintro e w5 ⟨rfl,hw⟩;subst hw;cases zt:oU (bN.tr Z) n;·go_wp2;go_ret;exact⟨bT (by rw[HE,zn,aJ dx,aJ h6,zs,aJ dx,zo,aJ dx,zj,aJ dx,aL zt]),DZ⟩
      ·go_wp2;go_ret;exact⟨bT (by rw[HE,zn,aJ dx,aJ h6,zs,aJ dx,zo,aJ dx,zj,aJ dx,zt,aJ dx]),DZ⟩
section
variable {P : Program} {ops : Array Oper} {md : Region.Mode} {C : World → Prop}
def AY(P:Program)(md:Region.Mode)(ops:Array Oper)(C:World->Prop)(n:Nat)(L:Array Bool->Act->Prop):Nat->Array Bool->Act->Prop
 | 0,s,a=>L s a
 | f+1,s,a=>Region.ready md ops s≠[]/\∀i∈Region.ready md ops s,i<n/\qOp P ops C i (AY P md ops C n L f (s.setIfInBounds i true)) a
theorem RH{n g:Nat}{L:Array Bool->Act->Prop}{Q':Exit->Act->World->Prop}(hL:∀s a w,C w->L s a->wpAny P md ops Q' g s a w)(f:Nat):∀(s:Array Bool) (a:Act) (w:World),C w->AY P md ops C n L f s a->wpAny P md ops Q' (f+g) s a w:=by
 induction f with
 | zero=>intro s a w hw h;rw[eD];exact hL s a w hw h
 | succ f ih =>intro s a w hw h;rw[Nat.add_right_comm];exact⟨λh0=>aM h0 h.1,λi hi=>wpOp_of_qOp hw (λa' w' hw' h'=>ih _ a' w' hw' h') (h.2 i hi).2⟩
theorem LJ{n i:Nat}{oi:Oper}{v:Value}{L:Array Bool->Act->Prop}(hi:ops[i]?=some oi)(hsel:∀(j:Nat) (o:Oper) cs b,ops[j]?=some o->o.op≠.select cs b)(hs:Region.sinkB md ops n=true)(hc:Region.chainB md ops n=true)(hn:n<ops.size)(hin:i<n)(hdone:∀s a,L s a->∀j∈Region.ready md ops s,n<=j)(f:Nat):∀(s:Array Bool) (a:Act),HeadInv md ops n s->(∀j oj,ops[j]?=some oj->j≠i->s.getD j true=false->(∀e∈oj.after,Region.binds md e=true->e.on≠i)->oi.apart ops oj=true)->i∈Region.ready md ops s->YieldsIn P ops C oi v a->AY P md ops C n L f (s.setIfInBounds i true) (a.put oi.dst v)->AY P md ops C n L (f+1) s a:=by
 have early:∀{s:Array Bool},HeadInv md ops n s->i∈Region.ready md ops s->∀j∈Region.ready md ops s,j<n:=λ{s} inv hr j hj=>by
  rcases Ct j n with h|h;·exact h
  ·exact aM hj (tail_waits hs hc hn inv _ i rfl hin (mem_ready.1 hr).1 j h)
 induction f with
 | zero=>
  intro s a inv _ hr hy H;refine⟨List.ne_nil_of_mem hr,λj hj=>⟨early inv hr j hj,?_⟩⟩;by_cases e:j=i;·rw[e];exact hy.qOp hi H
  ·have h1:=hdone _ _ H j (ready_mono hj e);have h2:=early inv hr j hj;omega
 | succ f ih=>
  intro s a inv hfree hr hy H;refine⟨List.ne_nil_of_mem hr,λj hj=>⟨early inv hr j hj,?_⟩⟩;by_cases e:j=i;·rw[e];exact hy.qOp hi H
  ·obtain⟨hjun,oj,hoj,hall⟩:=mem_ready.1 hj;have hno:∀e∈oj.after,Region.binds md e=true->e.on≠i:=λe he hb heq=>by have h1:=hall e he hb;rw[heq,getD_both (mem_ready.1 hr).1]at h1;cases h1
   have h2:=qOp_put hoj (hfree j oj hoj e hjun hno) (λcs b=>hsel i oi cs b hi) (λcs b=>hsel j oj cs b hoj) hy (H.2 j (ready_mono hj e)).2;refine qOp_mono (λa' h3=>ih _ a' (inv.set hj (early inv hr j hj)) (λk ok hk hki hun hno'=>hfree k ok hk hki ?_ hno') (ready_mono hr (Ne.symm e)) h3.1 ?_) h2
   ·by_cases hjk:j=k;·rw[<-hjk];exact hjun
    ·rwa[getD_set_ne true hjk]at hun
   ·rw[ZQ7Z _ _ e];exact h3.2
theorem OE{n g:Nat}{Lq:Act->Prop}(hsel:Region.noSelect ops=true)(hs:Region.sinkB md ops n=true)(hc:Region.chainB md ops n=true)(hn:n<ops.size):∀(l:List Oper) (k:Nat) (s:Array Bool) (a:Act),(∀j,j<l.length->l[j]?=ops[k+j]?)->k+l.length=n->HeadInv md ops n s->Region.lexHead md ops g l.length k s=true->wpQuiet P ops C Lq l a->AY P md ops C n (λs' a'=>Region.seqB md ops g n s'=true/\Lq a') l.length s a:=by
 intro l;induction l with
 | nil=>
  intro k s a _ hk _ hB h;obtain rfl:k=n:=by simpa using hk
  exact⟨by simpa[Region.lexHead]using hB,h⟩
 | cons o l ih=>
  intro k s a hl hk inv hB h;have h0:ops[k]?=some o:=by simpa using(hl 0 dx).symm
  simp only[yI,Region.lexHead,dJ]at hB hk;obtain⟨⟨hr,hf⟩,hB'⟩:=hB;have hr':k∈Region.ready md ops s:=by simpa using hr
  have hq:qOp P ops C k (wpQuiet P ops C Lq l) a:=by unfold qOp;simp only[h0];exact h
  obtain⟨v,hy,hK⟩:=yieldsIn_of_qOp h0 hq;refine LJ h0 (Region.noSelect_spec hsel) hs hc hn aX (λs' a' hL=>seqB_ready hL.1) l.length s a inv (Region.free_spec h0 hf) hr' hy (ih (k+1) _ _ (λj hj=>?_) aX (inv.set hr' aX) hB' hK);have:=hl (j+1) (by simp;omega);simpa[Nat.add_assoc,Nat.add_comm 1 j]using this
end
theorem wJ{P:Program}{C:World->Prop}{id:Nat}{Q:Exit->Act->World->Prop}{a:Act}{w:World}{l:List Oper}(n:Nat)(hm:P.follows .mixedOrders=true)(hB:Region.lexTailB .any l.toArray n=true)(hC:C { w with drawn:=w.drawn+1 })(h:wpQuiet P l.toArray C (λa'=>∀w',C w'->wpList P l.toArray Q (l.drop n) a' w') (l.take n) a):(Code.region id l.toArray true).wp P Q a w:=by
 simp only[Region.lexTailB,Bool.and_eq_true,decide_eq_true_eq]at hB;obtain⟨⟨⟨⟨hsel,hn⟩,hs⟩,hc⟩,hlex⟩:=hB;have hn':n<l.length:=by simpa using hn
 have htl:(l.take n).length=n:=by simp;omega
 have hdl:(l.drop n).length=l.toArray.size - n:=by simp
 have inv0:HeadInv .any l.toArray n (Array.replicate l.toArray.size false):=⟨by simp,λj oj _ hl=>absurd hl (by rw[getD_replicate_false];simp),λt _ ht=>getD_in (by simpa using ht) (getD_replicate_false _ _)⟩;have H:=OE (md:=.any) (g:=l.toArray.size - n) hsel hs hc hn (l.take n) 0 _ a (λj hj=>by rw[htl]at hj;simp[hj]) (by simpa using htl) inv0 (by rw[htl];exact hlex) h;have K:=RH (Q':=Q) (g:=l.toArray.size - n) (λs a' w' hw' hL=>by have:=wpAny_of_seq (md:=.any) (Q':=Q) (l.drop n) n s a' w' (λj=>by simp[List.getElem?_drop]) (by rw[hdl];exact hL.1) (hL.2 w' hw');rwa[hdl]at this) _ _ _ _ hC H;rw[htl,show n+(l.toArray.size - n)=l.toArray.size by omega]at K;exact wp_region_any hm K
theorem eU{P:Program}{id:Nat}{Q:Exit->Act->World->Prop}{a:Act}{w:World}{l:List Oper}(n:Nat)(hm:P.follows .mixedOrders=true)(hB:Region.lexTailB .any l.toArray n=true)
  (h:wpQuiet P l.toArray (λw'=>∃p:GrownBy,w'=gn w p.n p.os) (λa'=>∀w',(∃p:GrownBy,w'=gn w p.n p.os)->wpList P l.toArray Q (l.drop n) a' w') (l.take n) a):(Code.region id l.toArray true).wp P Q a w:=
 wJ (C:=λw'=>∃p:GrownBy,w'=gn w p.n p.os) n hm hB ⟨⟨w.drawn+1,#[]⟩,by simp[gn]⟩ h
section
variable {P : Program} {ops : Array Oper} {Q : Exit → Act → World → Prop} {md : Region.Mode} {S : World → Prop} {st : Nat}
def iR(P:Program)(md:Region.Mode)(ops:Array Oper)(Q:Exit->Act->World->Prop)(S:World->Prop)(st:Nat):Nat->Array Bool->Act->World->Prop
 | 0,listed,a,w=>Region.ready md ops listed=[]/\Q .normal a w
 | fuel+1,listed,a,w=>
  (Region.ready md ops listed=[]->Q .normal a w)/\
  ∀i∈Region.ready md ops listed,wpOp P ops Q i (λa' w'=>((listed.setIfInBounds i true).getD st true=false->S w')/\iR P md ops Q S st fuel (listed.setIfInBounds i true) a' w') a w
theorem Gu:∀(fuel:Nat) (listed:Array Bool) (a:Act) (w:World),iR P md ops Q S st fuel listed a w->wpAny P md ops Q fuel listed a w
 | 0,_,_,_,h=>h
 | fuel+1,_,_,_,h=>⟨h.1,λi hi=>wpOp_mono (λa' w' h'=>Gu fuel _ a' w' h'.2) (h.2 i hi)⟩
def LM(md:Region.Mode)(ops:Array Oper)(st i:Nat):Bool:=match ops[st]? with
 | some o=>o.after.toList.any λe=>Region.binds md e&&e.on==i
 | none=>false
theorem Kc{i:Nat}{listed:Array Bool}(hw:LM md ops st i=true)(hi:listed.getD i true=false):st∉Region.ready md ops listed:=by intro hr;obtain⟨_,o,ho,hall⟩:=mem_ready.1 hr;unfold LM at hw;rw[ho]at hw;obtain⟨e,he,hb⟩:=OG.1 hw;simp only[dJ,beq_iff_eq]at hb;have h1:=hall e (by simpa using he) hb.1;rw[hb.2,getD_both hi]at h1;cases h1
theorem LP{i:Nat}{oi:Oper}{v:Value}(hi:ops[i]?=some oi)(hsel:∀(j:Nat) (o:Oper) cs b,ops[j]?=some o->o.op≠.select cs b)(hQ:∀c a w,Q (.panic c) (a.put oi.dst v) w->Q (.panic c) a w)(hwt:LM md ops st i=true):∀(fuel:Nat) (listed:Array Bool) (a:Act) (w:World),(∀j oj,ops[j]?=some oj->j≠i->listed.getD j true=false->(∀e∈oj.after,Region.binds md e=true->e.on≠i)->oi.apart ops oj=true)->i∈Region.ready md ops listed->listed.getD st true=false->YieldsIf P ops S oi v a->S w->iR P md ops Q S st fuel (listed.setIfInBounds i true) (a.put oi.dst v) w->iR P md ops Q S st (fuel+1) listed a w:=by
 intro fuel;induction fuel with
 | zero=>
  intro listed a w _ hr _ hy hS H;refine⟨λh=>(by rw[h]at hr;cases hr),λj hj=>?_⟩;by_cases hji:j=i;·subst hji;exact hy.wpOp hi hS ⟨λ_=>hS,H⟩
  ·have:=ready_mono hj hji;rw[H.1]at this;cases this
 | succ fuel ih=>
  intro listed a w hfree hr hst hy hS H;refine⟨λh=>(by rw[h]at hr;cases hr),λj hj=>?_⟩;by_cases hji:j=i;·subst hji;exact hy.wpOp hi hS ⟨λ_=>hS,H⟩
  ·have h1:=H.2 j (ready_mono hj hji);obtain⟨hjun,oj,hoj,hall⟩:=mem_ready.1 hj;have h0:=(mem_ready.1 hr).1;have hnot:∀e∈oj.after,Region.binds md e=true->e.on≠i:=λe he hb heq=>by have h1:=hall e he hb;rw[heq,getD_both h0]at h1;cases h1
   have hjs:j≠st:=λe=>Kc hwt h0 (by rw[<-e];exact hj);have his:i≠st:=λe=>Kc hwt h0 (by rw[<-e];exact hr);have h2:=wpOp_putIf hoj (hfree j oj hoj hji hjun hnot) (λcs b=>hsel i oi cs b hi) (λcs b=>hsel j oj cs b hoj) hQ hy h1;have hfree':∀k ok,ops[k]?=some ok->k≠i->(listed.setIfInBounds j true).getD k true=false->(∀e∈ok.after,Region.binds md e=true->e.on≠i)->oi.apart ops ok=true:=λk ok hk hki hun hno=>by
    refine hfree k ok hk hki ?_ hno;by_cases hjk:j=k;·subst hjk;exact hjun
    ·rw[getD_set_ne true hjk]at hun;exact hun
   refine wpOp_mono (λa' w' h3=>?_) h2;have hS':S w':=h3.2.1 (by rw[getD_set_ne true hjs,getD_set_ne true his];exact hst);refine⟨λ_=>hS',ih (listed.setIfInBounds j true) a' w' hfree' (ready_mono hr (Ne.symm hji)) (by rw[getD_set_ne true hjs];exact hst) h3.1 hS' ?_⟩;rw[ZQ7Z _ _ hji];exact h3.2.2
theorem Jr{i:Nat}{oi:Oper}{v:Value}(hi:ops[i]?=some oi)(hsel:∀(j:Nat) (o:Oper) cs b,ops[j]?=some o->o.op≠.select cs b)(hQ:∀c a w,Q (.panic c) (a.put oi.dst v) w->Q (.panic c) a w)(his:i≠st):∀(fuel:Nat) (listed:Array Bool) (a:Act) (w:World),(∀j oj,ops[j]?=some oj->j≠i->listed.getD j true=false->(∀e∈oj.after,Region.binds md e=true->e.on≠i)->oi.apart ops oj=true)->i∈Region.ready md ops listed->YieldsIf P ops (λ_=>True) oi v a->(listed.getD st true=false->S w)->iR P md ops Q S st fuel (listed.setIfInBounds i true) (a.put oi.dst v) w->iR P md ops Q S st (fuel+1) listed a w:=by
 intro fuel;induction fuel with
 | zero=>
  intro listed a w _ hr hy hS H;refine⟨λh=>(by rw[h]at hr;cases hr),λj hj=>?_⟩;by_cases hji:j=i;·subst hji;exact hy.wpOp hi trivial ⟨λh=>hS (by rw[getD_set_ne true his]at h;exact h),H⟩
  ·have:=ready_mono hj hji;rw[H.1]at this;cases this
 | succ fuel ih=>
  intro listed a w hfree hr hy hS H;refine⟨λh=>(by rw[h]at hr;cases hr),λj hj=>?_⟩;by_cases hji:j=i;·subst hji;exact hy.wpOp hi trivial ⟨λh=>hS (by rw[getD_set_ne true his]at h;exact h),H⟩
  ·have h1:=H.2 j (ready_mono hj hji);obtain⟨hjun,oj,hoj,hall⟩:=mem_ready.1 hj;have h0:=(mem_ready.1 hr).1;have hnot:∀e∈oj.after,Region.binds md e=true->e.on≠i:=λe he hb heq=>by have h1:=hall e he hb;rw[heq,getD_both h0]at h1;cases h1
   have h2:=wpOp_putIf hoj (hfree j oj hoj hji hjun hnot) (λcs b=>hsel i oi cs b hi) (λcs b=>hsel j oj cs b hoj) hQ hy h1;have hfree':∀k ok,ops[k]?=some ok->k≠i->(listed.setIfInBounds j true).getD k true=false->(∀e∈ok.after,Region.binds md e=true->e.on≠i)->oi.apart ops ok=true:=λk ok hk hki hun hno=>by
    refine hfree k ok hk hki ?_ hno;by_cases hjk:j=k;·subst hjk;exact hjun
    ·rw[getD_set_ne true hjk]at hun;exact hun
   refine wpOp_mono (λa' w' h3=>?_) h2;have hS':(listed.setIfInBounds j true).getD st true=false->S w':=λh=>h3.2.1 (by rw[ZQ7Z _ _ (Ne.symm hji),getD_set_ne true his];exact h);refine⟨hS',ih (listed.setIfInBounds j true) a' w' hfree' (ready_mono hr (Ne.symm hji)) h3.1 hS' ?_⟩;rw[ZQ7Z _ _ hji];exact h3.2.2
theorem dB{listed:Array Bool}{a:Act}{w:World}(hr:Region.ready md ops listed=[])(h:Q .normal a w):∀fuel,iR P md ops Q S st fuel listed a w
 | 0=>⟨hr,h⟩
 | _+1=>⟨λ_=>h,by rw[hr];simp⟩
theorem aN{i fuel:Nat}{listed:Array Bool}{a:Act}{w:World}{o:Oper}(hr:Region.ready md ops listed=[i])(ho:ops[i]?=some o)(h:∀K':Act->World->Prop,Hid (∀a w,((listed.setIfInBounds i true).getD st true=false->S w)->iR P md ops Q S st fuel (listed.setIfInBounds i true) a w->K' a w)->if Region.wanted o (yielded ops a.tmps)=true then Oper.wp P o a w K' Q else K' (a.put o.dst undef) w):iR P md ops Q S st (fuel+1) listed a w:=by refine⟨λh0=>(by rw[hr]at h0;cases h0),λj hj=>?_⟩;rw[hr,dD]at hj;subst hj;exact wpOp_step ho (λK' hK=>h K' (I (λa w h1 h2=>hK a w ⟨h1,h2⟩)))
theorem eH{i k fuel:Nat}{listed:Array Bool}{a:Act}{w:World}{o o2:Oper}(hr:Region.ready md ops listed=[i,k])(ho:ops[i]?=some o)(ho2:ops[k]?=some o2)(h:∀K':Act->World->Prop,Hid (∀a w,((listed.setIfInBounds i true).getD st true=false->S w)->iR P md ops Q S st fuel (listed.setIfInBounds i true) a w->K' a w)->if Region.wanted o (yielded ops a.tmps)=true then Oper.wp P o a w K' Q else K' (a.put o.dst undef) w)(h2:∀K':Act->World->Prop,Hid (∀a w,((listed.setIfInBounds k true).getD st true=false->S w)->iR P md ops Q S st fuel (listed.setIfInBounds k true) a w->K' a w)->if Region.wanted o2 (yielded ops a.tmps)=true then Oper.wp P o2 a w K' Q else K' (a.put o2.dst undef) w):iR P md ops Q S st (fuel+1) listed a w:=by
 refine⟨λh0=>(by rw[hr]at h0;cases h0),λj hj=>?_⟩;rw[hr]at hj;rcases fK.1 hj with rfl|hj;·exact wpOp_step ho (λK' hK=>h K' (I (λa w h1 h2=>hK a w ⟨h1,h2⟩)))
 ·rw[dD]at hj;subst hj;exact wpOp_step ho2 (λK' hK=>h2 K' (I (λa w h1 h2=>hK a w ⟨h1,h2⟩)))
def qc(P:Program)(ops:Array Oper)(S:World->Prop)(L:Act->Prop):List (Bool × Oper)->Act->Prop
 | [],a=>L a
 | (true,o)::rest,a=>∃v,YieldsIf P ops S o v a/\qc P ops S L rest (a.put o.dst v)
 | (false,o)::rest,a=>∃v,YieldsIf P ops (λ_=>True) o v a/\qc P ops S L rest (a.put o.dst v)
theorem dH{L:Act->Prop}{a:Act}(h:L a):qc P ops S L [] a:=h
theorem fq{L:Act->Prop}{a:Act}{o:Oper}{rest:List (Bool × Oper)}{v:Value}(hw:Region.wanted o (yielded ops a.tmps)=true)(hy:∀w,(execOp a.eval o).run P w=.ok (.value v) w)(h:qc P ops S L rest (a.put o.dst v)):qc P ops S L ((false,o)::rest) a:=⟨v,aR ⟨hw,λw _=>hy w⟩,h⟩
theorem fA{L:Act->Prop}{a:Act}{o:Oper}{rest:List (Bool × Oper)}{v:Value}(hw:Region.wanted o (yielded ops a.tmps)=true)(hy:∀w,S w->(execOp a.eval o).run P w=.ok (.value v) w)(h:qc P ops S L rest (a.put o.dst v)):qc P ops S L ((true,o)::rest) a:=⟨v,aR ⟨hw,hy⟩,h⟩
def fE:List (Option Bool)->List Oper->List (Bool × Oper)
 | some b::bs,o::l=>(b,o)::fE bs l
 | none::bs,_::l=>fE bs l
 | _,_=>[]
def xU:List (Option Bool)->Nat
 | []=>0
 | some _::bs=>xU bs+1
 | none::bs=>xU bs
def AZ:List (Option Bool)->Nat->Array Bool->Array Bool
 | [],_,s=>s
 | some _::bs,k,s=>AZ bs (k+1) (s.setIfInBounds k true)
 | none::bs,k,s=>AZ bs (k+1) s
def OH(md:Region.Mode)(ops:Array Oper)(st:Nat):List (Option Bool)->Nat->Array Bool->Bool
 | [],_,_=>true
 | some b::bs,k,s=>Region.free md ops s k&&(Region.ready md ops s).contains k&&(!b||LM md ops st k)&&(!(k==st))&&(!(s.getD st true))&&OH md ops st bs (k+1) (s.setIfInBounds k true)
 | none::bs,k,s=>OH md ops st bs (k+1) s
theorem A8{f:Nat}{w:World}(hs:Region.noSelect ops=true)(hQ:∀c a d v w,Q (.panic c) (Act.put a d v) w->Q (.panic c) a w)(hS:S w):∀(bs:List (Option Bool)) (l:List Oper) (k:Nat) (s:Array Bool) (a:Act),bs.length<=l.length->(∀j,l[j]?=ops[k+j]?)->OH md ops st bs k s=true->
 qc P ops S (λa'=>iR P md ops Q S st f (AZ bs k s) a' w) (fE bs l) a->iR P md ops Q S st (f+xU bs) s a w
 | [],l,k,s,a,_,_,_,h=>by
  have e:fE [] l=[]:=by unfold fE;rfl
  rw[e]at h;exact h
 | b::bs,[],k,s,a,hl,_,_,_=>by simp at hl
 | none::bs,o::l,k,s,a,hl,hk,hB,h=>by refine A8 hs hQ hS bs l (k+1) s a (by simpa using hl) (λj=>?_) hB h;have:=hk (j+1);rw[UF]at this;rw[this];congr 1;omega
 | some b::bs,o::l,k,s,a,hl,hk,hB,h=>by
  have h0:ops[k]?=some o:=by simpa using(hk 0).symm
  simp only[OH,dJ,Bool.not_eq_true',beq_eq_false_iff_ne]at hB;obtain⟨⟨⟨⟨⟨h1,h2⟩,h3⟩,h6⟩,h4⟩,h5⟩:=hB;have hk':∀j,l[j]?=ops[k+1+j]?:=λj=>by have:=hk (j+1);rw[UF]at this;rw[this];congr 1;omega
  cases b with
  | true =>obtain⟨v,hy,hr⟩:=h;exact LP (v:=v) h0 (Region.noSelect_spec hs) (λc a w h=>hQ c a _ _ w h) (by simpa using h3) (f+xU bs) s a w (Region.free_spec h0 h1) (by simpa using h2) h4 hy hS (A8 hs hQ hS bs l (k+1) _ _ (by simpa using hl) hk' h5 hr)
  | false =>obtain⟨v,hy,hr⟩:=h;exact Jr (v:=v) h0 (Region.noSelect_spec hs) (λc a w h=>hQ c a _ _ w h) h6 (f+xU bs) s a w (Region.free_spec h0 h1) (by simpa using h2) hy (λ_=>hS) (A8 hs hQ hS bs l (k+1) _ _ (by simpa using hl) hk' h5 hr)
theorem bW{id:Nat}{a:Act}{w:World}{l:List Oper}(bs:List (Option Bool))(st:Nat)(S:World->Prop)(f:Nat)(hm:P.follows .mixedOrders=true)(hB:(Region.noSelect l.toArray&&OH .any l.toArray st bs 0 (Array.replicate l.toArray.size false)&&decide (bs.length=l.length)&&decide (f+xU bs=l.length))=true)(hQ:∀c a d v w,Q (.panic c) (Act.put a d v) w->Q (.panic c) a w)(hS:S w.drew)(h:qc P l.toArray S (λa'=>iR P .any l.toArray Q S st f (AZ bs 0 (Array.replicate l.toArray.size false)) a' w.drew) (fE bs l) a):(Code.region id l.toArray true).wp P Q a w:=by simp only[dJ,gP]at hB;obtain⟨⟨⟨h1,h2⟩,h3⟩,h4⟩:=hB;have K:=A8 (f:=f) (w:=w.drew) h1 hQ hS bs l 0 _ a aX (λj=>by rw[eD];simp) h2 h;rw[h4]at K;exact wp_region_any hm (Gu _ _ _ _ (by simpa using K))
end
end Go.Proofs.YtbgkpehhdibaoaaGreatDoor
