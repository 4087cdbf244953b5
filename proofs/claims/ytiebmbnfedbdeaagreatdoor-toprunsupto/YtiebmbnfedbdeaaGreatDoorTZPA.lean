import Derived.Test.YtiebmbnfedbdeaaGreatDoorTZAG
import Derived.Deep.RegionHeld3
import Derived.Test.YtiebmbnfedbdeaaGreatDoorTShelf
set_option maxHeartbeats 0
set_option maxRecDepth 99999
namespace Go.Proofs.YtiebmbnfedbdeaaGreatDoor
open bS Rd
open Go.Proofs.Tryz
open Go.RowKit
variable{a b d j p n:Nat}{s:aS}{l:List UInt8}{w w':bI}{ws:aJ}{ps:List Int}
theorem wT{e:Func}{t u v x:Tmp}(h:e.results=#[.tmp t,.tmp u,.tmp v,.tmp x])(c:Array aC)(P:Program)(w:bI):(results e c).run P w=.ok (.tuple #[c.getD t undef,c.getD u undef,c.getD v undef,c.getD x undef]) w:=by simp[results,h]
theorem apI{e f:aC}{a b c d:Int}(h:a=b)(g:c=d):dz (.tuple #[e,f,O a,O c])=dz (.tuple #[e,f,O b,O d]):=by rw[h,g]
theorem aj5(w:bI)(t:aS):(w.alloc<|aY #[A t] 9).cell? (aN w.heap.size 0)=some (A t):=by simp[go_sem]
theorem JB(w:bI)(z:Int):(w.alloc<|aY #[O z] 3).cell? (aN w.heap.size 0)=some (O z):=by simp[go_sem]
theorem qy(h:s.toList=l):Rd.is s l=true:=by unfold Rd.is;rw[<-A8,h];simp
theorem qz(h:¬s.toList=l):Rd.is s l=false:=by unfold Rd.is;rw[<-A8];simpa using h
theorem pG(h:¬s.toList=l):(s.toList==l)=false:=by simpa using h
theorem yJ(w:bI)(s:aS):aD 110 #[A s] w λi w'=>i=dz (.bool<|Rd.plain s)/\w'=w:=by
 have c:J (Rd.plain s=(!Rd.is s []&&!Rd.is s [40]&&!Rd.is s [41])):=rfl;by_cases e:s.toList=[];·rw[qy e]at c;go_enter func110,ntmps110;go_wp2;go_ret;exact⟨aW (by rw[c];rfl),rfl⟩
 rw[qz e]at c;by_cases f:s.toList=[40];·rw[qy f]at c;go_enter func110,ntmps110;go_wp2;go_ret;exact⟨aW (by rw[c];simp),rfl⟩
 rw[qz f]at c;by_cases g:s.toList=[41];·rw[qy g]at c;go_enter func110,ntmps110;go_wp2;go_ret;exact⟨aW (by rw[c];simp),rfl⟩
 ·rw[qz g]at c;go_enter func110,ntmps110;go_wp2;go_ret;exact⟨aW (by rw[c];simp[e,f,g]),rfl⟩
theorem aai(w:bI)(s:aS):aD 243 #[A s] w λm w'=>m=dz (.bool<|opc s)/\w'=w:=by
 have c:J (opc s=(Rd.is s [43]||Rd.is s [45]||Rd.is s [42]||Rd.is s [60]||Rd.is s [61])):=rfl;by_cases e:s.toList=[43];·rw[qy e]at c;go_enter func243,ntmps243;go_wp2;go_ret;exact⟨aW (by rw[c];rfl),rfl⟩
 rw[qz e]at c;have o:=pG e;by_cases f:s.toList=[45];·rw[qy f]at c;go_enter func243,ntmps243;go_wp2;go_ret;exact⟨aW (by rw[c];rfl),rfl⟩
 rw[qz f]at c;have q:=pG f;by_cases g:s.toList=[42];·rw[qy g]at c;go_enter func243,ntmps243;go_wp2;go_ret;exact⟨aW (by rw[c];rfl),rfl⟩
 rw[qz g]at c;have r:=pG g;by_cases i:s.toList=[60];·rw[qy i]at c;go_enter func243,ntmps243;go_wp2;go_ret;exact⟨aW (by rw[c];rfl),rfl⟩
 rw[qz i]at c;have u:=pG i;by_cases k:s.toList=[61];·rw[qy k]at c;go_enter func243,ntmps243;go_wp2;go_ret;exact⟨aW (by rw[c];rfl),rfl⟩
 ·rw[qz k]at c;have v:=pG k;go_enter func243,ntmps243;go_wp2;go_ret;exact⟨aW (by rw[c];rfl),rfl⟩
theorem nK(w:bI)(s:aS):aD 241 #[A s] w λk w'=>k=dz (O<|Rd.cmd s)/\w'=w:=by
 have c:J (Rd.cmd s=if Rd.is s [115,101,116]then 1 else if Rd.is s [105,102]then 2 else if Rd.is s [119,104,105,108,101]then 3 else if Rd.is s [112,114,105,110,116]then 4 else 0):=rfl;by_cases e:s.toList=[115,101,116];·rw[qy e]at c;go_enter func241,ntmps241;go_wp2;go_ret;exact⟨bZ (by rw[c];rfl),rfl⟩
 rw[qz e]at c;have m:=pG e;by_cases f:s.toList=[105,102];·rw[qy f]at c;go_enter func241,ntmps241;go_wp2;go_ret;exact⟨bZ (by rw[c];rfl),rfl⟩
 rw[qz f]at c;have o:=pG f;by_cases g:s.toList=[119,104,105,108,101];·rw[qy g]at c;go_enter func241,ntmps241;go_wp2;go_ret;exact⟨bZ (by rw[c];rfl),rfl⟩
 rw[qz g]at c;have q:=pG g;by_cases i:s.toList=[112,114,105,110,116];·rw[qy i]at c;go_enter func241,ntmps241;go_wp2;go_ret;exact⟨bZ (by rw[c];rfl),rfl⟩
 ·rw[qz i]at c;have r:=pG i;go_enter func241,ntmps241;go_wp2;go_ret;exact⟨bZ (by rw[c];rfl),rfl⟩
theorem aky(s:aS):0<=Rd.cmd s/\Rd.cmd s<=4:=by
 unfold Rd.cmd;repeat' split
 all_goals decide
theorem afV(w:bI)(s:aS):aD 214 #[A s] w λg w'=>g=dz (.bool<|decide (Rd.cmd s≠0))/\w'=w:=by
 go_enter func214,ntmps214;go_wp2_with fail;refine(nK _ s).mono ?_;rintro g w' ⟨rfl,i⟩;subst i;obtain⟨c,e⟩:=aV<|Rd.cmd s;have f:=Y e;rw[<-e];clear e;by_cases h:c=0;·subst h;go_wp2;go_ret;exact⟨aW (by rw[<-f];rfl),rfl⟩
 ·have k:=eO h;go_wp2;go_ret;exact⟨aW (by rw[<-f];simp[h]),rfl⟩
theorem ac0(s:aS)(k:Nat)(c:k<s.size):nU s[k]=true↔(48<=s[k].toNat/\s[k].toNat<=57):=by unfold nU;simp
theorem ac1(h:∀j (c:j<s.size),nU s[j]=true):s.data.toList.all nU=true:=by rw[iB];intro x e;obtain⟨j,c,rfl⟩:=gU.1 e;exact h j (by simpa using c)
theorem Rx(c:j<s.size)(h:nU s[j]=false):s.data.toList.all nU=false:=by rw[CY];exact⟨s[j],gU.2 ⟨j,by simpa using c,rfl⟩,by simp[h]⟩
theorem amO(w:bI)(s:aS)(z:s.size<=maxLen):aD 218 #[A s] w λm w'=>m=dz (.bool<|Z8 s)/\w'=w:=by
 unfold maxLen at z;have c:J (Z8 s=(s.data.toList.all nU&&!Rd.is s [])):=rfl;go_enter func218,ntmps218;go_wp2;go_loop [3] (λi=>∃k:Nat,k<=s.size/\i=O k/\∀d (e:d<s.size),d<k->nU s[d]=true) (λi=>s.size - (intOf i).toNat);exact⟨0,bN _,rfl,λd _ e=>aM e<|fU _⟩
 obtain⟨k,C,rfl,x⟩:=hrel;have u:=Y x;clear x;by_cases r:k<s.size
 ·have f:=Y<|ac0 s k r;by_cases c1:48<=s[k].toNat
  ·by_cases c2:s[k].toNat<=57
   ·go_wp2;go_round;exact⟨k+1,by omega,by go_num,λd e B=>by
     by_cases m:d=k;·subst m;exact f.2 ⟨c1,c2⟩
     ·exact u d e bC⟩
    exact gV
   ·have g:J (nU s[k]=false):=Y (by
     cases q:nU s[k];·rfl
     ·exact aM (f.1 q).2 c2)
    go_wp2;go_ret;exact⟨aW (by rw[c,Rx r g];rfl),rfl⟩
  ·have g:J (nU s[k]=false):=Y (by
    cases q:nU s[k];·rfl
    ·exact aM (f.1 q).1 c1)
   go_wp2;go_ret;exact⟨aW (by rw[c,Rx r g];rfl),rfl⟩
 ·have v:J (s.data.toList.all nU=true):=Y<|ac1 (λj y=>u j y bC);by_cases o:s.toList=[];·rw[qy o]at c;go_wp2;go_ret;exact⟨aW (by rw[c,v];simp),rfl⟩
  ·rw[qz o]at c;go_wp2;go_ret;exact⟨aW (by rw[c,v];simp[o]),rfl⟩
def dL(w:bI)(p:Nat)(ws:List aS)(ps:List Int)(d:Nat)(st:Sr):Prop:=
 ∃(c:Option Addr) (e:Nat) (f:Value),w.heap[p]?=some (.cells #[.slice c ws.length e,f,.int .i64 ((ws.length - st.r.length:Nat):Int),.int .i64 (d:Nat),.bool st.f] 90 (0,0))/\
  Strs (only (λb=>decide (b<p)) w) (.slice c ws.length e) ws/\Ints (only (λb=>decide (b<p)) w) f ps/\
  (∃g k x t i,prog.globalNamed "strconv.ErrSyntax" = some g/\g<p/\w.heap[g]?=some (.cells #[.iface k x] t i))/\
  st.r <:+ ws/\ws.length<=4096/\(∀x∈ws,x.size<=4096)/\ps.length=ws.length+1
theorem dL.keep{st:Sr}(h:dL w p ws ps d st)(c:∀k,k<=p->w'.heap[k]?=w.heap[k]?):dL w' p ws ps d st:=by
 obtain⟨i,o,N,y,B,C,⟨g,L,x,t,r,D,E,F⟩,G⟩:=h;have f:Sub (only (λb=>decide (b<p)) w) (only (λb=>decide (b<p)) w'):=λa v I=>by obtain⟨e,m⟩:=bR.1 I;refine bR.2 ⟨e,?_⟩;have:=iP e;rw[jH (w:=w) (c _ bC)];exact m
 refine⟨i,o,N,by rw[c p (bG _)];exact y,B.sub f,?_,⟨g,L,x,t,r,D,E,by rw[c g bC];exact F⟩,G⟩;obtain⟨a,b,off,cap,q,u,H,z⟩:=C;exact⟨a,b,off,cap,q,u,H,λj P K=>f _ _<|z j P K⟩
theorem dL.lt{st:Sr}(h:dL w p ws ps d st):p<w.heap.size:=by obtain⟨e,f,g,c,_⟩:=h;exact aR c
theorem dL.below{st:Sr}(h:dL w p ws ps d st)(c:bK w w'):dL w' p ws ps d st:=
 h.keep (λk e=>c.block k (by have:=h.lt;omega))
theorem dL.set{st:Sr}(h:dL w p ws ps d st){a:Addr}(c:p<a.block)(v:aC):dL (w.setCell a v) p ws ps d st:=
 h.keep (λk e=>vM _ _ _ _ bC)
theorem dL.grown{st:Sr}{r:Option Nat}(h:dL w p ws ps d st)(hg:w.grownBy w' r)(e:∀k,r=some k->p<k):dL w' p ws ps d st:=
 h.keep (λk f=>hg.block k (by have:=h.lt;omega) (λc=>by have:=e k c.symm;omega))
theorem dL.drew{st:Sr}(h:dL w p ws ps d st)(n:Nat):dL (w.drewN n) p ws ps d st:=h.keep (λ_ _=>rfl)
theorem IV{st:Sr}(h:dL w p ws ps d st)(n:Nat):(Rh st n).size<=4096:=by
 obtain⟨i,k,m,_,_,_,_,f,_,g,_⟩:=h;unfold Rh;split;·exact bN _
 ·by_cases e:n<st.r.length
  ·have c:st.r.getD n ⟨#[]⟩=st.r[n]:=by simp[e]
   rw[c];exact g _<|f.subset<|kZ e
  ·have c:st.r.getD n ⟨#[]⟩=⟨#[]⟩:=by simp[List.getD,Ry<|Nat.le_of_not_lt e]
   rw[c];exact bN _
theorem JC(w:World)(p:Nat)(ws:List ByteArray)(ps:List Int)(d:Nat)(st:Sr)(h:dL w p ws ps d st)(n:Nat)(hn:n<=1):Calls prog 111 #[.pointer (some ⟨p,0,none⟩),.int .i64 n] w λR w'=>R=.returned (.string<|Rh st n)/\dL w' p ws ps d st/\But p w w':=by
 have o:=Y h;obtain⟨L,V,vs,e,u,y,z,i,W,B,r⟩:=h;obtain⟨q0,q2,q4⟩:=lS (aj e 0) (aj e 2)<|aj e 4;simp only[yK,List.getElem?_cons_zero,Yw]at q0 q2 q4;have C:st.r.length<=ws.length:=i.length_le;have g:Hid (Rh st n=if st.f then ⟨#[]⟩else st.r.getD n ⟨#[]⟩):=rfl;cases k:st.f
 ·rw[k]at q4 g;obtain⟨c,m⟩:=aV<|ws.length - st.r.length;rw[<-m]at q2;by_cases H:n<st.r.length
  ·have G:st.r.getD n ⟨#[]⟩=ws.getD (c+n) ⟨#[]⟩:=by
    obtain⟨t,I⟩:=i;have D:c=t.length:=by rw[<-I]at m;rw[bg]at m;omega
    rw[<-I,D,List.getD,List.getD,kL (by omega)];congr 2;omega
   obtain⟨a,b,off,cap,K,E,_,_,F⟩:=u;have Z:=(bR.1<|F (c+n)<|by omega).2;obtain rfl:L=a:=by simpa using(congrArg (λv=>match v with|Value.slice a _ _=>a|_=>none) K)
   obtain rfl:=E (by omega);have f:Hid (Rh st n=ws.getD (c+n) ByteArray.empty):=Y (by rw[g];exact G);have q:¬((c:Int)+n>=(ws.length:Int)):=by omega
   have S:(0:Int)<=(c:Int)+n:=by omega
   have U:(c:Int)+n<(ws.length:Int):=by omega
   have N:(c:Int)<=4096:=by omega
   have P:(n:Int)<=1:=by omega
   have Q:decide ((c:Int)+n>=(ws.length:Int))=false:=iD q;have D:((c:Int)+n).toNat=c+n:=by omega
   rw[f];clear e y z i B r F G K m C k E;generalize ws.getD (c+n) ByteArray.empty=x at *;generalize ws.length=len at *;go_enter func111,ntmps111;go_wp2;go_quiet (fail);go_wp2;go_quiet (fail);go_wp2;go_ret;exact⟨rfl,(o.out.drew _).drew _,((But.refl _ _).drew _).drew _⟩
  ·have f:Hid (Rh st n=⟨#[]⟩):=Y (by rw[g,aI (by simp),List.getD,Ry<|Nat.le_of_not_lt H];rfl);have q:(c:Int)+n>=(ws.length:Int):=by omega
   have N:(c:Int)<=4096:=by omega
   have P:(n:Int)<=1:=by omega
   have Q:decide ((c:Int)+n>=(ws.length:Int))=true:=gW q;rw[f];clear e u y z i B r m C k H;generalize ws.length=len at *;go_enter func111,ntmps111;go_wp2;go_quiet (fail);go_wp2;go_ret;exact⟨rfl,o.out.drew _,(But.refl _ _).drew _⟩
 ·rw[k]at q4 g;have f:Hid (Rh st n=⟨#[]⟩):=g;rw[f];clear e u y z i B r C k;go_enter func111,ntmps111;go_wp2;go_quiet (fail);go_wp2;go_ret;exact⟨rfl,o.out.drew _,(But.refl _ _).drew _⟩
section
variable (w : World) (p : Nat) (ws : List ByteArray) (ps : List Int) (d : Nat) (st : Rd.Sr) (h : dL w p ws ps d st)
include h
theorem iF:aD 63 #[gK p] w λc w'=>c=dz (A<|Rd.pk st)/\dL w' p ws ps d st/\But p w w':=by go_enter func63,ntmps63;go_wp2_with fail;refine(JC w p ws ps d st h 0 bC).mono ?_;rintro c w' ⟨rfl,e,f⟩;go_wp2;go_ret;exact⟨rfl,e,f⟩
theorem VG:aD 215 #[gK p] w λc w'=>c=dz (A<|Rh st 1)/\dL w' p ws ps d st/\But p w w':=by go_enter func215,ntmps215;go_wp2_with fail;refine(JC w p ws ps d st h 1 bC).mono ?_;rintro c w' ⟨rfl,e,f⟩;go_wp2;go_ret;exact⟨rfl,e,f⟩
theorem JD{st':Sr}{d':Nat}(i:Nat)(v:aC)(H:st'.r <:+ ws)(F:∀c e f,(#[X c ws.length e,f,O ((ws.length - st.r.length:Nat):Int),O (d:Nat),.bool st.f]:Array aC).setIfInBounds i v=#[X c ws.length e,f,O ((ws.length - st'.r.length:Nat):Int),O (d':Nat),.bool st'.f]):dL (w.setCell (aN p i) v) p ws ps d' st'/\But p w (w.setCell (aN p i) v):=by refine⟨?_,(But.refl p w).set (a:=(aN p i)) (aO rfl) v⟩;obtain⟨c,e,f,r,y,z,⟨g,K,x,t,o,B,C,D⟩,N,E⟩:=h;have k:Sub (only (λb=>decide (b<p)) w) (only (λb=>decide (b<p)) (w.setCell (aN p i) v)):=((But.refl p w).set (a:=(aN p i)) (aO rfl) v).sub (iD<|Nat.lt_irrefl _);refine⟨c,e,f,by rw[aP r,F],y.sub k,?_,⟨g,K,x,t,o,B,C,aX D (by simp;omega) _⟩,H,E⟩;obtain⟨a,b,off,cap,m,q,G,u⟩:=z;exact⟨a,b,off,cap,m,q,G,λj L I=>k _ _<|u j L I⟩
theorem dL.suffix:st.r <:+ ws:=by obtain⟨_,_,_,_,_,_,_,c,_⟩:=h;exact c
theorem dL.len:ws.length<=4096:=by obtain⟨_,_,_,_,_,_,_,_,c,_⟩:=h;exact c
theorem dL.cells:∃e f g,w.cell? (aN p 0)=some (X e ws.length f)/\w.cell? (aN p 1)=some g/\w.cell? (aN p 2)=some (O ((ws.length - st.r.length:Nat):Int))/\w.cell? (aN p 3)=some (O (d:Nat))/\w.cell? (aN p 4)=some (.bool st.f)/\∀i,w.frozen? (aN p i)=false:=by obtain⟨e,f,g,c,_⟩:=h;exact⟨e,f,g,aj c 0,aj c 1,aj c 2,aj c 3,aj c 4,λi=>aF c i⟩
theorem mG:aD 66 #[gK p] w λf w'=>f=dz (.tuple #[])/\dL w' p ws ps d (Rd.fl st)/\But p w w':=by have e:=Y<|JD w p ws ps d st h (st':=Rd.fl st) (d':=d) 4 (.bool true) h.suffix (λ_ _ _=>rfl);obtain⟨g,i,k,_,_,_,_,q4,c⟩:=h.cells;have m:=c 4;clear c h;go_enter func66,ntmps66;go_wp2;go_end0;exact⟨rfl,e⟩
theorem iW:aD 109 #[gK p] w λe w'=>e=dz (A<|Rd.pk st)/\dL w' p ws ps d (Rd.tk st)/\But p w w':=by
 have g:J (Rd.tk st=if Rd.is (Rd.pk st) []then Rd.fl st else ⟨st.r.tail,st.f⟩):=rfl;have o:J (Rd.is (Rd.pk st) []=false->st.r≠[]):=Y (λc k=>by
  have e:Rd.pk st=⟨#[]⟩:=by unfold Rd.pk Rh;rw[k];cases st.f<;>rfl
  rw[e]at c;cases c)
 go_enter func109,ntmps109;go_wp2_with fail;refine(iF w p ws ps d st h).mono ?_;rintro e w1 ⟨rfl,c,r⟩;obtain⟨x,m⟩:=aV<|Rd.pk st;have q:=Y m;rw[<-m]at g o ⊢;clear m h;by_cases f:x.toList=[]
 ·rw[qy f,aK rfl]at g;go_wp2_with fail;refine(mG w1 p ws ps d st c).mono ?_;rintro e P ⟨rfl,k,B⟩;go_wp2;go_ret;refine⟨?_,by rw[g];exact k,r.trans B⟩;have z:x=⟨#[]⟩:=by cases x with|mk x=>congr 1;rw[A8]at f;exact Array.toList_inj.1 f
  rw[<-q,z];rfl
 ·rw[qz f,aI cK]at g;have G:x.toList.isEmpty=false:=by simpa using f
  obtain⟨C,v⟩:=eY (o<|qz f) c.suffix;obtain⟨I,H⟩:=eY v.length_le c.len;have K:0<st.r.length:=vO.2 C;have i:=Y (JD w1 p ws ps d st c (st':=⟨st.r.tail,st.f⟩) (d':=d) 2 (O ((ws.length - st.r.length:Nat)+1:Int)) ((List.tail_suffix _).trans v) (λ_ _ _=>by
   have e:((ws.length - st.r.length:Nat)+1:Int)=((ws.length - st.r.tail.length:Nat):Int):=by rw[List.length_tail];omega
   rw[e];rfl))
  obtain⟨E,F,N,_,_,q2,_,_,y⟩:=c.cells;have Q:=y 2;obtain⟨D,u⟩:=aV<|ws.length - st.r.length;have L:(D:Int)<=4096:=by omega
  rw[<-u]at i q2;clear y c u;go_wp2;go_ret;exact⟨by rw[<-q];rfl,by rw[g];exact i.1,r.trans i.2⟩
theorem uF(a:aS):aD 61 #[gK p,A a] w λf w'=>f=dz (.tuple #[])/\dL w' p ws ps d (Rd.kw a.data.toList st)/\But p w w':=by
 have e:J (Rd.kw a.data.toList st=if Rd.is (Rd.pk st) a.data.toList then Rd.tk st else Rd.fl st):=rfl;go_enter func61,ntmps61;go_wp2_with fail;refine(iF w p ws ps d st h).mono ?_;rintro f w1 ⟨rfl,k,m⟩;by_cases c:(Rd.pk st).toList=a.toList
 ·rw[qy (by rw[c,A8]),aK rfl]at e;have o:((Rd.pk st).toList != a.toList)=false:=by simp[c]
  go_wp2_with fail;refine(iW w1 p ws ps d st k).mono ?_;rintro f q ⟨rfl,g,i⟩;go_wp2;go_end0;exact⟨rfl,by rw[e];exact g,m.trans i⟩
 ·rw[qz (by rw[<-A8];exact c),aI cK]at e;have o:((Rd.pk st).toList != a.toList)=true:=by simpa using c
  have r:((Rd.pk st).toList==a.toList)=false:=by simpa using c
  go_wp2_with fail;refine(mG w1 p ws ps d st k).mono ?_;rintro f q ⟨rfl,g,i⟩;go_wp2;(try simp only[Exit.inBlock,Exit.then]);refine cZ (Fj rfl _ _ _) rfl ?_;exact⟨rfl,by rw[e];exact g,m.trans i⟩
theorem mH(x:d<=100):aD 60 #[gK p] w λi w'=>i=dz (.tuple #[])/\dL w' p ws ps (d+1) (Rd.op d st)/\But p w w':=by
 have g:J (Rd.op d st=Rd.kw [40] (if d=20 then Rd.fl st else st)):=rfl;obtain⟨_,_,_,_,_,_,q3,_,_⟩:=h.cells;have y:(d:Int)<=100:=by omega
 by_cases k:d=20;·rw[aK k]at g;subst k;go_enter func60,ntmps60;go_wp2_with fail;refine(mG w p ws ps _ st h).mono ?_;rintro i w1 ⟨rfl,q,r⟩;clear q3;go_wp2_with fail;refine(uF w1 p ws ps _ _ q ⟨#[40]⟩).mono ?_;rintro i o ⟨rfl,c,m⟩;have e:=Y<|JD o p ws ps 20 _ c (st':=Rd.kw [40]<|Rd.fl st) (d':=20+1) 3 (O 21) c.suffix (λ_ _ _=>rfl);obtain⟨_,_,_,_,_,_,q3,_,f⟩:=c.cells;have u:=f 3;clear f c;go_wp2;go_end0;exact⟨rfl,by rw[g];exact e.1,(r.trans m).trans e.2⟩
 ·rw[aI k]at g;have v:((d:Int)==20)=false:=by simp;omega
  go_enter func60,ntmps60;go_wp2_with fail;clear q3;refine(uF w p ws ps d _ h ⟨#[40]⟩).mono ?_;rintro i o ⟨rfl,c,m⟩;have e:=Y<|JD o p ws ps d _ c (st':=Rd.kw [40] st) (d':=d+1) 3 (O<|(d:Int)+1) c.suffix (λ_ _ _=>rfl);obtain⟨_,_,_,_,_,_,q3,_,f⟩:=c.cells;have u:=f 3;clear f c;go_wp2;go_end0;exact⟨rfl,by rw[g];exact e.1,m.trans e.2⟩
end
section
variable (w : World) (p : Nat) (ws : List ByteArray) (ps : List Int) (d : Nat) (st : Rd.Sr)
theorem jy(h:dL w p ws ps (d+1) st)(o:d<=100):aD 65 #[gK p] w λf w'=>f=dz (.tuple #[])/\dL w' p ws ps d (Rd.sh st)/\But p w w':=by
 have q:(d:Int)<=100:=by omega
 go_enter func65,ntmps65;go_wp2_with fail;refine(uF w p ws ps (d+1) _ h ⟨#[41]⟩).mono ?_;rintro f m ⟨rfl,c,k⟩;have e:=Y<|JD m p ws ps (d+1) _ c (st':=Rd.sh st) (d':=d) 3 (O (d:Nat)) c.suffix (λ_ _ _=>rfl);obtain⟨_,_,_,_,_,_,q3,_,g⟩:=c.cells;have r:=g 3;have i:((d+1:Nat):Int)=(d:Int)+1:=by omega
 rw[i]at q3;clear g c h;go_wp2;go_end0;refine⟨rfl,?_,?_⟩;·have:=e.1;simpa using this
 ·have:=k.trans e.2;simpa using this
variable (h : dL w p ws ps d st)
include h
theorem ahc:aD 31 #[gK p] w λe w'=>e=dz (.tuple #[])/\dL w' p ws ps d (CQ st)/\But p w w':=by
 have c:J (CQ st=if Rd.is (Rd.pk st) []then st else Rd.fl st):=rfl;go_enter func31,ntmps31;go_wp2_with fail;refine(iF w p ws ps d st h).mono ?_;rintro e w1 ⟨rfl,g,i⟩;by_cases f:(Rd.pk st).toList=[];·rw[qy f,aK rfl]at c;go_wp2;go_end0;exact⟨rfl,by rw[c];exact g,i⟩
 ·rw[qz f,aI cK]at c;have o:(Rd.pk st).toList.isEmpty=false:=by simpa using f
  go_wp2_with fail;refine(mG w1 p ws ps d st g).mono ?_;rintro e q ⟨rfl,k,m⟩;go_wp2;go_end0;exact⟨rfl,by rw[c];exact k,i.trans m⟩
theorem kT:aD 62 #[gK p] w λe w'=>e=dz (A (Rd.iw st).1)/\dL w' p ws ps d (Rd.iw st).2/\But p w w':=by
 have c:J (Rd.iw st=(Rd.pk<|if Rd.plain (Rd.pk st)then st else Rd.fl st,Rd.tk<|if Rd.plain (Rd.pk st)then st else Rd.fl st)):=rfl;go_enter func62,ntmps62;go_wp2_with fail;refine(iF w p ws ps d st h).mono ?_;rintro e w1 ⟨rfl,i,k⟩;go_wp2_with fail;refine(yJ _ _).mono ?_;rintro e m ⟨rfl,r⟩;subst r;generalize x:Rd.plain (Rd.pk st)=b at *;cases b;·rw[aI cK]at c;go_wp2_with fail;refine(mG m p ws ps d st i).mono ?_;rintro e u ⟨rfl,o,q⟩;go_wp2_with fail;refine(iW u p ws ps d _ o).mono ?_;rintro e v ⟨rfl,f,g⟩;go_wp2;go_ret;exact⟨by rw[c];rfl,by rw[c];exact f,(k.trans q).trans g⟩
 ·rw[aK rfl]at c;go_wp2_with fail;refine(iW m p ws ps d _ i).mono ?_;rintro e v ⟨rfl,f,g⟩;go_wp2;go_ret;exact⟨by rw[c];rfl,by rw[c];exact f,k.trans g⟩
theorem aaj:aD 32 #[gK p] w λo w'=>o=dz (O<|ps.getD (ws.length - st.r.length) 0)/\bK w w':=by
 obtain⟨z,D,I,e,q,r,u,v,F,y,E⟩:=h;obtain⟨q1,q2⟩:=eY (aj e 1)<|aj e 2;simp only[yK,List.getElem?_cons_zero,Yw]at q1 q2;obtain⟨c,m⟩:=aV<|ws.length - st.r.length;rw[<-m]at q2 ⊢;obtain⟨a,b,off,cap,rfl,g,H,i⟩:=r;have k:c<ps.length:=by omega
 have G:=(bR.1<|i c _<|aZ k).2;obtain rfl:=g bC;have f:ps.getD c 0=ps[c]:=by simp[k]
 rw[f];have B:(0:Int)<=(c:Int):=by omega
 have C:(c:Int)<(ps.length:Int):=by omega
 clear e q u v y i m g f;generalize ps[c]=x at *;generalize ps.length=len at *;go_enter func32,ntmps32;go_wp2;go_quiet (fail);go_wp2;go_ret;exact⟨rfl,jJ (bQ _ _) _⟩
end
section
variable (w : World) (c0 c1 c2 c3 d0 d1 d2 d3 : Value) (t : TypeId)
end
def xI(w:bI)(m:Nat)(v:Value)(l:List Ex):Prop:=
 ∃(a:Option Addr) (b off cap:Nat),v=.slice a l.length cap/\(0<l.length->a=some ⟨b,off,none⟩)/\l.length<=9223372036854775807/\
  ∀i y,l[i]?=some y->∃c e f g,w.cell? ⟨b,off+i*4,none⟩=some c/\w.cell? ⟨b,off+i*4+1,none⟩=some e/\w.cell? ⟨b,off+i*4+2,none⟩=some f/\w.cell? ⟨b,off+i*4+3,none⟩=some g/\iH w m c e f g y
theorem aak(w:bI)(s:aS)(g:s.size<=281474976710656):aD 59 #[A s] w λc w'=>c=dz (A s)/\bK w w':=by have e:=Y<|Tryz.stringslite_Clone s w g;go_enter func59,ntmps59;go_wp2_with fail;refine e.mono ?_;rintro c w' ⟨rfl,f⟩;go_wp2;go_ret;exact⟨rfl,f⟩
theorem A9(w:bI)(c:UInt8):aD 57 #[.int .u8 (c.toNat:Int)] w λg w'=>g=dz (.bool<|sG c.toNat)/\w'=w:=by
 have e:J (sG c.toNat=(c.toNat==32||c.toNat==10)):=rfl;generalize c.toNat=n at *;by_cases f:n=32
 ·have c1:((n:Int)==32)=true:=by simp[f]
  go_enter func57,ntmps57;go_wp2;go_ret;exact⟨aW (by rw[e,f];rfl),rfl⟩
 ·have c1:((n:Int)==32)=false:=by simp;omega
  go_enter func57,ntmps57;go_wp2;go_ret;exact⟨aW (by rw[e,vG];simp;omega),rfl⟩
theorem Ba(w:bI)(c:UInt8):aD 106 #[.int .u8 (c.toNat:Int)] w λg w'=>g=dz (.bool<|nY c.toNat)/\w'=w:=by
 have e:J (nY c.toNat=(c.toNat==40||c.toNat==41)):=rfl;generalize c.toNat=n at *;by_cases f:n=40
 ·have c1:((n:Int)==40)=true:=by simp[f]
  go_enter func106,ntmps106;go_wp2;go_ret;exact⟨aW (by rw[e,f];rfl),rfl⟩
 ·have c1:((n:Int)==40)=false:=by simp;omega
  go_enter func106,ntmps106;go_wp2;go_ret;exact⟨aW (by rw[e,vG];simp;omega),rfl⟩
theorem ahd(c:UInt8):decide (0<=Lib.indexByte [46,43,45,42,60,61] c)=(c.toNat==46||c.toNat==43||c.toNat==45||c.toNat==42||c.toNat==60||c.toNat==61):=by
 have h:∀n:Fin 256,decide (0<=Lib.indexByte [46,43,45,42,60,61] (UInt8.ofNat n.val))=(n.val==46||n.val==43||n.val==45||n.val==42||n.val==60||n.val==61):=by decide +kernel
 have:=h ⟨c.toNat,c.toNat_lt⟩;simpa using this
theorem JE(w:bI)(c:UInt8):aD 107 #[.int .u8 (c.toNat:Int)] w λe w'=>e=dz (.bool<|sH c.toNat)/\w'=w:=by
 have f:J (sH c.toNat=((decide (97<=c.toNat)&&decide (c.toNat<=122))||(decide (48<=c.toNat)&&decide (c.toNat<=57))||c.toNat==46||c.toNat==43||c.toNat==45||c.toNat==42||c.toNat==60||c.toNat==61)):=rfl;have q:J (∀w,aD 168 #[A ⟨#[46,43,45,42,60,61]⟩,.int .u8 (c.toNat:Int)] w λe w'=>∃i:Int,e=dz (O i)/\decide (0<=i)=(c.toNat==46||c.toNat==43||c.toNat==45||c.toNat==42||c.toNat==60||c.toNat==61)/\w'=w):=Y (λw=>by refine(Tryz.strings_IndexByte ⟨#[46,43,45,42,60,61]⟩ (c.toNat:Int) w).mono ?_;rintro e w' ⟨rfl,rfl⟩;refine⟨_,rfl,?_,rfl⟩;rw[<-ahd];simp);generalize c.toNat=n at *;by_cases y:97<=n/\n<=122
 ·have f1:(97:Int)<=(n:Int):=by omega
  have u:(n:Int)<=122:=by omega
  go_enter func107,ntmps107;go_wp2;go_ret;exact⟨aW (by rw[f,vG];simp;omega),rfl⟩
 by_cases z:48<=n/\n<=57
 ·have f1:¬(97:Int)<=(n:Int):=by omega
  have g:(48:Int)<=(n:Int):=by omega
  have k:(n:Int)<=57:=by omega
  go_enter func107,ntmps107;go_wp2;go_ret;exact⟨aW (by rw[f,vG];simp;omega),rfl⟩
 have v:n<48\/(57<n/\n<97)\/122<n:=by omega
 have o:J (sH n=(n==46||n==43||n==45||n==42||n==60||n==61)):=Y (by rw[f,vG];simp;omega);rcases v with l|l|l;case' inl=>
  have f1:¬(97:Int)<=(n:Int):=by omega
  have g:¬(48:Int)<=(n:Int):=by omega
 case' inr.inl=>
  have f1:¬(97:Int)<=(n:Int):=by omega
  have g:(48:Int)<=(n:Int):=by omega
  have k:¬(n:Int)<=57:=by omega
 case' inr.inr=>
  have f1:(97:Int)<=(n:Int):=by omega
  have u:¬(n:Int)<=122:=by omega
  have g:(48:Int)<=(n:Int):=by omega
  have k:¬(n:Int)<=57:=by omega
 all_goals clear l y z;go_enter func107,ntmps107;go_wp2_with fail;refine(q _).mono ?_;rintro e w' ⟨i,rfl,m,x⟩;subst x;have r:=Y m;clear m;go_wp2;go_ret;exact⟨aW (by rw[o];exact r),rfl⟩
theorem Dl(w:bI)(s:aS)(C:s.size<=4096):aD 56 #[A s] w λc w'=>c=dz (O ((((Df s).getD s.size:Nat)):Int))/\w'=w:=by
 go_enter func56,ntmps56;go_wp2;go_loop [3] (λi=>∃k:Nat,k<=s.size/\i=O k/\∀d,d<k->Mh s d=true) (λi=>s.size - (intOf i).toNat);exact⟨0,bN _,rfl,λd g=>aM g<|fU _⟩
 obtain⟨k,B,rfl,u⟩:=hrel;have r:=Y u;clear u;by_cases v:k<s.size
 ·have x:=Y<|Yl s k v;have f:J (Mh s k=(sG (bS.bt s k)||nY (bS.bt s k)||sH (bS.bt s k))):=rfl;rw[x]at f;have q:J (Mh s k=true->∀d,d<k+1->Mh s d=true):=Y (λh d g=>by
   by_cases c:d=k;·subst c;exact h
   ·exact r d bC)
  have y:(0:Int)<=(k:Int):=by omega
  have z:(k:Int)<(s.size:Int):=by omega
  go_wp2_with fail;refine(A9 _ s[k]).mono ?_;rintro c w' ⟨rfl,m⟩;subst m;cases c1:sG s[k].toNat
  ·go_wp2_with fail;refine(Ba _ s[k]).mono ?_;rintro c w' ⟨rfl,m⟩;subst m;cases c2:nY s[k].toNat
   ·go_wp2_with fail;refine(JE _ s[k]).mono ?_;rintro c w' ⟨rfl,m⟩;subst m;cases c3:sH s[k].toNat;·have o:J (Df s=some k):=Y<|mD v (λd g=>by rw[r d g];rfl) (by rw[f,c1,c2,c3];rfl);go_wp2;go_ret;exact⟨bZ (by rw[o];rfl),rfl⟩
    ·have e:J (Mh s k=true):=Y (by rw[f,c1,c2,c3];rfl);go_wp2;go_round;exact⟨k+1,by omega,by go_num,q e⟩;exact gV
   ·have e:J (Mh s k=true):=Y (by rw[f,c1,c2];rfl);go_wp2;go_round;exact⟨k+1,by omega,by go_num,q e⟩;exact gV
  ·have e:J (Mh s k=true):=Y (by rw[f,c1];rfl);go_wp2;go_round;exact⟨k+1,by omega,by go_num,q e⟩;exact gV
 ·have o:J (Df s=none):=Y<|jW (λd g=>by rw[r d bC];rfl);go_wp2;go_ret;exact⟨bZ (by rw[o];rfl),rfl⟩
namespace bS
def MP(s:aS)(a b:Nat):Prop:=
 a<b/\b<=s.size/\((nY (bS.bt s a)=true/\b=a+1)\/(nY (bS.bt s a)=false/\(∀d,a<d->d<b->sH (bS.bt s d)=true)/\(b=s.size\/sH (bS.bt s b)=false)))
end bS
theorem Rz(w:bI)(s:aS)(a:Nat)(C:s.size<=4096)(x:a<s.size):aD 58 #[A s,O (a:Int)] w λc w'=>∃b:Nat,c=dz (O (b:Int))/\MP s a b/\w'=w:=by
 have e:=Y<|Yl s a x;have z:(0:Int)<=(a:Int):=by omega
 have B:(a:Int)<(s.size:Int):=by omega
 go_enter func58,ntmps58;go_wp2_with fail;refine(Ba _ s[a]).mono ?_;rintro c w' ⟨rfl,g⟩;subst g;cases c1:nY s[a].toNat
 ·go_wp2;go_loop [5] (λi=>∃k:Nat,a<k/\k<=s.size/\i=O k/\∀d,a<d->d<k->sH (bS.bt s d)=true) (λi=>s.size - (intOf i).toNat);exact⟨a+1,by omega,by omega,by go_num,λd m o=>aM o bC⟩
  obtain⟨k,u,r,rfl,q⟩:=hrel;have f:=Y q;clear q;by_cases y:k<s.size
  ·have v:=Y<|Yl s k y;have d1:(0:Int)<=(k:Int):=by omega
   have d3:(k:Int)<(s.size:Int):=by omega
   go_wp2_with fail;refine(JE _ s[k]).mono ?_;rintro c w' ⟨rfl,g⟩;subst g;cases c3:sH s[k].toNat;·go_wp2;go_ret;exact⟨k,rfl,⟨u,r,aQ ⟨by rw[e];exact c1,f,aQ (by rw[v];exact c3)⟩⟩,rfl⟩
   ·go_wp2;go_round;exact⟨k+1,by omega,by omega,by go_num,λd m o=>by
     by_cases c:d=k;·subst c;rw[v];exact c3
     ·exact f d m bC⟩
    exact gV
  ·go_wp2;go_ret;exact⟨k,rfl,⟨u,r,aQ ⟨by rw[e];exact c1,f,aO bC⟩⟩,rfl⟩
 ·go_wp2;go_ret;exact⟨a+1,by go_num,⟨by omega,by omega,aO ⟨by rw[e];exact c1,rfl⟩⟩,rfl⟩
theorem ac3(h:sH n=true):sG n=false/\nY n=false:=by unfold sH at h;unfold sG nY;simp only[GK,dK,iy,beq_iff_eq]at h;simp only[Bool.or_eq_false_iff,beq_eq_false_iff_ne];omega
theorem RA(c:sG (bS.bt s a)=false)(e:nY (bS.bt s a)=false)(f:(bS.tok s a).2=false):
 ∀b,a<b->(∀d,a<d->d<b->sH (bS.bt s d)=true)->bS.tok s b=((bS.tok s a).1++[(a,b)],true)
 | 0,g,_=>aM g bC
 | b+1,g,h=>by
  by_cases i:a=b;·subst i;simp only[bS.tok,c,e,f,aI iJ]
  ·have o:=RA c e f b bC (λd d1 d2=>h d d1 bC);obtain⟨k,m⟩:=ac3<|h b bC bC;rw[bS.tok,o,k,m];simp
theorem ac4(h:MP s a b)(e:sG (bS.bt s a)=false)(f:nY (bS.bt s a)=false->(bS.tok s a).2=false):(bS.tok s b).1=(bS.tok s a).1++[(a,b)]/\((bS.tok s b).2=true->b=s.size\/sH (bS.bt s b)=false):=by
 obtain⟨g,_,⟨c,rfl⟩|⟨c,k,i⟩⟩:=h;·simp only[bS.tok,e,c,aI iJ,aK];exact⟨trivial,λh=>by cases h⟩
 ·rw[RA e c (f c) b g k];exact⟨rfl,λ_=>i⟩
theorem aal(w:World)(s:ByteArray)(hs:s.size<=maxLen):Calls prog 29 #[.string s] w λe w'=>∃v6 v7,e=.returned (.tuple #[v6,v7,.int .i64 (bS.wn s),.int .i64 (bS.we s)])/\yD w' v6 (BI s)/\Ints w' v7 (rG s)/\gQ w' w.heap.size v7 (rG s)/\Own w' w.heap.size v6 (BI s)/\Below w.heap.size w w':=by
 unfold maxLen at hs;have HS0:Hid (yD w (.slice none 0 0) []):=Y (Own.Yj (lJ w 0 _ _) (λs hs=>aM hs (by simp)) (by simp));have HI0:Hid (Ints w (.slice none 0 0) []):=Y (gQ.ints (lJ w 0 _ _) (by simp));by_cases hbig:4096<s.size
 ·have e1:bS.wn s=0:=by unfold bS.wn;rw[aK hbig]
  have e2:bS.we s=2:=by unfold bS.we;rw[aK hbig]
  have e3:BI s=[]:=by unfold BI;rw[aK hbig]
  have e4:rG s=[]:=by unfold rG;rw[aK hbig]
  rw[e1,e2,e3,e4];clear e1 e2 e3 e4;go_enter func29,ntmps29;go_wp2;(try simp only[Exit.inBlock,Exit.then]);refine cZ (wT rfl _ _ _) rfl ?_;exact⟨_,_,rfl,HS0,HI0,lJ _ _ _ _,lJ _ _ _ _,bQ _ _⟩
 have HBG:=Y hbig;have hs4:s.size<=4096:=by omega
 clear hbig;cases hbad:Df s with
 | some k=>
  have hk:k<s.size:=(bS.find_spec hbad).1;have e1:bS.wn s=k:=by unfold bS.wn;rw[aI HBG.out,hbad];rfl
  have e2:bS.we s=3:=by unfold bS.we;rw[aI HBG.out,hbad];rfl
  have e3:BI s=[]:=by unfold BI;rw[aI HBG.out,hbad]
  have e4:rG s=[]:=by unfold rG;rw[aI HBG.out,hbad]
  rw[e1,e2,e3,e4];have HF:=Y (Dl w s hs4);rw[hbad,gD]at HF;clear e1 e2 e3 e4 hbad;have b3:(k:Int)<(s.size:Int):=by omega
  go_enter func29,ntmps29;go_wp2_with fail;refine HF.mono ?_;rintro e w' ⟨rfl,hw⟩;subst hw;go_wp2;(try simp only[Exit.inBlock,Exit.then]);refine cZ (wT rfl _ _ _) rfl ?_;exact⟨_,_,rfl,HS0,HI0,lJ _ _ _ _,lJ _ _ _ _,bQ _ _⟩
 | none=>
  have apJ:Hid (∀d,d<s.size->Mh s d=true):=Y (λd hd=>by have:=Gv.1 hbad d (jE.2 hd);simpa using this);have HE1:Hid (bS.wn s=0):=Y (by unfold bS.wn;rw[aI HBG.out,hbad];rfl);have HE2:Hid (bS.we s=0):=Y (by unfold bS.we;rw[aI HBG.out,hbad];rfl);have HE3:Hid (BI s=(bS.tok s s.size).1.map (bS.ext s)):=Y (by unfold BI;rw[aI HBG.out,hbad]);have HE4:Hid (rG s=(bS.tok s s.size).1.map λp=>(p.1:Int)):=Y (by unfold rG;rw[aI HBG.out,hbad]);have HF:=Y (Dl w s hs4);rw[hbad,lK]at HF;clear hbad;go_enter func29,ntmps29;go_wp2_with fail;refine HF.mono ?_;rintro e w1 ⟨rfl,hw⟩;subst hw;go_wp2;go_loopw[7,8,9] (λv6 v7 i wr=>∃k:Nat,k<=s.size/\i=.int .i64 k/\((bS.tok s k).2=true->k=s.size\/sH (bS.bt s k)=false)/\Own wr w1.heap.size v6 ((bS.tok s k).1.map (bS.ext s))/\gQ wr w1.heap.size v7 ((bS.tok s k).1.map λp=>(p.1:Int))/\Below w1.heap.size w1 wr) (λ_ _ i _=>s.size - (intOf i).toNat);exact⟨0,bN _,rfl,λh=>by simp[bS.tok]at h,lJ _ _ _ _,lJ _ _ _ _,bQ _ _⟩
  obtain⟨k,hk,rfl,hop,ho6,ho7,hnx⟩:=hrel;have HOP:=Y hop;have xJ:=Y ho6;have EP:=Y ho7;have fT:=Y hnx;have hbs:=hnx.size;clear hop ho6 ho7 hnx;by_cases hlt:k<s.size
  ·have HB:=Y (Yl s k hlt);have OH:=Y (apJ k hlt);have b1:(0:Int)<=(k:Int):=by omega
   have b3:(k:Int)<(s.size:Int):=by omega
   go_wp2_with fail;refine(A9 _ s[k]).mono ?_;rintro e w2 ⟨rfl,hw⟩;subst hw;cases c1:sG s[k].toNat
   ·have HT:Hid (nY (bS.bt s k)=false->(bS.tok s k).2=false):=Y (λh=>by
     cases ho:(bS.tok s k).2;·rfl
     ·have h5:=OH.out;unfold Mh at h5;rw[h,HB,c1]at h5;rcases HOP ho with h6|h6;·omega
      ·rw[HB]at h6;rw[h6]at h5;cases h5)
    have hlen:((bS.tok s k).1.map (bS.ext s)).length<=4096:=by have:=(wN s k).1;rw[dV];omega
    have atd:((bS.tok s k).1.map λp=>(p.1:Int)).length<=4096:=by have:=(wN s k).1;rw[dV];omega
    go_wp2_with fail;refine(Rz _ s k hs4 hlt).mono ?_;rintro e w3 ⟨b,rfl,hend,hw⟩;subst hw;have hb1:=hend.1;have hb2:=hend.2.1;have HW:=Y (ac4 hend (by rw[HB];exact c1) HT);clear hend;have d1:(k:Int)<=(b:Int):=by omega
    have d2:(b:Int)<=(s.size:Int):=by omega
    have d3:(0:Int)<=(b:Int):=by omega
    have hex:(s.extract k b).size<=4096:=by rw[Rk];omega
    go_wp2_with fail;refine(aak _ (s.extract k b) (by omega)).mono ?_;rintro e w4 ⟨rfl,hb4⟩;have VF:Hid (Own w4 w1.heap.size _ _):=Y (fM xJ hb4);have apK:Hid (gQ w4 w1.heap.size _ _):=Y (fM EP hb4);have F9:=Y (up fT hb4);have apL:=F9.size;clear hb4
    go_wp2_with (first
     | (at_builtin;refine lg rfl _ _ rfl w1.heap.size _ _ rfl (wK VF _) _ (s.extract k b) rfl (aj5 _ _) (by omega) (by simp;omega) ?_;intro v6' w5 hown2 hgrow2;have apM:=Y hown2;have Ux:=Y (gQ.kept apK VF hgrow2);have HR2:=Y ((F9.alloc apL (.cells #[.string (s.extract k b)] 9)).grown hgrow2 (by simp;omega) (λj hj=>(VF.lt j hj).1));have apN:=HR2.size;clear hown2 hgrow2)
     | (at_builtin;refine nW rfl _ _ rfl w1.heap.size _ _ rfl (wK Ux _) _ (k:Int) rfl (JB _ _) (by omega) (by simp;omega) ?_;intro v7' w6 hown3 hgrow3;have apO:=Y hown3;have aj7:=Y (Own.kept apM Ux hgrow3);have HR3:=Y ((HR2.alloc apN (.cells #[.int .i64 (k:Int)] 3)).grown hgrow3 (by simp;omega) (λj hj=>(Ux.lt j hj).1));clear hown3 hgrow3)
     | fail)
    go_roundw;exact⟨b,hb2,rfl,HW.2,by rw[HW.1,gX];exact aj7,by rw[HW.1,gX];exact apO,HR3⟩;simp[intOf];omega
   ·have HT1:Hid (bS.tok s (k+1)=((bS.tok s k).1,false)):=Y (by rw[bS.tok,HB,c1];simp);go_wp2;go_roundw;exact⟨k+1,by omega,by go_num,(λh=>by rw[HT1]at h;cases h),by rw[HT1];exact xJ,by rw[HT1];exact EP,fT⟩;simp[intOf];omega
  ·have e:k=s.size:=by omega
   subst e;have hlen:=(wN s s.size).1;have HS:=Y (xJ.Yj (λt ht=>by obtain⟨p,_,rfl⟩:=iZ.1 ht;unfold bS.ext maxLen;rw[Rk];omega) (by rw[dV];omega));have HI:=Y (EP.ints (by rw[dV];omega));clear hlen;go_wp2;(try simp only[Exit.inBlock,Exit.then]);refine cZ (wT rfl _ _ _) rfl ?_;exact⟨_,_,apI (by rw[HE1];rfl) (by rw[HE2]),by rw[HE3];exact HS,by rw[HE4];exact HI,by rw[HE4];exact EP,by rw[HE3];exact xJ,fT⟩
