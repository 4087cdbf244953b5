import Derived.Test.YtageneidjnbedaaGreatDoorTZAG
import Derived.Deep.RegionHeld3
import Derived.Test.YtageneidjnbedaaGreatDoorTShelf
set_option maxHeartbeats 0
set_option maxRecDepth 99999
namespace Go.Proofs.YtageneidjnbedaaGreatDoor
open bS Rd
open Go.Proofs.Tryz
open Go.RowKit
variable{a b d j p n:Nat}{s:aS}{l:List UInt8}{w w':bI}{ws:aJ}{ps:List Int}
theorem wT{f:Func}{t g v x:Tmp}(h:f.results=#[.tmp t,.tmp g,.tmp v,.tmp x])(e:Array aC)(P:Program)(w:bI):(results f e).run P w=.ok (.tuple #[e.getD t undef,e.getD g undef,e.getD v undef,e.getD x undef]) w:=by simp[results,h]
theorem apI{e f:aC}{a b c d:Int}(h:a=b)(g:c=d):dz (.tuple #[e,f,O a,O c])=dz (.tuple #[e,f,O b,O d]):=by rw[h,g]
theorem aj5(w:bI)(t:aS):(w.alloc<|aY #[A t] 9).cell? (aN w.heap.size 0)=some (A t):=by simp[go_sem]
theorem JB(w:bI)(z:Int):(w.alloc<|aY #[O z] 3).cell? (aN w.heap.size 0)=some (O z):=by simp[go_sem]
theorem qy(h:s.toList=l):Rd.is s l=true:=by unfold Rd.is;rw[<-A8,h];simp
theorem qz(h:¬s.toList=l):Rd.is s l=false:=by unfold Rd.is;rw[<-A8];simpa using h
theorem pG(h:¬s.toList=l):(s.toList==l)=false:=by simpa using h
theorem yJ(w:bI)(s:aS):aD 60 #[A s] w λk w'=>k=dz (.bool<|Rd.plain s)/\w'=w:=by
 have e:J (Rd.plain s=(!Rd.is s []&&!Rd.is s [40]&&!Rd.is s [41])):=rfl;by_cases f:s.toList=[];·rw[qy f]at e;go_enter func60,ntmps60;go_wp2;go_ret;exact⟨aW (by rw[e];rfl),rfl⟩
 rw[qz f]at e;by_cases g:s.toList=[40];·rw[qy g]at e;go_enter func60,ntmps60;go_wp2;go_ret;exact⟨aW (by rw[e];simp),rfl⟩
 rw[qz g]at e;by_cases i:s.toList=[41];·rw[qy i]at e;go_enter func60,ntmps60;go_wp2;go_ret;exact⟨aW (by rw[e];simp),rfl⟩
 ·rw[qz i]at e;go_enter func60,ntmps60;go_wp2;go_ret;exact⟨aW (by rw[e];simp[f,g,i]),rfl⟩
theorem aai(w:bI)(s:aS):aD 178 #[A s] w λq w'=>q=dz (.bool<|opc s)/\w'=w:=by
 have e:J (opc s=(Rd.is s [43]||Rd.is s [45]||Rd.is s [42]||Rd.is s [60]||Rd.is s [61])):=rfl;by_cases f:s.toList=[43];·rw[qy f]at e;go_enter func178,ntmps178;go_wp2;go_ret;exact⟨aW (by rw[e];rfl),rfl⟩
 rw[qz f]at e;have r:=pG f;by_cases g:s.toList=[45];·rw[qy g]at e;go_enter func178,ntmps178;go_wp2;go_ret;exact⟨aW (by rw[e];rfl),rfl⟩
 rw[qz g]at e;have u:=pG g;by_cases i:s.toList=[42];·rw[qy i]at e;go_enter func178,ntmps178;go_wp2;go_ret;exact⟨aW (by rw[e];rfl),rfl⟩
 rw[qz i]at e;have v:=pG i;by_cases k:s.toList=[60];·rw[qy k]at e;go_enter func178,ntmps178;go_wp2;go_ret;exact⟨aW (by rw[e];rfl),rfl⟩
 rw[qz k]at e;have x:=pG k;by_cases m:s.toList=[61];·rw[qy m]at e;go_enter func178,ntmps178;go_wp2;go_ret;exact⟨aW (by rw[e];rfl),rfl⟩
 ·rw[qz m]at e;have y:=pG m;go_enter func178,ntmps178;go_wp2;go_ret;exact⟨aW (by rw[e];rfl),rfl⟩
theorem nK(w:bI)(s:aS):aD 176 #[A s] w λm w'=>m=dz (O<|Rd.cmd s)/\w'=w:=by
 have e:J (Rd.cmd s=if Rd.is s [115,101,116]then 1 else if Rd.is s [105,102]then 2 else if Rd.is s [119,104,105,108,101]then 3 else if Rd.is s [112,114,105,110,116]then 4 else 0):=rfl;by_cases f:s.toList=[115,101,116];·rw[qy f]at e;go_enter func176,ntmps176;go_wp2;go_ret;exact⟨bZ (by rw[e];rfl),rfl⟩
 rw[qz f]at e;have q:=pG f;by_cases g:s.toList=[105,102];·rw[qy g]at e;go_enter func176,ntmps176;go_wp2;go_ret;exact⟨bZ (by rw[e];rfl),rfl⟩
 rw[qz g]at e;have r:=pG g;by_cases i:s.toList=[119,104,105,108,101];·rw[qy i]at e;go_enter func176,ntmps176;go_wp2;go_ret;exact⟨bZ (by rw[e];rfl),rfl⟩
 rw[qz i]at e;have u:=pG i;by_cases k:s.toList=[112,114,105,110,116];·rw[qy k]at e;go_enter func176,ntmps176;go_wp2;go_ret;exact⟨bZ (by rw[e];rfl),rfl⟩
 ·rw[qz k]at e;have v:=pG k;go_enter func176,ntmps176;go_wp2;go_ret;exact⟨bZ (by rw[e];rfl),rfl⟩
theorem aky(s:aS):0<=Rd.cmd s/\Rd.cmd s<=4:=by
 unfold Rd.cmd;repeat' split
 all_goals decide
theorem afV(w:bI)(s:aS):aD 117 #[A s] w λg w'=>g=dz (.bool<|decide (Rd.cmd s≠0))/\w'=w:=by
 go_enter func117,ntmps117;go_wp2_with fail;refine(nK _ s).mono ?_;rintro g w' ⟨rfl,i⟩;subst i;obtain⟨c,e⟩:=aV<|Rd.cmd s;have f:=Y e;rw[<-e];clear e;by_cases h:c=0;·subst h;go_wp2;go_ret;exact⟨aW (by rw[<-f];rfl),rfl⟩
 ·have k:=eO h;go_wp2;go_ret;exact⟨aW (by rw[<-f];simp[h]),rfl⟩
theorem ac0(s:aS)(k:Nat)(e:k<s.size):nU s[k]=true↔(48<=s[k].toNat/\s[k].toNat<=57):=by unfold nU;simp
theorem ac1(h:∀j (e:j<s.size),nU s[j]=true):s.data.toList.all nU=true:=by rw[iB];intro x f;obtain⟨j,e,rfl⟩:=gU.1 f;exact h j (by simpa using e)
theorem Rx(e:j<s.size)(h:nU s[j]=false):s.data.toList.all nU=false:=by rw[CY];exact⟨s[j],gU.2 ⟨j,by simpa using e,rfl⟩,by simp[h]⟩
theorem amO(w:bI)(s:aS)(C:s.size<=maxLen):aD 121 #[A s] w λq w'=>q=dz (.bool<|Z8 s)/\w'=w:=by
 unfold maxLen at C;have e:J (Z8 s=(s.data.toList.all nU&&!Rd.is s [])):=rfl;go_enter func121,ntmps121;go_wp2;go_loop [3] (λi=>∃k:Nat,k<=s.size/\i=O k/\∀d (f:d<s.size),d<k->nU s[d]=true) (λi=>s.size - (intOf i).toNat);exact⟨0,bN _,rfl,λd _ f=>aM f<|fU _⟩
 obtain⟨k,E,rfl,z⟩:=hrel;have x:=Y z;clear z;by_cases v:k<s.size
 ·have g:=Y<|ac0 s k v;by_cases c1:48<=s[k].toNat
  ·by_cases c2:s[k].toNat<=57
   ·go_wp2;go_round;exact⟨k+1,by omega,by go_num,λd f D=>by
     by_cases q:d=k;·subst q;exact g.2 ⟨c1,c2⟩
     ·exact x d f bC⟩
    exact gV
   ·have m:J (nU s[k]=false):=Y (by
     cases u:nU s[k];·rfl
     ·exact aM (g.1 u).2 c2)
    go_wp2;go_ret;exact⟨aW (by rw[e,Rx v m];rfl),rfl⟩
  ·have m:J (nU s[k]=false):=Y (by
    cases u:nU s[k];·rfl
    ·exact aM (g.1 u).1 c1)
   go_wp2;go_ret;exact⟨aW (by rw[e,Rx v m];rfl),rfl⟩
 ·have y:J (s.data.toList.all nU=true):=Y<|ac1 (λj B=>x j B bC);by_cases r:s.toList=[];·rw[qy r]at e;go_wp2;go_ret;exact⟨aW (by rw[e,y];simp),rfl⟩
  ·rw[qz r]at e;go_wp2;go_ret;exact⟨aW (by rw[e,y];simp[r]),rfl⟩
def dL(w:bI)(p:Nat)(ws:List aS)(ps:List Int)(d:Nat)(st:Sr):Prop:=
 ∃(e:Option Addr) (f:Nat) (i:Value),w.heap[p]?=some (.cells #[.slice e ws.length f,i,.int .i64 ((ws.length - st.r.length:Nat):Int),.int .i64 (d:Nat),.bool st.f] 71 (0,0))/\
  Strs (only (λb=>decide (b<p)) w) (.slice e ws.length f) ws/\Ints (only (λb=>decide (b<p)) w) i ps/\
  (∃g m x t k,prog.globalNamed "strconv.ErrSyntax" = some g/\g<p/\w.heap[g]?=some (.cells #[.iface m x] t k))/\
  st.r <:+ ws/\ws.length<=4096/\(∀x∈ws,x.size<=4096)/\ps.length=ws.length+1
theorem dL.keep{st:Sr}(h:dL w p ws ps d st)(e:∀k,k<=p->w'.heap[k]?=w.heap[k]?):dL w' p ws ps d st:=by
 obtain⟨m,r,P,B,D,E,⟨g,N,x,t,y,F,G,H⟩,I⟩:=h;have i:Sub (only (λb=>decide (b<p)) w) (only (λb=>decide (b<p)) w'):=λa v L=>by obtain⟨f,q⟩:=bR.1 L;refine bR.2 ⟨f,?_⟩;have:=iP f;rw[jH (w:=w) (e _ bC)];exact q
 refine⟨m,r,P,by rw[e p (bG _)];exact B,D.sub i,?_,⟨g,N,x,t,y,F,G,by rw[e g bC];exact H⟩,I⟩;obtain⟨a,b,off,cap,u,z,K,C⟩:=E;exact⟨a,b,off,cap,u,z,K,λj Q M=>i _ _<|C j Q M⟩
theorem dL.lt{st:Sr}(h:dL w p ws ps d st):p<w.heap.size:=by obtain⟨f,g,i,e,_⟩:=h;exact aR e
theorem dL.below{st:Sr}(h:dL w p ws ps d st)(e:bK w w'):dL w' p ws ps d st:=
 h.keep (λk f=>e.block k (by have:=h.lt;omega))
theorem dL.set{st:Sr}(h:dL w p ws ps d st){a:Addr}(e:p<a.block)(v:aC):dL (w.setCell a v) p ws ps d st:=
 h.keep (λk f=>vM _ _ _ _ bC)
theorem dL.grown{st:Sr}{r:Option Nat}(h:dL w p ws ps d st)(hg:w.grownBy w' r)(f:∀k,r=some k->p<k):dL w' p ws ps d st:=
 h.keep (λk g=>hg.block k (by have:=h.lt;omega) (λe=>by have:=f k e.symm;omega))
theorem dL.drew{st:Sr}(h:dL w p ws ps d st)(n:Nat):dL (w.drewN n) p ws ps d st:=h.keep (λ_ _=>rfl)
theorem IV{st:Sr}(h:dL w p ws ps d st)(n:Nat):(Rh st n).size<=4096:=by
 obtain⟨k,m,q,_,_,_,_,g,_,i,_⟩:=h;unfold Rh;split;·exact bN _
 ·by_cases f:n<st.r.length
  ·have e:st.r.getD n ⟨#[]⟩=st.r[n]:=by simp[f]
   rw[e];exact i _<|g.subset<|kZ f
  ·have e:st.r.getD n ⟨#[]⟩=⟨#[]⟩:=by simp[List.getD,Ry<|Nat.le_of_not_lt f]
   rw[e];exact bN _
theorem JC(w:World)(p:Nat)(ws:List ByteArray)(ps:List Int)(d:Nat)(st:Sr)(h:dL w p ws ps d st)(n:Nat)(hn:n<=1):Calls prog 61 #[.pointer (some ⟨p,0,none⟩),.int .i64 n] w λS w'=>S=.returned (.string<|Rh st n)/\dL w' p ws ps d st/\But p w w':=by
 have r:=Y h;obtain⟨N,W,vs,f,z,B,C,k,Z,D,y⟩:=h;obtain⟨q0,q2,q4⟩:=lS (aj f 0) (aj f 2)<|aj f 4;simp only[yK,List.getElem?_cons_zero,Yw]at q0 q2 q4;have E:st.r.length<=ws.length:=k.length_le;have i:Hid (Rh st n=if st.f then ⟨#[]⟩else st.r.getD n ⟨#[]⟩):=rfl;cases m:st.f
 ·rw[m]at q4 i;obtain⟨e,q⟩:=aV<|ws.length - st.r.length;rw[<-q]at q2;by_cases K:n<st.r.length
  ·have I:st.r.getD n ⟨#[]⟩=ws.getD (e+n) ⟨#[]⟩:=by
    obtain⟨t,L⟩:=k;have F:e=t.length:=by rw[<-L]at q;rw[bg]at q;omega
    rw[<-L,F,List.getD,List.getD,kL (by omega)];congr 2;omega
   obtain⟨a,b,off,cap,M,G,_,_,H⟩:=z;have aa:=(bR.1<|H (e+n)<|by omega).2;obtain rfl:N=a:=by simpa using(congrArg (λv=>match v with|Value.slice a _ _=>a|_=>none) M)
   obtain rfl:=G (by omega);have g:Hid (Rh st n=ws.getD (e+n) ByteArray.empty):=Y (by rw[i];exact I);have u:¬((e:Int)+n>=(ws.length:Int)):=by omega
   have U:(0:Int)<=(e:Int)+n:=by omega
   have V:(e:Int)+n<(ws.length:Int):=by omega
   have P:(e:Int)<=4096:=by omega
   have Q:(n:Int)<=1:=by omega
   have R:decide ((e:Int)+n>=(ws.length:Int))=false:=iD u;have F:((e:Int)+n).toNat=e+n:=by omega
   rw[g];clear f B C k D y H I M q E m G;generalize ws.getD (e+n) ByteArray.empty=x at *;generalize ws.length=len at *;go_enter func61,ntmps61;go_wp2;go_quiet (fail);go_wp2;go_quiet (fail);go_wp2;go_ret;exact⟨rfl,(r.out.drew _).drew _,((But.refl _ _).drew _).drew _⟩
  ·have g:Hid (Rh st n=⟨#[]⟩):=Y (by rw[i,aI (by simp),List.getD,Ry<|Nat.le_of_not_lt K];rfl);have u:(e:Int)+n>=(ws.length:Int):=by omega
   have P:(e:Int)<=4096:=by omega
   have Q:(n:Int)<=1:=by omega
   have R:decide ((e:Int)+n>=(ws.length:Int))=true:=gW u;rw[g];clear f z B C k D y q E m K;generalize ws.length=len at *;go_enter func61,ntmps61;go_wp2;go_quiet (fail);go_wp2;go_ret;exact⟨rfl,r.out.drew _,(But.refl _ _).drew _⟩
 ·rw[m]at q4 i;have g:Hid (Rh st n=⟨#[]⟩):=i;rw[g];clear f z B C k D y E m;go_enter func61,ntmps61;go_wp2;go_quiet (fail);go_wp2;go_ret;exact⟨rfl,r.out.drew _,(But.refl _ _).drew _⟩
section
variable (w : World) (p : Nat) (ws : List ByteArray) (ps : List Int) (d : Nat) (st : Rd.Sr) (h : dL w p ws ps d st)
include h
theorem iF:aD 41 #[gK p] w λe w'=>e=dz (A<|Rd.pk st)/\dL w' p ws ps d st/\But p w w':=by go_enter func41,ntmps41;go_wp2_with fail;refine(JC w p ws ps d st h 0 bC).mono ?_;rintro e w' ⟨rfl,f,g⟩;go_wp2;go_ret;exact⟨rfl,f,g⟩
theorem VG:aD 118 #[gK p] w λe w'=>e=dz (A<|Rh st 1)/\dL w' p ws ps d st/\But p w w':=by go_enter func118,ntmps118;go_wp2_with fail;refine(JC w p ws ps d st h 1 bC).mono ?_;rintro e w' ⟨rfl,f,g⟩;go_wp2;go_ret;exact⟨rfl,f,g⟩
theorem JD{st':Sr}{d':Nat}(i:Nat)(v:aC)(K:st'.r <:+ ws)(H:∀e f k,(#[X e ws.length f,k,O ((ws.length - st.r.length:Nat):Int),O (d:Nat),.bool st.f]:Array aC).setIfInBounds i v=#[X e ws.length f,k,O ((ws.length - st'.r.length:Nat):Int),O (d':Nat),.bool st'.f]):dL (w.setCell (aN p i) v) p ws ps d' st'/\But p w (w.setCell (aN p i) v):=by refine⟨?_,(But.refl p w).set (a:=(aN p i)) (aO rfl) v⟩;obtain⟨e,f,k,y,B,C,⟨g,M,x,t,r,D,E,F⟩,P,G⟩:=h;have m:Sub (only (λb=>decide (b<p)) w) (only (λb=>decide (b<p)) (w.setCell (aN p i) v)):=((But.refl p w).set (a:=(aN p i)) (aO rfl) v).sub (iD<|Nat.lt_irrefl _);refine⟨e,f,k,by rw[aP y,H],B.sub m,?_,⟨g,M,x,t,r,D,E,aX F (by simp;omega) _⟩,K,G⟩;obtain⟨a,b,off,cap,q,u,I,z⟩:=C;exact⟨a,b,off,cap,q,u,I,λj N L=>m _ _<|z j N L⟩
theorem dL.suffix:st.r <:+ ws:=by obtain⟨_,_,_,_,_,_,_,e,_⟩:=h;exact e
theorem dL.len:ws.length<=4096:=by obtain⟨_,_,_,_,_,_,_,_,e,_⟩:=h;exact e
theorem dL.cells:∃f g k,w.cell? (aN p 0)=some (X f ws.length g)/\w.cell? (aN p 1)=some k/\w.cell? (aN p 2)=some (O ((ws.length - st.r.length:Nat):Int))/\w.cell? (aN p 3)=some (O (d:Nat))/\w.cell? (aN p 4)=some (.bool st.f)/\∀i,w.frozen? (aN p i)=false:=by obtain⟨f,g,k,e,_⟩:=h;exact⟨f,g,k,aj e 0,aj e 1,aj e 2,aj e 3,aj e 4,λi=>aF e i⟩
theorem mG:aD 44 #[gK p] w λg w'=>g=dz (.tuple #[])/\dL w' p ws ps d (Rd.fl st)/\But p w w':=by have f:=Y<|JD w p ws ps d st h (st':=Rd.fl st) (d':=d) 4 (.bool true) h.suffix (λ_ _ _=>rfl);obtain⟨i,k,m,_,_,_,_,q4,e⟩:=h.cells;have q:=e 4;clear e h;go_enter func44,ntmps44;go_wp2;go_end0;exact⟨rfl,f⟩
theorem iW:aD 59 #[gK p] w λf w'=>f=dz (A<|Rd.pk st)/\dL w' p ws ps d (Rd.tk st)/\But p w w':=by
 have i:J (Rd.tk st=if Rd.is (Rd.pk st) []then Rd.fl st else ⟨st.r.tail,st.f⟩):=rfl;have r:J (Rd.is (Rd.pk st) []=false->st.r≠[]):=Y (λe m=>by
  have f:Rd.pk st=⟨#[]⟩:=by unfold Rd.pk Rh;rw[m];cases st.f<;>rfl
  rw[f]at e;cases e)
 go_enter func59,ntmps59;go_wp2_with fail;refine(iF w p ws ps d st h).mono ?_;rintro f w1 ⟨rfl,e,v⟩;obtain⟨x,q⟩:=aV<|Rd.pk st;have u:=Y q;rw[<-q]at i r ⊢;clear q h;by_cases g:x.toList=[]
 ·rw[qy g,aK rfl]at i;go_wp2_with fail;refine(mG w1 p ws ps d st e).mono ?_;rintro f Q ⟨rfl,m,D⟩;go_wp2;go_ret;refine⟨?_,by rw[i];exact m,v.trans D⟩;have C:x=⟨#[]⟩:=by cases x with|mk x=>congr 1;rw[A8]at g;exact Array.toList_inj.1 g
  rw[<-u,C];rfl
 ·rw[qz g,aI cK]at i;have I:x.toList.isEmpty=false:=by simpa using g
  obtain⟨E,z⟩:=eY (r<|qz g) e.suffix;obtain⟨L,K⟩:=eY z.length_le e.len;have M:0<st.r.length:=vO.2 E;have k:=Y (JD w1 p ws ps d st e (st':=⟨st.r.tail,st.f⟩) (d':=d) 2 (O ((ws.length - st.r.length:Nat)+1:Int)) ((List.tail_suffix _).trans z) (λ_ _ _=>by
   have f:((ws.length - st.r.length:Nat)+1:Int)=((ws.length - st.r.tail.length:Nat):Int):=by rw[List.length_tail];omega
   rw[f];rfl))
  obtain⟨G,H,P,_,_,q2,_,_,B⟩:=e.cells;have R:=B 2;obtain⟨F,y⟩:=aV<|ws.length - st.r.length;have N:(F:Int)<=4096:=by omega
  rw[<-y]at k q2;clear B e y;go_wp2;go_ret;exact⟨by rw[<-u];rfl,by rw[i];exact k.1,v.trans k.2⟩
theorem uF(a:aS):aD 39 #[gK p,A a] w λg w'=>g=dz (.tuple #[])/\dL w' p ws ps d (Rd.kw a.data.toList st)/\But p w w':=by
 have f:J (Rd.kw a.data.toList st=if Rd.is (Rd.pk st) a.data.toList then Rd.tk st else Rd.fl st):=rfl;go_enter func39,ntmps39;go_wp2_with fail;refine(iF w p ws ps d st h).mono ?_;rintro g w1 ⟨rfl,m,q⟩;by_cases e:(Rd.pk st).toList=a.toList
 ·rw[qy (by rw[e,A8]),aK rfl]at f;have r:((Rd.pk st).toList != a.toList)=false:=by simp[e]
  go_wp2_with fail;refine(iW w1 p ws ps d st m).mono ?_;rintro g u ⟨rfl,i,k⟩;go_wp2;go_end0;exact⟨rfl,by rw[f];exact i,q.trans k⟩
 ·rw[qz (by rw[<-A8];exact e),aI cK]at f;have r:((Rd.pk st).toList != a.toList)=true:=by simpa using e
  have v:((Rd.pk st).toList==a.toList)=false:=by simpa using e
  go_wp2_with fail;refine(mG w1 p ws ps d st m).mono ?_;rintro g u ⟨rfl,i,k⟩;go_wp2;(try simp only[Exit.inBlock,Exit.then]);refine cZ (results_none rfl _ _ _) rfl ?_;exact⟨rfl,by rw[f];exact i,q.trans k⟩
theorem mH(z:d<=100):aD 38 #[gK p] w λk w'=>k=dz (.tuple #[])/\dL w' p ws ps (d+1) (Rd.op d st)/\But p w w':=by
 have i:J (Rd.op d st=Rd.kw [40] (if d=20 then Rd.fl st else st)):=rfl;obtain⟨_,_,_,_,_,_,q3,_,_⟩:=h.cells;have B:(d:Int)<=100:=by omega
 by_cases m:d=20;·rw[aK m]at i;subst m;go_enter func38,ntmps38;go_wp2_with fail;refine(mG w p ws ps _ st h).mono ?_;rintro k w1 ⟨rfl,u,v⟩;clear q3;go_wp2_with fail;refine(uF w1 p ws ps _ _ u ⟨#[40]⟩).mono ?_;rintro k r ⟨rfl,e,q⟩;have f:=Y<|JD r p ws ps 20 _ e (st':=Rd.kw [40]<|Rd.fl st) (d':=20+1) 3 (O 21) e.suffix (λ_ _ _=>rfl);obtain⟨_,_,_,_,_,_,q3,_,g⟩:=e.cells;have x:=g 3;clear g e;go_wp2;go_end0;exact⟨rfl,by rw[i];exact f.1,(v.trans q).trans f.2⟩
 ·rw[aI m]at i;have y:((d:Int)==20)=false:=by simp;omega
  go_enter func38,ntmps38;go_wp2_with fail;clear q3;refine(uF w p ws ps d _ h ⟨#[40]⟩).mono ?_;rintro k r ⟨rfl,e,q⟩;have f:=Y<|JD r p ws ps d _ e (st':=Rd.kw [40] st) (d':=d+1) 3 (O<|(d:Int)+1) e.suffix (λ_ _ _=>rfl);obtain⟨_,_,_,_,_,_,q3,_,g⟩:=e.cells;have x:=g 3;clear g e;go_wp2;go_end0;exact⟨rfl,by rw[i];exact f.1,q.trans f.2⟩
end
section
variable (w : World) (p : Nat) (ws : List ByteArray) (ps : List Int) (d : Nat) (st : Rd.Sr)
theorem jy(h:dL w p ws ps (d+1) st)(r:d<=100):aD 43 #[gK p] w λg w'=>g=dz (.tuple #[])/\dL w' p ws ps d (Rd.sh st)/\But p w w':=by
 have u:(d:Int)<=100:=by omega
 go_enter func43,ntmps43;go_wp2_with fail;refine(uF w p ws ps (d+1) _ h ⟨#[41]⟩).mono ?_;rintro g q ⟨rfl,e,m⟩;have f:=Y<|JD q p ws ps (d+1) _ e (st':=Rd.sh st) (d':=d) 3 (O (d:Nat)) e.suffix (λ_ _ _=>rfl);obtain⟨_,_,_,_,_,_,q3,_,i⟩:=e.cells;have v:=i 3;have k:((d+1:Nat):Int)=(d:Int)+1:=by omega
 rw[k]at q3;clear i e h;go_wp2;go_end0;refine⟨rfl,?_,?_⟩;·have:=f.1;simpa using this
 ·have:=m.trans f.2;simpa using this
variable (h : dL w p ws ps d st)
include h
theorem ahc:aD 18 #[gK p] w λf w'=>f=dz (.tuple #[])/\dL w' p ws ps d (CQ st)/\But p w w':=by
 have e:J (CQ st=if Rd.is (Rd.pk st) []then st else Rd.fl st):=rfl;go_enter func18,ntmps18;go_wp2_with fail;refine(iF w p ws ps d st h).mono ?_;rintro f w1 ⟨rfl,i,k⟩;by_cases g:(Rd.pk st).toList=[];·rw[qy g,aK rfl]at e;go_wp2;go_end0;exact⟨rfl,by rw[e];exact i,k⟩
 ·rw[qz g,aI cK]at e;have r:(Rd.pk st).toList.isEmpty=false:=by simpa using g
  go_wp2_with fail;refine(mG w1 p ws ps d st i).mono ?_;rintro f u ⟨rfl,m,q⟩;go_wp2;go_end0;exact⟨rfl,by rw[e];exact m,k.trans q⟩
theorem kT:aD 40 #[gK p] w λf w'=>f=dz (A (Rd.iw st).1)/\dL w' p ws ps d (Rd.iw st).2/\But p w w':=by
 have e:J (Rd.iw st=(Rd.pk<|if Rd.plain (Rd.pk st)then st else Rd.fl st,Rd.tk<|if Rd.plain (Rd.pk st)then st else Rd.fl st)):=rfl;go_enter func40,ntmps40;go_wp2_with fail;refine(iF w p ws ps d st h).mono ?_;rintro f w1 ⟨rfl,k,m⟩;go_wp2_with fail;refine(yJ _ _).mono ?_;rintro f q ⟨rfl,v⟩;subst v;generalize z:Rd.plain (Rd.pk st)=b at *;cases b;·rw[aI cK]at e;go_wp2_with fail;refine(mG q p ws ps d st k).mono ?_;rintro f x ⟨rfl,r,u⟩;go_wp2_with fail;refine(iW x p ws ps d _ r).mono ?_;rintro f y ⟨rfl,g,i⟩;go_wp2;go_ret;exact⟨by rw[e];rfl,by rw[e];exact g,(m.trans u).trans i⟩
 ·rw[aK rfl]at e;go_wp2_with fail;refine(iW q p ws ps d _ k).mono ?_;rintro f y ⟨rfl,g,i⟩;go_wp2;go_ret;exact⟨by rw[e];rfl,by rw[e];exact g,m.trans i⟩
theorem aaj:aD 19 #[gK p] w λr w'=>r=dz (O<|ps.getD (ws.length - st.r.length) 0)/\bK w w':=by
 obtain⟨C,F,L,f,u,v,y,z,H,B,G⟩:=h;obtain⟨q1,q2⟩:=eY (aj f 1)<|aj f 2;simp only[yK,List.getElem?_cons_zero,Yw]at q1 q2;obtain⟨e,q⟩:=aV<|ws.length - st.r.length;rw[<-q]at q2 ⊢;obtain⟨a,b,off,cap,rfl,i,K,k⟩:=v;have m:e<ps.length:=by omega
 have I:=(bR.1<|k e _<|aZ m).2;obtain rfl:=i bC;have g:ps.getD e 0=ps[e]:=by simp[m]
 rw[g];have D:(0:Int)<=(e:Int):=by omega
 have E:(e:Int)<(ps.length:Int):=by omega
 clear f u y z B k q i g;generalize ps[e]=x at *;generalize ps.length=len at *;go_enter func19,ntmps19;go_wp2;go_quiet (fail);go_wp2;go_ret;exact⟨rfl,jJ (bQ _ _) _⟩
end
section
variable (w : World) (c0 c1 c2 c3 d0 d1 d2 d3 : Value) (t : TypeId)
end
def xI(w:bI)(m:Nat)(v:Value)(l:List Ex):Prop:=
 ∃(a:Option Addr) (b off cap:Nat),v=.slice a l.length cap/\(0<l.length->a=some ⟨b,off,none⟩)/\l.length<=9223372036854775807/\
  ∀i y,l[i]?=some y->∃e f g k,w.cell? ⟨b,off+i*4,none⟩=some e/\w.cell? ⟨b,off+i*4+1,none⟩=some f/\w.cell? ⟨b,off+i*4+2,none⟩=some g/\w.cell? ⟨b,off+i*4+3,none⟩=some k/\iH w m e f g k y
theorem aak(w:bI)(s:aS)(i:s.size<=281474976710656):aD 37 #[A s] w λe w'=>e=dz (A s)/\bK w w':=by have f:=Y<|Tryz.stringslite_Clone s w i;go_enter func37,ntmps37;go_wp2_with fail;refine f.mono ?_;rintro e w' ⟨rfl,g⟩;go_wp2;go_ret;exact⟨rfl,g⟩
theorem A9(w:bI)(c:UInt8):aD 35 #[.int .u8 (c.toNat:Int)] w λg w'=>g=dz (.bool<|sG c.toNat)/\w'=w:=by
 have e:J (sG c.toNat=(c.toNat==32||c.toNat==10)):=rfl;generalize c.toNat=n at *;by_cases f:n=32
 ·have c1:((n:Int)==32)=true:=by simp[f]
  go_enter func35,ntmps35;go_wp2;go_ret;exact⟨aW (by rw[e,f];rfl),rfl⟩
 ·have c1:((n:Int)==32)=false:=by simp;omega
  go_enter func35,ntmps35;go_wp2;go_ret;exact⟨aW (by rw[e,vG];simp;omega),rfl⟩
theorem Ba(w:bI)(c:UInt8):aD 56 #[.int .u8 (c.toNat:Int)] w λg w'=>g=dz (.bool<|nY c.toNat)/\w'=w:=by
 have e:J (nY c.toNat=(c.toNat==40||c.toNat==41)):=rfl;generalize c.toNat=n at *;by_cases f:n=40
 ·have c1:((n:Int)==40)=true:=by simp[f]
  go_enter func56,ntmps56;go_wp2;go_ret;exact⟨aW (by rw[e,f];rfl),rfl⟩
 ·have c1:((n:Int)==40)=false:=by simp;omega
  go_enter func56,ntmps56;go_wp2;go_ret;exact⟨aW (by rw[e,vG];simp;omega),rfl⟩
theorem ahd(c:UInt8):decide (0<=Lib.indexByte [46,43,45,42,60,61] c)=(c.toNat==46||c.toNat==43||c.toNat==45||c.toNat==42||c.toNat==60||c.toNat==61):=by
 have h:∀n:Fin 256,decide (0<=Lib.indexByte [46,43,45,42,60,61] (UInt8.ofNat n.val))=(n.val==46||n.val==43||n.val==45||n.val==42||n.val==60||n.val==61):=by decide +kernel
 have:=h ⟨c.toNat,c.toNat_lt⟩;simpa using this
theorem JE(w:bI)(c:UInt8):aD 57 #[.int .u8 (c.toNat:Int)] w λe w'=>e=dz (.bool<|sH c.toNat)/\w'=w:=by
 have f:J (sH c.toNat=((decide (97<=c.toNat)&&decide (c.toNat<=122))||(decide (48<=c.toNat)&&decide (c.toNat<=57))||c.toNat==46||c.toNat==43||c.toNat==45||c.toNat==42||c.toNat==60||c.toNat==61)):=rfl;have r:J (∀w,aD 81 #[A ⟨#[46,43,45,42,60,61]⟩,.int .u8 (c.toNat:Int)] w λe w'=>∃i:Int,e=dz (O i)/\decide (0<=i)=(c.toNat==46||c.toNat==43||c.toNat==45||c.toNat==42||c.toNat==60||c.toNat==61)/\w'=w):=Y (λw=>by refine(Tryz.strings_IndexByte ⟨#[46,43,45,42,60,61]⟩ (c.toNat:Int) w).mono ?_;rintro e w' ⟨rfl,rfl⟩;refine⟨_,rfl,?_,rfl⟩;rw[<-ahd];simp);generalize c.toNat=n at *;by_cases z:97<=n/\n<=122
 ·have f1:(97:Int)<=(n:Int):=by omega
  have v:(n:Int)<=122:=by omega
  go_enter func57,ntmps57;go_wp2;go_ret;exact⟨aW (by rw[f,vG];simp;omega),rfl⟩
 by_cases B:48<=n/\n<=57
 ·have f1:¬(97:Int)<=(n:Int):=by omega
  have g:(48:Int)<=(n:Int):=by omega
  have k:(n:Int)<=57:=by omega
  go_enter func57,ntmps57;go_wp2;go_ret;exact⟨aW (by rw[f,vG];simp;omega),rfl⟩
 have x:n<48\/(57<n/\n<97)\/122<n:=by omega
 have q:J (sH n=(n==46||n==43||n==45||n==42||n==60||n==61)):=Y (by rw[f,vG];simp;omega);rcases x with l|l|l;case' inl=>
  have f1:¬(97:Int)<=(n:Int):=by omega
  have g:¬(48:Int)<=(n:Int):=by omega
 case' inr.inl=>
  have f1:¬(97:Int)<=(n:Int):=by omega
  have g:(48:Int)<=(n:Int):=by omega
  have k:¬(n:Int)<=57:=by omega
 case' inr.inr=>
  have f1:(97:Int)<=(n:Int):=by omega
  have v:¬(n:Int)<=122:=by omega
  have g:(48:Int)<=(n:Int):=by omega
  have k:¬(n:Int)<=57:=by omega
 all_goals clear l z B;go_enter func57,ntmps57;go_wp2_with fail;refine(r _).mono ?_;rintro e w' ⟨i,rfl,m,y⟩;subst y;have u:=Y m;clear m;go_wp2;go_ret;exact⟨aW (by rw[q];exact u),rfl⟩
theorem Dl(w:bI)(s:aS)(E:s.size<=4096):aD 34 #[A s] w λe w'=>e=dz (O ((((Df s).getD s.size:Nat)):Int))/\w'=w:=by
 go_enter func34,ntmps34;go_wp2;go_loop [3] (λi=>∃k:Nat,k<=s.size/\i=O k/\∀d,d<k->Mh s d=true) (λi=>s.size - (intOf i).toNat);exact⟨0,bN _,rfl,λd m=>aM m<|fU _⟩
 obtain⟨k,D,rfl,x⟩:=hrel;have v:=Y x;clear x;by_cases y:k<s.size
 ·have z:=Y<|Yl s k y;have g:J (Mh s k=(sG (bS.bt s k)||nY (bS.bt s k)||sH (bS.bt s k))):=rfl;rw[z]at g;have u:J (Mh s k=true->∀d,d<k+1->Mh s d=true):=Y (λh d m=>by
   by_cases e:d=k;·subst e;exact h
   ·exact v d bC)
  have B:(0:Int)<=(k:Int):=by omega
  have C:(k:Int)<(s.size:Int):=by omega
  go_wp2_with fail;refine(A9 _ s[k]).mono ?_;rintro e w' ⟨rfl,q⟩;subst q;cases c1:sG s[k].toNat
  ·go_wp2_with fail;refine(Ba _ s[k]).mono ?_;rintro e w' ⟨rfl,q⟩;subst q;cases c2:nY s[k].toNat
   ·go_wp2_with fail;refine(JE _ s[k]).mono ?_;rintro e w' ⟨rfl,q⟩;subst q;cases c3:sH s[k].toNat;·have r:J (Df s=some k):=Y (mD y (λd m=>by rw[v d m];rfl) (by rw[g,c1,c2,c3];rfl));go_wp2;go_ret;exact⟨bZ (by rw[r];rfl),rfl⟩
    ·have f:J (Mh s k=true):=Y (by rw[g,c1,c2,c3];rfl);go_wp2;go_round;exact⟨k+1,by omega,by go_num,u f⟩;exact gV
   ·have f:J (Mh s k=true):=Y (by rw[g,c1,c2];rfl);go_wp2;go_round;exact⟨k+1,by omega,by go_num,u f⟩;exact gV
  ·have f:J (Mh s k=true):=Y (by rw[g,c1];rfl);go_wp2;go_round;exact⟨k+1,by omega,by go_num,u f⟩;exact gV
 ·have r:J (Df s=none):=Y (jW (λd m=>by rw[v d bC];rfl));go_wp2;go_ret;exact⟨bZ (by rw[r];rfl),rfl⟩
namespace bS
def MP(s:aS)(a b:Nat):Prop:=
 a<b/\b<=s.size/\((nY (bS.bt s a)=true/\b=a+1)\/(nY (bS.bt s a)=false/\(∀d,a<d->d<b->sH (bS.bt s d)=true)/\(b=s.size\/sH (bS.bt s b)=false)))
end bS
theorem Rz(w:bI)(s:aS)(a:Nat)(E:s.size<=4096)(z:a<s.size):aD 36 #[A s,O (a:Int)] w λe w'=>∃b:Nat,e=dz (O (b:Int))/\MP s a b/\w'=w:=by
 have f:=Y<|Yl s a z;have C:(0:Int)<=(a:Int):=by omega
 have D:(a:Int)<(s.size:Int):=by omega
 go_enter func36,ntmps36;go_wp2_with fail;refine(Ba _ s[a]).mono ?_;rintro e w' ⟨rfl,m⟩;subst m;cases c1:nY s[a].toNat
 ·go_wp2;go_loop [5] (λi=>∃k:Nat,a<k/\k<=s.size/\i=O k/\∀d,a<d->d<k->sH (bS.bt s d)=true) (λi=>s.size - (intOf i).toNat);exact⟨a+1,by omega,by omega,by go_num,λd q r=>aM r bC⟩
  obtain⟨k,x,v,rfl,u⟩:=hrel;have g:=Y u;clear u;by_cases B:k<s.size
  ·have y:=Y<|Yl s k B;have d1:(0:Int)<=(k:Int):=by omega
   have d3:(k:Int)<(s.size:Int):=by omega
   go_wp2_with fail;refine(JE _ s[k]).mono ?_;rintro e w' ⟨rfl,m⟩;subst m;cases c3:sH s[k].toNat;·go_wp2;go_ret;exact⟨k,rfl,⟨x,v,aQ ⟨by rw[f];exact c1,g,aQ (by rw[y];exact c3)⟩⟩,rfl⟩
   ·go_wp2;go_round;exact⟨k+1,by omega,by omega,by go_num,λd q r=>by
     by_cases e:d=k;·subst e;rw[y];exact c3
     ·exact g d q bC⟩
    exact gV
  ·go_wp2;go_ret;exact⟨k,rfl,⟨x,v,aQ ⟨by rw[f];exact c1,g,aO bC⟩⟩,rfl⟩
 ·go_wp2;go_ret;exact⟨a+1,by go_num,⟨by omega,by omega,aO ⟨by rw[f];exact c1,rfl⟩⟩,rfl⟩
theorem ac3(h:sH n=true):sG n=false/\nY n=false:=by unfold sH at h;unfold sG nY;simp only[GK,dK,iy,beq_iff_eq]at h;simp only[Bool.or_eq_false_iff,beq_eq_false_iff_ne];omega
theorem RA(e:sG (bS.bt s a)=false)(f:nY (bS.bt s a)=false)(g:(bS.tok s a).2=false):
 ∀b,a<b->(∀d,a<d->d<b->sH (bS.bt s d)=true)->bS.tok s b=((bS.tok s a).1++[(a,b)],true)
 | 0,i,_=>aM i bC
 | b+1,i,h=>by
  by_cases k:a=b;·subst k;simp only[bS.tok,e,f,g,aI iJ]
  ·have r:=RA e f g b bC (λd d1 d2=>h d d1 bC);obtain⟨m,q⟩:=ac3<|h b bC bC;rw[bS.tok,r,m,q];simp
theorem ac4(h:MP s a b)(f:sG (bS.bt s a)=false)(g:nY (bS.bt s a)=false->(bS.tok s a).2=false):(bS.tok s b).1=(bS.tok s a).1++[(a,b)]/\((bS.tok s b).2=true->b=s.size\/sH (bS.bt s b)=false):=by
 obtain⟨i,_,⟨e,rfl⟩|⟨e,m,k⟩⟩:=h;·simp only[bS.tok,f,e,aI iJ,aK];exact⟨trivial,λh=>by cases h⟩
 ·rw[RA f e (g e) b i m];exact⟨rfl,λ_=>k⟩
theorem aal(w:World)(s:ByteArray)(hs:s.size<=maxLen):Calls prog 16 #[.string s] w λe w'=>∃v6 v7,e=.returned (.tuple #[v6,v7,.int .i64 (bS.wn s),.int .i64 (bS.we s)])/\yD w' v6 (BI s)/\Ints w' v7 (rG s)/\gQ w' w.heap.size v7 (rG s)/\Own w' w.heap.size v6 (BI s)/\Below w.heap.size w w':=by
 unfold maxLen at hs;have HS0:Hid (yD w (.slice none 0 0) []):=Y (Own.Yj (lJ w 0 _ _) (λs hs=>aM hs (by simp)) (by simp));have HI0:Hid (Ints w (.slice none 0 0) []):=Y (gQ.ints (lJ w 0 _ _) (by simp));by_cases hbig:4096<s.size
 ·have e1:bS.wn s=0:=by unfold bS.wn;rw[aK hbig]
  have e2:bS.we s=2:=by unfold bS.we;rw[aK hbig]
  have e3:BI s=[]:=by unfold BI;rw[aK hbig]
  have e4:rG s=[]:=by unfold rG;rw[aK hbig]
  rw[e1,e2,e3,e4];clear e1 e2 e3 e4;go_enter func16,ntmps16;go_wp2;(try simp only[Exit.inBlock,Exit.then]);refine cZ (wT rfl _ _ _) rfl ?_;exact⟨_,_,rfl,HS0,HI0,lJ _ _ _ _,lJ _ _ _ _,bQ _ _⟩
 have HBG:=Y hbig;have hs4:s.size<=4096:=by omega
 clear hbig;cases hbad:Df s with
 | some k=>
  have hk:k<s.size:=(bS.find_spec hbad).1;have e1:bS.wn s=k:=by unfold bS.wn;rw[aI HBG.out,hbad];rfl
  have e2:bS.we s=3:=by unfold bS.we;rw[aI HBG.out,hbad];rfl
  have e3:BI s=[]:=by unfold BI;rw[aI HBG.out,hbad]
  have e4:rG s=[]:=by unfold rG;rw[aI HBG.out,hbad]
  rw[e1,e2,e3,e4];have HF:=Y (Dl w s hs4);rw[hbad,gD]at HF;clear e1 e2 e3 e4 hbad;have b3:(k:Int)<(s.size:Int):=by omega
  go_enter func16,ntmps16;go_wp2_with fail;refine HF.mono ?_;rintro e w' ⟨rfl,hw⟩;subst hw;go_wp2;(try simp only[Exit.inBlock,Exit.then]);refine cZ (wT rfl _ _ _) rfl ?_;exact⟨_,_,rfl,HS0,HI0,lJ _ _ _ _,lJ _ _ _ _,bQ _ _⟩
 | none=>
  have apJ:Hid (∀d,d<s.size->Mh s d=true):=Y (λd hd=>by have:=Gv.1 hbad d (jE.2 hd);simpa using this);have HE1:Hid (bS.wn s=0):=Y (by unfold bS.wn;rw[aI HBG.out,hbad];rfl);have HE2:Hid (bS.we s=0):=Y (by unfold bS.we;rw[aI HBG.out,hbad];rfl);have HE3:Hid (BI s=(bS.tok s s.size).1.map (bS.ext s)):=Y (by unfold BI;rw[aI HBG.out,hbad]);have HE4:Hid (rG s=(bS.tok s s.size).1.map λp=>(p.1:Int)):=Y (by unfold rG;rw[aI HBG.out,hbad]);have HF:=Y (Dl w s hs4);rw[hbad,lK]at HF;clear hbad;go_enter func16,ntmps16;go_wp2_with fail;refine HF.mono ?_;rintro e w1 ⟨rfl,hw⟩;subst hw;go_wp2;go_loopw[7,8,9] (λv6 v7 i wr=>∃k:Nat,k<=s.size/\i=.int .i64 k/\((bS.tok s k).2=true->k=s.size\/sH (bS.bt s k)=false)/\Own wr w1.heap.size v6 ((bS.tok s k).1.map (bS.ext s))/\gQ wr w1.heap.size v7 ((bS.tok s k).1.map λp=>(p.1:Int))/\Below w1.heap.size w1 wr) (λ_ _ i _=>s.size - (intOf i).toNat);exact⟨0,bN _,rfl,λh=>by simp[bS.tok]at h,lJ _ _ _ _,lJ _ _ _ _,bQ _ _⟩
  obtain⟨k,hk,rfl,hop,ho6,ho7,hnx⟩:=hrel;have HOP:=Y hop;have xJ:=Y ho6;have EP:=Y ho7;have fT:=Y hnx;have hbs:=hnx.size;clear hop ho6 ho7 hnx;by_cases hlt:k<s.size
  ·have HB:=Y (Yl s k hlt);have OH:=Y (apJ k hlt);have b1:(0:Int)<=(k:Int):=by omega
   have b3:(k:Int)<(s.size:Int):=by omega
   go_wp2_with fail;refine(A9 _ s[k]).mono ?_;rintro e w2 ⟨rfl,hw⟩;subst hw;cases c1:sG s[k].toNat
   ·have HT:Hid (nY (bS.bt s k)=false->(bS.tok s k).2=false):=Y (λh=>by
     cases ho:(bS.tok s k).2;·rfl
     ·have h5:=OH.out;unfold Mh at h5;rw[h,HB,c1]at h5;rcases HOP ho with h6|h6;·omega
      ·rw[HB]at h6;rw[h6]at h5;cases h5)
    have hlen:((bS.tok s k).1.map (bS.ext s)).length<=4096:=by have:=(wN s k).1;rw[dV];omega
    have atd:((bS.tok s k).1.map λp=>(p.1:Int)).length<=4096:=by have:=(wN s k).1;rw[dV];omega
    go_wp2_with fail;refine(Rz _ s k hs4 hlt).mono ?_;rintro e w3 ⟨b,rfl,hend,hw⟩;subst hw;have hb1:=hend.1;have hb2:=hend.2.1;have HW:=Y (ac4 hend (by rw[HB];exact c1) HT);clear hend;have d1:(k:Int)<=(b:Int):=by omega
    have d2:(b:Int)<=(s.size:Int):=by omega
    have d3:(0:Int)<=(b:Int):=by omega
    have hex:(s.extract k b).size<=4096:=by rw[Rk];omega
    go_wp2_with fail;refine(aak _ (s.extract k b) (by omega)).mono ?_;rintro e w4 ⟨rfl,hb4⟩;have VF:Hid (Own w4 w1.heap.size _ _):=Y (fM xJ hb4);have apK:Hid (gQ w4 w1.heap.size _ _):=Y (fM EP hb4);have F9:=Y (up fT hb4);have apL:=F9.size;clear hb4
    go_wp2_with (first
     | (at_builtin;refine lg rfl _ _ rfl w1.heap.size _ _ rfl (wK VF _) _ (s.extract k b) rfl (aj5 _ _) (by omega) (by simp;omega) ?_;intro v6' w5 hown2 hgrow2;have apM:=Y hown2;have Ux:=Y (gQ.kept apK VF hgrow2);have HR2:=Y ((F9.alloc apL (.cells #[.string (s.extract k b)] 9)).grown hgrow2 (by simp;omega) (λj hj=>(VF.lt j hj).1));have apN:=HR2.size;clear hown2 hgrow2)
     | (at_builtin;refine nW rfl _ _ rfl w1.heap.size _ _ rfl (wK Ux _) _ (k:Int) rfl (JB _ _) (by omega) (by simp;omega) ?_;intro v7' w6 hown3 hgrow3;have apO:=Y hown3;have aj7:=Y (Own.kept apM Ux hgrow3);have HR3:=Y ((HR2.alloc apN (.cells #[.int .i64 (k:Int)] 3)).grown hgrow3 (by simp;omega) (λj hj=>(Ux.lt j hj).1));clear hown3 hgrow3)
     | fail)
    go_roundw;exact⟨b,hb2,rfl,HW.2,by rw[HW.1,gX];exact aj7,by rw[HW.1,gX];exact apO,HR3⟩;simp[intOf];omega
   ·have HT1:Hid (bS.tok s (k+1)=((bS.tok s k).1,false)):=Y (by rw[bS.tok,HB,c1];simp);go_wp2;go_roundw;exact⟨k+1,by omega,by go_num,(λh=>by rw[HT1]at h;cases h),by rw[HT1];exact xJ,by rw[HT1];exact EP,fT⟩;simp[intOf];omega
  ·have e:k=s.size:=by omega
   subst e;have hlen:=(wN s s.size).1;have HS:=Y (xJ.Yj (λt ht=>by obtain⟨p,_,rfl⟩:=iZ.1 ht;unfold bS.ext maxLen;rw[Rk];omega) (by rw[dV];omega));have HI:=Y (EP.ints (by rw[dV];omega));clear hlen;go_wp2;(try simp only[Exit.inBlock,Exit.then]);refine cZ (wT rfl _ _ _) rfl ?_;exact⟨_,_,apI (by rw[HE1];rfl) (by rw[HE2]),by rw[HE3];exact HS,by rw[HE4];exact HI,by rw[HE4];exact EP,by rw[HE3];exact xJ,fT⟩
