/- part -/
import Derived.Test.YtbgkpehhdibaoaaGreatDoorBZAG
import Derived.Deep.RegionHeld3
import Derived.Test.YtbgkpehhdibaoaaGreatDoorBZAF
import Derived.Test.YtbgkpehhdibaoaaGreatDoorBShelf2
set_option maxHeartbeats 0
set_option maxRecDepth 99999
namespace Go.Proofs.YtbgkpehhdibaoaaGreatDoor
open bN Rd
open Go.Proofs.Tryz
open Go.RowKit
variable{a b d j p n:Nat}{s:aY}{l:List UInt8}{w w':World}{ws:List aY}{ps:List Int}
theorem uG{fn:Func}{t u v x:Tmp}(h:fn.results=#[.tmp t,.tmp u,.tmp v,.tmp x])(tmps:Array Value)(P:Program)(w:World):(results fn tmps).run P w=.ok (.tuple #[tmps.getD t undef,tmps.getD u undef,tmps.getD v undef,tmps.getD x undef]) w:=by simp[results,h]
theorem ret4{v6 v7:Value}{a b c d:Int}(h:a=b)(h':c=d):dz (.tuple #[v6,v7,O a,O c])=dz (.tuple #[v6,v7,O b,O d]):=by rw[h,h']
theorem Ru(w:World)(t:aY):(w.alloc (aW #[A t] 9)).cell? (X w.heap.size 0)=some (A t):=by simp[go_sem]
theorem Gg(w:World)(z:Int):(w.alloc (aW #[O z] 3)).cell? (X w.heap.size 0)=some (O z):=by simp[go_sem]
theorem oD(h:s.toList=l):Rd.is s l=true:=by unfold Rd.is;rw[<-yK,h];simp
theorem oG(h:¬s.toList=l):Rd.is s l=false:=by unfold Rd.is;rw[<-yK];simpa using h
theorem nG(h:¬s.toList=l):(s.toList==l)=false:=by simpa using h
theorem wh(w:World)(s:aY):Calls prog 146 #[A s] w λe w'=>e=dz (.bool (Rd.plain s))/\w'=w:=by
 have HP:Hid (Rd.plain s=(!Rd.is s []&&!Rd.is s [40]&&!Rd.is s [41])):=rfl;by_cases h0:s.toList=[];·rw[oD h0]at HP;go_enter func146,ntmps146;go_wp2;go_ret;exact⟨aP (by rw[HP];rfl),rfl⟩
 rw[oG h0]at HP;by_cases h1:s.toList=[40];·rw[oD h1]at HP;go_enter func146,ntmps146;go_wp2;go_ret;exact⟨aP (by rw[HP];simp),rfl⟩
 rw[oG h1]at HP;by_cases h2:s.toList=[41];·rw[oD h2]at HP;go_enter func146,ntmps146;go_wp2;go_ret;exact⟨aP (by rw[HP];simp),rfl⟩
 ·rw[oG h2]at HP;go_enter func146,ntmps146;go_wp2;go_ret;exact⟨aP (by rw[HP];simp[h0,h1,h2]),rfl⟩
theorem Wz(w:World)(s:aY):Calls prog 271 #[A s] w λe w'=>e=dz (.bool (opc s))/\w'=w:=by
 have HP:Hid (opc s=(Rd.is s [43]||Rd.is s [45]||Rd.is s [42]||Rd.is s [60]||Rd.is s [61])):=rfl;by_cases h0:s.toList=[43];·rw[oD h0]at HP;go_enter func271,ntmps271;go_wp2;go_ret;exact⟨aP (by rw[HP];rfl),rfl⟩
 rw[oG h0]at HP;have bh0:=nG h0;by_cases h1:s.toList=[45];·rw[oD h1]at HP;go_enter func271,ntmps271;go_wp2;go_ret;exact⟨aP (by rw[HP];rfl),rfl⟩
 rw[oG h1]at HP;have bh1:=nG h1;by_cases h2:s.toList=[42];·rw[oD h2]at HP;go_enter func271,ntmps271;go_wp2;go_ret;exact⟨aP (by rw[HP];rfl),rfl⟩
 rw[oG h2]at HP;have bh2:=nG h2;by_cases h3:s.toList=[60];·rw[oD h3]at HP;go_enter func271,ntmps271;go_wp2;go_ret;exact⟨aP (by rw[HP];rfl),rfl⟩
 rw[oG h3]at HP;have bh3:=nG h3;by_cases h4:s.toList=[61];·rw[oD h4]at HP;go_enter func271,ntmps271;go_wp2;go_ret;exact⟨aP (by rw[HP];rfl),rfl⟩
 ·rw[oG h4]at HP;have bh4:=nG h4;go_enter func271,ntmps271;go_wp2;go_ret;exact⟨aP (by rw[HP];rfl),rfl⟩
theorem lW(w:World)(s:aY):Calls prog 269 #[A s] w λe w'=>e=dz (O (Rd.cmd s))/\w'=w:=by
 have HP:Hid (Rd.cmd s=if Rd.is s [115,101,116]then 1 else if Rd.is s [105,102]then 2 else if Rd.is s [119,104,105,108,101]then 3 else if Rd.is s [112,114,105,110,116]then 4 else 0):=rfl;by_cases h0:s.toList=[115,101,116];·rw[oD h0]at HP;go_enter func269,ntmps269;go_wp2;go_ret;exact⟨bT (by rw[HP];rfl),rfl⟩
 rw[oG h0]at HP;have bh0:=nG h0;by_cases h1:s.toList=[105,102];·rw[oD h1]at HP;go_enter func269,ntmps269;go_wp2;go_ret;exact⟨bT (by rw[HP];rfl),rfl⟩
 rw[oG h1]at HP;have bh1:=nG h1;by_cases h2:s.toList=[119,104,105,108,101];·rw[oD h2]at HP;go_enter func269,ntmps269;go_wp2;go_ret;exact⟨bT (by rw[HP];rfl),rfl⟩
 rw[oG h2]at HP;have bh2:=nG h2;by_cases h3:s.toList=[112,114,105,110,116];·rw[oD h3]at HP;go_enter func269,ntmps269;go_wp2;go_ret;exact⟨bT (by rw[HP];rfl),rfl⟩
 ·rw[oG h3]at HP;have bh3:=nG h3;go_enter func269,ntmps269;go_wp2;go_ret;exact⟨bT (by rw[HP];rfl),rfl⟩
theorem J3(s:aY):0<=Rd.cmd s/\Rd.cmd s<=4:=by
 unfold Rd.cmd;repeat' split
 all_goals decide
theorem Jk(w:World)(s:aY):Calls prog 239 #[A s] w λe w'=>e=dz (.bool (decide (Rd.cmd s≠0)))/\w'=w:=by
 go_enter func239,ntmps239;go_wp2_with fail;refine(lW _ s).mono ?_;rintro e w' ⟨rfl,hw⟩;subst hw;obtain⟨c,hc⟩:=bC (Rd.cmd s);have HC:=I hc;rw[<-hc];clear hc;by_cases h:c=0;·subst h;go_wp2;go_ret;exact⟨aP (by rw[<-HC];rfl),rfl⟩
 ·have h':=eP h;go_wp2;go_ret;exact⟨aP (by rw[<-HC];simp[h]),rfl⟩
theorem ZR(s:aY)(k:Nat)(hk:k<s.size):mq s[k]=true↔(48<=s[k].toNat/\s[k].toNat<=57):=by unfold mq;simp
theorem ZT(h:∀j (hj:j<s.size),mq s[j]=true):s.data.toList.all mq=true:=by rw[iB];intro x hx;obtain⟨j,hj,rfl⟩:=gZ.1 hx;exact h j (by simpa using hj)
theorem Ol(hj:j<s.size)(h:mq s[j]=false):s.data.toList.all mq=false:=by rw[Ar];exact⟨s[j],gZ.2 ⟨j,by simpa using hj,rfl⟩,by simp[h]⟩
theorem Lj(w:World)(s:aY)(hs:s.size<=maxLen):Calls prog 243 #[A s] w λe w'=>e=dz (.bool (Wo s))/\w'=w:=by
 unfold maxLen at hs;have HP:Hid (Wo s=(s.data.toList.all mq&&!Rd.is s [])):=rfl;go_enter func243,ntmps243;go_wp2;go_loop [3] (λi=>∃k:Nat,k<=s.size/\i=O k/\∀d (hd:d<s.size),d<k->mq s[d]=true) (λi=>s.size - (intOf i).toNat);case atStart=>exact⟨0,bL _,rfl,λd _ hd=>aM hd (fT _)⟩
 case round=>
  obtain⟨k,hk,rfl,hall⟩:=hrel;have HA:=I hall;clear hall;by_cases hlt:k<s.size
  ·have HD:=I (ZR s k hlt);by_cases c1:48<=s[k].toNat
   ·by_cases c2:s[k].toNat<=57
    ·go_wp2;go_round;case rel=>exact⟨k+1,by omega,by go_num,λd hd hdk=>by
      by_cases e:d=k;·subst e;exact HD.2 ⟨c1,c2⟩
      ·exact HA d hd aX⟩
     case measure=>simp[intOf];omega
    ·have HN:Hid (mq s[k]=false):=I (by
      cases hh:mq s[k];·rfl
      ·exact aM (HD.1 hh).2 c2)
     go_wp2;go_ret;exact⟨aP (by rw[HP,Ol hlt HN];rfl),rfl⟩
   ·have HN:Hid (mq s[k]=false):=I (by
     cases hh:mq s[k];·rfl
     ·exact aM (HD.1 hh).1 c1)
    go_wp2;go_ret;exact⟨aP (by rw[HP,Ol hlt HN];rfl),rfl⟩
  ·have fF:Hid (s.data.toList.all mq=true):=I (ZT (λj hj=>HA j hj aX));by_cases h0:s.toList=[];·rw[oD h0]at HP;go_wp2;go_ret;exact⟨aP (by rw[HP,fF];simp),rfl⟩
   ·rw[oG h0]at HP;go_wp2;go_ret;exact⟨aP (by rw[HP,fF];simp[h0]),rfl⟩
def dh(w:World)(p:Nat)(ws:List aY)(ps:List Int)(d:Nat)(st:Sr):Prop:=
 ∃(aw:Option Addr) (cw:Nat) (vs:Value),w.heap[p]?=some (.cells #[.slice aw ws.length cw,vs,.int .i64 ((ws.length - st.r.length:Nat):Int),.int .i64 (d:Nat),.bool st.f] 119 (0,0))/\
  Strs (only (λb=>decide (b<p)) w) (.slice aw ws.length cw) ws/\Ints (only (λb=>decide (b<p)) w) vs ps/\
  (∃g tp x t fz,prog.globalNamed "strconv.ErrSyntax" = some g/\g<p/\w.heap[g]?=some (.cells #[.iface tp x] t fz))/\
  st.r <:+ ws/\ws.length<=4096/\(∀x∈ws,x.size<=4096)/\ps.length=ws.length+1
theorem dh.keep{st:Sr}(h:dh w p ws ps d st)(hk:∀k,k<=p->w'.heap[k]?=w.heap[k]?):dh w' p ws ps d st:=by
 obtain⟨aw,cw,vs,h1,h2,h3,⟨g,tp,x,t,fz,h4,h5,h6⟩,h7⟩:=h;have hs:Sub (only (λb=>decide (b<p)) w) (only (λb=>decide (b<p)) w'):=λa v hv=>by obtain⟨b1,b2⟩:=bM.1 hv;refine bM.2 ⟨b1,?_⟩;have:=jw b1;rw[jJ (w:=w) (hk _ aX)];exact b2
 refine⟨aw,cw,vs,by rw[hk p (bE _)];exact h1,h2.sub hs,?_,⟨g,tp,x,t,fz,h4,h5,by rw[hk g aX];exact h6⟩,h7⟩;obtain⟨a,b,off,cap,e,h0,hl,h1'⟩:=h3;exact⟨a,b,off,cap,e,h0,hl,λj z hz=>hs _ _ (h1' j z hz)⟩
theorem dh.lt{st:Sr}(h:dh w p ws ps d st):p<w.heap.size:=by obtain⟨aw,cw,vs,h1,_⟩:=h;exact bq h1
theorem dh.below{st:Sr}(h:dh w p ws ps d st)(hb:bG w w'):dh w' p ws ps d st:=
 h.keep (λk hk=>hb.block k (by have:=h.lt;omega))
theorem dh.set{st:Sr}(h:dh w p ws ps d st){a:Addr}(ha:p<a.block)(v:Value):dh (w.setCell a v) p ws ps d st:=
 h.keep (λk hk=>um _ _ _ _ aX)
theorem dh.grown{st:Sr}{r:Option Nat}(h:dh w p ws ps d st)(hg:w.grownBy w' r)(hr:∀k,r=some k->p<k):dh w' p ws ps d st:=
 h.keep (λk hk=>hg.block k (by have:=h.lt;omega) (λe=>by have:=hr k e.symm;omega))
theorem dh.drew{st:Sr}(h:dh w p ws ps d st)(n:Nat):dh (w.drewN n) p ws ps d st:=h.keep (λ_ _=>rfl)
theorem Fq{st:Sr}(h:dh w p ws ps d st)(n:Nat):(N8 st n).size<=4096:=by
 obtain⟨aw,cw,vs,_,_,_,_,h7,_,h8,_⟩:=h;unfold N8;split;·exact bL _
 ·by_cases hn:n<st.r.length
  ·have e:st.r.getD n ⟨#[]⟩=st.r[n]:=by simp[hn]
   rw[e];exact h8 _ (h7.subset (kP hn))
  ·have e:st.r.getD n ⟨#[]⟩=⟨#[]⟩:=by simp[List.getD,Om (Nat.le_of_not_lt hn)]
   rw[e];exact bL _
theorem Gh(w:World)(p:Nat)(ws:List ByteArray)(ps:List Int)(d:Nat)(st:Sr)(h:dh w p ws ps d st)(n:Nat)(hn:n<=1):Calls prog 147 #[.pointer (some ⟨p,0,none⟩),.int .i64 n] w λe w'=>e=.returned (.string (N8 st n))/\dh w' p ws ps d st/\But p w w':=by
 have HR:=I h;obtain⟨aw,cw,vs,h1,h2,h3,h4,h7,h8,h9,h10⟩:=h;obtain⟨q0,q2,q4⟩:=l9 (aj h1 0) (aj h1 2) (aj h1 4);simp only[wm,List.getElem?_cons_zero,UF]at q0 q2 q4;have hle:st.r.length<=ws.length:=h7.length_le;have HPK:Hid (N8 st n=if st.f then ⟨#[]⟩else st.r.getD n ⟨#[]⟩):=rfl;cases hf:st.f
 ·rw[hf]at q4 HPK;obtain⟨nx,hnx⟩:=bC (ws.length - st.r.length);rw[<-hnx]at q2;by_cases hlt:n<st.r.length
  ·have hgt:st.r.getD n ⟨#[]⟩=ws.getD (nx+n) ⟨#[]⟩:=by
    obtain⟨t,ht⟩:=h7;have e1:nx=t.length:=by rw[<-ht]at hnx;rw[aT]at hnx;omega
    rw[<-ht,e1,List.getD,List.getD,oq (by omega)];congr 2;omega
   obtain⟨a,b,off,cap,hv,ha,_,_,hc⟩:=h2;have hcell:=(bM.1 (hc (nx+n) (by omega))).2;obtain rfl:aw=a:=by simpa using(congrArg (λv=>match v with|Value.slice a _ _=>a|_=>none) hv)
   obtain rfl:=ha (by omega);have HG:Hid (N8 st n=ws.getD (nx+n) ByteArray.empty):=I (by rw[HPK];exact hgt);have b1:¬((nx:Int)+n>=(ws.length:Int)):=by omega
   have b2:(0:Int)<=(nx:Int)+n:=by omega
   have b3:(nx:Int)+n<(ws.length:Int):=by omega
   have b4:(nx:Int)<=4096:=by omega
   have b5:(n:Int)<=1:=by omega
   have b6:decide ((nx:Int)+n>=(ws.length:Int))=false:=gG b1;have e1:((nx:Int)+n).toNat=nx+n:=by omega
   rw[HG];clear h1 h3 h4 h7 h9 h10 hc hgt hv hnx hle hf ha;generalize ws.getD (nx+n) ByteArray.empty=x at *;generalize ws.length=len at *;go_enter func147,ntmps147;go_wp2;go_quiet (fail);go_wp2;go_quiet (fail);go_wp2;go_ret;exact⟨rfl,(HR.out.drew _).drew _,((But.refl _ _).drew _).drew _⟩
  ·have HG:Hid (N8 st n=⟨#[]⟩):=I (by rw[HPK,aJ (by simp),List.getD,Om (Nat.le_of_not_lt hlt)];rfl);have b1:(nx:Int)+n>=(ws.length:Int):=by omega
   have b4:(nx:Int)<=4096:=by omega
   have b5:(n:Int)<=1:=by omega
   have b6:decide ((nx:Int)+n>=(ws.length:Int))=true:=gq b1;rw[HG];clear h1 h2 h3 h4 h7 h9 h10 hnx hle hf hlt;generalize ws.length=len at *;go_enter func147,ntmps147;go_wp2;go_quiet (fail);go_wp2;go_ret;exact⟨rfl,HR.out.drew _,(But.refl _ _).drew _⟩
 ·rw[hf]at q4 HPK;have HG:Hid (N8 st n=⟨#[]⟩):=HPK;rw[HG];clear h1 h2 h3 h4 h7 h9 h10 hle hf;go_enter func147,ntmps147;go_wp2;go_quiet (fail);go_wp2;go_ret;exact⟨rfl,HR.out.drew _,(But.refl _ _).drew _⟩
section
variable (w : World) (p : Nat) (ws : List ByteArray) (ps : List Int) (d : Nat) (st : Rd.Sr) (h : dh w p ws ps d st)
include h
theorem gK:Calls prog 88 #[iO p] w λe w'=>e=dz (A (Rd.pk st))/\dh w' p ws ps d st/\But p w w':=by go_enter func88,ntmps88;go_wp2_with fail;refine(Gh w p ws ps d st h 0 aX).mono ?_;rintro e w' ⟨rfl,h1,h2⟩;go_wp2;go_ret;exact⟨rfl,h1,h2⟩
theorem Rv:Calls prog 240 #[iO p] w λe w'=>e=dz (A (N8 st 1))/\dh w' p ws ps d st/\But p w w':=by go_enter func240,ntmps240;go_wp2_with fail;refine(Gh w p ws ps d st h 1 aX).mono ?_;rintro e w' ⟨rfl,h1,h2⟩;go_wp2;go_ret;exact⟨rfl,h1,h2⟩
theorem Gi{st':Sr}{d':Nat}(i:Nat)(v:Value)(hr:st'.r <:+ ws)(hc:∀aw cw vs,(#[Y aw ws.length cw,vs,O ((ws.length - st.r.length:Nat):Int),O (d:Nat),.bool st.f]:Array Value).setIfInBounds i v=#[Y aw ws.length cw,vs,O ((ws.length - st'.r.length:Nat):Int),O (d':Nat),.bool st'.f]):dh (w.setCell (X p i) v) p ws ps d' st'/\But p w (w.setCell (X p i) v):=by refine⟨?_,(But.refl p w).set (a:=(X p i)) (aR rfl) v⟩;obtain⟨aw,cw,vs,h1,h2,h3,⟨g,tp,x,t,fz,h4,h5,h6⟩,h7,h8⟩:=h;have hs:Sub (only (λb=>decide (b<p)) w) (only (λb=>decide (b<p)) (w.setCell (X p i) v)):=((But.refl p w).set (a:=(X p i)) (aR rfl) v).sub (gG (Nat.lt_irrefl _));refine⟨aw,cw,vs,by rw[aO h1,hc],h2.sub hs,?_,⟨g,tp,x,t,fz,h4,h5,bI h6 (by simp;omega) _⟩,hr,h8⟩;obtain⟨a,b,off,cap,e,h0,hl,h1'⟩:=h3;exact⟨a,b,off,cap,e,h0,hl,λj z hz=>hs _ _ (h1' j z hz)⟩
theorem dh.suffix:st.r <:+ ws:=by obtain⟨_,_,_,_,_,_,_,h7,_⟩:=h;exact h7
theorem dh.len:ws.length<=4096:=by obtain⟨_,_,_,_,_,_,_,_,h7,_⟩:=h;exact h7
theorem dh.cells:∃aw cw vs,w.cell? (X p 0)=some (Y aw ws.length cw)/\w.cell? (X p 1)=some vs/\w.cell? (X p 2)=some (O ((ws.length - st.r.length:Nat):Int))/\w.cell? (X p 3)=some (O (d:Nat))/\w.cell? (X p 4)=some (.bool st.f)/\∀i,w.frozen? (X p i)=false:=by obtain⟨aw,cw,vs,h1,_⟩:=h;exact⟨aw,cw,vs,aj h1 0,aj h1 1,aj h1 2,aj h1 3,aj h1 4,λi=>aG h1 i⟩
theorem kY:Calls prog 91 #[iO p] w λe w'=>e=dz (.tuple #[])/\dh w' p ws ps d (Rd.fl st)/\But p w w':=by have HS:=I (Gi w p ws ps d st h (st':=Rd.fl st) (d':=d) 4 (.bool true) h.suffix (λ_ _ _=>rfl));obtain⟨aw,cw,vs,_,_,_,_,q4,z⟩:=h.cells;have z4:=z 4;clear z h;go_enter func91,ntmps91;go_wp2;go_end0;exact⟨rfl,HS⟩
theorem iq:Calls prog 145 #[iO p] w λe w'=>e=dz (A (Rd.pk st))/\dh w' p ws ps d (Rd.tk st)/\But p w w':=by
 have HT:Hid (Rd.tk st=if Rd.is (Rd.pk st) []then Rd.fl st else ⟨st.r.tail,st.f⟩):=rfl;have HP:Hid (Rd.is (Rd.pk st) []=false->st.r≠[]):=I (λh1 h2=>by
  have e:Rd.pk st=⟨#[]⟩:=by unfold Rd.pk N8;rw[h2];cases st.f<;>rfl
  rw[e]at h1;cases h1)
 go_enter func145,ntmps145;go_wp2_with fail;refine(gK w p ws ps d st h).mono ?_;rintro e w1 ⟨rfl,h1,hb1⟩;obtain⟨x,hx⟩:=bC (Rd.pk st);have HX:=I hx;rw[<-hx]at HT HP ⊢;clear hx h;by_cases h0:x.toList=[]
 ·rw[oD h0,aL rfl]at HT;go_wp2_with fail;refine(kY w1 p ws ps d st h1).mono ?_;rintro e w2 ⟨rfl,h2,hb2⟩;go_wp2;go_ret;refine⟨?_,by rw[HT];exact h2,hb1.trans hb2⟩;have e0:x=⟨#[]⟩:=by cases x with|mk x=>congr 1;rw[yK]at h0;exact Array.toList_inj.1 h0
  rw[<-HX,e0];rfl
 ·rw[oG h0,aJ dx]at HT;have h0b:x.toList.isEmpty=false:=by simpa using h0
  obtain⟨hne,hsf⟩:=eY (HP (oG h0)) h1.suffix;obtain⟨hll,hlen⟩:=eY hsf.length_le h1.len;have hpos:0<st.r.length:=sQ.2 hne;have HS:=I (Gi w1 p ws ps d st h1 (st':=⟨st.r.tail,st.f⟩) (d':=d) 2 (O ((ws.length - st.r.length:Nat)+1:Int)) ((List.tail_suffix _).trans hsf) (λ_ _ _=>by
   have e:((ws.length - st.r.length:Nat)+1:Int)=((ws.length - st.r.tail.length:Nat):Int):=by rw[List.length_tail];omega
   rw[e];rfl))
  obtain⟨aw,cw,vs,_,_,q2,_,_,z⟩:=h1.cells;have z2:=z 2;obtain⟨nx,hnx⟩:=bC (ws.length - st.r.length);have rW:(nx:Int)<=4096:=by omega
  rw[<-hnx]at HS q2;clear z h1 hnx;go_wp2;go_ret;exact⟨by rw[<-HX];rfl,by rw[HT];exact HS.1,hb1.trans HS.2⟩
theorem rG(a:aY):Calls prog 86 #[iO p,A a] w λe w'=>e=dz (.tuple #[])/\dh w' p ws ps d (Rd.kw a.data.toList st)/\But p w w':=by
 have HT:Hid (Rd.kw a.data.toList st=if Rd.is (Rd.pk st) a.data.toList then Rd.tk st else Rd.fl st):=rfl;go_enter func86,ntmps86;go_wp2_with fail;refine(gK w p ws ps d st h).mono ?_;rintro e w1 ⟨rfl,h1,hb1⟩;by_cases h0:(Rd.pk st).toList=a.toList
 ·rw[oD (by rw[h0,yK]),aL rfl]at HT;have h0':((Rd.pk st).toList != a.toList)=false:=by simp[h0]
  go_wp2_with fail;refine(iq w1 p ws ps d st h1).mono ?_;rintro e w2 ⟨rfl,h2,hb2⟩;go_wp2;go_end0;exact⟨rfl,by rw[HT];exact h2,hb1.trans hb2⟩
 ·rw[oG (by rw[<-yK];exact h0),aJ dx]at HT;have h0':((Rd.pk st).toList != a.toList)=true:=by simpa using h0
  have h0'':((Rd.pk st).toList==a.toList)=false:=by simpa using h0
  go_wp2_with fail;refine(kY w1 p ws ps d st h1).mono ?_;rintro e w2 ⟨rfl,h2,hb2⟩;go_wp2;(try simp only[Exit.inBlock,Exit.then]);refine bV (results_none rfl _ _ _) rfl ?_;exact⟨rfl,by rw[HT];exact h2,hb1.trans hb2⟩
theorem kZ(hd:d<=100):Calls prog 85 #[iO p] w λe w'=>e=dz (.tuple #[])/\dh w' p ws ps (d+1) (Rd.op d st)/\But p w w':=by
 have HM:Hid (Rd.op d st=Rd.kw [40] (if d=20 then Rd.fl st else st)):=rfl;obtain⟨_,_,_,_,_,_,q3,_,_⟩:=h.cells;have hd':(d:Int)<=100:=by omega
 by_cases h20:d=20;·rw[aL h20]at HM;subst h20;go_enter func85,ntmps85;go_wp2_with fail;refine(kY w p ws ps _ st h).mono ?_;rintro e w1 ⟨rfl,h1,hb1⟩;clear q3;go_wp2_with fail;refine(rG w1 p ws ps _ _ h1 ⟨#[40]⟩).mono ?_;rintro e w2 ⟨rfl,h2,hb2⟩;have HS:=I (Gi w2 p ws ps 20 _ h2 (st':=Rd.kw [40] (Rd.fl st)) (d':=20+1) 3 (O 21) h2.suffix (λ_ _ _=>rfl));obtain⟨_,_,_,_,_,_,q3,_,z⟩:=h2.cells;have z3:=z 3;clear z h2;go_wp2;go_end0;exact⟨rfl,by rw[HM];exact HS.1,(hb1.trans hb2).trans HS.2⟩
 ·rw[aJ h20]at HM;have h20':((d:Int)==20)=false:=by simp;omega
  go_enter func85,ntmps85;go_wp2_with fail;clear q3;refine(rG w p ws ps d _ h ⟨#[40]⟩).mono ?_;rintro e w2 ⟨rfl,h2,hb2⟩;have HS:=I (Gi w2 p ws ps d _ h2 (st':=Rd.kw [40] st) (d':=d+1) 3 (O ((d:Int)+1)) h2.suffix (λ_ _ _=>rfl));obtain⟨_,_,_,_,_,_,q3,_,z⟩:=h2.cells;have z3:=z 3;clear z h2;go_wp2;go_end0;exact⟨rfl,by rw[HM];exact HS.1,hb2.trans HS.2⟩
end
section
variable (w : World) (p : Nat) (ws : List ByteArray) (ps : List Int) (d : Nat) (st : Rd.Sr)
theorem iP(h:dh w p ws ps (d+1) st)(hd:d<=100):Calls prog 90 #[iO p] w λe w'=>e=dz (.tuple #[])/\dh w' p ws ps d (Rd.sh st)/\But p w w':=by
 have hd':(d:Int)<=100:=by omega
 go_enter func90,ntmps90;go_wp2_with fail;refine(rG w p ws ps (d+1) _ h ⟨#[41]⟩).mono ?_;rintro e w2 ⟨rfl,h2,hb2⟩;have HS:=I (Gi w2 p ws ps (d+1) _ h2 (st':=Rd.sh st) (d':=d) 3 (O (d:Nat)) h2.suffix (λ_ _ _=>rfl));obtain⟨_,_,_,_,_,_,q3,_,z⟩:=h2.cells;have z3:=z 3;have e3:((d+1:Nat):Int)=(d:Int)+1:=by omega
 rw[e3]at q3;clear z h2 h;go_wp2;go_end0;refine⟨rfl,?_,?_⟩;·have:=HS.1;simpa using this
 ·have:=hb2.trans HS.2;simpa using this
variable (h : dh w p ws ps d st)
include h
theorem end_any:Calls prog 50 #[iO p] w λe w'=>e=dz (.tuple #[])/\dh w' p ws ps d (Wq st)/\But p w w':=by
 have HT:Hid (Wq st=if Rd.is (Rd.pk st) []then st else Rd.fl st):=rfl;go_enter func50,ntmps50;go_wp2_with fail;refine(gK w p ws ps d st h).mono ?_;rintro e w1 ⟨rfl,h1,hb1⟩;by_cases h0:(Rd.pk st).toList=[];·rw[oD h0,aL rfl]at HT;go_wp2;go_end0;exact⟨rfl,by rw[HT];exact h1,hb1⟩
 ·rw[oG h0,aJ dx]at HT;have h0b:(Rd.pk st).toList.isEmpty=false:=by simpa using h0
  go_wp2_with fail;refine(kY w1 p ws ps d st h1).mono ?_;rintro e w2 ⟨rfl,h2,hb2⟩;go_wp2;go_end0;exact⟨rfl,by rw[HT];exact h2,hb1.trans hb2⟩
theorem jW:Calls prog 87 #[iO p] w λe w'=>e=dz (A (Rd.gF st).1)/\dh w' p ws ps d (Rd.gF st).2/\But p w w':=by
 have HT:Hid (Rd.gF st=(Rd.pk (if Rd.plain (Rd.pk st)then st else Rd.fl st),Rd.tk (if Rd.plain (Rd.pk st)then st else Rd.fl st))):=rfl;go_enter func87,ntmps87;go_wp2_with fail;refine(gK w p ws ps d st h).mono ?_;rintro e w1 ⟨rfl,h1,hb1⟩;go_wp2_with fail;refine(wh _ _).mono ?_;rintro e w2 ⟨rfl,hw⟩;subst hw;generalize hp:Rd.plain (Rd.pk st)=b at *;cases b;·rw[aJ dx]at HT;go_wp2_with fail;refine(kY w2 p ws ps d st h1).mono ?_;rintro e w3 ⟨rfl,h3,hb3⟩;go_wp2_with fail;refine(iq w3 p ws ps d _ h3).mono ?_;rintro e w4 ⟨rfl,h4,hb4⟩;go_wp2;go_ret;exact⟨by rw[HT];rfl,by rw[HT];exact h4,(hb1.trans hb3).trans hb4⟩
 ·rw[aL rfl]at HT;go_wp2_with fail;refine(iq w2 p ws ps d _ h1).mono ?_;rintro e w4 ⟨rfl,h4,hb4⟩;go_wp2;go_ret;exact⟨by rw[HT];rfl,by rw[HT];exact h4,hb1.trans hb4⟩
theorem WC:Calls prog 51 #[iO p] w λe w'=>e=dz (O (ps.getD (ws.length - st.r.length) 0))/\bG w w':=by
 obtain⟨aw,cw,vs,h1,h2,h3,h4,h7,h8,h9,h10⟩:=h;obtain⟨q1,q2⟩:=eY (aj h1 1) (aj h1 2);simp only[wm,List.getElem?_cons_zero,UF]at q1 q2;obtain⟨nx,hnx⟩:=bC (ws.length - st.r.length);rw[<-hnx]at q2 ⊢;obtain⟨a,b,off,cap,rfl,ha,hl,hc⟩:=h3;have hlt:nx<ps.length:=by omega
 have hcell:=(bM.1 (hc nx _ (bD hlt))).2;obtain rfl:=ha aX;have e1:ps.getD nx 0=ps[nx]:=by simp[hlt]
 rw[e1];have b2:(0:Int)<=(nx:Int):=by omega
 have b3:(nx:Int)<(ps.length:Int):=by omega
 clear h1 h2 h4 h7 h9 hc hnx ha e1;generalize ps[nx]=x at *;generalize ps.length=len at *;go_enter func51,ntmps51;go_wp2;go_quiet (fail);go_wp2;go_ret;exact⟨rfl,nI (bP _ _) _⟩
end
section
variable (w : World) (c0 c1 c2 c3 d0 d1 d2 d3 : Value) (t : TypeId)
end
def uZ(w:World)(m:Nat)(v:Value)(l:List Ex):Prop:=
 ∃(a:Option Addr) (b off cap:Nat),v=.slice a l.length cap/\(0<l.length->a=some ⟨b,off,none⟩)/\l.length<=9223372036854775807/\
  ∀i y,l[i]?=some y->∃e0 e1 e2 e3,w.cell? ⟨b,off+i*4,none⟩=some e0/\w.cell? ⟨b,off+i*4+1,none⟩=some e1/\w.cell? ⟨b,off+i*4+2,none⟩=some e2/\w.cell? ⟨b,off+i*4+3,none⟩=some e3/\gT w m e0 e1 e2 e3 y
theorem WE(w:World)(s:aY)(hs:s.size<=281474976710656):Calls prog 84 #[A s] w λe w'=>e=dz (A s)/\bG w w':=by have HC:=I (Tryz.stringslite_Clone s w hs);go_enter func84,ntmps84;go_wp2_with fail;refine HC.mono ?_;rintro e w' ⟨rfl,hb⟩;go_wp2;go_ret;exact⟨rfl,hb⟩
theorem yL(w:World)(c:UInt8):Calls prog 82 #[.int .u8 (c.toNat:Int)] w λe w'=>e=dz (.bool (qD c.toNat))/\w'=w:=by
 have HB:Hid (qD c.toNat=(c.toNat==32||c.toNat==10)):=rfl;generalize c.toNat=n at *;by_cases h1:n=32
 ·have c1:((n:Int)==32)=true:=by simp[h1]
  go_enter func82,ntmps82;go_wp2;go_ret;exact⟨aP (by rw[HB,h1];rfl),rfl⟩
 ·have c1:((n:Int)==32)=false:=by simp;omega
  go_enter func82,ntmps82;go_wp2;go_ret;exact⟨aP (by rw[HB,sK];simp;omega),rfl⟩
theorem yM(w:World)(c:UInt8):Calls prog 142 #[.int .u8 (c.toNat:Int)] w λe w'=>e=dz (.bool (mI c.toNat))/\w'=w:=by
 have HB:Hid (mI c.toNat=(c.toNat==40||c.toNat==41)):=rfl;generalize c.toNat=n at *;by_cases h1:n=40
 ·have c1:((n:Int)==40)=true:=by simp[h1]
  go_enter func142,ntmps142;go_wp2;go_ret;exact⟨aP (by rw[HB,h1];rfl),rfl⟩
 ·have c1:((n:Int)==40)=false:=by simp;omega
  go_enter func142,ntmps142;go_wp2;go_ret;exact⟨aP (by rw[HB,sK];simp;omega),rfl⟩
theorem sign_at(c:UInt8):decide (0<=Lib.indexByte [46,43,45,42,60,61] c)=(c.toNat==46||c.toNat==43||c.toNat==45||c.toNat==42||c.toNat==60||c.toNat==61):=by
 have h:∀n:Fin 256,decide (0<=Lib.indexByte [46,43,45,42,60,61] (UInt8.ofNat n.val))=(n.val==46||n.val==43||n.val==45||n.val==42||n.val==60||n.val==61):=by decide +kernel
 have:=h ⟨c.toNat,c.toNat_lt⟩;simpa using this
theorem Gj(w:World)(c:UInt8):Calls prog 143 #[.int .u8 (c.toNat:Int)] w λe w'=>e=dz (.bool (qE c.toNat))/\w'=w:=by
 have HB:Hid (qE c.toNat=((decide (97<=c.toNat)&&decide (c.toNat<=122))||(decide (48<=c.toNat)&&decide (c.toNat<=57))||c.toNat==46||c.toNat==43||c.toNat==45||c.toNat==42||c.toNat==60||c.toNat==61)):=rfl;have HI:Hid (∀w,Calls prog 198 #[A ⟨#[46,43,45,42,60,61]⟩,.int .u8 (c.toNat:Int)] w λe w'=>∃z:Int,e=dz (O z)/\decide (0<=z)=(c.toNat==46||c.toNat==43||c.toNat==45||c.toNat==42||c.toNat==60||c.toNat==61)/\w'=w):=I (λw=>by refine(Tryz.strings_IndexByte ⟨#[46,43,45,42,60,61]⟩ (c.toNat:Int) w).mono ?_;rintro e w' ⟨rfl,rfl⟩;refine⟨_,rfl,?_,rfl⟩;rw[<-sign_at];simp);generalize c.toNat=n at *;by_cases l1:97<=n/\n<=122
 ·have f1:(97:Int)<=(n:Int):=by omega
  have f2:(n:Int)<=122:=by omega
  go_enter func143,ntmps143;go_wp2;go_ret;exact⟨aP (by rw[HB,sK];simp;omega),rfl⟩
 by_cases l2:48<=n/\n<=57
 ·have f1:¬(97:Int)<=(n:Int):=by omega
  have f3:(48:Int)<=(n:Int):=by omega
  have f4:(n:Int)<=57:=by omega
  go_enter func143,ntmps143;go_wp2;go_ret;exact⟨aP (by rw[HB,sK];simp;omega),rfl⟩
 have hcase:n<48\/(57<n/\n<97)\/122<n:=by omega
 have HB2:Hid (qE n=(n==46||n==43||n==45||n==42||n==60||n==61)):=I (by rw[HB,sK];simp;omega);rcases hcase with l|l|l;case' inl=>
  have f1:¬(97:Int)<=(n:Int):=by omega
  have f3:¬(48:Int)<=(n:Int):=by omega
 case' inr.inl=>
  have f1:¬(97:Int)<=(n:Int):=by omega
  have f3:(48:Int)<=(n:Int):=by omega
  have f4:¬(n:Int)<=57:=by omega
 case' inr.inr=>
  have f1:(97:Int)<=(n:Int):=by omega
  have f2:¬(n:Int)<=122:=by omega
  have f3:(48:Int)<=(n:Int):=by omega
  have f4:¬(n:Int)<=57:=by omega
 all_goals clear l l1 l2;go_enter func143,ntmps143;go_wp2_with fail;refine(HI _).mono ?_;rintro e w' ⟨z,rfl,hz,hw⟩;subst hw;have HZ:=I hz;clear hz;go_wp2;go_ret;exact⟨aP (by rw[HB2];exact HZ),rfl⟩
theorem AL(w:World)(s:aY)(hs:s.size<=4096):Calls prog 81 #[A s] w λe w'=>e=dz (O ((((Ay s).getD s.size:Nat)):Int))/\w'=w:=by
 go_enter func81,ntmps81;go_wp2;go_loop [3] (λi=>∃k:Nat,k<=s.size/\i=O k/\∀d,d<k->Ji s d=true) (λi=>s.size - (intOf i).toNat);case atStart=>exact⟨0,bL _,rfl,λd hd=>aM hd (fT _)⟩
 case round=>
  obtain⟨k,hk,rfl,hall⟩:=hrel;have fF:=I hall;clear hall;by_cases hlt:k<s.size
  ·have HB:=I (Uv s k hlt);have IZ:Hid (Ji s k=(qD (bN.bt s k)||mI (bN.bt s k)||qE (bN.bt s k))):=rfl;rw[HB]at IZ;have HOKS:Hid (Ji s k=true->∀d,d<k+1->Ji s d=true):=I (λh d hd=>by
    by_cases e:d=k;·subst e;exact h
    ·exact fF d aX)
   have b1:(0:Int)<=(k:Int):=by omega
   have b3:(k:Int)<(s.size:Int):=by omega
   go_wp2_with fail;refine(yL _ s[k]).mono ?_;rintro e w' ⟨rfl,hw⟩;subst hw;cases c1:qD s[k].toNat
   ·go_wp2_with fail;refine(yM _ s[k]).mono ?_;rintro e w' ⟨rfl,hw⟩;subst hw;cases c2:mI s[k].toNat
    ·go_wp2_with fail;refine(Gj _ s[k]).mono ?_;rintro e w' ⟨rfl,hw⟩;subst hw;cases c3:qE s[k].toNat;·have HBAD:Hid (Ay s=some k):=I (qx hlt (λd hd=>by rw[fF d hd];rfl) (by rw[IZ,c1,c2,c3];rfl));go_wp2;go_ret;exact⟨bT (by rw[HBAD];rfl),rfl⟩
     ·have HK:Hid (Ji s k=true):=I (by rw[IZ,c1,c2,c3];rfl);go_wp2;go_round;case rel=>exact⟨k+1,by omega,by go_num,HOKS HK⟩
      case measure=>simp[intOf];omega
    ·have HK:Hid (Ji s k=true):=I (by rw[IZ,c1,c2];rfl);go_wp2;go_round;case rel=>exact⟨k+1,by omega,by go_num,HOKS HK⟩
     case measure=>simp[intOf];omega
   ·have HK:Hid (Ji s k=true):=I (by rw[IZ,c1];rfl);go_wp2;go_round;case rel=>exact⟨k+1,by omega,by go_num,HOKS HK⟩
    case measure=>simp[intOf];omega
  ·have HBAD:Hid (Ay s=none):=I (kE (λd hd=>by rw[fF d aX];rfl));go_wp2;go_ret;exact⟨bT (by rw[HBAD];rfl),rfl⟩
namespace bN
def ZU(s:aY)(a b:Nat):Prop:=
 a<b/\b<=s.size/\((mI (bN.bt s a)=true/\b=a+1)\/(mI (bN.bt s a)=false/\(∀d,a<d->d<b->qE (bN.bt s d)=true)/\(b=s.size\/qE (bN.bt s b)=false)))
end bN
theorem Oo(w:World)(s:aY)(a:Nat)(hs:s.size<=4096)(ha:a<s.size):Calls prog 83 #[A s,O (a:Int)] w λe w'=>∃b:Nat,e=dz (O (b:Int))/\ZU s a b/\w'=w:=by
 have HB:=I (Uv s a ha);have b1:(0:Int)<=(a:Int):=by omega
 have b3:(a:Int)<(s.size:Int):=by omega
 go_enter func83,ntmps83;go_wp2_with fail;refine(yM _ s[a]).mono ?_;rintro e w' ⟨rfl,hw⟩;subst hw;cases c1:mI s[a].toNat
 ·go_wp2;go_loop [5] (λi=>∃k:Nat,a<k/\k<=s.size/\i=O k/\∀d,a<d->d<k->qE (bN.bt s d)=true) (λi=>s.size - (intOf i).toNat);case atStart=>exact⟨a+1,by omega,by omega,by go_num,λd h1 h2=>aM h2 aX⟩
  case round=>
   obtain⟨k,hk1,hk,rfl,hall⟩:=hrel;have fF:=I hall;clear hall;by_cases hlt:k<s.size
   ·have oP:=I (Uv s k hlt);have d1:(0:Int)<=(k:Int):=by omega
    have d3:(k:Int)<(s.size:Int):=by omega
    go_wp2_with fail;refine(Gj _ s[k]).mono ?_;rintro e w' ⟨rfl,hw⟩;subst hw;cases c3:qE s[k].toNat;·go_wp2;go_ret;exact⟨k,rfl,⟨hk1,hk,aV ⟨by rw[HB];exact c1,fF,aV (by rw[oP];exact c3)⟩⟩,rfl⟩
    ·go_wp2;go_round;case rel=>exact⟨k+1,by omega,by omega,by go_num,λd h1 h2=>by
      by_cases e:d=k;·subst e;rw[oP];exact c3
      ·exact fF d h1 aX⟩
     case measure=>simp[intOf];omega
   ·go_wp2;go_ret;exact⟨k,rfl,⟨hk1,hk,aV ⟨by rw[HB];exact c1,fF,aR aX⟩⟩,rfl⟩
 ·go_wp2;go_ret;exact⟨a+1,by go_num,⟨by omega,by omega,aR ⟨by rw[HB];exact c1,rfl⟩⟩,rfl⟩
theorem ZV(h:qE n=true):qD n=false/\mI n=false:=by unfold qE at h;unfold qD mI;simp only[Gl,dJ,gP,beq_iff_eq]at h;simp only[Bool.or_eq_false_iff,beq_eq_false_iff_ne];omega
theorem Oq(h1:qD (bN.bt s a)=false)(h2:mI (bN.bt s a)=false)(h3:(bN.tok s a).2=false):
 ∀b,a<b->(∀d,a<d->d<b->qE (bN.bt s d)=true)->bN.tok s b=((bN.tok s a).1++[(a,b)],true)
 | 0,hb,_=>aM hb aX
 | b+1,hb,h=>by
  by_cases e:a=b;·subst e;simp only[bN.tok,h1,h2,h3,aJ gN]
  ·have ih:=Oq h1 h2 h3 b aX (λd d1 d2=>h d d1 aX);obtain⟨g1,g2⟩:=ZV (h b aX aX);rw[bN.tok,ih,g1,g2];simp
theorem ZW(h:ZU s a b)(h1:qD (bN.bt s a)=false)(h3:mI (bN.bt s a)=false->(bN.tok s a).2=false):(bN.tok s b).1=(bN.tok s a).1++[(a,b)]/\((bN.tok s b).2=true->b=s.size\/qE (bN.bt s b)=false):=by
 obtain⟨hb,_,⟨hk,rfl⟩|⟨hk,hl,he⟩⟩:=h;·simp only[bN.tok,h1,hk,aJ gN,aL];exact⟨trivial,λh=>by cases h⟩
 ·rw[Oq h1 hk (h3 hk) b hb hl];exact⟨rfl,λ_=>he⟩
theorem WG(w:World)(s:ByteArray)(hs:s.size<=maxLen):Calls prog 48 #[.string s] w λe w'=>∃v6 v7,e=.returned (.tuple #[v6,v7,.int .i64 (bN.wn s),.int .i64 (bN.we s)])/\vW w' v6 (zD s)/\Ints w' v7 (p8 s)/\fM w' w.heap.size v7 (p8 s)/\Own w' w.heap.size v6 (zD s)/\Below w.heap.size w w':=by
 unfold maxLen at hs;have UG:Hid (vW w (.slice none 0 0) []):=I (Own.Us (kg w 0 _ _) (λs hs=>aM hs (by simp)) (by simp));have HI0:Hid (Ints w (.slice none 0 0) []):=I (fM.ints (kg w 0 _ _) (by simp));by_cases hbig:4096<s.size
 ·have e1:bN.wn s=0:=by unfold bN.wn;rw[aL hbig]
  have e2:bN.we s=2:=by unfold bN.we;rw[aL hbig]
  have e3:zD s=[]:=by unfold zD;rw[aL hbig]
  have e4:p8 s=[]:=by unfold p8;rw[aL hbig]
  rw[e1,e2,e3,e4];clear e1 e2 e3 e4;go_enter func48,ntmps48;go_wp2;(try simp only[Exit.inBlock,Exit.then]);refine bV (uG rfl _ _ _) rfl ?_;exact⟨_,_,rfl,UG,HI0,kg _ _ _ _,kg _ _ _ _,bP _ _⟩
 have HBG:=I hbig;have hs4:s.size<=4096:=by omega
 clear hbig;cases hbad:Ay s with
 | some k=>
  have hk:k<s.size:=(bN.find_spec hbad).1;have e1:bN.wn s=k:=by unfold bN.wn;rw[aJ HBG.out,hbad];rfl
  have e2:bN.we s=3:=by unfold bN.we;rw[aJ HBG.out,hbad];rfl
  have e3:zD s=[]:=by unfold zD;rw[aJ HBG.out,hbad]
  have e4:p8 s=[]:=by unfold p8;rw[aJ HBG.out,hbad]
  rw[e1,e2,e3,e4];have HF:=I (AL w s hs4);rw[hbad,iw]at HF;clear e1 e2 e3 e4 hbad;have b3:(k:Int)<(s.size:Int):=by omega
  go_enter func48,ntmps48;go_wp2_with fail;refine HF.mono ?_;rintro e w' ⟨rfl,hw⟩;subst hw;go_wp2;(try simp only[Exit.inBlock,Exit.then]);refine bV (uG rfl _ _ _) rfl ?_;exact⟨_,_,rfl,UG,HI0,kg _ _ _ _,kg _ _ _ _,bP _ _⟩
 | none=>
  have HOKA:Hid (∀d,d<s.size->Ji s d=true):=I (λd hd=>by have:=JO.1 hbad d (jr.2 hd);simpa using this);have WH:Hid (bN.wn s=0):=I (by unfold bN.wn;rw[aJ HBG.out,hbad];rfl);have HE2:Hid (bN.we s=0):=I (by unfold bN.we;rw[aJ HBG.out,hbad];rfl);have WI:Hid (zD s=(bN.tok s s.size).1.map (bN.ext s)):=I (by unfold zD;rw[aJ HBG.out,hbad]);have HE4:Hid (p8 s=(bN.tok s s.size).1.map λp=>(p.1:Int)):=I (by unfold p8;rw[aJ HBG.out,hbad]);have HF:=I (AL w s hs4);rw[hbad,mJ]at HF;clear hbad;go_enter func48,ntmps48;go_wp2_with fail;refine HF.mono ?_;rintro e w1 ⟨rfl,hw⟩;subst hw;go_wp2;go_loopw[7,8,9] (λv6 v7 i wr=>∃k:Nat,k<=s.size/\i=.int .i64 k/\((bN.tok s k).2=true->k=s.size\/qE (bN.bt s k)=false)/\Own wr w1.heap.size v6 ((bN.tok s k).1.map (bN.ext s))/\fM wr w1.heap.size v7 ((bN.tok s k).1.map λp=>(p.1:Int))/\Below w1.heap.size w1 wr) (λ_ _ i _=>s.size - (intOf i).toNat);case atStart=>exact⟨0,bL _,rfl,λh=>by simp[bN.tok]at h,kg _ _ _ _,kg _ _ _ _,bP _ _⟩
  case round=>
   obtain⟨k,hk,rfl,hop,ho6,ho7,hnx⟩:=hrel;have HOP:=I hop;have Al:=I ho6;have Ca:=I ho7;have fO:=I hnx;have hbs:=hnx.size;clear hop ho6 ho7 hnx;by_cases hlt:k<s.size
   ·have HB:=I (Uv s k hlt);have IZ:=I (HOKA k hlt);have b1:(0:Int)<=(k:Int):=by omega
    have b3:(k:Int)<(s.size:Int):=by omega
    go_wp2_with fail;refine(yL _ s[k]).mono ?_;rintro e w2 ⟨rfl,hw⟩;subst hw;cases c1:qD s[k].toNat
    ·have HT:Hid (mI (bN.bt s k)=false->(bN.tok s k).2=false):=I (λh=>by
      cases ho:(bN.tok s k).2;·rfl
      ·have h5:=IZ.out;unfold Ji at h5;rw[h,HB,c1]at h5;rcases HOP ho with h6|h6;·omega
       ·rw[HB]at h6;rw[h6]at h5;cases h5)
     have hlen:((bN.tok s k).1.map (bN.ext s)).length<=4096:=by have:=(uz s k).1;rw[dO];omega
     have hlen7:((bN.tok s k).1.map λp=>(p.1:Int)).length<=4096:=by have:=(uz s k).1;rw[dO];omega
     go_wp2_with fail;refine(Oo _ s k hs4 hlt).mono ?_;rintro e w3 ⟨b,rfl,hend,hw⟩;subst hw;have hb1:=hend.1;have hb2:=hend.2.1;have HW:=I (ZW hend (by rw[HB];exact c1) HT);clear hend;have d1:(k:Int)<=(b:Int):=by omega
     have d2:(b:Int)<=(s.size:Int):=by omega
     have d3:(0:Int)<=(b:Int):=by omega
     have hex:(s.extract k b).size<=4096:=by rw[Ob];omega
     go_wp2_with fail;refine(WE _ (s.extract k b) (by omega)).mono ?_;rintro e w4 ⟨rfl,hb4⟩;have HO64:Hid (Own w4 w1.heap.size _ _):=I (eZ Al hb4);have HO74:Hid (fM w4 w1.heap.size _ _):=I (eZ Ca hb4);have HNX4:=I (up fO hb4);have hbs4:=HNX4.size;clear hb4
     go_wp2_with (first
      | (at_builtin;refine j4 rfl _ _ rfl w1.heap.size _ _ rfl (uw HO64 _) _ (s.extract k b) rfl (Ru _ _) (by omega) (by simp;omega) ?_;intro v6' w5 hown2 hgrow2;have HO62:=I hown2;have HO72:=I (fM.kept HO74 HO64 hgrow2);have HR2:=I ((HNX4.alloc hbs4 (.cells #[.string (s.extract k b)] 9)).grown hgrow2 (by simp;omega) (λj hj=>(HO64.lt j hj).1));have hbs2:=HR2.size;clear hown2 hgrow2)
      | (at_builtin;refine mF rfl _ _ rfl w1.heap.size _ _ rfl (uw HO72 _) _ (k:Int) rfl (Gg _ _) (by omega) (by simp;omega) ?_;intro v7' w6 hown3 hgrow3;have HO73:=I hown3;have HO63:=I (Own.kept HO62 HO72 hgrow3);have HR3:=I ((HR2.alloc hbs2 (.cells #[.int .i64 (k:Int)] 3)).grown hgrow3 (by simp;omega) (λj hj=>(HO72.lt j hj).1));clear hown3 hgrow3)
      | fail)
     go_roundw;case rel=>exact⟨b,hb2,rfl,HW.2,by rw[HW.1,fQ];exact HO63,by rw[HW.1,fQ];exact HO73,HR3⟩
     case measure=>simp[intOf];omega
    ·have HT1:Hid (bN.tok s (k+1)=((bN.tok s k).1,false)):=I (by rw[bN.tok,HB,c1];simp);go_wp2;go_roundw;case rel=>exact⟨k+1,by omega,by go_num,(λh=>by rw[HT1]at h;cases h),by rw[HT1];exact Al,by rw[HT1];exact Ca,fO⟩
     case measure=>simp[intOf];omega
   ·have e:k=s.size:=by omega
    subst e;have hlen:=(uz s s.size).1;have HS:=I (Al.Us (λt ht=>by obtain⟨p,_,rfl⟩:=jP.1 ht;unfold bN.ext maxLen;rw[Ob];omega) (by rw[dO];omega));have HI:=I (Ca.ints (by rw[dO];omega));clear hlen;go_wp2;(try simp only[Exit.inBlock,Exit.then]);refine bV (uG rfl _ _ _) rfl ?_;exact⟨_,_,ret4 (by rw[WH];rfl) (by rw[HE2]),by rw[WI];exact HS,by rw[HE4];exact HI,by rw[HE4];exact Ca,by rw[WI];exact Al,fO⟩
end Go.Proofs.YtbgkpehhdibaoaaGreatDoor
