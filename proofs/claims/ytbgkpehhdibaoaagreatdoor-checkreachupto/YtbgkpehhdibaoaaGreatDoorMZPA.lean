/- part -/
import Derived.Test.YtbgkpehhdibaoaaGreatDoorMZAG
import Derived.Deep.RegionHeld3
import Derived.Test.YtbgkpehhdibaoaaGreatDoorMZAF
import Derived.Test.YtbgkpehhdibaoaaGreatDoorMShelf2
set_option maxHeartbeats 0
set_option maxRecDepth 99999
namespace Go.Proofs.YtbgkpehhdibaoaaGreatDoor
open bO Rd
open Go.Proofs.Tryz
open Go.RowKit
variable{a b d j p n:Nat}{s:aZ}{l:List UInt8}{w w':World}{ws:List aZ}{ps:List Int}
theorem vU{fn:Func}{t u v x:Tmp}(h:fn.results=#[.tmp t,.tmp u,.tmp v,.tmp x])(tmps:Array Value)(P:Program)(w:World):(results fn tmps).run P w=.ok (.tuple #[tmps.getD t undef,tmps.getD u undef,tmps.getD v undef,tmps.getD x undef]) w:=by simp[results,h]
theorem ret4{v6 v7:Value}{a b c d:Int}(h:a=b)(h':c=d):cO (.tuple #[v6,v7,O a,O c])=cO (.tuple #[v6,v7,O b,O d]):=by rw[h,h']
theorem UC(w:World)(t:aZ):(w.alloc (aY #[A t] 9)).cell? (X w.heap.size 0)=some (A t):=by simp[go_sem]
theorem Ip(w:World)(z:Int):(w.alloc (aY #[O z] 3)).cell? (X w.heap.size 0)=some (O z):=by simp[go_sem]
theorem eqS_same(w:World)(v1 v2:Value)(l:List aZ)(h1:Strs w v1 l)(h2:Strs w v2 l):Calls prog 80 #[v1,v2] w λe w'=>e=cO (.bool true)/\bG w w':=by
 obtain⟨a1,b1,o1,c1,rfl,ha1,hl,_,hc1⟩:=h1;obtain⟨a2,b2,o2,c2,rfl,ha2,_,_,hc2⟩:=h2;obtain⟨HA1,HA2,TW,QJ⟩:=mg ha1 ha2 hc1 hc2;clear ha1 ha2 hc1 hc2;generalize hlen:l.length=len at *;go_enter func80,ntmps80;go_wp2;go_loopw[13] (λi wr=>∃k:Nat,k<=len/\i=O k/\bG w wr) (λi _=>len - (intOf i).toNat);case atStart=>exact⟨0,bI _,rfl,bN _ _⟩
 case round=>
  obtain⟨k,hk,rfl,hnx⟩:=hrel;by_cases hlt:k<len
  ·obtain rfl:=HA1 aV;obtain rfl:=HA2 aV;obtain⟨g1,g2⟩:=eD (aC (TW k hlt) hnx) (aC (QJ k hlt) hnx);generalize l.getD k ByteArray.empty=t at *;have dM:=I hnx;have i1:(0:Int)<=(k:Int):=by omega
   have i2:(k:Int)<(len:Int):=by omega
   clear hnx;go_wp2_with fail;go_quiet (fail);go_wp2;go_roundw;case rel=>exact⟨k+1,by omega,by go_num,jJ dM.out _⟩
   case measure=>simp[intOf];omega
  ·go_wp2;go_ret;exact⟨rfl,hnx⟩
theorem QK(w:World)(v1 v2:Value)(l:List Int)(h1:Ints w v1 l)(h2:Ints w v2 l):Calls prog 28 #[v1,v2] w λe w'=>e=cO (.bool true)/\bG w w':=by
 obtain⟨a1,b1,o1,c1,rfl,ha1,hl,hc1⟩:=h1;obtain⟨a2,b2,o2,c2,rfl,ha2,_,hc2⟩:=h2;obtain⟨HA1,HA2,TW,QJ⟩:=mg ha1 ha2 hc1 hc2;clear ha1 ha2 hc1 hc2;generalize hlen:l.length=len at *;have HL:=I hlen;clear hlen;go_enter func28,ntmps28;go_wp2;go_loopw[13] (λi wr=>∃k:Nat,k<=len/\i=O k/\bG w wr) (λi _=>len - (intOf i).toNat);case atStart=>exact⟨0,bI _,rfl,bN _ _⟩
 case round=>
  obtain⟨k,hk,rfl,hnx⟩:=hrel;by_cases hlt:k<len
  ·obtain⟨z,hz⟩:∃z,l[k]?=some z:=⟨_,bg (by rw[HL];exact hlt)⟩;obtain rfl:=HA1 aV;obtain rfl:=HA2 aV;have dM:=I hnx;obtain⟨g1,g2⟩:=eD (aC (TW k z hz) hnx) (aC (QJ k z hz) hnx);have i1:(0:Int)<=(k:Int):=by omega
   have i2:(k:Int)<(len:Int):=by omega
   clear hnx hz;go_wp2_with fail;go_quiet (fail);go_wp2;go_roundw;case rel=>exact⟨k+1,by omega,by go_num,jJ dM.out _⟩
   case measure=>simp[intOf];omega
  ·go_wp2;go_ret;exact⟨rfl,hnx⟩
theorem p9(h:s.toList=l):Rd.is s l=true:=by unfold Rd.is;rw[<-zW,h];simp
theorem qb(h:¬s.toList=l):Rd.is s l=false:=by unfold Rd.is;rw[<-zW];simpa using h
theorem nX(h:¬s.toList=l):(s.toList==l)=false:=by simpa using h
theorem xO(w:World)(s:aZ):Calls prog 146 #[A s] w λe w'=>e=cO (.bool (Rd.plain s))/\w'=w:=by
 have HP:Hid (Rd.plain s=(!Rd.is s []&&!Rd.is s [40]&&!Rd.is s [41])):=rfl;by_cases h0:s.toList=[];·rw[p9 h0]at HP;go_enter func146,ntmps146;go_wp2;go_ret;exact⟨aM (by rw[HP];rfl),rfl⟩
 rw[qb h0]at HP;by_cases h1:s.toList=[40];·rw[p9 h1]at HP;go_enter func146,ntmps146;go_wp2;go_ret;exact⟨aM (by rw[HP];simp),rfl⟩
 rw[qb h1]at HP;by_cases h2:s.toList=[41];·rw[p9 h2]at HP;go_enter func146,ntmps146;go_wp2;go_ret;exact⟨aM (by rw[HP];simp),rfl⟩
 ·rw[qb h2]at HP;go_enter func146,ntmps146;go_wp2;go_ret;exact⟨aM (by rw[HP];simp[h0,h1,h2]),rfl⟩
theorem Y4(w:World)(s:aZ):Calls prog 271 #[A s] w λe w'=>e=cO (.bool (opc s))/\w'=w:=by
 have HP:Hid (opc s=(Rd.is s [43]||Rd.is s [45]||Rd.is s [42]||Rd.is s [60]||Rd.is s [61])):=rfl;by_cases h0:s.toList=[43];·rw[p9 h0]at HP;go_enter func271,ntmps271;go_wp2;go_ret;exact⟨aM (by rw[HP];rfl),rfl⟩
 rw[qb h0]at HP;have bh0:=nX h0;by_cases h1:s.toList=[45];·rw[p9 h1]at HP;go_enter func271,ntmps271;go_wp2;go_ret;exact⟨aM (by rw[HP];rfl),rfl⟩
 rw[qb h1]at HP;have bh1:=nX h1;by_cases h2:s.toList=[42];·rw[p9 h2]at HP;go_enter func271,ntmps271;go_wp2;go_ret;exact⟨aM (by rw[HP];rfl),rfl⟩
 rw[qb h2]at HP;have bh2:=nX h2;by_cases h3:s.toList=[60];·rw[p9 h3]at HP;go_enter func271,ntmps271;go_wp2;go_ret;exact⟨aM (by rw[HP];rfl),rfl⟩
 rw[qb h3]at HP;have bh3:=nX h3;by_cases h4:s.toList=[61];·rw[p9 h4]at HP;go_enter func271,ntmps271;go_wp2;go_ret;exact⟨aM (by rw[HP];rfl),rfl⟩
 ·rw[qb h4]at HP;have bh4:=nX h4;go_enter func271,ntmps271;go_wp2;go_ret;exact⟨aM (by rw[HP];rfl),rfl⟩
theorem mO(w:World)(s:aZ):Calls prog 269 #[A s] w λe w'=>e=cO (O (Rd.cmd s))/\w'=w:=by
 have HP:Hid (Rd.cmd s=if Rd.is s [115,101,116]then 1 else if Rd.is s [105,102]then 2 else if Rd.is s [119,104,105,108,101]then 3 else if Rd.is s [112,114,105,110,116]then 4 else 0):=rfl;by_cases h0:s.toList=[115,101,116];·rw[p9 h0]at HP;go_enter func269,ntmps269;go_wp2;go_ret;exact⟨bQ (by rw[HP];rfl),rfl⟩
 rw[qb h0]at HP;have bh0:=nX h0;by_cases h1:s.toList=[105,102];·rw[p9 h1]at HP;go_enter func269,ntmps269;go_wp2;go_ret;exact⟨bQ (by rw[HP];rfl),rfl⟩
 rw[qb h1]at HP;have bh1:=nX h1;by_cases h2:s.toList=[119,104,105,108,101];·rw[p9 h2]at HP;go_enter func269,ntmps269;go_wp2;go_ret;exact⟨bQ (by rw[HP];rfl),rfl⟩
 rw[qb h2]at HP;have bh2:=nX h2;by_cases h3:s.toList=[112,114,105,110,116];·rw[p9 h3]at HP;go_enter func269,ntmps269;go_wp2;go_ret;exact⟨bQ (by rw[HP];rfl),rfl⟩
 ·rw[qb h3]at HP;have bh3:=nX h3;go_enter func269,ntmps269;go_wp2;go_ret;exact⟨bQ (by rw[HP];rfl),rfl⟩
theorem LZ(s:aZ):0<=Rd.cmd s/\Rd.cmd s<=4:=by
 unfold Rd.cmd;repeat' split
 all_goals decide
theorem KZ(w:World)(s:aZ):Calls prog 239 #[A s] w λe w'=>e=cO (.bool (decide (Rd.cmd s≠0)))/\w'=w:=by
 go_enter func239,ntmps239;go_wp2_with fail;refine(mO _ s).mono ?_;rintro e w' ⟨rfl,hw⟩;subst hw;obtain⟨c,hc⟩:=bC (Rd.cmd s);have HC:=I hc;rw[<-hc];clear hc;by_cases h:c=0;·subst h;go_wp2;go_ret;exact⟨aM (by rw[<-HC];rfl),rfl⟩
 ·have h':=dY h;go_wp2;go_ret;exact⟨aM (by rw[<-HC];simp[h]),rfl⟩
theorem digit_at(s:aZ)(k:Nat)(hk:k<s.size):mX s[k]=true↔(48<=s[k].toNat/\s[k].toNat<=57):=by unfold mX;simp
theorem digs_all(h:∀j (hj:j<s.size),mX s[j]=true):s.data.toList.all mX=true:=by rw[gY];intro x hx;obtain⟨j,hj,rfl⟩:=gP.1 hx;exact h j (by simpa using hj)
theorem QL(hj:j<s.size)(h:mX s[j]=false):s.data.toList.all mX=false:=by rw[BZ];exact⟨s[j],gP.2 ⟨j,by simpa using hj,rfl⟩,by simp[h]⟩
theorem NH(w:World)(s:aZ)(hs:s.size<=maxLen):Calls prog 243 #[A s] w λe w'=>e=cO (.bool (YT s))/\w'=w:=by
 unfold maxLen at hs;have HP:Hid (YT s=(s.data.toList.all mX&&!Rd.is s [])):=rfl;go_enter func243,ntmps243;go_wp2;go_loop [3] (λi=>∃k:Nat,k<=s.size/\i=O k/\∀d (hd:d<s.size),d<k->mX s[d]=true) (λi=>s.size - (intOf i).toNat);case atStart=>exact⟨0,bI _,rfl,λd _ hd=>aN hd (fK _)⟩
 case round=>
  obtain⟨k,hk,rfl,hall⟩:=hrel;have HA:=I hall;clear hall;by_cases hlt:k<s.size
  ·have HD:=I (digit_at s k hlt);by_cases c1:48<=s[k].toNat
   ·by_cases c2:s[k].toNat<=57
    ·go_wp2;go_round;case rel=>exact⟨k+1,by omega,by go_num,λd hd hdk=>by
      by_cases e:d=k;·subst e;exact HD.2 ⟨c1,c2⟩
      ·exact HA d hd aV⟩
     case measure=>simp[intOf];omega
    ·have HN:Hid (mX s[k]=false):=I (by
      cases hh:mX s[k];·rfl
      ·exact aN (HD.1 hh).2 c2)
     go_wp2;go_ret;exact⟨aM (by rw[HP,QL hlt HN];rfl),rfl⟩
   ·have HN:Hid (mX s[k]=false):=I (by
     cases hh:mX s[k];·rfl
     ·exact aN (HD.1 hh).1 c1)
    go_wp2;go_ret;exact⟨aM (by rw[HP,QL hlt HN];rfl),rfl⟩
  ·have dU:Hid (s.data.toList.all mX=true):=I (digs_all (λj hj=>HA j hj aV));by_cases h0:s.toList=[];·rw[p9 h0]at HP;go_wp2;go_ret;exact⟨aM (by rw[HP,dU];simp),rfl⟩
   ·rw[qb h0]at HP;go_wp2;go_ret;exact⟨aM (by rw[HP,dU];simp[h0]),rfl⟩
def dA(w:World)(p:Nat)(ws:List aZ)(ps:List Int)(d:Nat)(st:Sr):Prop:=
 ∃(aw:Option Addr) (cw:Nat) (vs:Value),w.heap[p]?=some (.cells #[.slice aw ws.length cw,vs,.int .i64 ((ws.length - st.r.length:Nat):Int),.int .i64 (d:Nat),.bool st.f] 119 (0,0))/\
  Strs (only (λb=>decide (b<p)) w) (.slice aw ws.length cw) ws/\Ints (only (λb=>decide (b<p)) w) vs ps/\
  (∃g tp x t fz,prog.globalNamed "strconv.ErrSyntax" = some g/\g<p/\w.heap[g]?=some (.cells #[.iface tp x] t fz))/\
  st.r <:+ ws/\ws.length<=4096/\(∀x∈ws,x.size<=4096)/\ps.length=ws.length+1
theorem dA.keep{st:Sr}(h:dA w p ws ps d st)(hk:∀k,k<=p->w'.heap[k]?=w.heap[k]?):dA w' p ws ps d st:=by
 obtain⟨aw,cw,vs,h1,h2,h3,⟨g,tp,x,t,fz,h4,h5,h6⟩,h7⟩:=h;have hs:Sub (only (λb=>decide (b<p)) w) (only (λb=>decide (b<p)) w'):=λa v hv=>by obtain⟨b1,b2⟩:=bM.1 hv;refine bM.2 ⟨b1,?_⟩;have:=iQ b1;rw[jL (w:=w) (hk _ aV)];exact b2
 refine⟨aw,cw,vs,by rw[hk p (bF _)];exact h1,h2.sub hs,?_,⟨g,tp,x,t,fz,h4,h5,by rw[hk g aV];exact h6⟩,h7⟩;obtain⟨a,b,off,cap,e,h0,hl,h1'⟩:=h3;exact⟨a,b,off,cap,e,h0,hl,λj z hz=>hs _ _ (h1' j z hz)⟩
theorem dA.lt{st:Sr}(h:dA w p ws ps d st):p<w.heap.size:=by obtain⟨aw,cw,vs,h1,_⟩:=h;exact bE h1
theorem dA.below{st:Sr}(h:dA w p ws ps d st)(hb:bG w w'):dA w' p ws ps d st:=
 h.keep (λk hk=>hb.block k (by have:=h.lt;omega))
theorem dA.set{st:Sr}(h:dA w p ws ps d st){a:Addr}(ha:p<a.block)(v:Value):dA (w.setCell a v) p ws ps d st:=
 h.keep (λk hk=>uE _ _ _ _ aV)
theorem dA.grown{st:Sr}{r:Option Nat}(h:dA w p ws ps d st)(hg:w.grownBy w' r)(hr:∀k,r=some k->p<k):dA w' p ws ps d st:=
 h.keep (λk hk=>hg.block k (by have:=h.lt;omega) (λe=>by have:=hr k e.symm;omega))
theorem dA.drew{st:Sr}(h:dA w p ws ps d st)(n:Nat):dA (w.drewN n) p ws ps d st:=h.keep (λ_ _=>rfl)
theorem GY{st:Sr}(h:dA w p ws ps d st)(n:Nat):(Qt st n).size<=4096:=by
 obtain⟨aw,cw,vs,_,_,_,_,h7,_,h8,_⟩:=h;unfold Qt;split;·exact bI _
 ·by_cases hn:n<st.r.length
  ·have e:st.r.getD n ⟨#[]⟩=st.r[n]:=by simp[hn]
   rw[e];exact h8 _ (h7.subset (jS hn))
  ·have e:st.r.getD n ⟨#[]⟩=⟨#[]⟩:=by simp[List.getD,L6 (Nat.le_of_not_lt hn)]
   rw[e];exact bI _
theorem Iq(w:World)(p:Nat)(ws:List ByteArray)(ps:List Int)(d:Nat)(st:Sr)(h:dA w p ws ps d st)(n:Nat)(hn:n<=1):Calls prog 147 #[.pointer (some ⟨p,0,none⟩),.int .i64 n] w λe w'=>e=.returned (.string (Qt st n))/\dA w' p ws ps d st/\But p w w':=by
 have HR:=I h;obtain⟨aw,cw,vs,h1,h2,h3,h4,h7,h8,h9,h10⟩:=h;obtain⟨q0,q2,q4⟩:=lQ (aj h1 0) (aj h1 2) (aj h1 4);simp only[xP,List.getElem?_cons_zero,Xk]at q0 q2 q4;have hle:st.r.length<=ws.length:=h7.length_le;have HPK:Hid (Qt st n=if st.f then ⟨#[]⟩else st.r.getD n ⟨#[]⟩):=rfl;cases hf:st.f
 ·rw[hf]at q4 HPK;obtain⟨nx,hnx⟩:=bC (ws.length - st.r.length);rw[<-hnx]at q2;by_cases hlt:n<st.r.length
  ·have hgt:st.r.getD n ⟨#[]⟩=ws.getD (nx+n) ⟨#[]⟩:=by
    obtain⟨t,ht⟩:=h7;have e1:nx=t.length:=by rw[<-ht]at hnx;rw[aW]at hnx;omega
    rw[<-ht,e1,List.getD,List.getD,pR (by omega)];congr 2;omega
   obtain⟨a,b,off,cap,hv,ha,_,_,hc⟩:=h2;have hcell:=(bM.1 (hc (nx+n) (by omega))).2;obtain rfl:aw=a:=by simpa using(congrArg (λv=>match v with|Value.slice a _ _=>a|_=>none) hv)
   obtain rfl:=ha (by omega);have HG:Hid (Qt st n=ws.getD (nx+n) ByteArray.empty):=I (by rw[HPK];exact hgt);have b1:¬((nx:Int)+n>=(ws.length:Int)):=by omega
   have b2:(0:Int)<=(nx:Int)+n:=by omega
   have b3:(nx:Int)+n<(ws.length:Int):=by omega
   have b4:(nx:Int)<=4096:=by omega
   have b5:(n:Int)<=1:=by omega
   have b6:decide ((nx:Int)+n>=(ws.length:Int))=false:=gN b1;have e1:((nx:Int)+n).toNat=nx+n:=by omega
   rw[HG];clear h1 h3 h4 h7 h9 h10 hc hgt hv hnx hle hf ha;generalize ws.getD (nx+n) ByteArray.empty=x at *;generalize ws.length=len at *;go_enter func147,ntmps147;go_wp2;go_quiet (fail);go_wp2;go_quiet (fail);go_wp2;go_ret;exact⟨rfl,(HR.out.drew _).drew _,((But.refl _ _).drew _).drew _⟩
  ·have HG:Hid (Qt st n=⟨#[]⟩):=I (by rw[HPK,aJ (by simp),List.getD,L6 (Nat.le_of_not_lt hlt)];rfl);have b1:(nx:Int)+n>=(ws.length:Int):=by omega
   have b4:(nx:Int)<=4096:=by omega
   have b5:(n:Int)<=1:=by omega
   have b6:decide ((nx:Int)+n>=(ws.length:Int))=true:=fQ b1;rw[HG];clear h1 h2 h3 h4 h7 h9 h10 hnx hle hf hlt;generalize ws.length=len at *;go_enter func147,ntmps147;go_wp2;go_quiet (fail);go_wp2;go_ret;exact⟨rfl,HR.out.drew _,(But.refl _ _).drew _⟩
 ·rw[hf]at q4 HPK;have HG:Hid (Qt st n=⟨#[]⟩):=HPK;rw[HG];clear h1 h2 h3 h4 h7 h9 h10 hle hf;go_enter func147,ntmps147;go_wp2;go_quiet (fail);go_wp2;go_ret;exact⟨rfl,HR.out.drew _,(But.refl _ _).drew _⟩
section
variable (w : World) (p : Nat) (ws : List ByteArray) (ps : List Int) (d : Nat) (st : Rd.Sr) (h : dA w p ws ps d st)
include h
theorem gX:Calls prog 88 #[jk p] w λe w'=>e=cO (A (Rd.pk st))/\dA w' p ws ps d st/\But p w w':=by go_enter func88,ntmps88;go_wp2_with fail;refine(Iq w p ws ps d st h 0 aV).mono ?_;rintro e w' ⟨rfl,h1,h2⟩;go_wp2;go_ret;exact⟨rfl,h1,h2⟩
theorem UD:Calls prog 240 #[jk p] w λe w'=>e=cO (A (Qt st 1))/\dA w' p ws ps d st/\But p w w':=by go_enter func240,ntmps240;go_wp2_with fail;refine(Iq w p ws ps d st h 1 aV).mono ?_;rintro e w' ⟨rfl,h1,h2⟩;go_wp2;go_ret;exact⟨rfl,h1,h2⟩
theorem Ir{st':Sr}{d':Nat}(i:Nat)(v:Value)(hr:st'.r <:+ ws)(hc:∀aw cw vs,(#[Y aw ws.length cw,vs,O ((ws.length - st.r.length:Nat):Int),O (d:Nat),.bool st.f]:Array Value).setIfInBounds i v=#[Y aw ws.length cw,vs,O ((ws.length - st'.r.length:Nat):Int),O (d':Nat),.bool st'.f]):dA (w.setCell (X p i) v) p ws ps d' st'/\But p w (w.setCell (X p i) v):=by refine⟨?_,(But.refl p w).set (a:=(X p i)) (aR rfl) v⟩;obtain⟨aw,cw,vs,h1,h2,h3,⟨g,tp,x,t,fz,h4,h5,h6⟩,h7,h8⟩:=h;have hs:Sub (only (λb=>decide (b<p)) w) (only (λb=>decide (b<p)) (w.setCell (X p i) v)):=((But.refl p w).set (a:=(X p i)) (aR rfl) v).sub (gN (Nat.lt_irrefl _));refine⟨aw,cw,vs,by rw[aP h1,hc],h2.sub hs,?_,⟨g,tp,x,t,fz,h4,h5,bL h6 (by simp;omega) _⟩,hr,h8⟩;obtain⟨a,b,off,cap,e,h0,hl,h1'⟩:=h3;exact⟨a,b,off,cap,e,h0,hl,λj z hz=>hs _ _ (h1' j z hz)⟩
theorem dA.suffix:st.r <:+ ws:=by obtain⟨_,_,_,_,_,_,_,h7,_⟩:=h;exact h7
theorem dA.len:ws.length<=4096:=by obtain⟨_,_,_,_,_,_,_,_,h7,_⟩:=h;exact h7
theorem dA.cells:∃aw cw vs,w.cell? (X p 0)=some (Y aw ws.length cw)/\w.cell? (X p 1)=some vs/\w.cell? (X p 2)=some (O ((ws.length - st.r.length:Nat):Int))/\w.cell? (X p 3)=some (O (d:Nat))/\w.cell? (X p 4)=some (.bool st.f)/\∀i,w.frozen? (X p i)=false:=by obtain⟨aw,cw,vs,h1,_⟩:=h;exact⟨aw,cw,vs,aj h1 0,aj h1 1,aj h1 2,aj h1 3,aj h1 4,λi=>aG h1 i⟩
theorem lW:Calls prog 91 #[jk p] w λe w'=>e=cO (.tuple #[])/\dA w' p ws ps d (Rd.fl st)/\But p w w':=by have HS:=I (Ir w p ws ps d st h (st':=Rd.fl st) (d':=d) 4 (.bool true) h.suffix (λ_ _ _=>rfl));obtain⟨aw,cw,vs,_,_,_,_,q4,z⟩:=h.cells;have z4:=z 4;clear z h;go_enter func91,ntmps91;go_wp2;go_end0;exact⟨rfl,HS⟩
theorem iJ:Calls prog 145 #[jk p] w λe w'=>e=cO (A (Rd.pk st))/\dA w' p ws ps d (Rd.tk st)/\But p w w':=by
 have HT:Hid (Rd.tk st=if Rd.is (Rd.pk st) []then Rd.fl st else ⟨st.r.tail,st.f⟩):=rfl;have HP:Hid (Rd.is (Rd.pk st) []=false->st.r≠[]):=I (λh1 h2=>by
  have e:Rd.pk st=⟨#[]⟩:=by unfold Rd.pk Qt;rw[h2];cases st.f<;>rfl
  rw[e]at h1;cases h1)
 go_enter func145,ntmps145;go_wp2_with fail;refine(gX w p ws ps d st h).mono ?_;rintro e w1 ⟨rfl,h1,hb1⟩;obtain⟨x,hx⟩:=bC (Rd.pk st);have HX:=I hx;rw[<-hx]at HT HP ⊢;clear hx h;by_cases h0:x.toList=[]
 ·rw[p9 h0,aL rfl]at HT;go_wp2_with fail;refine(lW w1 p ws ps d st h1).mono ?_;rintro e w2 ⟨rfl,h2,hb2⟩;go_wp2;go_ret;refine⟨?_,by rw[HT];exact h2,hb1.trans hb2⟩;have e0:x=⟨#[]⟩:=by cases x with|mk x=>congr 1;rw[zW]at h0;exact Array.toList_inj.1 h0
  rw[<-HX,e0];rfl
 ·rw[qb h0,aJ cZ]at HT;have h0b:x.toList.isEmpty=false:=by simpa using h0
  obtain⟨hne,hsf⟩:=eD (HP (qb h0)) h1.suffix;obtain⟨hll,hlen⟩:=eD hsf.length_le h1.len;have hpos:0<st.r.length:=uF.2 hne;have HS:=I (Ir w1 p ws ps d st h1 (st':=⟨st.r.tail,st.f⟩) (d':=d) 2 (O ((ws.length - st.r.length:Nat)+1:Int)) ((List.tail_suffix _).trans hsf) (λ_ _ _=>by
   have e:((ws.length - st.r.length:Nat)+1:Int)=((ws.length - st.r.tail.length:Nat):Int):=by rw[List.length_tail];omega
   rw[e];rfl))
  obtain⟨aw,cw,vs,_,_,q2,_,_,z⟩:=h1.cells;have z2:=z 2;obtain⟨nx,hnx⟩:=bC (ws.length - st.r.length);have tZ:(nx:Int)<=4096:=by omega
  rw[<-hnx]at HS q2;clear z h1 hnx;go_wp2;go_ret;exact⟨by rw[<-HX];rfl,by rw[HT];exact HS.1,hb1.trans HS.2⟩
theorem tH(a:aZ):Calls prog 86 #[jk p,A a] w λe w'=>e=cO (.tuple #[])/\dA w' p ws ps d (Rd.kw a.data.toList st)/\But p w w':=by
 have HT:Hid (Rd.kw a.data.toList st=if Rd.is (Rd.pk st) a.data.toList then Rd.tk st else Rd.fl st):=rfl;go_enter func86,ntmps86;go_wp2_with fail;refine(gX w p ws ps d st h).mono ?_;rintro e w1 ⟨rfl,h1,hb1⟩;by_cases h0:(Rd.pk st).toList=a.toList
 ·rw[p9 (by rw[h0,zW]),aL rfl]at HT;have h0':((Rd.pk st).toList != a.toList)=false:=by simp[h0]
  go_wp2_with fail;refine(iJ w1 p ws ps d st h1).mono ?_;rintro e w2 ⟨rfl,h2,hb2⟩;go_wp2;go_end0;exact⟨rfl,by rw[HT];exact h2,hb1.trans hb2⟩
 ·rw[qb (by rw[<-zW];exact h0),aJ cZ]at HT;have h0':((Rd.pk st).toList != a.toList)=true:=by simpa using h0
  have h0'':((Rd.pk st).toList==a.toList)=false:=by simpa using h0
  go_wp2_with fail;refine(lW w1 p ws ps d st h1).mono ?_;rintro e w2 ⟨rfl,h2,hb2⟩;go_wp2;(try simp only[Exit.inBlock,Exit.then]);refine bW (results_none rfl _ _ _) rfl ?_;exact⟨rfl,by rw[HT];exact h2,hb1.trans hb2⟩
theorem lX(hd:d<=100):Calls prog 85 #[jk p] w λe w'=>e=cO (.tuple #[])/\dA w' p ws ps (d+1) (Rd.op d st)/\But p w w':=by
 have HM:Hid (Rd.op d st=Rd.kw [40] (if d=20 then Rd.fl st else st)):=rfl;obtain⟨_,_,_,_,_,_,q3,_,_⟩:=h.cells;have hd':(d:Int)<=100:=by omega
 by_cases h20:d=20;·rw[aL h20]at HM;subst h20;go_enter func85,ntmps85;go_wp2_with fail;refine(lW w p ws ps _ st h).mono ?_;rintro e w1 ⟨rfl,h1,hb1⟩;clear q3;go_wp2_with fail;refine(tH w1 p ws ps _ _ h1 ⟨#[40]⟩).mono ?_;rintro e w2 ⟨rfl,h2,hb2⟩;have HS:=I (Ir w2 p ws ps 20 _ h2 (st':=Rd.kw [40] (Rd.fl st)) (d':=20+1) 3 (O 21) h2.suffix (λ_ _ _=>rfl));obtain⟨_,_,_,_,_,_,q3,_,z⟩:=h2.cells;have z3:=z 3;clear z h2;go_wp2;go_end0;exact⟨rfl,by rw[HM];exact HS.1,(hb1.trans hb2).trans HS.2⟩
 ·rw[aJ h20]at HM;have h20':((d:Int)==20)=false:=by simp;omega
  go_enter func85,ntmps85;go_wp2_with fail;clear q3;refine(tH w p ws ps d _ h ⟨#[40]⟩).mono ?_;rintro e w2 ⟨rfl,h2,hb2⟩;have HS:=I (Ir w2 p ws ps d _ h2 (st':=Rd.kw [40] st) (d':=d+1) 3 (O ((d:Int)+1)) h2.suffix (λ_ _ _=>rfl));obtain⟨_,_,_,_,_,_,q3,_,z⟩:=h2.cells;have z3:=z 3;clear z h2;go_wp2;go_end0;exact⟨rfl,by rw[HM];exact HS.1,hb2.trans HS.2⟩
end
section
variable (w : World) (p : Nat) (ws : List ByteArray) (ps : List Int) (d : Nat) (st : Rd.Sr)
theorem jd(h:dA w p ws ps (d+1) st)(hd:d<=100):Calls prog 90 #[jk p] w λe w'=>e=cO (.tuple #[])/\dA w' p ws ps d (Rd.sh st)/\But p w w':=by
 have hd':(d:Int)<=100:=by omega
 go_enter func90,ntmps90;go_wp2_with fail;refine(tH w p ws ps (d+1) _ h ⟨#[41]⟩).mono ?_;rintro e w2 ⟨rfl,h2,hb2⟩;have HS:=I (Ir w2 p ws ps (d+1) _ h2 (st':=Rd.sh st) (d':=d) 3 (O (d:Nat)) h2.suffix (λ_ _ _=>rfl));obtain⟨_,_,_,_,_,_,q3,_,z⟩:=h2.cells;have z3:=z 3;have e3:((d+1:Nat):Int)=(d:Int)+1:=by omega
 rw[e3]at q3;clear z h2 h;go_wp2;go_end0;refine⟨rfl,?_,?_⟩;·have:=HS.1;simpa using this
 ·have:=hb2.trans HS.2;simpa using this
variable (h : dA w p ws ps d st)
include h
theorem end_any:Calls prog 50 #[jk p] w λe w'=>e=cO (.tuple #[])/\dA w' p ws ps d (YV st)/\But p w w':=by
 have HT:Hid (YV st=if Rd.is (Rd.pk st) []then st else Rd.fl st):=rfl;go_enter func50,ntmps50;go_wp2_with fail;refine(gX w p ws ps d st h).mono ?_;rintro e w1 ⟨rfl,h1,hb1⟩;by_cases h0:(Rd.pk st).toList=[];·rw[p9 h0,aL rfl]at HT;go_wp2;go_end0;exact⟨rfl,by rw[HT];exact h1,hb1⟩
 ·rw[qb h0,aJ cZ]at HT;have h0b:(Rd.pk st).toList.isEmpty=false:=by simpa using h0
  go_wp2_with fail;refine(lW w1 p ws ps d st h1).mono ?_;rintro e w2 ⟨rfl,h2,hb2⟩;go_wp2;go_end0;exact⟨rfl,by rw[HT];exact h2,hb1.trans hb2⟩
theorem kH:Calls prog 87 #[jk p] w λe w'=>e=cO (A (Rd.gJ st).1)/\dA w' p ws ps d (Rd.gJ st).2/\But p w w':=by
 have HT:Hid (Rd.gJ st=(Rd.pk (if Rd.plain (Rd.pk st)then st else Rd.fl st),Rd.tk (if Rd.plain (Rd.pk st)then st else Rd.fl st))):=rfl;go_enter func87,ntmps87;go_wp2_with fail;refine(gX w p ws ps d st h).mono ?_;rintro e w1 ⟨rfl,h1,hb1⟩;go_wp2_with fail;refine(xO _ _).mono ?_;rintro e w2 ⟨rfl,hw⟩;subst hw;generalize hp:Rd.plain (Rd.pk st)=b at *;cases b;·rw[aJ cZ]at HT;go_wp2_with fail;refine(lW w2 p ws ps d st h1).mono ?_;rintro e w3 ⟨rfl,h3,hb3⟩;go_wp2_with fail;refine(iJ w3 p ws ps d _ h3).mono ?_;rintro e w4 ⟨rfl,h4,hb4⟩;go_wp2;go_ret;exact⟨by rw[HT];rfl,by rw[HT];exact h4,(hb1.trans hb3).trans hb4⟩
 ·rw[aL rfl]at HT;go_wp2_with fail;refine(iJ w2 p ws ps d _ h1).mono ?_;rintro e w4 ⟨rfl,h4,hb4⟩;go_wp2;go_ret;exact⟨by rw[HT];rfl,by rw[HT];exact h4,hb1.trans hb4⟩
theorem Y5:Calls prog 51 #[jk p] w λe w'=>e=cO (O (ps.getD (ws.length - st.r.length) 0))/\bG w w':=by
 obtain⟨aw,cw,vs,h1,h2,h3,h4,h7,h8,h9,h10⟩:=h;obtain⟨q1,q2⟩:=eD (aj h1 1) (aj h1 2);simp only[xP,List.getElem?_cons_zero,Xk]at q1 q2;obtain⟨nx,hnx⟩:=bC (ws.length - st.r.length);rw[<-hnx]at q2 ⊢;obtain⟨a,b,off,cap,rfl,ha,hl,hc⟩:=h3;have hlt:nx<ps.length:=by omega
 have hcell:=(bM.1 (hc nx _ (bg hlt))).2;obtain rfl:=ha aV;have e1:ps.getD nx 0=ps[nx]:=by simp[hlt]
 rw[e1];have b2:(0:Int)<=(nx:Int):=by omega
 have b3:(nx:Int)<(ps.length:Int):=by omega
 clear h1 h2 h4 h7 h9 hc hnx ha e1;generalize ps[nx]=x at *;generalize ps.length=len at *;go_enter func51,ntmps51;go_wp2;go_quiet (fail);go_wp2;go_ret;exact⟨rfl,jJ (bN _ _) _⟩
end
section
variable (w : World) (c0 c1 c2 c3 d0 d1 d2 d3 : Value) (t : TypeId)
end
def wO(w:World)(m:Nat)(v:Value)(l:List Ex):Prop:=
 ∃(a:Option Addr) (b off cap:Nat),v=.slice a l.length cap/\(0<l.length->a=some ⟨b,off,none⟩)/\l.length<=9223372036854775807/\
  ∀i y,l[i]?=some y->∃e0 e1 e2 e3,w.cell? ⟨b,off+i*4,none⟩=some e0/\w.cell? ⟨b,off+i*4+1,none⟩=some e1/\w.cell? ⟨b,off+i*4+2,none⟩=some e2/\w.cell? ⟨b,off+i*4+3,none⟩=some e3/\gQ w m e0 e1 e2 e3 y
theorem Y6(w:World)(s:aZ)(hs:s.size<=281474976710656):Calls prog 84 #[A s] w λe w'=>e=cO (A s)/\bG w w':=by have HC:=I (Tryz.stringslite_Clone s w hs);go_enter func84,ntmps84;go_wp2_with fail;refine HC.mono ?_;rintro e w' ⟨rfl,hb⟩;go_wp2;go_ret;exact⟨rfl,hb⟩
theorem zX(w:World)(c:UInt8):Calls prog 82 #[.int .u8 (c.toNat:Int)] w λe w'=>e=cO (.bool (rM c.toNat))/\w'=w:=by
 have HB:Hid (rM c.toNat=(c.toNat==32||c.toNat==10)):=rfl;generalize c.toNat=n at *;by_cases h1:n=32
 ·have c1:((n:Int)==32)=true:=by simp[h1]
  go_enter func82,ntmps82;go_wp2;go_ret;exact⟨aM (by rw[HB,h1];rfl),rfl⟩
 ·have c1:((n:Int)==32)=false:=by simp;omega
  go_enter func82,ntmps82;go_wp2;go_ret;exact⟨aM (by rw[HB,qH];simp;omega),rfl⟩
theorem zY(w:World)(c:UInt8):Calls prog 142 #[.int .u8 (c.toNat:Int)] w λe w'=>e=cO (.bool (nD c.toNat))/\w'=w:=by
 have HB:Hid (nD c.toNat=(c.toNat==40||c.toNat==41)):=rfl;generalize c.toNat=n at *;by_cases h1:n=40
 ·have c1:((n:Int)==40)=true:=by simp[h1]
  go_enter func142,ntmps142;go_wp2;go_ret;exact⟨aM (by rw[HB,h1];rfl),rfl⟩
 ·have c1:((n:Int)==40)=false:=by simp;omega
  go_enter func142,ntmps142;go_wp2;go_ret;exact⟨aM (by rw[HB,qH];simp;omega),rfl⟩
theorem sign_at(c:UInt8):decide (0<=Lib.indexByte [46,43,45,42,60,61] c)=(c.toNat==46||c.toNat==43||c.toNat==45||c.toNat==42||c.toNat==60||c.toNat==61):=by
 have h:∀n:Fin 256,decide (0<=Lib.indexByte [46,43,45,42,60,61] (UInt8.ofNat n.val))=(n.val==46||n.val==43||n.val==45||n.val==42||n.val==60||n.val==61):=by decide +kernel
 have:=h ⟨c.toNat,c.toNat_lt⟩;simpa using this
theorem Iu(w:World)(c:UInt8):Calls prog 143 #[.int .u8 (c.toNat:Int)] w λe w'=>e=cO (.bool (rO c.toNat))/\w'=w:=by
 have HB:Hid (rO c.toNat=((decide (97<=c.toNat)&&decide (c.toNat<=122))||(decide (48<=c.toNat)&&decide (c.toNat<=57))||c.toNat==46||c.toNat==43||c.toNat==45||c.toNat==42||c.toNat==60||c.toNat==61)):=rfl;have HI:Hid (∀w,Calls prog 198 #[A ⟨#[46,43,45,42,60,61]⟩,.int .u8 (c.toNat:Int)] w λe w'=>∃z:Int,e=cO (O z)/\decide (0<=z)=(c.toNat==46||c.toNat==43||c.toNat==45||c.toNat==42||c.toNat==60||c.toNat==61)/\w'=w):=I (λw=>by refine(Tryz.strings_IndexByte ⟨#[46,43,45,42,60,61]⟩ (c.toNat:Int) w).mono ?_;rintro e w' ⟨rfl,rfl⟩;refine⟨_,rfl,?_,rfl⟩;rw[<-sign_at];simp);generalize c.toNat=n at *;by_cases l1:97<=n/\n<=122
 ·have f1:(97:Int)<=(n:Int):=by omega
  have f2:(n:Int)<=122:=by omega
  go_enter func143,ntmps143;go_wp2;go_ret;exact⟨aM (by rw[HB,qH];simp;omega),rfl⟩
 by_cases l2:48<=n/\n<=57
 ·have f1:¬(97:Int)<=(n:Int):=by omega
  have f3:(48:Int)<=(n:Int):=by omega
  have f4:(n:Int)<=57:=by omega
  go_enter func143,ntmps143;go_wp2;go_ret;exact⟨aM (by rw[HB,qH];simp;omega),rfl⟩
 have hcase:n<48\/(57<n/\n<97)\/122<n:=by omega
 have HB2:Hid (rO n=(n==46||n==43||n==45||n==42||n==60||n==61)):=I (by rw[HB,qH];simp;omega);rcases hcase with l|l|l;case' inl=>
  have f1:¬(97:Int)<=(n:Int):=by omega
  have f3:¬(48:Int)<=(n:Int):=by omega
 case' inr.inl=>
  have f1:¬(97:Int)<=(n:Int):=by omega
  have f3:(48:Int)<=(n:Int):=by omega
  have f4:¬(n:Int)<=57:=by omega
 case' inr.inr=>
  have f1:(97:Int)<=(n:Int):=by omega
  have f2:¬(n:Int)<=122:=by omega
  have f3:(48:Int)<=(n:Int):=by omega
  have f4:¬(n:Int)<=57:=by omega
 all_goals clear l l1 l2;go_enter func143,ntmps143;go_wp2_with fail;refine(HI _).mono ?_;rintro e w' ⟨z,rfl,hz,hw⟩;subst hw;have HZ:=I hz;clear hz;go_wp2;go_ret;exact⟨aM (by rw[HB2];exact HZ),rfl⟩
theorem Cq(w:World)(s:aZ)(hs:s.size<=4096):Calls prog 81 #[A s] w λe w'=>e=cO (O ((((Cj s).getD s.size:Nat)):Int))/\w'=w:=by
 go_enter func81,ntmps81;go_wp2;go_loop [3] (λi=>∃k:Nat,k<=s.size/\i=O k/\∀d,d<k->KX s d=true) (λi=>s.size - (intOf i).toNat);case atStart=>exact⟨0,bI _,rfl,λd hd=>aN hd (fK _)⟩
 case round=>
  obtain⟨k,hk,rfl,hall⟩:=hrel;have dU:=I hall;clear hall;by_cases hlt:k<s.size
  ·have HB:=I (Xd s k hlt);have wV:Hid (KX s k=(rM (bO.bt s k)||nD (bO.bt s k)||rO (bO.bt s k))):=rfl;rw[HB]at wV;have HOKS:Hid (KX s k=true->∀d,d<k+1->KX s d=true):=I (λh d hd=>by
    by_cases e:d=k;·subst e;exact h
    ·exact dU d aV)
   have b1:(0:Int)<=(k:Int):=by omega
   have b3:(k:Int)<(s.size:Int):=by omega
   go_wp2_with fail;refine(zX _ s[k]).mono ?_;rintro e w' ⟨rfl,hw⟩;subst hw;cases c1:rM s[k].toNat
   ·go_wp2_with fail;refine(zY _ s[k]).mono ?_;rintro e w' ⟨rfl,hw⟩;subst hw;cases c2:nD s[k].toNat
    ·go_wp2_with fail;refine(Iu _ s[k]).mono ?_;rintro e w' ⟨rfl,hw⟩;subst hw;cases c3:rO s[k].toNat;·have HBAD:Hid (Cj s=some k):=I (pO hlt (λd hd=>by rw[dU d hd];rfl) (by rw[wV,c1,c2,c3];rfl));go_wp2;go_ret;exact⟨bQ (by rw[HBAD];rfl),rfl⟩
     ·have HK:Hid (KX s k=true):=I (by rw[wV,c1,c2,c3];rfl);go_wp2;go_round;case rel=>exact⟨k+1,by omega,by go_num,HOKS HK⟩
      case measure=>simp[intOf];omega
    ·have HK:Hid (KX s k=true):=I (by rw[wV,c1,c2];rfl);go_wp2;go_round;case rel=>exact⟨k+1,by omega,by go_num,HOKS HK⟩
     case measure=>simp[intOf];omega
   ·have HK:Hid (KX s k=true):=I (by rw[wV,c1];rfl);go_wp2;go_round;case rel=>exact⟨k+1,by omega,by go_num,HOKS HK⟩
    case measure=>simp[intOf];omega
  ·have HBAD:Hid (Cj s=none):=I (kF (λd hd=>by rw[dU d aV];rfl));go_wp2;go_ret;exact⟨bQ (by rw[HBAD];rfl),rfl⟩
namespace bO
def EndsAt(s:aZ)(a b:Nat):Prop:=
 a<b/\b<=s.size/\((nD (bO.bt s a)=true/\b=a+1)\/(nD (bO.bt s a)=false/\(∀d,a<d->d<b->rO (bO.bt s d)=true)/\(b=s.size\/rO (bO.bt s b)=false)))
end bO
theorem QM(w:World)(s:aZ)(a:Nat)(hs:s.size<=4096)(ha:a<s.size):Calls prog 83 #[A s,O (a:Int)] w λe w'=>∃b:Nat,e=cO (O (b:Int))/\EndsAt s a b/\w'=w:=by
 have HB:=I (Xd s a ha);have b1:(0:Int)<=(a:Int):=by omega
 have b3:(a:Int)<(s.size:Int):=by omega
 go_enter func83,ntmps83;go_wp2_with fail;refine(zY _ s[a]).mono ?_;rintro e w' ⟨rfl,hw⟩;subst hw;cases c1:nD s[a].toNat
 ·go_wp2;go_loop [5] (λi=>∃k:Nat,a<k/\k<=s.size/\i=O k/\∀d,a<d->d<k->rO (bO.bt s d)=true) (λi=>s.size - (intOf i).toNat);case atStart=>exact⟨a+1,by omega,by omega,by go_num,λd h1 h2=>aN h2 aV⟩
  case round=>
   obtain⟨k,hk1,hk,rfl,hall⟩:=hrel;have dU:=I hall;clear hall;by_cases hlt:k<s.size
   ·have oD:=I (Xd s k hlt);have d1:(0:Int)<=(k:Int):=by omega
    have d3:(k:Int)<(s.size:Int):=by omega
    go_wp2_with fail;refine(Iu _ s[k]).mono ?_;rintro e w' ⟨rfl,hw⟩;subst hw;cases c3:rO s[k].toNat;·go_wp2;go_ret;exact⟨k,rfl,⟨hk1,hk,aT ⟨by rw[HB];exact c1,dU,aT (by rw[oD];exact c3)⟩⟩,rfl⟩
    ·go_wp2;go_round;case rel=>exact⟨k+1,by omega,by omega,by go_num,λd h1 h2=>by
      by_cases e:d=k;·subst e;rw[oD];exact c3
      ·exact dU d h1 aV⟩
     case measure=>simp[intOf];omega
   ·go_wp2;go_ret;exact⟨k,rfl,⟨hk1,hk,aT ⟨by rw[HB];exact c1,dU,aR aV⟩⟩,rfl⟩
 ·go_wp2;go_ret;exact⟨a+1,by go_num,⟨by omega,by omega,aR ⟨by rw[HB];exact c1,rfl⟩⟩,rfl⟩
theorem long_not(h:rO n=true):rM n=false/\nD n=false:=by unfold rO at h;unfold rM nD;simp only[Iw,dS,iA,beq_iff_eq]at h;simp only[Bool.or_eq_false_iff,beq_eq_false_iff_ne];omega
theorem QN(h1:rM (bO.bt s a)=false)(h2:nD (bO.bt s a)=false)(h3:(bO.tok s a).2=false):
 ∀b,a<b->(∀d,a<d->d<b->rO (bO.bt s d)=true)->bO.tok s b=((bO.tok s a).1++[(a,b)],true)
 | 0,hb,_=>aN hb aV
 | b+1,hb,h=>by
  by_cases e:a=b;·subst e;simp only[bO.tok,h1,h2,h3,aJ gZ]
  ·have ih:=QN h1 h2 h3 b aV (λd d1 d2=>h d d1 aV);obtain⟨g1,g2⟩:=long_not (h b aV aV);rw[bO.tok,ih,g1,g2];simp
theorem tok_word(h:EndsAt s a b)(h1:rM (bO.bt s a)=false)(h3:nD (bO.bt s a)=false->(bO.tok s a).2=false):(bO.tok s b).1=(bO.tok s a).1++[(a,b)]/\((bO.tok s b).2=true->b=s.size\/rO (bO.bt s b)=false):=by
 obtain⟨hb,_,⟨hk,rfl⟩|⟨hk,hl,he⟩⟩:=h;·simp only[bO.tok,h1,hk,aJ gZ,aL];exact⟨trivial,λh=>by cases h⟩
 ·rw[QN h1 hk (h3 hk) b hb hl];exact⟨rfl,λ_=>he⟩
theorem Y7(w:World)(s:ByteArray)(hs:s.size<=maxLen):Calls prog 48 #[.string s] w λe w'=>∃v6 v7,e=.returned (.tuple #[v6,v7,.int .i64 (bO.wn s),.int .i64 (bO.we s)])/\xH w' v6 (AO s)/\Ints w' v7 (qO s)/\gB w' w.heap.size v7 (qO s)/\Own w' w.heap.size v6 (AO s)/\Below w.heap.size w w':=by
 unfold maxLen at hs;have UE:Hid (xH w (.slice none 0 0) []):=I (Own.Xb (kS w 0 _ _) (λs hs=>aN hs (by simp)) (by simp));have HI0:Hid (Ints w (.slice none 0 0) []):=I (gB.ints (kS w 0 _ _) (by simp));by_cases hbig:4096<s.size
 ·have e1:bO.wn s=0:=by unfold bO.wn;rw[aL hbig]
  have e2:bO.we s=2:=by unfold bO.we;rw[aL hbig]
  have e3:AO s=[]:=by unfold AO;rw[aL hbig]
  have e4:qO s=[]:=by unfold qO;rw[aL hbig]
  rw[e1,e2,e3,e4];clear e1 e2 e3 e4;go_enter func48,ntmps48;go_wp2;(try simp only[Exit.inBlock,Exit.then]);refine bW (vU rfl _ _ _) rfl ?_;exact⟨_,_,rfl,UE,HI0,kS _ _ _ _,kS _ _ _ _,bN _ _⟩
 have HBG:=I hbig;have hs4:s.size<=4096:=by omega
 clear hbig;cases hbad:Cj s with
 | some k=>
  have hk:k<s.size:=(bO.find_spec hbad).1;have e1:bO.wn s=k:=by unfold bO.wn;rw[aJ HBG.out,hbad];rfl
  have e2:bO.we s=3:=by unfold bO.we;rw[aJ HBG.out,hbad];rfl
  have e3:AO s=[]:=by unfold AO;rw[aJ HBG.out,hbad]
  have e4:qO s=[]:=by unfold qO;rw[aJ HBG.out,hbad]
  rw[e1,e2,e3,e4];have HF:=I (Cq w s hs4);rw[hbad,iK]at HF;clear e1 e2 e3 e4 hbad;have b3:(k:Int)<(s.size:Int):=by omega
  go_enter func48,ntmps48;go_wp2_with fail;refine HF.mono ?_;rintro e w' ⟨rfl,hw⟩;subst hw;go_wp2;(try simp only[Exit.inBlock,Exit.then]);refine bW (vU rfl _ _ _) rfl ?_;exact⟨_,_,rfl,UE,HI0,kS _ _ _ _,kS _ _ _ _,bN _ _⟩
 | none=>
  have HOKA:Hid (∀d,d<s.size->KX s d=true):=I (λd hd=>by have:=LH.1 hbad d (jG.2 hd);simpa using this);have Y8:Hid (bO.wn s=0):=I (by unfold bO.wn;rw[aJ HBG.out,hbad];rfl);have HE2:Hid (bO.we s=0):=I (by unfold bO.we;rw[aJ HBG.out,hbad];rfl);have Y9:Hid (AO s=(bO.tok s s.size).1.map (bO.ext s)):=I (by unfold AO;rw[aJ HBG.out,hbad]);have HE4:Hid (qO s=(bO.tok s s.size).1.map λp=>(p.1:Int)):=I (by unfold qO;rw[aJ HBG.out,hbad]);have HF:=I (Cq w s hs4);rw[hbad,nG]at HF;clear hbad;go_enter func48,ntmps48;go_wp2_with fail;refine HF.mono ?_;rintro e w1 ⟨rfl,hw⟩;subst hw;go_wp2;go_loopw[7,8,9] (λv6 v7 i wr=>∃k:Nat,k<=s.size/\i=.int .i64 k/\((bO.tok s k).2=true->k=s.size\/rO (bO.bt s k)=false)/\Own wr w1.heap.size v6 ((bO.tok s k).1.map (bO.ext s))/\gB wr w1.heap.size v7 ((bO.tok s k).1.map λp=>(p.1:Int))/\Below w1.heap.size w1 wr) (λ_ _ i _=>s.size - (intOf i).toNat);case atStart=>exact⟨0,bI _,rfl,λh=>by simp[bO.tok]at h,kS _ _ _ _,kS _ _ _ _,bN _ _⟩
  case round=>
   obtain⟨k,hk,rfl,hop,ho6,ho7,hnx⟩:=hrel;have HOP:=I hop;have BO:=I ho6;have BP:=I ho7;have dM:=I hnx;have hbs:=hnx.size;clear hop ho6 ho7 hnx;by_cases hlt:k<s.size
   ·have HB:=I (Xd s k hlt);have wV:=I (HOKA k hlt);have b1:(0:Int)<=(k:Int):=by omega
    have b3:(k:Int)<(s.size:Int):=by omega
    go_wp2_with fail;refine(zX _ s[k]).mono ?_;rintro e w2 ⟨rfl,hw⟩;subst hw;cases c1:rM s[k].toNat
    ·have HT:Hid (nD (bO.bt s k)=false->(bO.tok s k).2=false):=I (λh=>by
      cases ho:(bO.tok s k).2;·rfl
      ·have h5:=wV.out;unfold KX at h5;rw[h,HB,c1]at h5;rcases HOP ho with h6|h6;·omega
       ·rw[HB]at h6;rw[h6]at h5;cases h5)
     have hlen:((bO.tok s k).1.map (bO.ext s)).length<=4096:=by have:=(vP s k).1;rw[dR];omega
     have hlen7:((bO.tok s k).1.map λp=>(p.1:Int)).length<=4096:=by have:=(vP s k).1;rw[dR];omega
     go_wp2_with fail;refine(QM _ s k hs4 hlt).mono ?_;rintro e w3 ⟨b,rfl,hend,hw⟩;subst hw;have hb1:=hend.1;have hb2:=hend.2.1;have HW:=I (tok_word hend (by rw[HB];exact c1) HT);clear hend;have d1:(k:Int)<=(b:Int):=by omega
     have d2:(b:Int)<=(s.size:Int):=by omega
     have d3:(0:Int)<=(b:Int):=by omega
     have hex:(s.extract k b).size<=4096:=by rw[Qx];omega
     go_wp2_with fail;refine(Y6 _ (s.extract k b) (by omega)).mono ?_;rintro e w4 ⟨rfl,hb4⟩;have HO64:Hid (Own w4 w1.heap.size _ _):=I (fC BO hb4);have HO74:Hid (gB w4 w1.heap.size _ _):=I (fC BP hb4);have HNX4:=I (up dM hb4);have hbs4:=HNX4.size;clear hb4
     go_wp2_with (first
      | (at_builtin;refine kL rfl _ _ rfl w1.heap.size _ _ rfl (vM HO64 _) _ (s.extract k b) rfl (UC _ _) (by omega) (by simp;omega) ?_;intro v6' w5 hown2 hgrow2;have HO62:=I hown2;have HO72:=I (gB.kept HO74 HO64 hgrow2);have HR2:=I ((HNX4.alloc hbs4 (.cells #[.string (s.extract k b)] 9)).grown hgrow2 (by simp;omega) (λj hj=>(HO64.lt j hj).1));have hbs2:=HR2.size;clear hown2 hgrow2)
      | (at_builtin;refine ng rfl _ _ rfl w1.heap.size _ _ rfl (vM HO72 _) _ (k:Int) rfl (Ip _ _) (by omega) (by simp;omega) ?_;intro v7' w6 hown3 hgrow3;have HO73:=I hown3;have HO63:=I (Own.kept HO62 HO72 hgrow3);have HR3:=I ((HR2.alloc hbs2 (.cells #[.int .i64 (k:Int)] 3)).grown hgrow3 (by simp;omega) (λj hj=>(HO72.lt j hj).1));clear hown3 hgrow3)
      | fail)
     go_roundw;case rel=>exact⟨b,hb2,rfl,HW.2,by rw[HW.1,fH];exact HO63,by rw[HW.1,fH];exact HO73,HR3⟩
     case measure=>simp[intOf];omega
    ·have HT1:Hid (bO.tok s (k+1)=((bO.tok s k).1,false)):=I (by rw[bO.tok,HB,c1];simp);go_wp2;go_roundw;case rel=>exact⟨k+1,by omega,by go_num,(λh=>by rw[HT1]at h;cases h),by rw[HT1];exact BO,by rw[HT1];exact BP,dM⟩
     case measure=>simp[intOf];omega
   ·have e:k=s.size:=by omega
    subst e;have hlen:=(vP s s.size).1;have HS:=I (BO.Xb (λt ht=>by obtain⟨p,_,rfl⟩:=jU.1 ht;unfold bO.ext maxLen;rw[Qx];omega) (by rw[dR];omega));have HI:=I (BP.ints (by rw[dR];omega));clear hlen;go_wp2;(try simp only[Exit.inBlock,Exit.then]);refine bW (vU rfl _ _ _) rfl ?_;exact⟨_,_,ret4 (by rw[Y8];rfl) (by rw[HE2]),by rw[Y9];exact HS,by rw[HE4];exact HI,by rw[HE4];exact BP,by rw[Y9];exact BO,dM⟩
end Go.Proofs.YtbgkpehhdibaoaaGreatDoor
