/- Plain mathematics of levels, without any -/
import Derived.WalkKit
import Derived.WalkSpells
import Derived.WalkLawsBesides
import Derived.Test.YtfnboapebijcpaaGreatDoorChecked
import Derived.Deep.QuietTactic
import Derived.BigQuiet
import Derived.Test.YtfnboapebijcpaaGreatDoorZAL
set_option maxHeartbeats 16000000
set_option maxRecDepth 100000
namespace Go.Proofs.YtfnboapebijcpaaGreatDoor
open Go.Proofs.Tryz
namespace bC
theorem all_true{p:Nat->Bool}{n:Nat}(h:∀d,d<n->p d=true):(List.range n).all p=true:=by rw[iO];intro x hx;exact h x (j6.1 hx)
theorem all_false{p:Nat->Bool}{n k:Nat}(hk:k<n)(h:p k=false):(List.range n).all p=false:=by rw[BP];exact⟨k,j6.2 hk,by simp[h]⟩
theorem jU{p:Nat->Bool}{n k:Nat}(h:(List.range n).all p=true)(hk:k<n):p k=true:=
 iO.1 h k (j6.2 hk)
theorem jV{p:Nat->Bool}{n:Nat}(h:∀c,c<n->p c=false):(List.range n).find? p=none:=by rw[xH];intro x hx;simp[h x (j6.1 hx)]
theorem oZ{p:Nat->Bool}:∀{n k:Nat},k<n->(∀c,c<k->p c=false)->p k=true->(List.range n).find? p=some k:=by
 intro n k hk h0 h1;induction n with
 | zero=>omega
 | succ n ih=>
  rw[rA,List.find?_append];by_cases e:k<n;·rw[ih e];rfl
  ·have:k=n:=by omega
   subst this;rw[jV h0];simp[h1]
theorem find_spec{p:Nat->Bool}{n k:Nat}(h:(List.range n).find? p=some k):k<n/\p k=true:=
 ⟨j6.1 (Nc h),Fg h⟩
def Fj(Z:Nat->Nat->Bool)(n a b c:Nat):Bool:=(List.range n).all λd=>!(Z a d&&Z b d&&!Z c d)
def uT(Z:Nat->Nat->Bool)(n a b c:Nat):Bool:=Z a c&&Z b c&&Fj Z n a b c
def kT(Z:Nat->Nat->Bool)(n a b:Nat):Option Nat:=(List.range n).find? (uT Z n a b)
def zI(Z:Nat->Nat->Bool)(a b c:Nat):Bool:=!(Z b c&&!Z a c)
def fH(Z:Nat->Nat->Bool)(n a b:Nat):Bool:=!(a != b&&Z b a)&&(List.range n).all (zI Z a b)
def uU(Z:Nat->Nat->Bool)(n a b:Nat):Bool:=!(Z a b&&!fH Z n a b)
def uV(Z:Nat->Nat->Bool)(n a:Nat):Bool:=Z a a&&(List.range n).all (uU Z n a)
def o7(Z:Nat->Nat->Bool)(n:Nat):Bool:=(List.range n).all (uV Z n)
def tr(Z:Nat->Nat->Bool):Nat->Nat->Bool:=λa b=>Z b a
def uW(Z:Nat->Nat->Bool)(n a b:Nat):Bool:=(kT Z n a b).isSome
def jJ(Z:Nat->Nat->Bool)(n:Nat):Bool:=(List.range n).all λa=>(List.range a).all (uW Z n a)
def Qq(Z:Nat->Nat->Bool)(n a:Nat):Bool:=(List.range n).all (Z a)
def sQ(Z:Nat->Nat->Bool)(n:Nat):Nat:=((List.range n).find? (Qq Z n)).getD 0
def l9(Z:Nat->Nat->Bool)(n a b:Nat):Nat:=(kT Z n a b).getD 0
def Tk(Z:Nat->Nat->Bool)(n a b:Nat):Int:=if (kT Z n a b).isSome then 0 else 5
end bC
open bC
open Go.RowKit
theorem hide{p:Prop}(h:p):Hid p:=h
theorem fC{p:Prop}(h:Hid p):p:=h
def mO(w:World)(v:Value)(n:Nat)(Z:Nat->Nat->Bool):Prop:=
 ∃(gb go gc:Nat) (RB RO C:Nat->Nat),v=.slice (some ⟨gb,go,none⟩) n gc/\
  (∀r,r<n->w.cell? ⟨gb,go+r,none⟩=some (.slice (some ⟨RB r,RO r,none⟩) n (C r)))/\
  (∀r c,r<n->c<n->w.cell? ⟨RB r,RO r+c,none⟩=some (.bool (Z r c)))
theorem mO.below{w w':World}{v:Value}{n:Nat}{Z:Nat->Nat->Bool}(h:mO w v n Z)(hb:Below w.heap.size w w'):mO w' v n Z:=by
 obtain⟨gb,go,gc,RB,RO,C,e,h1,h2⟩:=h
 exact⟨gb,go,gc,RB,RO,C,e,λr hr=>by rw[hb.cell (gT _ _ (h1 r hr))];exact h1 r hr,
  λr c hr hc=>by rw[hb.cell (gT _ _ (h2 r c hr hc))];exact h2 r c hr hc⟩
def Qb(w:World)(v:Value)(G:Nat)(L:Nat->Nat)(Z:Nat->Nat->Bool):Prop:=
 ∃(ga:Option Addr) (gb go gc:Nat) (A:Nat->Option Addr) (RB RO C:Nat->Nat),v=.slice ga G gc/\(0<G->ga=some ⟨gb,go,none⟩)/\G<=9223372036854775807/\
  (∀r,r<G->L r<=9223372036854775807)/\
  (∀r,r<G->w.cell? ⟨gb,go+r,none⟩=some (.slice (A r) (L r) (C r)))/\
  (∀r c,r<G->c<L r->A r=some ⟨RB r,RO r,none⟩/\w.cell? ⟨RB r,RO r+c,none⟩=some (.bool (Z r c)))
theorem Qb.below{w w':World}{v:Value}{G:Nat}{L:Nat->Nat}{Z:Nat->Nat->Bool}(h:Qb w v G L Z)(hb:Below w.heap.size w w'):Qb w' v G L Z:=by
 obtain⟨ga,gb,go,gc,A,RB,RO,C,e,h0,hG,hL,h1,h2⟩:=h
 exact⟨ga,gb,go,gc,A,RB,RO,C,e,h0,hG,hL,λr hr=>by rw[hb.cell (gT _ _ (h1 r hr))];exact h1 r hr,
  λr c hr hc=>⟨(h2 r c hr hc).1,by rw[hb.cell (gT _ _ (h2 r c hr hc).2)];exact(h2 r c hr hc).2⟩⟩
theorem Qb.grid{w:World}{v:Value}{G:Nat}{L:Nat->Nat}{Z:Nat->Nat->Bool}(h:Qb w v G L Z)(h0:0<G)(hL:∀r,r<G->L r=G):mO w v G Z:=by
 obtain⟨ga,gb,go,gc,A,RB,RO,C,e,hg,_,_,h1,h2⟩:=h;refine⟨gb,go,gc,RB,RO,C,by rw[e,hg h0],λr hr=>?_,λr c hr hc=>?_⟩;·have:=(h2 r 0 hr (by rw[hL r hr];omega)).1;rw[h1 r hr,this,hL r hr]
 ·exact(h2 r c hr (by rw[hL r hr];omega)).2
def Strs(w:World)(v:Value)(ss:List ByteArray):Prop:=
 ∃(a:Option Addr) (b off cap:Nat),v=.slice a ss.length cap/\(0<ss.length->a=some ⟨b,off,none⟩)/\ss.length<=9223372036854775807/\
  (∀s∈ss,s.size<=maxLen)/\(∀j,j<ss.length->w.cell? ⟨b,off+j,none⟩=some (.string (ss.getD j ByteArray.empty)))
theorem Strs.below{w w':World}{v:Value}{ss:List ByteArray}(h:Strs w v ss)(hb:Below w.heap.size w w'):Strs w' v ss:=by obtain⟨a,b,off,cap,e,h0,hl,hs,h1⟩:=h;exact⟨a,b,off,cap,e,h0,hl,hs,λr hr=>by rw[hb.cell (gT _ _ (h1 r hr))];exact h1 r hr⟩
structure Ex where
 kind:Int
 n:Int
 name:ByteArray
 args:List Ex
structure St where
 kind:Int
 name:ByteArray
 e:Ex
 a:List St
 b:List St
structure Fu where
 name:ByteArray
 params:List ByteArray
 body:List St
 result:Ex
structure Va where
 name:ByteArray
 level:ByteArray
structure Mo where
 name:ByteArray
 imports:List ByteArray
 vars:List Va
 aR:List Fu
def Qr(n:Int):Prop:=-9223372036854775808<=n/\n<=9223372036854775807
def gq(w:World):Nat->Value->Value->Value->Value->Ex->Prop
 | 0,_,_,_,_,_=>False
 | m+1,c0,c1,c2,c3,x=>
  c0=.int .i64 x.kind/\c1=.int .i64 x.n/\c2=.string x.name/\x.name.size<=maxLen/\Qr x.kind/\Qr x.n/\
  ∃(a:Option Addr) (b off cap:Nat),c3=.slice a x.args.length cap/\(0<x.args.length->a=some ⟨b,off,none⟩)/\x.args.length<=9223372036854775807/\
   ∀i y,x.args[i]?=some y->∃e0 e1 e2 e3,w.cell? ⟨b,off+i*4,none⟩=some e0/\w.cell? ⟨b,off+i*4+1,none⟩=some e1/\w.cell? ⟨b,off+i*4+2,none⟩=some e2/\w.cell? ⟨b,off+i*4+3,none⟩=some e3/\gq w m e0 e1 e2 e3 y
theorem gq.below{w w':World}(hb:Below w.heap.size w w'):∀{m:Nat} {c0 c1 c2 c3:Value} {x:Ex},gq w m c0 c1 c2 c3 x->gq w' m c0 c1 c2 c3 x
 | 0,_,_,_,_,_,h=>h
 | m+1,c0,c1,c2,c3,x,h=>by obtain⟨h0,h1,h2,h3,h4,h5,a,b,off,cap,h6,h7,h8,h9⟩:=h;refine⟨h0,h1,h2,h3,h4,h5,a,b,off,cap,h6,h7,h8,λi y hy=>?_⟩;obtain⟨e0,e1,e2,e3,g0,g1,g2,g3,hx⟩:=h9 i y hy;exact⟨e0,e1,e2,e3,by rw[hb.cell (gT _ _ g0)];exact g0,by rw[hb.cell (gT _ _ g1)];exact g1,by rw[hb.cell (gT _ _ g2)];exact g2,by rw[hb.cell (gT _ _ g3)];exact g3,gq.below hb hx⟩
theorem gq.mono{w:World}:∀{m:Nat} {c0 c1 c2 c3:Value} {x:Ex},gq w m c0 c1 c2 c3 x->∀k,m<=k->gq w k c0 c1 c2 c3 x
 | 0,_,_,_,_,_,h,_,_=>False.elim h
 | m+1,c0,c1,c2,c3,x,h,0,hk=>by omega
 | m+1,c0,c1,c2,c3,x,h,k+1,hk=>by obtain⟨h0,h1,h2,h3,h4,h5,a,b,off,cap,h6,h7,h8,h9⟩:=h;refine⟨h0,h1,h2,h3,h4,h5,a,b,off,cap,h6,h7,h8,λi y hy=>?_⟩;obtain⟨e0,e1,e2,e3,g0,g1,g2,g3,hx⟩:=h9 i y hy;exact⟨e0,e1,e2,e3,g0,g1,g2,g3,gq.mono hx k (by omega)⟩
def dW(w:World):Nat->Value->List St->Prop
 | 0,_,_=>False
 | m+1,v,l=>∃(a:Option Addr) (b off cap:Nat),v=.slice a l.length cap/\(0<l.length->a=some ⟨b,off,none⟩)/\l.length<=9223372036854775807/\
   ∀i s,l[i]?=some s->Qr s.kind/\s.name.size<=maxLen/\∃e0 e1 e2 e3 va vb,w.cell? ⟨b,off+i*8,none⟩=some (.int .i64 s.kind)/\w.cell? ⟨b,off+i*8+1,none⟩=some (.string s.name)/\
    w.cell? ⟨b,off+i*8+2,none⟩=some e0/\w.cell? ⟨b,off+i*8+3,none⟩=some e1/\w.cell? ⟨b,off+i*8+4,none⟩=some e2/\w.cell? ⟨b,off+i*8+5,none⟩=some e3/\
    w.cell? ⟨b,off+i*8+6,none⟩=some va/\w.cell? ⟨b,off+i*8+7,none⟩=some vb/\gq w m e0 e1 e2 e3 s.e/\dW w m va s.a/\dW w m vb s.b
theorem dW.below{w w':World}(hb:Below w.heap.size w w'):∀{m:Nat} {v:Value} {l:List St},dW w m v l->dW w' m v l
 | 0,_,_,h=>h
 | m+1,v,l,h=>by obtain⟨a,b,off,cap,h6,h7,h8,h9⟩:=h;refine⟨a,b,off,cap,h6,h7,h8,λi s hs=>?_⟩;obtain⟨k1,k2,e0,e1,e2,e3,va,vb,g0,g1,g2,g3,g4,g5,g6,g7,hx,ha,hb'⟩:=h9 i s hs;exact⟨k1,k2,e0,e1,e2,e3,va,vb,by rw[hb.cell (gT _ _ g0)];exact g0,by rw[hb.cell (gT _ _ g1)];exact g1,by rw[hb.cell (gT _ _ g2)];exact g2,by rw[hb.cell (gT _ _ g3)];exact g3,by rw[hb.cell (gT _ _ g4)];exact g4,by rw[hb.cell (gT _ _ g5)];exact g5,by rw[hb.cell (gT _ _ g6)];exact g6,by rw[hb.cell (gT _ _ g7)];exact g7,hx.below hb,ha.below hb,hb'.below hb⟩
theorem dW.mono{w:World}:∀{m:Nat} {v:Value} {l:List St},dW w m v l->∀k,m<=k->dW w k v l
 | 0,_,_,h,_,_=>False.elim h
 | m+1,v,l,h,0,hk=>by omega
 | m+1,v,l,h,k+1,hk=>by obtain⟨a,b,off,cap,h6,h7,h8,h9⟩:=h;refine⟨a,b,off,cap,h6,h7,h8,λi s hs=>?_⟩;obtain⟨k1,k2,e0,e1,e2,e3,va,vb,g0,g1,g2,g3,g4,g5,g6,g7,hx,ha,hb'⟩:=h9 i s hs;exact⟨k1,k2,e0,e1,e2,e3,va,vb,g0,g1,g2,g3,g4,g5,g6,g7,hx.mono k (by omega),ha.mono k (by omega),hb'.mono k (by omega)⟩
def Dv(w:World)(v:Value)(l:List Va):Prop:=
 ∃(a:Option Addr) (b off cap:Nat),v=.slice a l.length cap/\(0<l.length->a=some ⟨b,off,none⟩)/\l.length<=9223372036854775807/\
  ∀i s,l[i]?=some s->s.name.size<=maxLen/\s.level.size<=maxLen/\w.cell? ⟨b,off+i*2,none⟩=some (.string s.name)/\w.cell? ⟨b,off+i*2+1,none⟩=some (.string s.level)
theorem Dv.below{w w':World}{v:Value}{l:List Va}(h:Dv w v l)(hb:Below w.heap.size w w'):Dv w' v l:=by obtain⟨a,b,off,cap,h6,h7,h8,h9⟩:=h;refine⟨a,b,off,cap,h6,h7,h8,λi s hs=>?_⟩;obtain⟨k1,k2,g0,g1⟩:=h9 i s hs;exact⟨k1,k2,by rw[hb.cell (gT _ _ g0)];exact g0,by rw[hb.cell (gT _ _ g1)];exact g1⟩
def mP(w:World)(m:Nat)(v:Value)(l:List Fu):Prop:=
 ∃(a:Option Addr) (b off cap:Nat),v=.slice a l.length cap/\(0<l.length->a=some ⟨b,off,none⟩)/\l.length<=9223372036854775807/\
  ∀i s,l[i]?=some s->s.name.size<=maxLen/\∃vp vb e0 e1 e2 e3,w.cell? ⟨b,off+i*7,none⟩=some (.string s.name)/\w.cell? ⟨b,off+i*7+1,none⟩=some vp/\w.cell? ⟨b,off+i*7+2,none⟩=some vb/\
   w.cell? ⟨b,off+i*7+3,none⟩=some e0/\w.cell? ⟨b,off+i*7+4,none⟩=some e1/\w.cell? ⟨b,off+i*7+5,none⟩=some e2/\w.cell? ⟨b,off+i*7+6,none⟩=some e3/\
   Strs w vp s.params/\dW w m vb s.body/\gq w m e0 e1 e2 e3 s.result
theorem mP.below{w w':World}{m:Nat}{v:Value}{l:List Fu}(h:mP w m v l)(hb:Below w.heap.size w w'):mP w' m v l:=by obtain⟨a,b,off,cap,h6,h7,h8,h9⟩:=h;refine⟨a,b,off,cap,h6,h7,h8,λi s hs=>?_⟩;obtain⟨k1,vp,vb,e0,e1,e2,e3,g0,g1,g2,g3,g4,g5,g6,hp,hs',hx⟩:=h9 i s hs;exact⟨k1,vp,vb,e0,e1,e2,e3,by rw[hb.cell (gT _ _ g0)];exact g0,by rw[hb.cell (gT _ _ g1)];exact g1,by rw[hb.cell (gT _ _ g2)];exact g2,by rw[hb.cell (gT _ _ g3)];exact g3,by rw[hb.cell (gT _ _ g4)];exact g4,by rw[hb.cell (gT _ _ g5)];exact g5,by rw[hb.cell (gT _ _ g6)];exact g6,hp.below hb,hs'.below hb,hx.below hb⟩
def jK(w:World)(m:Nat)(v:Value)(x:Mo):Prop:=
 ∃vi vv vf,v=.agg #[.string x.name,vi,vv,vf]/\x.name.size<=maxLen/\Strs w vi x.imports/\Dv w vv x.vars/\mP w m vf x.aR
theorem jK.below{w w':World}{m:Nat}{v:Value}{x:Mo}(h:jK w m v x)(hb:Below w.heap.size w w'):jK w' m v x:=by
 obtain⟨vi,vv,vf,h0,h1,h2,h3,h4⟩:=h
 exact⟨vi,vv,vf,h0,h1,h2.below hb,h3.below hb,h4.below hb⟩
namespace bC
def fF(c:UInt8):Bool:=decide (97<=c.toNat)&&decide (c.toNat<=122)
def bL(l:List UInt8):Bool:=decide (1<=l.length)&&decide (l.length<=8)&&l.all fF
end bC
theorem fA(s:ByteArray):s.data.toList.length=s.size:=rfl
theorem Dw(s:ByteArray)(h:∀j (hj:j<s.size),fF s[j]=true):s.data.toList.all fF=true:=by rw[iO];intro x hx;obtain⟨j,hj,rfl⟩:=eX.1 hx;exact h j (by simpa using hj)
theorem qj(s:ByteArray)(j:Nat)(hj:j<s.size)(h:fF s[j]=false):s.data.toList.all fF=false:=by rw[BP];exact⟨s[j],eX.2 ⟨j,by simpa using hj,rfl⟩,by simp[h]⟩
theorem aH{a b:Bool}(h:a=b):Ending.returned (.bool a)=.returned (.bool b):=by rw[h]
theorem Tm{a b:Int}{c d:Int}(h:a=c)(h':b=d):Ending.returned (.tuple #[.int .i64 a,.int .i64 b])=.returned (.tuple #[.int .i64 c,.int .i64 d]):=by rw[h,h']
theorem bA{k:IntKind}{a b:Int}(h:a=b):Ending.returned (.int k a)=.returned (.int k b):=by rw[h]
theorem wK(a b:Nat):((a:Int) != (b:Int))=(a != b):=by rw[rD];simp only[bne_iff_ne,ne_eq];omega
theorem up{w w1 w2:World}(h:Below w.heap.size w w1)(h2:Below w1.heap.size w1 w2):Below w.heap.size w w2:=h.trans (h2.mono h.size)
theorem Qc{w w2:World}{o:Obj}(h2:Below (w.alloc o).heap.size (w.alloc o) w2):Below w.heap.size w w2:=up ((aX _ _).alloc (bM _) _) h2
theorem aA{w w1:World}{a:Addr}{v:Value}(h:w.cell? a=some v)(hb:Below w.heap.size w w1):w1.cell? a=some v:=by rw[hb.cell (gT _ _ h)];exact h
theorem zJ(w:World)(x y:Value)(t:TypeId):(w.alloc (.cells #[x,y] t)).cell? ⟨w.heap.size,0,none⟩=some x:=by simp[go_sem]
theorem mQ(w:World)(x y:Value)(t:TypeId):(w.alloc (.cells #[x,y] t)).cell? ⟨w.heap.size,1,none⟩=some y:=by simp[go_sem]
theorem xI{x:Int}(h:x≠0):(x != 0)=true:=by simp[h]
theorem jL{a b:Bool}(h:a=b):Value.bool a=.bool b:=by rw[h]
theorem aB(w:World)(o:Obj):Below w.heap.size w (w.alloc o):=(aX _ _).alloc (bM _) _
theorem nZ(a b:Nat):((a:Int)==(b:Int))=(a==b):=by rw[rD];simp only[beq_iff_eq];omega
theorem iP{B:Nat}{a w:World}(h:Below B a w)(k:Nat):Below B a (w.drewN k):=h.trans ⟨rfl,rfl,rfl,bM _,λ_ _=>rfl⟩
theorem Xf{a b:Int}{c d:Int}(h:a=c)(h':b=d):Ending.returned (.tuple #[.int .i64 a,.int .i64 b])=.returned (.tuple #[.int .i64 c,.int .i64 d]):=by rw[h,h']
theorem o8(w:World)(a lo hi:Int):
  Calls prog 24 #[.int .i64 a,.int .i64 lo,.int .i64 hi] w λe w'=>e=.returned (.bool (decide (lo<=a)&&decide (a<=hi)))/\w'=w:=by
 by_cases h0:lo<=a
 ·by_cases h1:a<=hi
  ·go_enter func24,ntmps24
   go_wp2
   go_ret
   exact⟨aH (by simp[h0,h1]),rfl⟩
  ·go_enter func24,ntmps24
   go_wp2
   go_ret
   exact⟨aH (by rw[decide_eq_false (by omega:¬a<=hi)]),rfl⟩
 ·go_enter func24,ntmps24
  go_wp2
  go_ret
  exact⟨aH (by rw[decide_eq_false (by omega:¬lo<=a)];rfl),rfl⟩
def sS(s:ByteArray)(k:Nat):Bool:=decide (1<=s.size)&&decide (s.size<=8)&&(s.data.toList.take k).all fF
theorem Nf(s:ByteArray)(k:Nat)(hk:k<s.size):sS s (k+1)=(sS s k&&fF s[k]):=by
 unfold sS;have e:s.data.toList.take (k+1)=s.data.toList.take k++[s[k]]:=by rw[lI (by simpa using hk)];rfl
 rw[e,sU];simp[sV]
theorem Qs(s:ByteArray):sS s s.size=bL s.data.toList:=by unfold sS bL;rw[eP (by simp),fA]
theorem iQ(w:World)(s:ByteArray)(hs:s.size<=maxLen):
  Calls prog 120 #[.string s] w λe w'=>e=.returned (.bool (bL s.data.toList))/\w'=w:=by
 unfold maxLen at hs
 go_enter func120,ntmps120
 go_wp2_with fail
 refine(o8 _ _ _ _).mono ?_
 rintro e w' ⟨rfl,rfl⟩
 have h0:(decide ((1:Int)<=(s.size:Int))&&decide ((s.size:Int)<=8))=sS s 0:=by
  unfold sS
  rw[show decide ((1:Int)<=(s.size:Int))=decide (1<=s.size)from decide_eq_decide.2 (by omega),show decide ((s.size:Int)<=8)=decide (s.size<=8)from decide_eq_decide.2 (by omega)]
  simp
 rw[h0]
 clear h0
 go_wp2
 go_loop [3,4] (λb i=>∃k:Nat,k<=s.size/\i=.int .i64 k/\b=.bool (sS s k)) (λ_ i=>s.size - (intOf i).toNat)
 case atStart=>exact⟨0,Nat.zero_le _,rfl,rfl⟩
 case round=>
  obtain⟨k,hk,rfl,rfl⟩:=hrel
  by_cases hlt:k<s.size
  ·have HS:=hide (Nf s k hlt)
   cases hb:sS s k
   ·have HB:=hide hb
    go_wp2
    go_round
    case rel=>exact⟨k+1,by omega,by go_num,jL (by rw[HS.out,HB.out];rfl)⟩
    case measure=>simp[intOf];omega
   ·have HB:=hide hb
    go_wp2
    all_goals
     go_round
     case rel=>exact⟨k+1,by omega,by go_num,jL (by rw[HS.out,HB.out];unfold fF;rw[Bool.eq_iff_iff];simp;omega)⟩
     case measure=>simp[intOf];omega
  ·go_wp2
   go_ret
   have e:k=s.size:=by omega
   exact⟨aH (by rw[e,Qs]),rfl⟩
namespace bC
def BQ(ss:List ByteArray)(t:ByteArray)(i:Nat):Bool:=t.toList==(ss.getD i ByteArray.empty).toList
def bD(ss:List ByteArray)(t:ByteArray):Int:=match (List.range ss.length).find? (BQ ss t)with|some i=>i|none=>-1
end bC
theorem mg(w:World)(v:Value)(ss:List ByteArray)(t:ByteArray)(hS:Strs w v ss):
  Calls prog 150 #[v,.string t] w λe w'=>e=.returned (.int .i64 (bD ss t))/\w'=w:=by
 obtain⟨a,b,off,cap,rfl,ha,hl,hs,h1⟩:=hS
 obtain⟨len,hlen⟩:∃len,len=ss.length:=⟨_,rfl⟩
 rw[<-hlen]at ha hl h1 ⊢
 have HL:Hid (len=ss.length):=hlen
 clear hlen
 go_enter func150,ntmps150
 go_wp2
 go_loop [8] (λi=>∃k:Nat,k<=len/\i=.int .i64 k/\∀d,d<k->BQ ss t d=false) (λi=>len - (intOf i).toNat)
 case atStart=>exact⟨0,Nat.zero_le _,rfl,λd hd=>absurd hd (Nat.not_lt_zero _)⟩
 case round=>
  obtain⟨k,hk,rfl,hall⟩:=hrel
  have HA:Hid (∀d,d<k->BQ ss t d=false):=hall
  clear hall
  by_cases hlt:k<len
  ·obtain rfl:=ha (by omega)
   obtain⟨s,hsk⟩:∃s,s=ss.getD k ByteArray.empty:=⟨_,rfl⟩
   have hcx:=h1 k hlt
   rw[<-hsk]at hcx
   have HK:=hide hsk
   clear hsk h1 hs
   cases hh:(t.toList==s.toList)
   ·go_wp2
    go_round
    case rel=>exact⟨k+1,by omega,by go_num,λd hd=>by
      by_cases e:d=k
      ·subst e;unfold BQ;rw[<-HK.out];exact hh
      ·exact HA.out d (by omega)⟩
    case measure=>simp[intOf];omega
   ·go_wp2
    go_ret
    exact⟨bA (by unfold bD;rw[oZ (by rw[<-HL.out];exact hlt) HA.out (by unfold BQ;rw[<-HK.out];exact hh)]),rfl⟩
  ·go_wp2
   go_ret
   exact⟨bA (by unfold bD;rw[jV (λd hd=>HA.out d (by have:=HL.out;omega))]),rfl⟩
namespace bC
def fB(s:ByteArray):Option Nat:=(List.range s.size).find? λi=>s.data.toList.getD i 0==46
def preS(s:ByteArray):ByteArray:=match fB s with|some i=>s.extract 0 i|none=>s
def jW(s:ByteArray):ByteArray:=match fB s with|some i=>s.extract (i+1) s.size|none=>⟨#[]⟩
end bC
theorem byte_at(s:ByteArray)(k:Nat)(hk:k<s.size):s.data.toList.getD k 0=s[k]:=by
 have h:k<s.data.toList.length:=by simpa using hk
 rw[List.getD,aU h];rfl
theorem extract_size(s:ByteArray)(a b:Nat):(s.extract a b).size<=s.size:=by rw[ByteArray.size_extract];omega
theorem Tn(s:ByteArray):(bC.preS s).size<=s.size:=by
 unfold bC.preS;split;·exact extract_size _ _ _
 ·exact bM _
theorem Tp(s:ByteArray):(jW s).size<=s.size:=by
 unfold jW;split;·exact extract_size _ _ _
 ·exact bJ _
theorem byte_eq(c:UInt8)(n:Nat)(hn:n<256):(c==UInt8.ofNat n)=((c.toNat:Int)==(n:Int)):=by
 rw[rD];simp only[beq_iff_eq];constructor;·rintro rfl;simp;omega
 ·intro h;have:c.toNat=n:=by omega
  rw[<-this];simp
theorem Fp(w:World)(s:ByteArray)(hs:s.size<=maxLen):
  Calls prog 81 #[.string s] w λe w'=>e=.returned (.tuple #[.string (bC.preS s),.string (jW s),.bool (fB s).isSome])/\Below w.heap.size w w':=by
 unfold maxLen at hs
 go_enter func81,ntmps81
 go_wp2
 go_loop [5] (λi=>∃k:Nat,k<=s.size/\i=.int .i64 k/\∀d,d<k->(s.data.toList.getD d 0==46)=false) (λi=>s.size - (intOf i).toNat)
 case atStart=>exact⟨0,Nat.zero_le _,rfl,λd hd=>absurd hd (Nat.not_lt_zero _)⟩
 case round=>
  obtain⟨k,hk,rfl,hall⟩:=hrel
  have HA:=hide hall
  clear hall
  by_cases hlt:k<s.size
  ·have hb:(s.data.toList.getD k 0==46)=((s[k].toNat:Int)==46):=by rw[byte_at s k hlt];exact byte_eq _ 46 (by decide)
   have HB:=hide hb
   clear hb
   cases hc:((s[k].toNat:Int)==46)
   ·go_wp2
    go_round
    case rel=>exact⟨k+1,by omega,by go_num,λd hd=>by
      by_cases e:d=k
      ·subst e;rw[HB.out];exact hc
      ·exact HA.out d (by omega)⟩
    case measure=>simp[intOf];omega
   ·have hd:fB s=some k:=oZ hlt HA.out (by rw[HB.out];exact hc)
    have HD:=hide hd
    have b1:(0:Int)<=(k:Int):=by omega
    have b2:(k:Int)<=(s.size:Int):=by omega
    have b3:(k:Int)+1<=(s.size:Int):=by omega
    clear hd
    go_wp2_with fail
    go_quiet (fail)
    go_wp2
    go_ret3
    exact⟨by simp[bC.preS,jW,HD.out],iP (Below.refl _ _) _⟩
  ·go_wp2
   go_ret3
   have hd:fB s=none:=jV (λd hd=>HA.out d (by omega))
   exact⟨by simp[bC.preS,jW,hd],Below.refl _ _⟩
namespace bC
def opS:List ByteArray:=[⟨#[43]⟩,⟨#[45]⟩,⟨#[42]⟩,⟨#[60]⟩,⟨#[61]⟩]
def Qd(s:ByteArray):Bool:=decide (0<=bD opS s)
def o9(s:ByteArray):Bool:=bL (preS s).data.toList&&(!(fB s).isSome||bL (jW s).data.toList)
def dM:Nat->Ex->Bool
 | 0,_=>false
 | m+1,x=>
  if x.kind=1 then decide (0<=x.n)&&decide (x.n<=999999)&&x.name.toList.isEmpty&&(x.args.length==0)
  else if x.kind=2 then (x.n==0)&&bL x.name.data.toList&&(x.args.length==0)
  else if x.kind=3 then (x.n==0)&&Qd x.name&&(x.args.length==2)&&x.args.all (dM m)
  else if x.kind=4 then (x.n==0)&&o9 x.name&&decide (x.args.length<=4)&&x.args.all (dM m)
  else false
end bC
theorem dh(w:World)(v:Value)(ss:List ByteArray)(t:ByteArray)(hS:Strs w v ss):
  Calls prog 68 #[v,.string t] w λe w'=>e=.returned (.bool (decide (0<=bD ss t)))/\w'=w:=by
 have HS:=hide hS
 obtain⟨a,b,off,cap,rfl,_⟩:=hS
 go_enter func68,ntmps68
 go_wp2_with fail
 refine(mg w _ ss t HS.out).mono ?_
 rintro e w' ⟨rfl,hw⟩
 subst hw
 obtain⟨i,hi⟩:∃i,i=bD ss t:=⟨_,rfl⟩
 have HI:=hide hi
 rw[<-hi]
 clear hi
 go_wp2
 go_ret
 exact⟨aH (by rw[HI.out]),rfl⟩
theorem kU(w:World)(c0 c1 c2 c3:Value)(t:TypeId):(w.alloc (.cells #[c0,c1,c2,c3] t)).cell? ⟨w.heap.size,3,none⟩=some c3:=by simp[go_sem]
theorem zK{p:Ex->Bool}{l:List Ex}(h:∀(i:Nat) (x:Ex),l[i]?=some x->p x=true):l.all p=true:=by rw[iO];intro x hx;obtain⟨i,hi,rfl⟩:=eX.1 hx;exact h i _ (aU hi)
theorem zL{p:Ex->Bool}{l:List Ex}{i:Nat}{x:Ex}(hx:l[i]?=some x)(h:p x=false):l.all p=false:=by rw[BP];exact⟨x,gD hx,by simp[h]⟩
theorem Xg(w2:World):Strs (w2.alloc (.cells #[.string ⟨#[43]⟩,.string ⟨#[45]⟩,.string ⟨#[42]⟩,.string ⟨#[60]⟩,.string ⟨#[61]⟩] 9)) (.slice (some ⟨w2.heap.size,0,none⟩) 5 5) opS:=by
 refine⟨_,w2.heap.size,0,5,rfl,λ_=>rfl,by decide,λs hs=>?_,λj hj=>?_⟩;·simp only[opS,eY,uX,or_false]at hs;rcases hs with rfl|rfl|rfl|rfl|rfl<;>decide
 ·have hj':j<5:=hj;obtain rfl|rfl|rfl|rfl|rfl:j=0\/j=1\/j=2\/j=3\/j=4:=by omega
  all_goals simp[go_sem,opS]
theorem uY(m:Nat):∀(w:World) (c0 c1 c2 c3:Value) (x:Ex),gq w m c0 c1 c2 c3 x->
  Calls prog 145 #[.agg #[c0,c1,c2,c3]] w λe w'=>e=.returned (.bool (dM m x))/\Below w.heap.size w w':=by
 induction m with
 | zero=>intro w c0 c1 c2 c3 x h;exact False.elim h
 | succ m ih=>
  intro w c0 c1 c2 c3 x h
  have HI:=hide ih
  clear ih
  obtain⟨rfl,rfl,rfl,hsz,hk1,hk2,a,b,off,cap,rfl,ha,hl,hel⟩:=h
  obtain⟨k,n,s,args⟩:=x
  simp only at hsz hk1 hk2 ha hl hel ⊢
  have gF:=hide hel
  have HA:=hide ha
  clear hel ha
  obtain⟨len,hlen⟩:∃len,len=args.length:=⟨_,rfl⟩
  have HL:=hide hlen
  rw[<-hlen]at hl HA ⊢
  clear hlen
  by_cases h1:k=1
  ·subst h1
   have HE:Hid (dM (m+1) ⟨1,n,s,args⟩=(decide (0<=n)&&decide (n<=999999)&&s.toList.isEmpty&&(len==0))):=hide (by
    rw[HL.out];simp[dM])
   go_enter func145,ntmps145
   go_wp2_with fail
   refine(o8 _ _ _ _).mono ?_
   rintro e w' ⟨rfl,hw⟩
   subst hw
   generalize (decide (0<=n)&&decide (n<=999999))=b1 at *
   cases b1
   ·go_wp2
    go_ret
    exact⟨aH (by rw[HE.out];rfl),aB _ _⟩
   ·cases hb2:s.toList.isEmpty
    ·have HB2:=hide hb2
     go_wp2
     go_ret
     exact⟨aH (by rw[HE.out,HB2.out];rfl),aB _ _⟩
    ·have HB2:=hide hb2
     go_wp2
     go_ret
     exact⟨aH (by rw[HE.out,HB2.out];exact nZ len 0),aB _ _⟩
  by_cases h2:k=2
  ·subst h2
   have HE:Hid (dM (m+1) ⟨2,n,s,args⟩=((n==0)&&bL s.data.toList&&(len==0))):=hide (by
    rw[HL.out];simp[dM])
   cases hn:(n==0)
   ·have HN:=hide hn
    go_enter func145,ntmps145
    go_wp2_with fail
    go_ret
    exact⟨aH (by rw[HE.out,HN.out];rfl),aB _ _⟩
   ·have HN:=hide hn
    go_enter func145,ntmps145
    go_wp2_with fail
    refine(iQ _ s hsz).mono ?_
    rintro e w' ⟨rfl,hw⟩
    subst hw
    cases hb2:bL s.data.toList
    ·have HB2:=hide hb2
     go_wp2
     go_ret
     exact⟨aH (by rw[HE.out,HN.out,HB2.out];rfl),aB _ _⟩
    ·have HB2:=hide hb2
     by_cases hl0:len=0
     ·have hl0':((len:Int)==0)=true:=by simp[hl0]
      have Ng:=hide hl0
      clear hl0
      go_wp2
      refine wp_loop_rounds 1 ?_
      rw[rounds_succ]
      go_wp2
      go_ret
      exact⟨aH (by rw[HE.out,HN.out,HB2.out,Ng.out];rfl),aB _ _⟩
     ·have hl0':((len:Int)==0)=false:=by simp[hl0]
      have Ng:=hide hl0
      clear hl0
      go_wp2
      go_ret
      exact⟨aH (by rw[HE.out,HN.out,HB2.out,show(len==0)=false from by simp[Ng.out]];rfl),aB _ _⟩
  by_cases h3:k=3
  ·subst h3
   have HE:Hid (dM (m+1) ⟨3,n,s,args⟩=((n==0)&&Qd s&&(len==2)&&args.all (dM m))):=hide (by
    rw[HL.out];simp[dM])
   cases hn:(n==0)
   ·have HN:=hide hn
    go_enter func145,ntmps145
    go_wp2_with fail
    go_ret
    exact⟨aH (by rw[HE.out,HN.out];rfl),aB _ _⟩
   ·have HN:=hide hn
    have HS:Hid (∀w2:World,Strs (w2.alloc (.cells #[.string ⟨#[43]⟩,.string ⟨#[45]⟩,.string ⟨#[42]⟩,.string ⟨#[60]⟩,.string ⟨#[61]⟩] 9)) (.slice (some ⟨w2.heap.size,0,none⟩) 5 5) opS):=hide (Xg)
    go_enter func145,ntmps145
    go_wp2_with fail
    refine(dh _ _ opS s ?_).mono ?_
    ·have:=HS.out (w.alloc (.cells #[.int .i64 3,.int .i64 n,.string s,.slice a len cap] 129))
     simpa using this
    rintro e w' ⟨rfl,hw⟩
    rw[show decide (0<=bD opS s)=Qd s from rfl]
    cases hb2:Qd s
    ·have HB2:=hide hb2
     subst hw
     go_wp2
     go_ret
     exact⟨aH (by rw[HE.out,HN.out,HB2.out];rfl),((Below.refl _ _).alloc (Nat.le_refl _) _).alloc (by simp) _⟩
    ·have HB2:=hide hb2
     have HB0:Hid (Below w.heap.size w w'):=hide (by rw[hw];exact((Below.refl _ _).alloc (Nat.le_refl _) _).alloc (by simp) _)
     have q3:w'.cell? ⟨w.heap.size,3,none⟩=some (.slice a len cap):=by rw[hw];simp[go_sem]
     clear hw
     by_cases hl0:len=2
     ·have hl0':((len:Int)==2)=true:=by simp;omega
      have Ng:=hide hl0
      have hl2:(2:Int)=(len:Int):=by omega
      clear hl0
      go_wp2
      rw[hl2]
      clear hl2 hl0'
      generalize hW0:w'=W0 at *
      clear hW0
      go_loopw[8] (λi wr=>∃j:Nat,j<=len/\i=.int .i64 j/\(∀d y,d<j->args[d]?=some y->dM m y=true)/\Below W0.heap.size W0 wr) (λi _=>len - (intOf i).toNat)
      case atStart=>exact⟨0,Nat.zero_le _,rfl,λd y hd=>absurd hd (Nat.not_lt_zero _),Below.refl _ _⟩
      case round=>
       obtain⟨j,hj,rfl,hall,hnx⟩:=hrel
       have cO:=hide hall
       clear hall
       have t3:=aA q3 hnx
       by_cases hjl:j<len
       ·obtain⟨y,hy⟩:∃y,args[j]?=some y:=⟨_,List.getElem?_eq_getElem (by rw[<-HL.out];exact hjl)⟩
        obtain⟨e0,e1,e2,e3,g0,g1,g2,g3,hye⟩:=gF.out j y hy
        have HY:=hide hy
        obtain rfl:=HA.out (by omega)
        have hbb:=up HB0.out hnx
        have u0:=aA g0 hbb
        have u1:=aA g1 hbb
        have Qt:=aA g2 hbb
        have Ed:=aA g3 hbb
        have Ni:=hide (hye.below hbb)
        have bR:=hide hnx
        clear g0 g1 g2 g3 hye hy hbb hnx
        go_wp2_with fail
        refine(HI.out _ e0 e1 e2 e3 y Ni.out).mono ?_
        rintro e w5 ⟨rfl,hb5⟩
        have iL:=hide (up bR.out hb5)
        clear hb5 bR
        cases hyb:dM m y
        ·have Ko:=hide hyb
         go_wp2
         go_ret
         exact⟨aH (by rw[HE.out,zL HY.out Ko.out];rw[HN.out,HB2.out,Ng.out];rfl),up HB0.out iL.out⟩
        ·have Ko:=hide hyb
         go_wp2
         go_roundw
         case rel=>exact⟨j+1,by omega,by go_num,λd z hd hz=>by
           by_cases e:d=j
           ·subst e
            rw[HY.out]at hz
            cases hz
            exact Ko.out
           ·exact cO.out d z (by omega) hz,iL.out⟩
         case measure=>simp[intOf];omega
       ·go_wp2
        go_ret
        have hall:args.all (dM m)=true:=zK (λd z hz=>cO.out d z (by
         have:=(List.getElem?_eq_some_iff.1 hz).1
         have:=HL.out
         omega) hz)
        exact⟨aH (by rw[HE.out,hall];rw[HN.out,HB2.out,Ng.out];rfl),up HB0.out hnx⟩
     ·have hl0':((len:Int)==2)=false:=by simp;omega
      have Ng:=hide hl0
      clear hl0
      go_wp2
      go_ret
      exact⟨aH (by rw[HE.out,HN.out,HB2.out,show(len==2)=false from by simp[Ng.out]];rfl),HB0.out⟩
  by_cases h4:k=4
  ·subst h4
   have HE:Hid (dM (m+1) ⟨4,n,s,args⟩=((n==0)&&o9 s&&decide (len<=4)&&args.all (dM m))):=hide (by
    rw[HL.out];simp[dM])
   have hp1:(bC.preS s).size<=maxLen:=Nat.le_trans (Tn s) hsz
   have hp2:(jW s).size<=maxLen:=Nat.le_trans (Tp s) hsz
   have HC:Hid (o9 s=(bL (bC.preS s).data.toList&&(!(fB s).isSome||bL (jW s).data.toList))):=rfl
   have uZ:Hid (∀w,Calls prog 81 #[.string s] w λe w'=>e=.returned (.tuple #[.string (bC.preS s),.string (jW s),.bool (fB s).isSome])/\Below w.heap.size w w'):=λw=>Fp w s hsz
   generalize bC.preS s=pre at *
   generalize jW s=suf at *
   generalize (fB s).isSome=dot at *
   cases hn:(n==0)
   ·have HN:=hide hn
    go_enter func145,ntmps145
    go_wp2_with fail
    refine(uZ.out _).mono ?_
    rintro e w1 ⟨rfl,hb1⟩
    have q3:=aA (kU w (.int .i64 4) (.int .i64 n) (.string s) (.slice a len cap) 129) hb1
    have HB0:=hide (Qc hb1)
    clear hb1
    go_wp2_with fail
    go_ret
    exact⟨aH (by rw[HE.out,HN.out];rfl),HB0.out⟩
   ·have HN:=hide hn
    go_enter func145,ntmps145
    go_wp2_with fail
    refine(uZ.out _).mono ?_
    rintro e w1 ⟨rfl,hb1⟩
    have q3:=aA (kU w (.int .i64 4) (.int .i64 n) (.string s) (.slice a len cap) 129) hb1
    have HB0:=hide (Qc hb1)
    clear hb1
    go_wp2_with fail
    refine(iQ _ pre hp1).mono ?_
    rintro e w' ⟨rfl,hw⟩
    subst hw
    cases hb2:bL pre.data.toList
    ·have HB2:=hide hb2
     go_wp2_with fail
     go_ret
     exact⟨aH (by rw[HE.out,HN.out,HC.out,HB2.out];rfl),HB0.out⟩
    ·have HB2:=hide hb2
     by_cases hl0:len<=4
     ·have hl0':decide ((len:Int)<=4)=true:=by simp;omega
      have Ng:Hid (decide (len<=4)=true):=hide (by simp[hl0])
      cases dot
      ·have pz:Hid (o9 s=true):=hide (by rw[HC.out,HB2.out];rfl)
       go_wp2_with fail
       generalize hW0:w'=W0 at *
       clear hW0
       go_loopw[8] (λi wr=>∃j:Nat,j<=len/\i=.int .i64 j/\(∀d y,d<j->args[d]?=some y->dM m y=true)/\Below W0.heap.size W0 wr) (λi _=>len - (intOf i).toNat)
       case atStart=>exact⟨0,Nat.zero_le _,rfl,λd y hd=>absurd hd (Nat.not_lt_zero _),Below.refl _ _⟩
       case round=>
        obtain⟨j,hj,rfl,hall,hnx⟩:=hrel
        have cO:=hide hall
        clear hall
        have t3:=aA q3 hnx
        by_cases hjl:j<len
        ·obtain⟨y,hy⟩:∃y,args[j]?=some y:=⟨_,List.getElem?_eq_getElem (by rw[<-HL.out];exact hjl)⟩
         obtain⟨e0,e1,e2,e3,g0,g1,g2,g3,hye⟩:=gF.out j y hy
         have HY:=hide hy
         obtain rfl:=HA.out (by omega)
         have hbb:=up HB0.out hnx
         have u0:=aA g0 hbb
         have u1:=aA g1 hbb
         have Qt:=aA g2 hbb
         have Ed:=aA g3 hbb
         have Ni:=hide (hye.below hbb)
         have bR:=hide hnx
         clear g0 g1 g2 g3 hye hy hbb hnx
         go_wp2_with fail
         refine(HI.out _ e0 e1 e2 e3 y Ni.out).mono ?_
         rintro e w5 ⟨rfl,hb5⟩
         have iL:=hide (up bR.out hb5)
         clear hb5 bR
         cases hyb:dM m y
         ·have Ko:=hide hyb
          go_wp2
          go_ret
          exact⟨aH (by rw[HE.out,zL HY.out Ko.out];rw[HN.out,pz.out,Ng.out];rfl),up HB0.out iL.out⟩
         ·have Ko:=hide hyb
          go_wp2
          go_roundw
          case rel=>exact⟨j+1,by omega,by go_num,λd z hd hz=>by
            by_cases e:d=j
            ·subst e
             rw[HY.out]at hz
             cases hz
             exact Ko.out
            ·exact cO.out d z (by omega) hz,iL.out⟩
          case measure=>simp[intOf];omega
        ·go_wp2
         go_ret
         have hall:args.all (dM m)=true:=zK (λd z hz=>cO.out d z (by
          have:=(List.getElem?_eq_some_iff.1 hz).1
          have:=HL.out
          omega) hz)
         exact⟨aH (by rw[HE.out,hall];rw[HN.out,pz.out,Ng.out];rfl),up HB0.out hnx⟩
      ·go_wp2_with fail
       refine(iQ _ suf hp2).mono ?_
       rintro e w'' ⟨rfl,hw⟩
       subst hw
       cases hb3:bL suf.data.toList
       ·have HB3:=hide hb3
        go_wp2_with fail
        go_ret
        exact⟨aH (by rw[HE.out,HN.out,HC.out,HB2.out,HB3.out];rfl),HB0.out⟩
       ·have pz:Hid (o9 s=true):=hide (by rw[HC.out,HB2.out,hb3];rfl)
        go_wp2_with fail
        generalize hW0:w''=W0 at *
        clear hW0
        go_loopw[8] (λi wr=>∃j:Nat,j<=len/\i=.int .i64 j/\(∀d y,d<j->args[d]?=some y->dM m y=true)/\Below W0.heap.size W0 wr) (λi _=>len - (intOf i).toNat)
        case atStart=>exact⟨0,Nat.zero_le _,rfl,λd y hd=>absurd hd (Nat.not_lt_zero _),Below.refl _ _⟩
        case round=>
         obtain⟨j,hj,rfl,hall,hnx⟩:=hrel
         have cO:=hide hall
         clear hall
         have t3:=aA q3 hnx
         by_cases hjl:j<len
         ·obtain⟨y,hy⟩:∃y,args[j]?=some y:=⟨_,List.getElem?_eq_getElem (by rw[<-HL.out];exact hjl)⟩
          obtain⟨e0,e1,e2,e3,g0,g1,g2,g3,hye⟩:=gF.out j y hy
          have HY:=hide hy
          obtain rfl:=HA.out (by omega)
          have hbb:=up HB0.out hnx
          have u0:=aA g0 hbb
          have u1:=aA g1 hbb
          have Qt:=aA g2 hbb
          have Ed:=aA g3 hbb
          have Ni:=hide (hye.below hbb)
          have bR:=hide hnx
          clear g0 g1 g2 g3 hye hy hbb hnx
          go_wp2_with fail
          refine(HI.out _ e0 e1 e2 e3 y Ni.out).mono ?_
          rintro e w5 ⟨rfl,hb5⟩
          have iL:=hide (up bR.out hb5)
          clear hb5 bR
          cases hyb:dM m y
          ·have Ko:=hide hyb
           go_wp2
           go_ret
           exact⟨aH (by rw[HE.out,zL HY.out Ko.out];rw[HN.out,pz.out,Ng.out];rfl),up HB0.out iL.out⟩
          ·have Ko:=hide hyb
           go_wp2
           go_roundw
           case rel=>exact⟨j+1,by omega,by go_num,λd z hd hz=>by
             by_cases e:d=j
             ·subst e
              rw[HY.out]at hz
              cases hz
              exact Ko.out
             ·exact cO.out d z (by omega) hz,iL.out⟩
           case measure=>simp[intOf];omega
         ·go_wp2
          go_ret
          have hall:args.all (dM m)=true:=zK (λd z hz=>cO.out d z (by
           have:=(List.getElem?_eq_some_iff.1 hz).1
           have:=HL.out
           omega) hz)
          exact⟨aH (by rw[HE.out,hall];rw[HN.out,pz.out,Ng.out];rfl),up HB0.out hnx⟩
     ·have hl0':decide ((len:Int)<=4)=false:=by simp;omega
      have Ng:Hid (decide (len<=4)=false):=hide (by simp;omega)
      cases dot
      ·go_wp2_with fail
       go_ret
       exact⟨aH (by rw[HE.out,HN.out,Ng.out,Bool.and_false];rfl),HB0.out⟩
      ·go_wp2_with fail
       refine(iQ _ suf hp2).mono ?_
       rintro e w'' ⟨rfl,hw⟩
       subst hw
       cases hb3:bL suf.data.toList
       ·go_wp2_with fail
        go_ret
        exact⟨aH (by rw[HE.out,HN.out,Ng.out,Bool.and_false];rfl),HB0.out⟩
       ·go_wp2_with fail
        go_ret
        exact⟨aH (by rw[HE.out,HN.out,Ng.out,Bool.and_false];rfl),HB0.out⟩
  ·have hk1':(k==1)=false:=by simp[h1]
   have hk2':(k==2)=false:=by simp[h2]
   have hk3':(k==3)=false:=by simp[h3]
   have hk4':(k==4)=false:=by simp[h4]
   have HE:Hid (dM (m+1) ⟨k,n,s,args⟩=false):=hide (by simp[dM,h1,h2,h3,h4])
   clear h1 h2 h3 h4
   go_enter func145,ntmps145
   go_wp2_with fail
   go_ret
   exact⟨aH HE.out.symm,aB _ _⟩
end Go.Proofs.YtfnboapebijcpaaGreatDoor
