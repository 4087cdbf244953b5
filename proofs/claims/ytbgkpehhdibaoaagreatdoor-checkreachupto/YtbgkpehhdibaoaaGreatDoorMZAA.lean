/- part -/
import Derived.WalkSpells
import Derived.WalkLawsBesides
import Derived.Test.YtbgkpehhdibaoaaGreatDoorChecked
import Derived.Lib.Atoi
import Derived.Test.YtbgkpehhdibaoaaGreatDoorZAL
set_option maxHeartbeats 0
set_option maxRecDepth 99999
namespace Go.Proofs.YtbgkpehhdibaoaaGreatDoor
open Go.Proofs.Tryz
namespace bO
theorem all_true{p:Nat->Bool}{n:Nat}(h:∀d,d<n->p d=true):(List.range n).all p=true:=by rw[gY];intro x hx;exact h x (jG.1 hx)
theorem all_false{p:Nat->Bool}{n k:Nat}(hk:k<n)(h:p k=false):(List.range n).all p=false:=by rw[BZ];exact⟨k,jG.2 hk,by simp[h]⟩
theorem tC{p:Nat->Bool}{n k:Nat}(h:(List.range n).all p=true)(hk:k<n):p k=true:=
 gY.1 h k (jG.2 hk)
theorem kF{p:Nat->Bool}{n:Nat}(h:∀c,c<n->p c=false):(List.range n).find? p=none:=by rw[LH];intro x hx;simp[h x (jG.1 hx)]
theorem pO{p:Nat->Bool}:∀{n k:Nat},k<n->(∀c,c<k->p c=false)->p k=true->(List.range n).find? p=some k:=by
 intro n k hk h0 h1;induction n with
 | zero=>omega
 | succ n ih=>
  rw[Hz,List.find?_append];by_cases e:k<n;·rw[ih e];rfl
  ·have:k=n:=by omega
   subst this;rw[kF h0];simp[h1]
theorem find_spec{p:Nat->Bool}{n k:Nat}(h:(List.range n).find? p=some k):k<n/\p k=true:=
 ⟨jG.1 (LJ h),Qp h⟩
def Ul(Z:Nat->Nat->Bool)(n a b c:Nat):Bool:=(List.range n).all λd=>!(Z a d&&Z b d&&!Z c d)
def zS(Z:Nat->Nat->Bool)(n a b c:Nat):Bool:=Z a c&&Z b c&&Ul Z n a b c
def zT(Z:Nat->Nat->Bool)(n a b:Nat):Option Nat:=(List.range n).find? (zS Z n a b)
def Fa(Z:Nat->Nat->Bool)(a b c:Nat):Bool:=!(Z b c&&!Z a c)
def iw(Z:Nat->Nat->Bool)(n a b:Nat):Bool:=!(a != b&&Z b a)&&(List.range n).all (Fa Z a b)
def Ap(Z:Nat->Nat->Bool)(n a b:Nat):Bool:=!(Z a b&&!iw Z n a b)
def Aq(Z:Nat->Nat->Bool)(n a:Nat):Bool:=Z a a&&(List.range n).all (Ap Z n a)
def Ar(Z:Nat->Nat->Bool)(n:Nat):Bool:=(List.range n).all (Aq Z n)
def tr(Z:Nat->Nat->Bool):Nat->Nat->Bool:=λa b=>Z b a
def xD(Z:Nat->Nat->Bool)(n a b:Nat):Bool:=(zT Z n a b).isSome
def qy(Z:Nat->Nat->Bool)(n:Nat):Bool:=(List.range n).all λa=>(List.range a).all (xD Z n a)
def Um(Z:Nat->Nat->Bool)(n a:Nat):Bool:=(List.range n).all (Z a)
def wU(Z:Nat->Nat->Bool)(n:Nat):Nat:=((List.range n).find? (Um Z n)).getD 0
def mW(Z:Nat->Nat->Bool)(n a b:Nat):Nat:=(zT Z n a b).getD 0
def LM(Z:Nat->Nat->Bool)(n a b:Nat):Int:=if (zT Z n a b).isSome then 0 else 5
end bO
open bO
open Go.RowKit
theorem I{p:Prop}(h:p):Hid p:=h
theorem gM{p:Prop}(h:Hid p):p:=h
def uw(w:World)(v:Value)(n:Nat)(Z:Nat->Nat->Bool):Prop:=
 ∃(gb go gc:Nat) (RB RO C:Nat->Nat),v=.slice (some ⟨gb,go,none⟩) n gc/\
  (∀r,r<n->w.cell? ⟨gb,go+r,none⟩=some (.slice (some ⟨RB r,RO r,none⟩) n (C r)))/\
  (∀r c,r<n->c<n->w.cell? ⟨RB r,RO r+c,none⟩=some (.bool (Z r c)))
theorem uw.below{w w':World}{v:Value}{n:Nat}{Z:Nat->Nat->Bool}(h:uw w v n Z)(hb:bG w w'):uw w' v n Z:=by
 obtain⟨gb,go,gc,RB,RO,C,e,h1,h2⟩:=h
 exact⟨gb,go,gc,RB,RO,C,e,λr hr=>by rw[hb.cell (eZ _ _ (h1 r hr))];exact h1 r hr,
  λr c hr hc=>by rw[hb.cell (eZ _ _ (h2 r c hr hc))];exact h2 r c hr hc⟩
def Fb(w:World)(v:Value)(G:Nat)(L:Nat->Nat)(Z:Nat->Nat->Bool):Prop:=
 ∃(ga:Option Addr) (gb go gc:Nat) (aaj:Nat->Option Addr) (RB RO C:Nat->Nat),v=.slice ga G gc/\(0<G->ga=some ⟨gb,go,none⟩)/\G<=9223372036854775807/\
  (∀r,r<G->L r<=9223372036854775807)/\
  (∀r,r<G->w.cell? ⟨gb,go+r,none⟩=some (.slice (aaj r) (L r) (C r)))/\
  (∀r c,r<G->c<L r->aaj r=some ⟨RB r,RO r,none⟩/\w.cell? ⟨RB r,RO r+c,none⟩=some (.bool (Z r c)))
theorem Fb.below{w w':World}{v:Value}{G:Nat}{L:Nat->Nat}{Z:Nat->Nat->Bool}(h:Fb w v G L Z)(hb:bG w w'):Fb w' v G L Z:=by
 obtain⟨ga,gb,go,gc,aaj,RB,RO,C,e,h0,hG,hL,h1,h2⟩:=h
 exact⟨ga,gb,go,gc,aaj,RB,RO,C,e,h0,hG,hL,λr hr=>by rw[hb.cell (eZ _ _ (h1 r hr))];exact h1 r hr,
  λr c hr hc=>⟨(h2 r c hr hc).1,by rw[hb.cell (eZ _ _ (h2 r c hr hc).2)];exact(h2 r c hr hc).2⟩⟩
theorem Fb.grid{w:World}{v:Value}{G:Nat}{L:Nat->Nat}{Z:Nat->Nat->Bool}(h:Fb w v G L Z)(h0:0<G)(hL:∀r,r<G->L r=G):uw w v G Z:=by
 obtain⟨ga,gb,go,gc,aaj,RB,RO,C,e,hg,_,_,h1,h2⟩:=h;refine⟨gb,go,gc,RB,RO,C,by rw[e,hg h0],λr hr=>?_,λr c hr hc=>?_⟩;·have:=(h2 r 0 hr (by rw[hL r hr];omega)).1;rw[h1 r hr,this,hL r hr]
 ·exact(h2 r c hr (by rw[hL r hr];omega)).2
def Strs(w:World)(v:Value)(ss:List aZ):Prop:=
 ∃(a:Option Addr) (b off cap:Nat),v=.slice a ss.length cap/\(0<ss.length->a=some ⟨b,off,none⟩)/\ss.length<=9223372036854775807/\
  (∀s∈ss,s.size<=maxLen)/\(∀j,j<ss.length->w.cell? ⟨b,off+j,none⟩=some (.string (ss.getD j ByteArray.empty)))
theorem Strs.below{w w':World}{v:Value}{ss:List aZ}(h:Strs w v ss)(hb:bG w w'):Strs w' v ss:=by obtain⟨a,b,off,cap,e,h0,hl,hs,h1⟩:=h;exact⟨a,b,off,cap,e,h0,hl,hs,λr hr=>by rw[hb.cell (eZ _ _ (h1 r hr))];exact h1 r hr⟩
structure Ex where
 kind:Int
 n:Int
 name:ByteArray
 args:List Ex
structure St where
 kind:Int
 name:ByteArray
 e:Ex
 a:List St
 b:List St
structure Fu where
 name:ByteArray
 params:List ByteArray
 body:List St
 result:Ex
structure Va where
 name:ByteArray
 level:ByteArray
structure Mo where
 name:ByteArray
 imports:List ByteArray
 vars:List Va
 bq:List Fu
def LP(n:Int):Prop:=-9223372036854775808<=n/\n<=9223372036854775807
def gQ(w:World):Nat->Value->Value->Value->Value->Ex->Prop
 | 0,_,_,_,_,_=>False
 | m+1,c0,c1,c2,c3,x=>
  c0=.int .i64 x.kind/\c1=.int .i64 x.n/\c2=.string x.name/\x.name.size<=maxLen/\LP x.kind/\LP x.n/\
  ∃(a:Option Addr) (b off cap:Nat),c3=.slice a x.args.length cap/\(0<x.args.length->a=some ⟨b,off,none⟩)/\x.args.length<=9223372036854775807/\
   ∀i y,x.args[i]?=some y->∃e0 e1 e2 e3,w.cell? ⟨b,off+i*4,none⟩=some e0/\w.cell? ⟨b,off+i*4+1,none⟩=some e1/\w.cell? ⟨b,off+i*4+2,none⟩=some e2/\w.cell? ⟨b,off+i*4+3,none⟩=some e3/\gQ w m e0 e1 e2 e3 y
theorem gQ.below{w w':World}(hb:bG w w'):∀{m:Nat} {c0 c1 c2 c3:Value} {x:Ex},gQ w m c0 c1 c2 c3 x->gQ w' m c0 c1 c2 c3 x
 | 0,_,_,_,_,_,h=>h
 | m+1,c0,c1,c2,c3,x,h=>by obtain⟨h0,h1,h2,h3,h4,h5,a,b,off,cap,h6,h7,h8,h9⟩:=h;refine⟨h0,h1,h2,h3,h4,h5,a,b,off,cap,h6,h7,h8,λi y hy=>?_⟩;obtain⟨e0,e1,e2,e3,g0,g1,g2,g3,hx⟩:=h9 i y hy;exact⟨e0,e1,e2,e3,by rw[hb.cell (eZ _ _ g0)];exact g0,by rw[hb.cell (eZ _ _ g1)];exact g1,by rw[hb.cell (eZ _ _ g2)];exact g2,by rw[hb.cell (eZ _ _ g3)];exact g3,gQ.below hb hx⟩
theorem gQ.mono{w:World}:∀{m:Nat} {c0 c1 c2 c3:Value} {x:Ex},gQ w m c0 c1 c2 c3 x->∀k,m<=k->gQ w k c0 c1 c2 c3 x
 | 0,_,_,_,_,_,h,_,_=>iG h
 | m+1,c0,c1,c2,c3,x,h,0,hk=>by omega
 | m+1,c0,c1,c2,c3,x,h,k+1,hk=>by obtain⟨h0,h1,h2,h3,h4,h5,a,b,off,cap,h6,h7,h8,h9⟩:=h;refine⟨h0,h1,h2,h3,h4,h5,a,b,off,cap,h6,h7,h8,λi y hy=>?_⟩;obtain⟨e0,e1,e2,e3,g0,g1,g2,g3,hx⟩:=h9 i y hy;exact⟨e0,e1,e2,e3,g0,g1,g2,g3,gQ.mono hx k aV⟩
def eU(w:World):Nat->Value->List St->Prop
 | 0,_,_=>False
 | m+1,v,l=>∃(a:Option Addr) (b off cap:Nat),v=.slice a l.length cap/\(0<l.length->a=some ⟨b,off,none⟩)/\l.length<=9223372036854775807/\
   ∀i s,l[i]?=some s->LP s.kind/\s.name.size<=maxLen/\∃e0 e1 e2 e3 va vb,w.cell? ⟨b,off+i*8,none⟩=some (.int .i64 s.kind)/\w.cell? ⟨b,off+i*8+1,none⟩=some (.string s.name)/\
    w.cell? ⟨b,off+i*8+2,none⟩=some e0/\w.cell? ⟨b,off+i*8+3,none⟩=some e1/\w.cell? ⟨b,off+i*8+4,none⟩=some e2/\w.cell? ⟨b,off+i*8+5,none⟩=some e3/\
    w.cell? ⟨b,off+i*8+6,none⟩=some va/\w.cell? ⟨b,off+i*8+7,none⟩=some vb/\gQ w m e0 e1 e2 e3 s.e/\eU w m va s.a/\eU w m vb s.b
theorem eU.below{w w':World}(hb:bG w w'):∀{m:Nat} {v:Value} {l:List St},eU w m v l->eU w' m v l
 | 0,_,_,h=>h
 | m+1,v,l,h=>by obtain⟨a,b,off,cap,h6,h7,h8,h9⟩:=h;refine⟨a,b,off,cap,h6,h7,h8,λi s hs=>?_⟩;obtain⟨k1,k2,e0,e1,e2,e3,va,vb,g0,g1,g2,g3,g4,g5,g6,g7,hx,ha,hb'⟩:=h9 i s hs;exact⟨k1,k2,e0,e1,e2,e3,va,vb,by rw[hb.cell (eZ _ _ g0)];exact g0,by rw[hb.cell (eZ _ _ g1)];exact g1,by rw[hb.cell (eZ _ _ g2)];exact g2,by rw[hb.cell (eZ _ _ g3)];exact g3,by rw[hb.cell (eZ _ _ g4)];exact g4,by rw[hb.cell (eZ _ _ g5)];exact g5,by rw[hb.cell (eZ _ _ g6)];exact g6,by rw[hb.cell (eZ _ _ g7)];exact g7,hx.below hb,ha.below hb,hb'.below hb⟩
theorem eU.mono{w:World}:∀{m:Nat} {v:Value} {l:List St},eU w m v l->∀k,m<=k->eU w k v l
 | 0,_,_,h,_,_=>iG h
 | m+1,v,l,h,0,hk=>by omega
 | m+1,v,l,h,k+1,hk=>by obtain⟨a,b,off,cap,h6,h7,h8,h9⟩:=h;refine⟨a,b,off,cap,h6,h7,h8,λi s hs=>?_⟩;obtain⟨k1,k2,e0,e1,e2,e3,va,vb,g0,g1,g2,g3,g4,g5,g6,g7,hx,ha,hb'⟩:=h9 i s hs;exact⟨k1,k2,e0,e1,e2,e3,va,vb,g0,g1,g2,g3,g4,g5,g6,g7,hx.mono k aV,ha.mono k aV,hb'.mono k aV⟩
def wM(w:World)(v:Value)(l:List Va):Prop:=
 ∃(a:Option Addr) (b off cap:Nat),v=.slice a l.length cap/\(0<l.length->a=some ⟨b,off,none⟩)/\l.length<=9223372036854775807/\
  ∀i s,l[i]?=some s->s.name.size<=maxLen/\s.level.size<=maxLen/\w.cell? ⟨b,off+i*2,none⟩=some (.string s.name)/\w.cell? ⟨b,off+i*2+1,none⟩=some (.string s.level)
theorem wM.below{w w':World}{v:Value}{l:List Va}(h:wM w v l)(hb:bG w w'):wM w' v l:=by obtain⟨a,b,off,cap,h6,h7,h8,h9⟩:=h;refine⟨a,b,off,cap,h6,h7,h8,λi s hs=>?_⟩;obtain⟨k1,k2,g0,g1⟩:=h9 i s hs;exact⟨k1,k2,by rw[hb.cell (eZ _ _ g0)];exact g0,by rw[hb.cell (eZ _ _ g1)];exact g1⟩
def lS(w:World)(m:Nat)(v:Value)(l:List Fu):Prop:=
 ∃(a:Option Addr) (b off cap:Nat),v=.slice a l.length cap/\(0<l.length->a=some ⟨b,off,none⟩)/\l.length<=9223372036854775807/\
  ∀i s,l[i]?=some s->s.name.size<=maxLen/\∃vp vb e0 e1 e2 e3,w.cell? ⟨b,off+i*7,none⟩=some (.string s.name)/\w.cell? ⟨b,off+i*7+1,none⟩=some vp/\w.cell? ⟨b,off+i*7+2,none⟩=some vb/\
   w.cell? ⟨b,off+i*7+3,none⟩=some e0/\w.cell? ⟨b,off+i*7+4,none⟩=some e1/\w.cell? ⟨b,off+i*7+5,none⟩=some e2/\w.cell? ⟨b,off+i*7+6,none⟩=some e3/\
   Strs w vp s.params/\eU w m vb s.body/\gQ w m e0 e1 e2 e3 s.result
theorem lS.below{w w':World}{m:Nat}{v:Value}{l:List Fu}(h:lS w m v l)(hb:bG w w'):lS w' m v l:=by obtain⟨a,b,off,cap,h6,h7,h8,h9⟩:=h;refine⟨a,b,off,cap,h6,h7,h8,λi s hs=>?_⟩;obtain⟨k1,vp,vb,e0,e1,e2,e3,g0,g1,g2,g3,g4,g5,g6,hp,hs',hx⟩:=h9 i s hs;exact⟨k1,vp,vb,e0,e1,e2,e3,by rw[hb.cell (eZ _ _ g0)];exact g0,by rw[hb.cell (eZ _ _ g1)];exact g1,by rw[hb.cell (eZ _ _ g2)];exact g2,by rw[hb.cell (eZ _ _ g3)];exact g3,by rw[hb.cell (eZ _ _ g4)];exact g4,by rw[hb.cell (eZ _ _ g5)];exact g5,by rw[hb.cell (eZ _ _ g6)];exact g6,hp.below hb,hs'.below hb,hx.below hb⟩
def gT(w:World)(m:Nat)(v:Value)(x:Mo):Prop:=
 ∃vi vv vf,v=.agg #[.string x.name,vi,vv,vf]/\x.name.size<=maxLen/\Strs w vi x.imports/\wM w vv x.vars/\lS w m vf x.bq
theorem gT.below{w w':World}{m:Nat}{v:Value}{x:Mo}(h:gT w m v x)(hb:bG w w'):gT w' m v x:=by
 obtain⟨vi,vv,vf,h0,h1,h2,h3,h4⟩:=h
 exact⟨vi,vv,vf,h0,h1,h2.below hb,h3.below hb,h4.below hb⟩
namespace bO
def iq(c:UInt8):Bool:=decide (97<=c.toNat)&&decide (c.toNat<=122)
def dx(l:List UInt8):Bool:=decide (1<=l.length)&&decide (l.length<=8)&&l.all iq
end bO
theorem gI(s:aZ):s.data.toList.length=s.size:=rfl
theorem Fe(s:aZ)(h:∀j (hj:j<s.size),iq s[j]=true):s.data.toList.all iq=true:=by rw[gY];intro x hx;obtain⟨j,hj,rfl⟩:=gP.1 hx;exact h j (by simpa using hj)
theorem tF(s:aZ)(j:Nat)(hj:j<s.size)(h:iq s[j]=false):s.data.toList.all iq=false:=by rw[BZ];exact⟨s[j],gP.2 ⟨j,by simpa using hj,rfl⟩,by simp[h]⟩
theorem aM{a b:Bool}(h:a=b):cO (.bool a)=cO (.bool b):=by rw[h]
theorem WU{a b:Int}{c d:Int}(h:a=c)(h':b=d):cO (.tuple #[O a,O b])=cO (.tuple #[O c,O d]):=by rw[h,h']
theorem bQ{k:IntKind}{a b:Int}(h:a=b):cO (.int k a)=cO (.int k b):=by rw[h]
theorem Nl(a b:Nat):((a:Int) != (b:Int))=(a != b):=by rw[qH];simp only[bne_iff_ne,ne_eq];omega
theorem up{w w1 w2:World}(h:bG w w1)(h2:bG w1 w2):bG w w2:=h.trans (h2.mono h.size)
theorem TU{w w2:World}{o:Obj}(h2:Below (w.alloc o).heap.size (w.alloc o) w2):bG w w2:=up ((bN _ _).alloc (bF _) _) h2
theorem aC{w w1:World}{a:Addr}{v:Value}(h:w.cell? a=some v)(hb:bG w w1):w1.cell? a=some v:=by rw[hb.cell (eZ _ _ h)];exact h
theorem Qq(w:World)(x y:Value)(t:TypeId):(w.alloc (.cells #[x,y] t)).cell? (X w.heap.size 0)=some x:=by simp[go_sem]
theorem uy(w:World)(x y:Value)(t:TypeId):(w.alloc (.cells #[x,y] t)).cell? (X w.heap.size 1)=some y:=by simp[go_sem]
theorem dY{x:Int}(h:x≠0):(x != 0)=true:=by simp[h]
theorem lT{a b:Bool}(h:a=b):Value.bool a=.bool b:=by rw[h]
theorem aH(w:World)(o:Obj):bG w (w.alloc o):=(bN _ _).alloc (bF _) _
theorem yY(a b:Nat):((a:Int)==(b:Int))=(a==b):=by rw[qH];simp only[beq_iff_eq];omega
theorem jJ{B:Nat}{a w:World}(h:Below B a w)(k:Nat):Below B a (w.drewN k):=h.trans ⟨rfl,rfl,rfl,bF _,λ_ _=>rfl⟩
theorem Au(w:World)(a lo hi:Int):
  Calls prog 72 #[O a,O lo,O hi] w λe w'=>e=cO (.bool (decide (lo<=a)&&decide (a<=hi)))/\w'=w:=by
 by_cases h0:lo<=a
 ·by_cases h1:a<=hi
  ·go_enter func72,ntmps72
   go_wp2
   go_ret
   exact⟨aM (by simp[h0,h1]),rfl⟩
  ·go_enter func72,ntmps72
   go_wp2
   go_ret
   exact⟨aM (by rw[decide_eq_false (by omega:¬a<=hi)]),rfl⟩
 ·go_enter func72,ntmps72
  go_wp2
  go_ret
  exact⟨aM (by rw[decide_eq_false (by omega:¬lo<=a)];rfl),rfl⟩
def vF(s:aZ)(k:Nat):Bool:=decide (1<=s.size)&&decide (s.size<=8)&&(s.data.toList.take k).all iq
theorem Qr(s:aZ)(k:Nat)(hk:k<s.size):vF s (k+1)=(vF s k&&iq s[k]):=by
 unfold vF;have e:s.data.toList.take (k+1)=s.data.toList.take k++[s[k]]:=by rw[kR (by simpa using hk)];rfl
 rw[e,Qs];simp[Fg]
theorem Un(s:aZ):vF s s.size=dx s.data.toList:=by unfold vF dx;rw[fJ cZ,gI]
theorem j6(w:World)(s:aZ)(hs:s.size<=maxLen):
  Calls prog 42 #[A s] w λe w'=>e=cO (.bool (dx s.data.toList))/\w'=w:=by
 unfold maxLen at hs
 go_enter func42,ntmps42
 go_wp2_with fail
 refine(Au _ _ _ _).mono ?_
 rintro e w' ⟨rfl,rfl⟩
 have h0:(decide ((1:Int)<=(s.size:Int))&&decide ((s.size:Int)<=8))=vF s 0:=by
  unfold vF
  rw[show decide ((1:Int)<=(s.size:Int))=decide (1<=s.size)from decide_eq_decide.2 aV,show decide ((s.size:Int)<=8)=decide (s.size<=8)from decide_eq_decide.2 aV]
  simp
 rw[h0]
 clear h0
 go_wp2
 go_loop [3,4] (λb i=>∃k:Nat,k<=s.size/\i=O k/\b=.bool (vF s k)) (λ_ i=>s.size - (intOf i).toNat)
 case atStart=>exact⟨0,Nat.zero_le _,rfl,rfl⟩
 case round=>
  obtain⟨k,hk,rfl,rfl⟩:=hrel
  by_cases hlt:k<s.size
  ·have HS:=I (Qr s k hlt)
   cases hb:vF s k
   ·have HB:=I hb
    go_wp2
    go_round
    case rel=>exact⟨k+1,by omega,by go_num,lT (by rw[HS.out,HB.out];rfl)⟩
    case measure=>simp[intOf];omega
   ·have HB:=I hb
    go_wp2
    all_goals
     go_round
     case rel=>exact⟨k+1,by omega,by go_num,lT (by rw[HS.out,HB.out];unfold iq;rw[Bool.eq_iff_iff];simp;omega)⟩
     case measure=>simp[intOf];omega
  ·go_wp2
   go_ret
   have e:k=s.size:=by omega
   exact⟨aM (by rw[e,Un]),rfl⟩
namespace bO
def Nn(ss:List aZ)(t:aZ)(i:Nat):Bool:=t.toList==(ss.getD i ByteArray.empty).toList
def dF(ss:List aZ)(t:aZ):Int:=match (List.range ss.length).find? (Nn ss t)with|some i=>i|none=>-1
end bO
theorem Av(w:World)(v:Value)(ss:List aZ)(t:aZ)(hS:Strs w v ss):
  Calls prog 36 #[v,A t] w λe w'=>e=cO (O (dF ss t))/\w'=w:=by
 obtain⟨a,b,off,cap,rfl,ha,hl,hs,h1⟩:=hS
 obtain⟨len,hlen⟩:∃len,len=ss.length:=⟨_,rfl⟩
 rw[<-hlen]at ha hl h1 ⊢
 have HL:Hid (len=ss.length):=hlen
 clear hlen
 go_enter func36,ntmps36
 go_wp2
 go_loop [8] (λi=>∃k:Nat,k<=len/\i=O k/\∀d,d<k->Nn ss t d=false) (λi=>len - (intOf i).toNat)
 case atStart=>exact⟨0,Nat.zero_le _,rfl,λd hd=>absurd hd (Nat.not_lt_zero _)⟩
 case round=>
  obtain⟨k,hk,rfl,hall⟩:=hrel
  have HA:Hid (∀d,d<k->Nn ss t d=false):=hall
  clear hall
  by_cases hlt:k<len
  ·obtain rfl:=ha aV
   obtain⟨s,hsk⟩:∃s,s=ss.getD k ByteArray.empty:=⟨_,rfl⟩
   have hcx:=h1 k hlt
   rw[<-hsk]at hcx
   have HK:=I hsk
   clear hsk h1 hs
   cases hh:(t.toList==s.toList)
   ·go_wp2
    go_round
    case rel=>exact⟨k+1,by omega,by go_num,λd hd=>by
      by_cases e:d=k
      ·subst e;unfold Nn;rw[<-HK.out];exact hh
      ·exact HA.out d aV⟩
    case measure=>simp[intOf];omega
   ·go_wp2
    go_ret
    exact⟨bQ (by unfold dF;rw[pO (by rw[<-HL.out];exact hlt) HA.out (by unfold Nn;rw[<-HK.out];exact hh)]),rfl⟩
  ·go_wp2
   go_ret
   exact⟨bQ (by unfold dF;rw[kF (λd hd=>HA.out d (by have:=HL.out;omega))]),rfl⟩
namespace Rd
structure Sr where
 r:List ByteArray
 f:Bool
def is(w:aZ)(l:List UInt8):Bool:=w.data.toList==l
def Qt(st:Sr)(n:Nat):aZ:=if st.f then ⟨#[]⟩else st.r.getD n ⟨#[]⟩
def pk(st:Sr):aZ:=Qt st 0
def fl(st:Sr):Sr:=⟨st.r,true⟩
def tk(st:Sr):Sr:=if is (pk st) []then fl st else ⟨st.r.tail,st.f⟩
def kw(l:List UInt8)(st:Sr):Sr:=if is (pk st) l then tk st else fl st
def mx(d:Nat)(st:Sr):Sr:=if d=20 then fl st else st
def op(d:Nat)(st:Sr):Sr:=kw [40] (mx d st)
def sh(st:Sr):Sr:=kw [41] st
def plain(w:aZ):Bool:=!is w []&&!is w [40]&&!is w [41]
def nm(st:Sr):Sr:=if plain (pk st)then st else fl st
def mX(c:UInt8):Bool:=decide (48<=c.toNat)&&decide (c.toNat<=57)
def YT(w:aZ):Bool:=w.data.toList.all mX&&!is w []
def YU(w:aZ):Bool:=decide (6<w.size)||(decide (1<w.size)&&(w.data.toList.getD 0 0==48))
def nu(st:Sr):Sr:=if YU (pk st)then fl st else st
def Aw(w:aZ):Int:=(Lib.atoi w.data.toList).getD 0
def opc(w:aZ):Bool:=is w [43]||is w [45]||is w [42]||is w [60]||is w [61]
def cmd(w:aZ):Int:=if is w [115,101,116]then 1 else if is w [105,102]then 2 else if is w [119,104,105,108,101]then 3 else if is w [112,114,105,110,116]then 4 else 0
def loop{α:Type}(c:Sr->Bool)(g:Sr->α × Sr):Nat->Sr->List α × Sr
 | 0,st=>([],st)
 | n+1,st=>if c st then ((g st).1::(loop c g n (g st).2).1,(loop c g n (g st).2).2)else ([],st)
def KC(st:Sr):Bool:=is (pk st) [40]
def Qu(st:Sr):Bool:=plain (pk st)
def argc(st:Sr):Bool:=is (pk st) [40]||plain (pk st)
def kK(st:Sr):Bool:=is (pk st) [40]&&decide (cmd (Qt st 1)≠0)
def gJ(st:Sr):aZ × Sr:=(pk (nm st),tk (nm st))
def nO(st:Sr):Ex × Sr:=(⟨2,0,pk (nm st),[]⟩,tk (nm st))
def nuE(st:Sr):Ex × Sr:=(⟨1,Aw (pk (nu st)),⟨#[]⟩,[]⟩,tk (nu st))
def opE(pe:Sr->Ex × Sr)(s1:Sr):Ex × Sr:=(⟨3,0,pk s1,[(pe (tk s1)).1,(pe (pe (tk s1)).2).1]⟩,sh (pe (pe (tk s1)).2).2)
def caE(pe:Sr->Ex × Sr)(n:Nat)(s2:Sr):Ex × Sr:=(⟨4,0,pk (nm s2),(loop argc pe n (tk (nm s2))).1⟩,sh (loop argc pe n (tk (nm s2))).2)
def cE(pe:Sr->Ex × Sr)(n d:Nat)(st:Sr):Ex × Sr:=
 if opc (pk (op d st))then opE pe (op d st)
 else if is (pk (op d st)) [99,97,108,108]then caE pe n (tk (op d st))
 else (⟨0,0,⟨#[]⟩,[]⟩,sh (fl (op d st)))
def pE:Nat->Nat->Sr->Ex × Sr
 | 0,_,st=>nO st
 | k+1,d,st=>if is (pk st) [40]then cE (pE k (d+1)) k d st else if YT (pk st)then nuE st else nO st
def blk(g:Sr->St × Sr)(n d:Nat)(st:Sr):List St × Sr:=((loop KC g n (op d st)).1,sh (loop KC g n (op d st)).2)
def s2(d:Nat)(st:Sr):Sr:=if cmd (pk (op d st))=0 then fl (op d st)else op d st
def s3(d:Nat)(st:Sr):Sr:=tk (s2 d st)
def naB(kd:Int):Bool:=decide (kd=1)||decide (kd=4)
def s4(d:Nat)(st:Sr):aZ × Sr:=if naB (cmd (pk (op d st)))then gJ (s3 d st)else (⟨#[]⟩,s3 d st)
def aB(kd:Int):Bool:=decide (kd=2)||decide (kd=3)
def pS(K:Nat):Nat->Nat->Sr->St × Sr
 | 0,_,st=>(⟨0,⟨#[]⟩,⟨0,0,⟨#[]⟩,[]⟩,[],[]⟩,st)
 | k+1,d,st=>
  let kd:=cmd (pk (op d st))
  let e:=pE K (d+1) (s4 d st).2
  let a:=if aB kd then blk (pS K k (d+2)) k (d+1) e.2 else ([],e.2)
  let b:=if kd=2 then blk (pS K k (d+2)) k (d+1) a.2 else ([],a.2)
  (⟨kd,(s4 d st).1,e.1,a.1,b.1⟩,sh b.2)
def uz(n d:Nat)(st:Sr):List aZ × Sr:=((loop Qu gJ n (op d st)).1,sh (loop Qu gJ n (op d st)).2)
def pF(K d:Nat)(st:Sr):Fu × Sr:=
 let ps:=uz K d (gJ st).2
 let b:=loop kK (pS K K d) K ps.2
 let e:=pE K d b.2
 (⟨(gJ st).1,ps.1,b.1,e.1⟩,e.2)
def pV(st:Sr):Va × Sr:=(⟨(gJ st).1,(gJ (gJ st).2).1⟩,(gJ (gJ st).2).2)
def pI(K d:Nat)(m:Mo)(st:Sr):Mo × Sr:=
 if is (pk (op d st)) [105,109,112,111,114,116]then ({ m with imports:=m.imports++[(gJ (tk (op d st))).1] },sh (gJ (tk (op d st))).2)
 else if is (pk (op d st)) [118,97,114]then ({ m with vars:=m.vars++[(pV (tk (op d st))).1] },sh (pV (tk (op d st))).2)
 else if is (pk (op d st)) [102,117,110]then ({ m with bq:=m.bq++[(pF K (d+1) (tk (op d st))).1] },sh (pF K (d+1) (tk (op d st))).2)
 else (m,sh (fl (op d st)))
def Np(K d:Nat):Nat->Mo->Sr->Mo × Sr
 | 0,m,st=>(m,st)
 | n+1,m,st=>if KC st then Np K d n (pI K d m st).1 (pI K d m st).2 else (m,st)
def m1(st:Sr):Sr:=kw [109,111,100,117,108,101] (op 0 st)
def pM(K:Nat)(st:Sr):Mo × Sr:=
 let x:=Np K 1 K ⟨(gJ (m1 st)).1,[],[],[]⟩ (gJ (m1 st)).2
 (x.1,sh x.2)
def YV(st:Sr):Sr:=if is (pk st) []then st else fl st
def Le(st' st:Sr):Prop:=(st.f=true->st'.f=true)/\st'.r.length<=st.r.length
def Lt(st' st:Sr):Prop:=Le st' st/\(st'.f=true\/st'.r.length<st.r.length)
theorem Le.refl(st:Sr):Le st st:=⟨id,bF _⟩
theorem Le.trans{a b c:Sr}(h:Le a b)(k:Le b c):Le a c:=⟨λe=>h.1 (k.1 e),bH h.2 k.2⟩
theorem Lt.le{a b:Sr}(h:Lt a b):Le a b:=h.1
theorem Lt.fZ{a b c:Sr}(h:Lt a b)(k:Le b c):Lt a c:=⟨h.1.trans k,h.2.elim aR (λe=>aT (vG e k.2))⟩
theorem Le.H7{a b c:Sr}(h:Le a b)(k:Lt b c):Lt a c:=⟨h.trans k.1,k.2.elim (λe=>aR (h.1 e)) (λe=>aT (Nat.lt_of_le_of_lt h.2 e))⟩
theorem Ca(st:Sr):Le (fl st) st:=⟨λ_=>rfl,bF _⟩
theorem fl_lt(st:Sr):Lt (fl st) st:=⟨Ca st,aR rfl⟩
theorem DW{st:Sr}(h:st.f=true)(n:Nat):Qt st n=⟨#[]⟩:=by unfold Qt;rw[aL h]
theorem gV(st:Sr):Lt (tk st) st:=by
 unfold tk;split;·exact fl_lt st
 ·rename_i h;refine⟨⟨id,by simp⟩,?_⟩;cases hr:st.r with
  | nil =>exfalso;apply h;unfold pk Qt;rw[hr];cases st.f<;>rfl
  | cons a l=>right;simp
theorem H8(l:List UInt8)(st:Sr):Lt (kw l st) st:=by
 unfold kw;split;·exact gV st
 ·exact fl_lt st
theorem mx_le(d:Nat)(st:Sr):Le (mx d st) st:=by
 unfold mx;split;·exact Ca st
 ·exact Le.refl st
theorem jv(d:Nat)(st:Sr):Lt (op d st) st:=(H8 _ _).fZ (mx_le d st)
theorem jK(st:Sr):Lt (sh st) st:=H8 _ _
theorem nm_le(st:Sr):Le (nm st) st:=by
 unfold nm;split;·exact Le.refl st
 ·exact Ca st
theorem iH(st:Sr):Lt (gJ st).2 st:=(gV _).fZ (nm_le st)
theorem nu_le(st:Sr):Le (nu st) st:=by
 unfold nu;split;·exact Ca st
 ·exact Le.refl st
theorem nuE_lt(st:Sr):Lt (nuE st).2 st:=(gV _).fZ (nu_le st)
theorem nmE_lt(st:Sr):Lt (nO st).2 st:=(gV _).fZ (nm_le st)
theorem mY{α:Type}{c:Sr->Bool}{g:Sr->α × Sr}(hg:∀st,Le (g st).2 st):∀(n:Nat) (st:Sr),Le (loop c g n st).2 st
 | 0,st=>Le.refl st
 | n+1,st=>by
  simp only[loop];split;·exact(mY hg n _).trans (hg st)
  ·exact Le.refl st
theorem cE_lt{pe:Sr->Ex × Sr}(hg:∀st,Lt (pe st).2 st)(n d:Nat)(st:Sr):Lt (cE pe n d st).2 st:=by
 unfold cE opE caE;split;·exact(((jK _).fZ (hg _).le).fZ (hg _).le).fZ ((gV _).le.trans (jv d st).le)
 ·split;·exact((jK _).fZ (mY (λs=>(hg s).le) _ _)).fZ ((iH _).le.trans ((gV _).le.trans (jv d st).le))
  ·exact(jK _).fZ ((Ca _).trans (jv d st).le)
theorem lG:∀(k d:Nat) (st:Sr),Lt (pE k d st).2 st
 | 0,_,st=>nmE_lt st
 | k+1,d,st=>by
  simp only[pE];split;·exact cE_lt (lG k (d+1)) k d st
  ·split;·exact nuE_lt st
   ·exact nmE_lt st
theorem rF{g:Sr->St × Sr}(hg:∀st,Le (g st).2 st)(n d:Nat)(st:Sr):Lt (blk g n d st).2 st:=
 ((jK _).fZ (mY hg _ _)).fZ (jv d st).le
theorem s2_le(d:Nat)(st:Sr):Le (s2 d st) (op d st):=by
 unfold s2;split;·exact Ca _
 ·exact Le.refl _
theorem s3_lt(d:Nat)(st:Sr):Lt (s3 d st) (op d st):=(gV _).fZ (s2_le d st)
theorem s4_le(d:Nat)(st:Sr):Le (s4 d st).2 (s3 d st):=by
 unfold s4;split;·exact(iH _).le
 ·exact Le.refl _
theorem uD(K:Nat):∀(k d:Nat) (st:Sr),Le (pS K k d st).2 st
 | 0,_,st=>Le.refl st
 | k+1,d,st=>by
  simp only[pS];have h0:Le (pE K (d+1) (s4 d st).2).2 st:=(lG _ _ _).le.trans ((s4_le d st).trans ((s3_lt d st).le.trans (jv d st).le));refine(jK _).le.trans ?_;have ha:Le (if aB (cmd (pk (op d st)))then blk (pS K k (d+2)) k (d+1) (pE K (d+1) (s4 d st).2).2 else ([],(pE K (d+1) (s4 d st).2).2)).2 st:=by
   split;·exact(rF (uD K k (d+2)) _ _ _).le.trans h0
   ·exact h0
  split;·exact(rF (uD K k (d+2)) _ _ _).le.trans ha
  ·exact ha
theorem pS_lt(K k d:Nat)(st:Sr):Lt (pS K (k+1) d st).2 st:=by
 simp only[pS];have h0:Lt (pE K (d+1) (s4 d st).2).2 st:=(lG _ _ _).fZ ((s4_le d st).trans ((s3_lt d st).le.trans (jv d st).le));refine(jK _).le.H7 ?_;have ha:Lt (if aB (cmd (pk (op d st)))then blk (pS K k (d+2)) k (d+1) (pE K (d+1) (s4 d st).2).2 else ([],(pE K (d+1) (s4 d st).2).2)).2 st:=by
  split;·exact(rF (uD K k (d+2)) _ _ _).le.H7 h0
  ·exact h0
 split;·exact(rF (uD K k (d+2)) _ _ _).le.H7 ha
 ·exact ha
theorem GR(n d:Nat)(st:Sr):Lt (uz n d st).2 st:=((jK _).fZ (mY (λs=>(iH s).le) _ _)).fZ (jv d st).le
theorem pF_lt(K d:Nat)(st:Sr):Lt (pF K d st).2 st:=
 (lG _ _ _).fZ ((mY (λs=>uD K K d s) _ _).trans ((GR _ _ _).le.trans (iH st).le))
theorem pV_lt(st:Sr):Lt (pV st).2 st:=(iH _).fZ (iH st).le
theorem pI_lt(K d:Nat)(m:Mo)(st:Sr):Lt (pI K d m st).2 st:=by
 have h0:Le (tk (op d st)) st:=(gV _).le.trans (jv d st).le;obtain⟨h1,h2,h3,h4⟩:=rG ((jK _).fZ ((iH (tk (op d st))).le.trans h0)) ((jK _).fZ ((pV_lt (tk (op d st))).le.trans h0)) ((jK _).fZ ((pF_lt K (d+1) (tk (op d st))).le.trans h0)) ((jK _).fZ ((Ca (op d st)).trans (jv d st).le));unfold pI;cases is (pk (op d st)) [105,109,112,111,114,116]
 ·cases is (pk (op d st)) [118,97,114]
  ·cases is (pk (op d st)) [102,117,110];·simp only[qI,if_false];exact h4
   ·simp only[qI,if_false,if_true];exact h3
  ·simp only[qI,if_false,if_true];exact h2
 ·simp only[if_true];exact h1
theorem Uo(K d:Nat):∀(n:Nat) (m:Mo) (st:Sr),Le (Np K d n m st).2 st
 | 0,m,st=>Le.refl st
 | n+1,m,st=>by
  simp only[Np];split;·exact(Uo K d n _ _).trans (pI_lt K d m st).le
  ·exact Le.refl st
theorem m1_le(st:Sr):Le (m1 st) st:=(H8 _ _).le.trans (jv 0 st).le
def Ok(k:Nat)(st:Sr):Prop:=st.f=true\/st.r.length<k
theorem Ok.le{k:Nat}{a b:Sr}(h:Ok k b)(hl:Le a b):Ok k a:=h.elim (λe=>aR (hl.1 e)) (λe=>aT (Nat.lt_of_le_of_lt hl.2 e))
theorem Ok.lt{k:Nat}{a b:Sr}(h:Ok (k+1) b)(hl:Lt a b):Ok k a:=by
 rcases h with h|h;·exact aR (hl.1.1 h)
 ·exact hl.2.elim aR (λe=>aT aV)
theorem WV{st:Sr}{n:Nat}{l:List UInt8}(h:is (Qt st n) l=true)(hl:l≠[]):st.f=false:=by
 cases hf:st.f;·rfl
 ·rw[DW hf]at h;unfold is at h;exact aN (beq_iff_eq.1 h).symm hl
theorem Qv{st:Sr}(h:plain (pk st)=true):st.f=false:=by
 cases hf:st.f;·rfl
 ·unfold pk at h;rw[DW hf]at h;cases h
theorem DX{st:Sr}(h:KC st=true):st.f=false:=WV (n:=0) h cZ
theorem WW{st:Sr}(h:argc st=true):st.f=false:=by
 unfold argc at h;rcases Bool.or_eq_true_iff.1 h with h|h;·exact WV (n:=0) h cZ
 ·exact Qv h
theorem Ok.pos{k:Nat}{st:Sr}(h:Ok k st)(hf:st.f=false):∃j,k=j+1:=by
 rcases h with h|h;·rw[hf]at h;cases h
 ·exact⟨k - 1,by omega⟩
theorem ru{α:Type}{c:Sr->Bool}{g:Sr->α × Sr}{n:Nat}{st:Sr}(hc:c st=true):loop c g (n+1) st=((g st).1::(loop c g n (g st).2).1,(loop c g n (g st).2).2):=by simp only[loop];rw[aL hc]
theorem rz{α:Type}{c:Sr->Bool}{g:Sr->α × Sr}{n:Nat}{st:Sr}(hc:c st=false):loop c g n st=([],st):=by
 cases n with
 | zero=>rfl
 | succ n=>simp only[loop];rw[aJ (by rw[hc];simp)]
end Rd
end Go.Proofs.YtbgkpehhdibaoaaGreatDoor
