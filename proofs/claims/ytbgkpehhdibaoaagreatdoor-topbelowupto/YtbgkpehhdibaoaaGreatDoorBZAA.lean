/- part -/
import Derived.WalkSpells
import Derived.WalkLawsBesides
import Derived.Test.YtbgkpehhdibaoaaGreatDoorChecked
import Derived.Lib.Atoi
import Derived.Test.YtbgkpehhdibaoaaGreatDoorBZAL
set_option maxHeartbeats 0
set_option maxRecDepth 99999
namespace Go.Proofs.YtbgkpehhdibaoaaGreatDoor
open Go.Proofs.Tryz
namespace bN
theorem all_true{p:Nat->Bool}{n:Nat}(h:∀d,d<n->p d=true):(List.range n).all p=true:=by rw[iB];intro x hx;exact h x (jr.1 hx)
theorem all_false{p:Nat->Bool}{n k:Nat}(hk:k<n)(h:p k=false):(List.range n).all p=false:=by rw[Ar];exact⟨k,jr.2 hk,by simp[h]⟩
theorem rC{p:Nat->Bool}{n k:Nat}(h:(List.range n).all p=true)(hk:k<n):p k=true:=
 iB.1 h k (jr.2 hk)
theorem kE{p:Nat->Bool}{n:Nat}(h:∀c,c<n->p c=false):(List.range n).find? p=none:=by rw[JO];intro x hx;simp[h x (jr.1 hx)]
theorem qx{p:Nat->Bool}:∀{n k:Nat},k<n->(∀c,c<k->p c=false)->p k=true->(List.range n).find? p=some k:=by
 intro n k hk h0 h1;induction n with
 | zero=>omega
 | succ n ih=>
  rw[FT,List.find?_append];by_cases e:k<n;·rw[ih e];rfl
  ·have:k=n:=by omega
   subst this;rw[kE h0];simp[h1]
theorem find_spec{p:Nat->Bool}{n k:Nat}(h:(List.range n).find? p=some k):k<n/\p k=true:=
 ⟨jr.1 (JQ h),NZ h⟩
def Rj(Z:Nat->Nat->Bool)(n a b c:Nat):Bool:=(List.range n).all λd=>!(Z a d&&Z b d&&!Z c d)
def yG(Z:Nat->Nat->Bool)(n a b c:Nat):Bool:=Z a c&&Z b c&&Rj Z n a b c
def yH(Z:Nat->Nat->Bool)(n a b:Nat):Option Nat:=(List.range n).find? (yG Z n a b)
def DF(Z:Nat->Nat->Bool)(a b c:Nat):Bool:=!(Z b c&&!Z a c)
def iN(Z:Nat->Nat->Bool)(n a b:Nat):Bool:=!(a != b&&Z b a)&&(List.range n).all (DF Z a b)
def zh(Z:Nat->Nat->Bool)(n a b:Nat):Bool:=!(Z a b&&!iN Z n a b)
def zi(Z:Nat->Nat->Bool)(n a:Nat):Bool:=Z a a&&(List.range n).all (zh Z n a)
def zk(Z:Nat->Nat->Bool)(n:Nat):Bool:=(List.range n).all (zi Z n)
def tr(Z:Nat->Nat->Bool):Nat->Nat->Bool:=λa b=>Z b a
def vT(Z:Nat->Nat->Bool)(n a b:Nat):Bool:=(yH Z n a b).isSome
def oU(Z:Nat->Nat->Bool)(n:Nat):Bool:=(List.range n).all λa=>(List.range a).all (vT Z n a)
def Rk(Z:Nat->Nat->Bool)(n a:Nat):Bool:=(List.range n).all (Z a)
def vE(Z:Nat->Nat->Bool)(n:Nat):Nat:=((List.range n).find? (Rk Z n)).getD 0
def mh(Z:Nat->Nat->Bool)(n a b:Nat):Nat:=(yH Z n a b).getD 0
def JR(Z:Nat->Nat->Bool)(n a b:Nat):Int:=if (yH Z n a b).isSome then 0 else 5
end bN
open bN
open Go.RowKit
theorem I{p:Prop}(h:p):Hid p:=h
theorem gV{p:Prop}(h:Hid p):p:=h
def sJ(w:World)(v:Value)(n:Nat)(Z:Nat->Nat->Bool):Prop:=
 ∃(gb go gc:Nat) (RB RO C:Nat->Nat),v=.slice (some ⟨gb,go,none⟩) n gc/\
  (∀r,r<n->w.cell? ⟨gb,go+r,none⟩=some (.slice (some ⟨RB r,RO r,none⟩) n (C r)))/\
  (∀r c,r<n->c<n->w.cell? ⟨RB r,RO r+c,none⟩=some (.bool (Z r c)))
theorem sJ.below{w w':World}{v:Value}{n:Nat}{Z:Nat->Nat->Bool}(h:sJ w v n Z)(hb:bG w w'):sJ w' v n Z:=by
 obtain⟨gb,go,gc,RB,RO,C,e,h1,h2⟩:=h
 exact⟨gb,go,gc,RB,RO,C,e,λr hr=>by rw[hb.cell (eX _ _ (h1 r hr))];exact h1 r hr,
  λr c hr hc=>by rw[hb.cell (eX _ _ (h2 r c hr hc))];exact h2 r c hr hc⟩
def Fg(w:World)(v:Value)(G:Nat)(L:Nat->Nat)(Z:Nat->Nat->Bool):Prop:=
 ∃(ga:Option Addr) (gb go gc:Nat) (aag:Nat->Option Addr) (RB RO C:Nat->Nat),v=.slice ga G gc/\(0<G->ga=some ⟨gb,go,none⟩)/\G<=9223372036854775807/\
  (∀r,r<G->L r<=9223372036854775807)/\
  (∀r,r<G->w.cell? ⟨gb,go+r,none⟩=some (.slice (aag r) (L r) (C r)))/\
  (∀r c,r<G->c<L r->aag r=some ⟨RB r,RO r,none⟩/\w.cell? ⟨RB r,RO r+c,none⟩=some (.bool (Z r c)))
theorem Fg.below{w w':World}{v:Value}{G:Nat}{L:Nat->Nat}{Z:Nat->Nat->Bool}(h:Fg w v G L Z)(hb:bG w w'):Fg w' v G L Z:=by
 obtain⟨ga,gb,go,gc,aag,RB,RO,C,e,h0,hG,hL,h1,h2⟩:=h
 exact⟨ga,gb,go,gc,aag,RB,RO,C,e,h0,hG,hL,λr hr=>by rw[hb.cell (eX _ _ (h1 r hr))];exact h1 r hr,
  λr c hr hc=>⟨(h2 r c hr hc).1,by rw[hb.cell (eX _ _ (h2 r c hr hc).2)];exact(h2 r c hr hc).2⟩⟩
theorem Fg.grid{w:World}{v:Value}{G:Nat}{L:Nat->Nat}{Z:Nat->Nat->Bool}(h:Fg w v G L Z)(h0:0<G)(hL:∀r,r<G->L r=G):sJ w v G Z:=by
 obtain⟨ga,gb,go,gc,aag,RB,RO,C,e,hg,_,_,h1,h2⟩:=h;refine⟨gb,go,gc,RB,RO,C,by rw[e,hg h0],λr hr=>?_,λr c hr hc=>?_⟩;·have:=(h2 r 0 hr (by rw[hL r hr];omega)).1;rw[h1 r hr,this,hL r hr]
 ·exact(h2 r c hr (by rw[hL r hr];omega)).2
def Strs(w:World)(v:Value)(ss:List aY):Prop:=
 ∃(a:Option Addr) (b off cap:Nat),v=.slice a ss.length cap/\(0<ss.length->a=some ⟨b,off,none⟩)/\ss.length<=9223372036854775807/\
  (∀s∈ss,s.size<=maxLen)/\(∀j,j<ss.length->w.cell? ⟨b,off+j,none⟩=some (.string (ss.getD j ByteArray.empty)))
theorem Strs.below{w w':World}{v:Value}{ss:List aY}(h:Strs w v ss)(hb:bG w w'):Strs w' v ss:=by obtain⟨a,b,off,cap,e,h0,hl,hs,h1⟩:=h;exact⟨a,b,off,cap,e,h0,hl,hs,λr hr=>by rw[hb.cell (eX _ _ (h1 r hr))];exact h1 r hr⟩
structure Ex where
 kind:Int
 n:Int
 name:ByteArray
 args:List Ex
structure St where
 kind:Int
 name:ByteArray
 e:Ex
 a:List St
 b:List St
structure Fu where
 name:ByteArray
 params:List ByteArray
 body:List St
 result:Ex
structure Va where
 name:ByteArray
 level:ByteArray
structure Mo where
 name:ByteArray
 imports:List ByteArray
 vars:List Va
 bg:List Fu
def K5(n:Int):Prop:=-9223372036854775808<=n/\n<=9223372036854775807
def gT(w:World):Nat->Value->Value->Value->Value->Ex->Prop
 | 0,_,_,_,_,_=>False
 | m+1,c0,c1,c2,c3,x=>
  c0=.int .i64 x.kind/\c1=.int .i64 x.n/\c2=.string x.name/\x.name.size<=maxLen/\K5 x.kind/\K5 x.n/\
  ∃(a:Option Addr) (b off cap:Nat),c3=.slice a x.args.length cap/\(0<x.args.length->a=some ⟨b,off,none⟩)/\x.args.length<=9223372036854775807/\
   ∀i y,x.args[i]?=some y->∃e0 e1 e2 e3,w.cell? ⟨b,off+i*4,none⟩=some e0/\w.cell? ⟨b,off+i*4+1,none⟩=some e1/\w.cell? ⟨b,off+i*4+2,none⟩=some e2/\w.cell? ⟨b,off+i*4+3,none⟩=some e3/\gT w m e0 e1 e2 e3 y
theorem gT.below{w w':World}(hb:bG w w'):∀{m:Nat} {c0 c1 c2 c3:Value} {x:Ex},gT w m c0 c1 c2 c3 x->gT w' m c0 c1 c2 c3 x
 | 0,_,_,_,_,_,h=>h
 | m+1,c0,c1,c2,c3,x,h=>by obtain⟨h0,h1,h2,h3,h4,h5,a,b,off,cap,h6,h7,h8,h9⟩:=h;refine⟨h0,h1,h2,h3,h4,h5,a,b,off,cap,h6,h7,h8,λi y hy=>?_⟩;obtain⟨e0,e1,e2,e3,g0,g1,g2,g3,hx⟩:=h9 i y hy;exact⟨e0,e1,e2,e3,by rw[hb.cell (eX _ _ g0)];exact g0,by rw[hb.cell (eX _ _ g1)];exact g1,by rw[hb.cell (eX _ _ g2)];exact g2,by rw[hb.cell (eX _ _ g3)];exact g3,gT.below hb hx⟩
theorem gT.mono{w:World}:∀{m:Nat} {c0 c1 c2 c3:Value} {x:Ex},gT w m c0 c1 c2 c3 x->∀k,m<=k->gT w k c0 c1 c2 c3 x
 | 0,_,_,_,_,_,h,_,_=>iW h
 | m+1,c0,c1,c2,c3,x,h,0,hk=>by omega
 | m+1,c0,c1,c2,c3,x,h,k+1,hk=>by obtain⟨h0,h1,h2,h3,h4,h5,a,b,off,cap,h6,h7,h8,h9⟩:=h;refine⟨h0,h1,h2,h3,h4,h5,a,b,off,cap,h6,h7,h8,λi y hy=>?_⟩;obtain⟨e0,e1,e2,e3,g0,g1,g2,g3,hx⟩:=h9 i y hy;exact⟨e0,e1,e2,e3,g0,g1,g2,g3,gT.mono hx k aX⟩
def fB(w:World):Nat->Value->List St->Prop
 | 0,_,_=>False
 | m+1,v,l=>∃(a:Option Addr) (b off cap:Nat),v=.slice a l.length cap/\(0<l.length->a=some ⟨b,off,none⟩)/\l.length<=9223372036854775807/\
   ∀i s,l[i]?=some s->K5 s.kind/\s.name.size<=maxLen/\∃e0 e1 e2 e3 va vb,w.cell? ⟨b,off+i*8,none⟩=some (.int .i64 s.kind)/\w.cell? ⟨b,off+i*8+1,none⟩=some (.string s.name)/\
    w.cell? ⟨b,off+i*8+2,none⟩=some e0/\w.cell? ⟨b,off+i*8+3,none⟩=some e1/\w.cell? ⟨b,off+i*8+4,none⟩=some e2/\w.cell? ⟨b,off+i*8+5,none⟩=some e3/\
    w.cell? ⟨b,off+i*8+6,none⟩=some va/\w.cell? ⟨b,off+i*8+7,none⟩=some vb/\gT w m e0 e1 e2 e3 s.e/\fB w m va s.a/\fB w m vb s.b
theorem fB.below{w w':World}(hb:bG w w'):∀{m:Nat} {v:Value} {l:List St},fB w m v l->fB w' m v l
 | 0,_,_,h=>h
 | m+1,v,l,h=>by obtain⟨a,b,off,cap,h6,h7,h8,h9⟩:=h;refine⟨a,b,off,cap,h6,h7,h8,λi s hs=>?_⟩;obtain⟨k1,k2,e0,e1,e2,e3,va,vb,g0,g1,g2,g3,g4,g5,g6,g7,hx,ha,hb'⟩:=h9 i s hs;exact⟨k1,k2,e0,e1,e2,e3,va,vb,by rw[hb.cell (eX _ _ g0)];exact g0,by rw[hb.cell (eX _ _ g1)];exact g1,by rw[hb.cell (eX _ _ g2)];exact g2,by rw[hb.cell (eX _ _ g3)];exact g3,by rw[hb.cell (eX _ _ g4)];exact g4,by rw[hb.cell (eX _ _ g5)];exact g5,by rw[hb.cell (eX _ _ g6)];exact g6,by rw[hb.cell (eX _ _ g7)];exact g7,hx.below hb,ha.below hb,hb'.below hb⟩
theorem fB.mono{w:World}:∀{m:Nat} {v:Value} {l:List St},fB w m v l->∀k,m<=k->fB w k v l
 | 0,_,_,h,_,_=>iW h
 | m+1,v,l,h,0,hk=>by omega
 | m+1,v,l,h,k+1,hk=>by obtain⟨a,b,off,cap,h6,h7,h8,h9⟩:=h;refine⟨a,b,off,cap,h6,h7,h8,λi s hs=>?_⟩;obtain⟨k1,k2,e0,e1,e2,e3,va,vb,g0,g1,g2,g3,g4,g5,g6,g7,hx,ha,hb'⟩:=h9 i s hs;exact⟨k1,k2,e0,e1,e2,e3,va,vb,g0,g1,g2,g3,g4,g5,g6,g7,hx.mono k aX,ha.mono k aX,hb'.mono k aX⟩
def uX(w:World)(v:Value)(l:List Va):Prop:=
 ∃(a:Option Addr) (b off cap:Nat),v=.slice a l.length cap/\(0<l.length->a=some ⟨b,off,none⟩)/\l.length<=9223372036854775807/\
  ∀i s,l[i]?=some s->s.name.size<=maxLen/\s.level.size<=maxLen/\w.cell? ⟨b,off+i*2,none⟩=some (.string s.name)/\w.cell? ⟨b,off+i*2+1,none⟩=some (.string s.level)
theorem uX.below{w w':World}{v:Value}{l:List Va}(h:uX w v l)(hb:bG w w'):uX w' v l:=by obtain⟨a,b,off,cap,h6,h7,h8,h9⟩:=h;refine⟨a,b,off,cap,h6,h7,h8,λi s hs=>?_⟩;obtain⟨k1,k2,g0,g1⟩:=h9 i s hs;exact⟨k1,k2,by rw[hb.cell (eX _ _ g0)];exact g0,by rw[hb.cell (eX _ _ g1)];exact g1⟩
def kW(w:World)(m:Nat)(v:Value)(l:List Fu):Prop:=
 ∃(a:Option Addr) (b off cap:Nat),v=.slice a l.length cap/\(0<l.length->a=some ⟨b,off,none⟩)/\l.length<=9223372036854775807/\
  ∀i s,l[i]?=some s->s.name.size<=maxLen/\∃vp vb e0 e1 e2 e3,w.cell? ⟨b,off+i*7,none⟩=some (.string s.name)/\w.cell? ⟨b,off+i*7+1,none⟩=some vp/\w.cell? ⟨b,off+i*7+2,none⟩=some vb/\
   w.cell? ⟨b,off+i*7+3,none⟩=some e0/\w.cell? ⟨b,off+i*7+4,none⟩=some e1/\w.cell? ⟨b,off+i*7+5,none⟩=some e2/\w.cell? ⟨b,off+i*7+6,none⟩=some e3/\
   Strs w vp s.params/\fB w m vb s.body/\gT w m e0 e1 e2 e3 s.result
theorem kW.below{w w':World}{m:Nat}{v:Value}{l:List Fu}(h:kW w m v l)(hb:bG w w'):kW w' m v l:=by obtain⟨a,b,off,cap,h6,h7,h8,h9⟩:=h;refine⟨a,b,off,cap,h6,h7,h8,λi s hs=>?_⟩;obtain⟨k1,vp,vb,e0,e1,e2,e3,g0,g1,g2,g3,g4,g5,g6,hp,hs',hx⟩:=h9 i s hs;exact⟨k1,vp,vb,e0,e1,e2,e3,by rw[hb.cell (eX _ _ g0)];exact g0,by rw[hb.cell (eX _ _ g1)];exact g1,by rw[hb.cell (eX _ _ g2)];exact g2,by rw[hb.cell (eX _ _ g3)];exact g3,by rw[hb.cell (eX _ _ g4)];exact g4,by rw[hb.cell (eX _ _ g5)];exact g5,by rw[hb.cell (eX _ _ g6)];exact g6,hp.below hb,hs'.below hb,hx.below hb⟩
def iY(w:World)(m:Nat)(v:Value)(x:Mo):Prop:=
 ∃vi vv vf,v=.agg #[.string x.name,vi,vv,vf]/\x.name.size<=maxLen/\Strs w vi x.imports/\uX w vv x.vars/\kW w m vf x.bg
theorem iY.below{w w':World}{m:Nat}{v:Value}{x:Mo}(h:iY w m v x)(hb:bG w w'):iY w' m v x:=by
 obtain⟨vi,vv,vf,h0,h1,h2,h3,h4⟩:=h
 exact⟨vi,vv,vf,h0,h1,h2.below hb,h3.below hb,h4.below hb⟩
namespace bN
def iI(c:UInt8):Bool:=decide (97<=c.toNat)&&decide (c.toNat<=122)
def dP(l:List UInt8):Bool:=decide (1<=l.length)&&decide (l.length<=8)&&l.all iI
end bN
theorem gM(s:aY):s.data.toList.length=s.size:=rfl
theorem DI(s:aY)(h:∀j (hj:j<s.size),iI s[j]=true):s.data.toList.all iI=true:=by rw[iB];intro x hx;obtain⟨j,hj,rfl⟩:=gZ.1 hx;exact h j (by simpa using hj)
theorem rD(s:aY)(j:Nat)(hj:j<s.size)(h:iI s[j]=false):s.data.toList.all iI=false:=by rw[Ar];exact⟨s[j],gZ.2 ⟨j,by simpa using hj,rfl⟩,by simp[h]⟩
theorem aP{a b:Bool}(h:a=b):dz (.bool a)=dz (.bool b):=by rw[h]
theorem Uo{a b:Int}{c d:Int}(h:a=c)(h':b=d):dz (.tuple #[O a,O b])=dz (.tuple #[O c,O d]):=by rw[h,h']
theorem bT{k:IntKind}{a b:Int}(h:a=b):dz (.int k a)=dz (.int k b):=by rw[h]
theorem K6(a b:Nat):((a:Int) != (b:Int))=(a != b):=by rw[sK];simp only[bne_iff_ne,ne_eq];omega
theorem up{w w1 w2:World}(h:bG w w1)(h2:bG w1 w2):bG w w2:=h.trans (h2.mono h.size)
theorem Wn{w w2:World}{o:Obj}(h2:Below (w.alloc o).heap.size (w.alloc o) w2):bG w w2:=up ((bP _ _).alloc (bE _) _) h2
theorem aD{w w1:World}{a:Addr}{v:Value}(h:w.cell? a=some v)(hb:bG w w1):w1.cell? a=some v:=by rw[hb.cell (eX _ _ h)];exact h
theorem N7(w:World)(x y:Value)(t:TypeId):(w.alloc (.cells #[x,y] t)).cell? (X w.heap.size 0)=some x:=by simp[go_sem]
theorem sM(w:World)(x y:Value)(t:TypeId):(w.alloc (.cells #[x,y] t)).cell? (X w.heap.size 1)=some y:=by simp[go_sem]
theorem eP{x:Int}(h:x≠0):(x != 0)=true:=by simp[h]
theorem aH(w:World)(o:Obj):bG w (w.alloc o):=(bP _ _).alloc (bE _) _
theorem Au(a b:Nat):((a:Int)==(b:Int))=(a==b):=by rw[sK];simp only[beq_iff_eq];omega
theorem nI{B:Nat}{a w:World}(h:Below B a w)(k:Nat):Below B a (w.drewN k):=h.trans ⟨rfl,rfl,rfl,bE _,λ_ _=>rfl⟩
namespace bN
def K7(ss:List aY)(t:aY)(i:Nat):Bool:=t.toList==(ss.getD i ByteArray.empty).toList
def dR(ss:List aY)(t:aY):Int:=match (List.range ss.length).find? (K7 ss t)with|some i=>i|none=>-1
end bN
theorem zm(w:World)(v:Value)(ss:List aY)(t:aY)(hS:Strs w v ss):
  Calls prog 36 #[v,A t] w λe w'=>e=dz (O (dR ss t))/\w'=w:=by
 obtain⟨a,b,off,cap,rfl,ha,hl,hs,h1⟩:=hS
 obtain⟨len,hlen⟩:∃len,len=ss.length:=⟨_,rfl⟩
 rw[<-hlen]at ha hl h1 ⊢
 have HL:Hid (len=ss.length):=hlen
 clear hlen
 go_enter func36,ntmps36
 go_wp2
 go_loop [8] (λi=>∃k:Nat,k<=len/\i=O k/\∀d,d<k->K7 ss t d=false) (λi=>len - (intOf i).toNat)
 case atStart=>exact⟨0,Nat.zero_le _,rfl,λd hd=>absurd hd (Nat.not_lt_zero _)⟩
 case round=>
  obtain⟨k,hk,rfl,hall⟩:=hrel
  have HA:Hid (∀d,d<k->K7 ss t d=false):=hall
  clear hall
  by_cases hlt:k<len
  ·obtain rfl:=ha aX
   obtain⟨s,hsk⟩:∃s,s=ss.getD k ByteArray.empty:=⟨_,rfl⟩
   have hcx:=h1 k hlt
   rw[<-hsk]at hcx
   have HK:=I hsk
   clear hsk h1 hs
   cases hh:(t.toList==s.toList)
   ·go_wp2
    go_round
    case rel=>exact⟨k+1,by omega,by go_num,λd hd=>by
      by_cases e:d=k
      ·subst e;unfold K7;rw[<-HK.out];exact hh
      ·exact HA.out d aX⟩
    case measure=>simp[intOf];omega
   ·go_wp2
    go_ret
    exact⟨bT (by unfold dR;rw[qx (by rw[<-HL.out];exact hlt) HA.out (by unfold K7;rw[<-HK.out];exact hh)]),rfl⟩
  ·go_wp2
   go_ret
   exact⟨bT (by unfold dR;rw[kE (λd hd=>HA.out d (by have:=HL.out;omega))]),rfl⟩
namespace Rd
structure Sr where
 r:List ByteArray
 f:Bool
def is(w:aY)(l:List UInt8):Bool:=w.data.toList==l
def N8(st:Sr)(n:Nat):aY:=if st.f then ⟨#[]⟩else st.r.getD n ⟨#[]⟩
def pk(st:Sr):aY:=N8 st 0
def fl(st:Sr):Sr:=⟨st.r,true⟩
def tk(st:Sr):Sr:=if is (pk st) []then fl st else ⟨st.r.tail,st.f⟩
def kw(l:List UInt8)(st:Sr):Sr:=if is (pk st) l then tk st else fl st
def mx(d:Nat)(st:Sr):Sr:=if d=20 then fl st else st
def op(d:Nat)(st:Sr):Sr:=kw [40] (mx d st)
def sh(st:Sr):Sr:=kw [41] st
def plain(w:aY):Bool:=!is w []&&!is w [40]&&!is w [41]
def nm(st:Sr):Sr:=if plain (pk st)then st else fl st
def mq(c:UInt8):Bool:=decide (48<=c.toNat)&&decide (c.toNat<=57)
def Wo(w:aY):Bool:=w.data.toList.all mq&&!is w []
def Wp(w:aY):Bool:=decide (6<w.size)||(decide (1<w.size)&&(w.data.toList.getD 0 0==48))
def nu(st:Sr):Sr:=if Wp (pk st)then fl st else st
def zu(w:aY):Int:=(Lib.atoi w.data.toList).getD 0
def opc(w:aY):Bool:=is w [43]||is w [45]||is w [42]||is w [60]||is w [61]
def cmd(w:aY):Int:=if is w [115,101,116]then 1 else if is w [105,102]then 2 else if is w [119,104,105,108,101]then 3 else if is w [112,114,105,110,116]then 4 else 0
def loop{α:Type}(c:Sr->Bool)(g:Sr->α × Sr):Nat->Sr->List α × Sr
 | 0,st=>([],st)
 | n+1,st=>if c st then ((g st).1::(loop c g n (g st).2).1,(loop c g n (g st).2).2)else ([],st)
def IY(st:Sr):Bool:=is (pk st) [40]
def N9(st:Sr):Bool:=plain (pk st)
def argc(st:Sr):Bool:=is (pk st) [40]||plain (pk st)
def jZ(st:Sr):Bool:=is (pk st) [40]&&decide (cmd (N8 st 1)≠0)
def gF(st:Sr):aY × Sr:=(pk (nm st),tk (nm st))
def mW(st:Sr):Ex × Sr:=(⟨2,0,pk (nm st),[]⟩,tk (nm st))
def nuE(st:Sr):Ex × Sr:=(⟨1,zu (pk (nu st)),⟨#[]⟩,[]⟩,tk (nu st))
def opE(pe:Sr->Ex × Sr)(s1:Sr):Ex × Sr:=(⟨3,0,pk s1,[(pe (tk s1)).1,(pe (pe (tk s1)).2).1]⟩,sh (pe (pe (tk s1)).2).2)
def caE(pe:Sr->Ex × Sr)(n:Nat)(s2:Sr):Ex × Sr:=(⟨4,0,pk (nm s2),(loop argc pe n (tk (nm s2))).1⟩,sh (loop argc pe n (tk (nm s2))).2)
def cE(pe:Sr->Ex × Sr)(n d:Nat)(st:Sr):Ex × Sr:=
 if opc (pk (op d st))then opE pe (op d st)
 else if is (pk (op d st)) [99,97,108,108]then caE pe n (tk (op d st))
 else (⟨0,0,⟨#[]⟩,[]⟩,sh (fl (op d st)))
def pE:Nat->Nat->Sr->Ex × Sr
 | 0,_,st=>mW st
 | k+1,d,st=>if is (pk st) [40]then cE (pE k (d+1)) k d st else if Wo (pk st)then nuE st else mW st
def blk(g:Sr->St × Sr)(n d:Nat)(st:Sr):List St × Sr:=((loop IY g n (op d st)).1,sh (loop IY g n (op d st)).2)
def s2(d:Nat)(st:Sr):Sr:=if cmd (pk (op d st))=0 then fl (op d st)else op d st
def s3(d:Nat)(st:Sr):Sr:=tk (s2 d st)
def naB(kd:Int):Bool:=decide (kd=1)||decide (kd=4)
def s4(d:Nat)(st:Sr):aY × Sr:=if naB (cmd (pk (op d st)))then gF (s3 d st)else (⟨#[]⟩,s3 d st)
def aB(kd:Int):Bool:=decide (kd=2)||decide (kd=3)
def pS(K:Nat):Nat->Nat->Sr->St × Sr
 | 0,_,st=>(⟨0,⟨#[]⟩,⟨0,0,⟨#[]⟩,[]⟩,[],[]⟩,st)
 | k+1,d,st=>
  let kd:=cmd (pk (op d st))
  let e:=pE K (d+1) (s4 d st).2
  let a:=if aB kd then blk (pS K k (d+2)) k (d+1) e.2 else ([],e.2)
  let b:=if kd=2 then blk (pS K k (d+2)) k (d+1) a.2 else ([],a.2)
  (⟨kd,(s4 d st).1,e.1,a.1,b.1⟩,sh b.2)
def sN(n d:Nat)(st:Sr):List aY × Sr:=((loop N9 gF n (op d st)).1,sh (loop N9 gF n (op d st)).2)
def pF(K d:Nat)(st:Sr):Fu × Sr:=
 let ps:=sN K d (gF st).2
 let b:=loop jZ (pS K K d) K ps.2
 let e:=pE K d b.2
 (⟨(gF st).1,ps.1,b.1,e.1⟩,e.2)
def pV(st:Sr):Va × Sr:=(⟨(gF st).1,(gF (gF st).2).1⟩,(gF (gF st).2).2)
def pI(K d:Nat)(m:Mo)(st:Sr):Mo × Sr:=
 if is (pk (op d st)) [105,109,112,111,114,116]then ({ m with imports:=m.imports++[(gF (tk (op d st))).1] },sh (gF (tk (op d st))).2)
 else if is (pk (op d st)) [118,97,114]then ({ m with vars:=m.vars++[(pV (tk (op d st))).1] },sh (pV (tk (op d st))).2)
 else if is (pk (op d st)) [102,117,110]then ({ m with bg:=m.bg++[(pF K (d+1) (tk (op d st))).1] },sh (pF K (d+1) (tk (op d st))).2)
 else (m,sh (fl (op d st)))
def La(K d:Nat):Nat->Mo->Sr->Mo × Sr
 | 0,m,st=>(m,st)
 | n+1,m,st=>if IY st then La K d n (pI K d m st).1 (pI K d m st).2 else (m,st)
def m1(st:Sr):Sr:=kw [109,111,100,117,108,101] (op 0 st)
def pM(K:Nat)(st:Sr):Mo × Sr:=
 let x:=La K 1 K ⟨(gF (m1 st)).1,[],[],[]⟩ (gF (m1 st)).2
 (x.1,sh x.2)
def Wq(st:Sr):Sr:=if is (pk st) []then st else fl st
def Le(st' st:Sr):Prop:=(st.f=true->st'.f=true)/\st'.r.length<=st.r.length
def Lt(st' st:Sr):Prop:=Le st' st/\(st'.f=true\/st'.r.length<st.r.length)
theorem Le.refl(st:Sr):Le st st:=⟨id,bE _⟩
theorem Le.trans{a b c:Sr}(h:Le a b)(k:Le b c):Le a c:=⟨λe=>h.1 (k.1 e),bF h.2 k.2⟩
theorem Lt.le{a b:Sr}(h:Lt a b):Le a b:=h.1
theorem Lt.fJ{a b c:Sr}(h:Lt a b)(k:Le b c):Lt a c:=⟨h.1.trans k,h.2.elim aR (λe=>aV (uj e k.2))⟩
theorem Le.FU{a b c:Sr}(h:Le a b)(k:Lt b c):Lt a c:=⟨h.trans k.1,k.2.elim (λe=>aR (h.1 e)) (λe=>aV (Nat.lt_of_le_of_lt h.2 e))⟩
theorem Av(st:Sr):Le (fl st) st:=⟨λ_=>rfl,bE _⟩
theorem fl_lt(st:Sr):Lt (fl st) st:=⟨Av st,aR rfl⟩
theorem Cm{st:Sr}(h:st.f=true)(n:Nat):N8 st n=⟨#[]⟩:=by unfold N8;rw[aL h]
theorem gI(st:Sr):Lt (tk st) st:=by
 unfold tk;split;·exact fl_lt st
 ·rename_i h;refine⟨⟨id,by simp⟩,?_⟩;cases hr:st.r with
  | nil =>exfalso;apply h;unfold pk N8;rw[hr];cases st.f<;>rfl
  | cons a l=>right;simp
theorem FV(l:List UInt8)(st:Sr):Lt (kw l st) st:=by
 unfold kw;split;·exact gI st
 ·exact fl_lt st
theorem mx_le(d:Nat)(st:Sr):Le (mx d st) st:=by
 unfold mx;split;·exact Av st
 ·exact Le.refl st
theorem jd(d:Nat)(st:Sr):Lt (op d st) st:=(FV _ _).fJ (mx_le d st)
theorem jv(st:Sr):Lt (sh st) st:=FV _ _
theorem nm_le(st:Sr):Le (nm st) st:=by
 unfold nm;split;·exact Le.refl st
 ·exact Av st
theorem ig(st:Sr):Lt (gF st).2 st:=(gI _).fJ (nm_le st)
theorem nu_le(st:Sr):Le (nu st) st:=by
 unfold nu;split;·exact Av st
 ·exact Le.refl st
theorem nuE_lt(st:Sr):Lt (nuE st).2 st:=(gI _).fJ (nu_le st)
theorem Zp(st:Sr):Lt (mW st).2 st:=(gI _).fJ (nm_le st)
theorem mD{α:Type}{c:Sr->Bool}{g:Sr->α × Sr}(hg:∀st,Le (g st).2 st):∀(n:Nat) (st:Sr),Le (loop c g n st).2 st
 | 0,st=>Le.refl st
 | n+1,st=>by
  simp only[loop];split;·exact(mD hg n _).trans (hg st)
  ·exact Le.refl st
theorem cE_lt{pe:Sr->Ex × Sr}(hg:∀st,Lt (pe st).2 st)(n d:Nat)(st:Sr):Lt (cE pe n d st).2 st:=by
 unfold cE opE caE;split;·exact(((jv _).fJ (hg _).le).fJ (hg _).le).fJ ((gI _).le.trans (jd d st).le)
 ·split;·exact((jv _).fJ (mD (λs=>(hg s).le) _ _)).fJ ((ig _).le.trans ((gI _).le.trans (jd d st).le))
  ·exact(jv _).fJ ((Av _).trans (jd d st).le)
theorem kL:∀(k d:Nat) (st:Sr),Lt (pE k d st).2 st
 | 0,_,st=>Zp st
 | k+1,d,st=>by
  simp only[pE];split;·exact cE_lt (kL k (d+1)) k d st
  ·split;·exact nuE_lt st
   ·exact Zp st
theorem qy{g:Sr->St × Sr}(hg:∀st,Le (g st).2 st)(n d:Nat)(st:Sr):Lt (blk g n d st).2 st:=
 ((jv _).fJ (mD hg _ _)).fJ (jd d st).le
theorem s2_le(d:Nat)(st:Sr):Le (s2 d st) (op d st):=by
 unfold s2;split;·exact Av _
 ·exact Le.refl _
theorem s3_lt(d:Nat)(st:Sr):Lt (s3 d st) (op d st):=(gI _).fJ (s2_le d st)
theorem s4_le(d:Nat)(st:Sr):Le (s4 d st).2 (s3 d st):=by
 unfold s4;split;·exact(ig _).le
 ·exact Le.refl _
theorem sO(K:Nat):∀(k d:Nat) (st:Sr),Le (pS K k d st).2 st
 | 0,_,st=>Le.refl st
 | k+1,d,st=>by
  simp only[pS];have h0:Le (pE K (d+1) (s4 d st).2).2 st:=(kL _ _ _).le.trans ((s4_le d st).trans ((s3_lt d st).le.trans (jd d st).le));refine(jv _).le.trans ?_;have ha:Le (if aB (cmd (pk (op d st)))then blk (pS K k (d+2)) k (d+1) (pE K (d+1) (s4 d st).2).2 else ([],(pE K (d+1) (s4 d st).2).2)).2 st:=by
   split;·exact(qy (sO K k (d+2)) _ _ _).le.trans h0
   ·exact h0
  split;·exact(qy (sO K k (d+2)) _ _ _).le.trans ha
  ·exact ha
theorem pS_lt(K k d:Nat)(st:Sr):Lt (pS K (k+1) d st).2 st:=by
 simp only[pS];have h0:Lt (pE K (d+1) (s4 d st).2).2 st:=(kL _ _ _).fJ ((s4_le d st).trans ((s3_lt d st).le.trans (jd d st).le));refine(jv _).le.FU ?_;have ha:Lt (if aB (cmd (pk (op d st)))then blk (pS K k (d+2)) k (d+1) (pE K (d+1) (s4 d st).2).2 else ([],(pE K (d+1) (s4 d st).2).2)).2 st:=by
  split;·exact(qy (sO K k (d+2)) _ _ _).le.FU h0
  ·exact h0
 split;·exact(qy (sO K k (d+2)) _ _ _).le.FU ha
 ·exact ha
theorem Fj(n d:Nat)(st:Sr):Lt (sN n d st).2 st:=((jv _).fJ (mD (λs=>(ig s).le) _ _)).fJ (jd d st).le
theorem pF_lt(K d:Nat)(st:Sr):Lt (pF K d st).2 st:=
 (kL _ _ _).fJ ((mD (λs=>sO K K d s) _ _).trans ((Fj _ _ _).le.trans (ig st).le))
theorem pV_lt(st:Sr):Lt (pV st).2 st:=(ig _).fJ (ig st).le
theorem Zq(K d:Nat)(m:Mo)(st:Sr):Lt (pI K d m st).2 st:=by
 have h0:Le (tk (op d st)) st:=(gI _).le.trans (jd d st).le;obtain⟨h1,h2,h3,h4⟩:=tZ ((jv _).fJ ((ig (tk (op d st))).le.trans h0)) ((jv _).fJ ((pV_lt (tk (op d st))).le.trans h0)) ((jv _).fJ ((pF_lt K (d+1) (tk (op d st))).le.trans h0)) ((jv _).fJ ((Av (op d st)).trans (jd d st).le));unfold pI;cases is (pk (op d st)) [105,109,112,111,114,116]
 ·cases is (pk (op d st)) [118,97,114]
  ·cases is (pk (op d st)) [102,117,110];·simp only[pO,if_false];exact h4
   ·simp only[pO,if_false,if_true];exact h3
  ·simp only[pO,if_false,if_true];exact h2
 ·simp only[if_true];exact h1
theorem Rl(K d:Nat):∀(n:Nat) (m:Mo) (st:Sr),Le (La K d n m st).2 st
 | 0,m,st=>Le.refl st
 | n+1,m,st=>by
  simp only[La];split;·exact(Rl K d n _ _).trans (Zq K d m st).le
  ·exact Le.refl st
theorem m1_le(st:Sr):Le (m1 st) st:=(FV _ _).le.trans (jd 0 st).le
def Ok(k:Nat)(st:Sr):Prop:=st.f=true\/st.r.length<k
theorem Ok.le{k:Nat}{a b:Sr}(h:Ok k b)(hl:Le a b):Ok k a:=h.elim (λe=>aR (hl.1 e)) (λe=>aV (Nat.lt_of_le_of_lt hl.2 e))
theorem Ok.lt{k:Nat}{a b:Sr}(h:Ok (k+1) b)(hl:Lt a b):Ok k a:=by
 rcases h with h|h;·exact aR (hl.1.1 h)
 ·exact hl.2.elim aR (λe=>aV aX)
theorem Uq{st:Sr}{n:Nat}{l:List UInt8}(h:is (N8 st n) l=true)(hl:l≠[]):st.f=false:=by
 cases hf:st.f;·rfl
 ·rw[Cm hf]at h;unfold is at h;exact aM (beq_iff_eq.1 h).symm hl
theorem Oa{st:Sr}(h:plain (pk st)=true):st.f=false:=by
 cases hf:st.f;·rfl
 ·unfold pk at h;rw[Cm hf]at h;cases h
theorem Cq{st:Sr}(h:IY st=true):st.f=false:=Uq (n:=0) h dx
theorem Ur{st:Sr}(h:argc st=true):st.f=false:=by
 unfold argc at h;rcases Bool.or_eq_true_iff.1 h with h|h;·exact Uq (n:=0) h dx
 ·exact Oa h
theorem Ok.pos{k:Nat}{st:Sr}(h:Ok k st)(hf:st.f=false):∃j,k=j+1:=by
 rcases h with h|h;·rw[hf]at h;cases h
 ·exact⟨k - 1,by omega⟩
theorem qm{α:Type}{c:Sr->Bool}{g:Sr->α × Sr}{n:Nat}{st:Sr}(hc:c st=true):loop c g (n+1) st=((g st).1::(loop c g n (g st).2).1,(loop c g n (g st).2).2):=by simp only[loop];rw[aL hc]
theorem qo{α:Type}{c:Sr->Bool}{g:Sr->α × Sr}{n:Nat}{st:Sr}(hc:c st=false):loop c g n st=([],st):=by
 cases n with
 | zero=>rfl
 | succ n=>simp only[loop];rw[aJ (by rw[hc];simp)]
end Rd
end Go.Proofs.YtbgkpehhdibaoaaGreatDoor
