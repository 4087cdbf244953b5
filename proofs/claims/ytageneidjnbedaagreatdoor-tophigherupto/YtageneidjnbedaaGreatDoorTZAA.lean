import Derived.WalkSpells
import Derived.WalkLawsBesides
import Derived.Test.YtageneidjnbedaaGreatDoorChecked
import Derived.Lib.Atoi
import Derived.Test.YtageneidjnbedaaGreatDoorTZAL
set_option maxHeartbeats 0
set_option maxRecDepth 99999
namespace Go.Proofs.YtageneidjnbedaaGreatDoor
open Go.Proofs.Tryz
namespace bS
theorem all_true{p:Nat->Bool}{n:Nat}(h:∀d,d<n->p d=true):(List.range n).all p=true:=by rw[iB];intro x a;exact h x<|jE.1 a
theorem all_false{p:Nat->Bool}{n k:Nat}(a:k<n)(h:p k=false):(List.range n).all p=false:=by rw[CY];exact⟨k,jE.2 a,by simp[h]⟩
theorem uz{p:Nat->Bool}{n k:Nat}(h:(List.range n).all p=true)(a:k<n):p k=true:=
 iB.1 h k (jE.2 a)
theorem jW{p:Nat->Bool}{n:Nat}(h:∀c,c<n->p c=false):(List.range n).find? p=none:=by rw[Gv];intro x a;simp[h x (jE.1 a)]
theorem mD{p:Nat->Bool}:∀{n k:Nat},k<n->(∀c,c<k->p c=false)->p k=true->(List.range n).find? p=some k:=by
 intro n k f b d;induction n with
 | zero=>omega
 | succ n e=>
  rw[Ji,List.find?_append];by_cases a:k<n;·rw[e a];rfl
  ·have:k=n:=by omega
   subst this;rw[jW b];simp[d]
theorem find_spec{p:Nat->Bool}{n k:Nat}(h:(List.range n).find? p=some k):k<n/\p k=true:=
 ⟨jE.1<|Gw h,Jj h⟩
def Vv(Z:Nat->Nat->Bool)(n a b c:Nat):Bool:=(List.range n).all λd=>!(Z a d&&Z b d&&!Z c d)
def AV(Z:Nat->Nat->Bool)(n a b c:Nat):Bool:=Z a c&&Z b c&&Vv Z n a b c
def AX(Z:Nat->Nat->Bool)(n a b:Nat):Option Nat:=(List.range n).find? (AV Z n a b)
def Gx(Z:Nat->Nat->Bool)(a b c:Nat):Bool:=!(Z b c&&!Z a c)
def jw(Z:Nat->Nat->Bool)(n a b:Nat):Bool:=!(a != b&&Z b a)&&(List.range n).all (Gx Z a b)
def Bz(Z:Nat->Nat->Bool)(n a b:Nat):Bool:=!(Z a b&&!jw Z n a b)
def BA(Z:Nat->Nat->Bool)(n a:Nat):Bool:=Z a a&&(List.range n).all (Bz Z n a)
def BD(Z:Nat->Nat->Bool)(n:Nat):Bool:=(List.range n).all (BA Z n)
def tr(Z:Nat->Nat->Bool):Nat->Nat->Bool:=λa b=>Z b a
def yA(Z:Nat->Nat->Bool)(n a b:Nat):Bool:=(AX Z n a b).isSome
def qQ(Z:Nat->Nat->Bool)(n:Nat):Bool:=(List.range n).all λa=>(List.range a).all (yA Z n a)
def Vw(Z:Nat->Nat->Bool)(n a:Nat):Bool:=(List.range n).all (Z a)
def xR(Z:Nat->Nat->Bool)(n:Nat):Nat:=((List.range n).find? (Vw Z n)).getD 0
def nT(Z:Nat->Nat->Bool)(n a b:Nat):Nat:=(AX Z n a b).getD 0
def MX(Z:Nat->Nat->Bool)(n a b:Nat):Int:=if (AX Z n a b).isSome then 0 else 5
end bS
open bS
open Go.RowKit
theorem Y{p:Prop}(h:p):Hid p:=h
theorem gT{p:Prop}(h:Hid p):p:=h
def vF(w:bI)(v:Value)(n:Nat)(Z:Nat->Nat->Bool):Prop:=
 ∃(b d e:Nat) (a RO C:Nat->Nat),v=.slice (some ⟨b,d,none⟩) n e/\
  (∀r,r<n->w.cell? ⟨b,d+r,none⟩=some (.slice (some ⟨a r,RO r,none⟩) n (C r)))/\
  (∀r c,r<n->c<n->w.cell? ⟨a r,RO r+c,none⟩=some (.bool (Z r c)))
theorem vF.below{w w':bI}{v:aC}{n:Nat}{Z:aL}(h:vF w v n Z)(e:bK w w'):vF w' v n Z:=by
 obtain⟨j,l,k,g,RO,C,i,b,d⟩:=h
 exact⟨j,l,k,g,RO,C,i,λr a=>by rw[e.cell (eH _ _<|b r a)];exact b r a,
  λr c a f=>by rw[e.cell (eH _ _<|d r c a f)];exact d r c a f⟩
def EX(w:bI)(v:Value)(G:Nat)(L:Nat->Nat)(Z:Nat->Nat->Bool):Prop:=
 ∃(d:Option Addr) (e f g:Nat) (b:Nat->Option Addr) (a RO C:Nat->Nat),v=.slice d G g/\(0<G->d=some ⟨e,f,none⟩)/\G<=9223372036854775807/\
  (∀r,r<G->L r<=9223372036854775807)/\
  (∀r,r<G->w.cell? ⟨e,f+r,none⟩=some (.slice (b r) (L r) (C r)))/\
  (∀r c,r<G->c<L r->b r=some ⟨a r,RO r,none⟩/\w.cell? ⟨a r,RO r+c,none⟩=some (.bool (Z r c)))
theorem EX.below{w w':bI}{v:aC}{G:Nat}{L:Nat->Nat}{Z:aL}(h:EX w v G L Z)(f:bK w w'):EX w' v G L Z:=by
 obtain⟨k,l,n,m,i,g,RO,C,j,p,q,s,e,b⟩:=h
 exact⟨k,l,n,m,i,g,RO,C,j,p,q,s,λr a=>by rw[f.cell (eH _ _<|e r a)];exact e r a,
  λr c a d=>⟨(b r c a d).1,by rw[f.cell (eH _ _ (b r c a d).2)];exact(b r c a d).2⟩⟩
theorem EX.grid{w:bI}{v:aC}{G:Nat}{L:Nat->Nat}{Z:aL}(h:EX w v G L Z)(k:0<G)(b:∀r,r<G->L r=G):vF w v G Z:=by
 obtain⟨n,g,j,i,m,e,RO,C,f,hg,_,_,l,d⟩:=h;refine⟨g,j,i,e,RO,C,by rw[f,hg k],λr a=>?_,λr c a p=>?_⟩;·have:=(d r 0 a (by rw[b r a];omega)).1;rw[l r a,this,b r a]
 ·exact(d r c a (by rw[b r a];omega)).2
def Strs(w:bI)(v:Value)(ss:List aS):Prop:=
 ∃(a:Option Addr) (b off cap:Nat),v=.slice a ss.length cap/\(0<ss.length->a=some ⟨b,off,none⟩)/\ss.length<=9223372036854775807/\
  (∀s∈ss,s.size<=maxLen)/\(∀j,j<ss.length->w.cell? ⟨b,off+j,none⟩=some (.string (ss.getD j ByteArray.empty)))
theorem Strs.below{w w':bI}{v:aC}{ss:aJ}(h:Strs w v ss)(i:bK w w'):Strs w' v ss:=by obtain⟨a,b,off,cap,f,g,j,k,d⟩:=h;exact⟨a,b,off,cap,f,g,j,k,λr e=>by rw[i.cell (eH _ _<|d r e)];exact d r e⟩
structure Ex where
 kind:Int
 n:Int
 name:ByteArray
 args:List Ex
structure St where
 kind:Int
 name:ByteArray
 e:Ex
 a:List St
 b:List St
structure Fu where
 name:ByteArray
 params:List ByteArray
 body:List St
 result:Ex
structure Va where
 name:ByteArray
 level:ByteArray
structure Mo where
 name:ByteArray
 imports:List ByteArray
 vars:List Va
 bq:List Fu
def mq(n:Int):Prop:=-9223372036854775808<=n/\n<=9223372036854775807
def iH(w:bI):Nat->Value->Value->Value->Value->Ex->Prop
 | 0,_,_,_,_,_=>False
 | m+1,h,j,k,l,x=>
  h=.int .i64 x.kind/\j=.int .i64 x.n/\k=.string x.name/\x.name.size<=maxLen/\mq x.kind/\mq x.n/\
  ∃(a:Option Addr) (b off cap:Nat),l=.slice a x.args.length cap/\(0<x.args.length->a=some ⟨b,off,none⟩)/\x.args.length<=9223372036854775807/\
   ∀i y,x.args[i]?=some y->∃d e f g,w.cell? ⟨b,off+i*4,none⟩=some d/\w.cell? ⟨b,off+i*4+1,none⟩=some e/\w.cell? ⟨b,off+i*4+2,none⟩=some f/\w.cell? ⟨b,off+i*4+3,none⟩=some g/\iH w m d e f g y
theorem iH.below{w w':bI}(d:bK w w'):∀{m:Nat} {e f g j:aC} {x:Ex},iH w m e f g j x->iH w' m e f g j x
 | 0,_,_,_,_,_,h=>h
 | m+1,e,f,g,j,x,h=>by obtain⟨u,v,z,B,C,D,a,b,off,cap,E,F,G,H⟩:=h;refine⟨u,v,z,B,C,D,a,b,off,cap,E,F,G,λi y K=>?_⟩;obtain⟨q,r,s,t,k,l,n,p,I⟩:=H i y K;exact⟨q,r,s,t,by rw[d.cell (eH _ _ k)];exact k,by rw[d.cell (eH _ _ l)];exact l,by rw[d.cell (eH _ _ n)];exact n,by rw[d.cell (eH _ _ p)];exact p,iH.below d I⟩
theorem iH.mono{w:bI}:∀{m:Nat} {d e f g:aC} {x:Ex},iH w m d e f g x->∀k,m<=k->iH w k d e f g x
 | 0,_,_,_,_,_,h,_,_=>iU h
 | m+1,d,e,f,g,x,h,0,I=>by omega
 | m+1,d,e,f,g,x,h,k+1,I=>by obtain⟨u,v,z,B,C,D,a,b,off,cap,E,F,G,H⟩:=h;refine⟨u,v,z,B,C,D,a,b,off,cap,E,F,G,λi y L=>?_⟩;obtain⟨j,l,n,p,q,r,s,t,K⟩:=H i y L;exact⟨j,l,n,p,q,r,s,t,iH.mono K k bC⟩
def fH(w:bI):Nat->Value->List St->Prop
 | 0,_,_=>False
 | m+1,v,l=>∃(a:Option Addr) (b off cap:Nat),v=.slice a l.length cap/\(0<l.length->a=some ⟨b,off,none⟩)/\l.length<=9223372036854775807/\
   ∀i s,l[i]?=some s->mq s.kind/\s.name.size<=maxLen/\∃d e f g va h,w.cell? ⟨b,off+i*8,none⟩=some (.int .i64 s.kind)/\w.cell? ⟨b,off+i*8+1,none⟩=some (.string s.name)/\
    w.cell? ⟨b,off+i*8+2,none⟩=some d/\w.cell? ⟨b,off+i*8+3,none⟩=some e/\w.cell? ⟨b,off+i*8+4,none⟩=some f/\w.cell? ⟨b,off+i*8+5,none⟩=some g/\
    w.cell? ⟨b,off+i*8+6,none⟩=some va/\w.cell? ⟨b,off+i*8+7,none⟩=some h/\iH w m d e f g s.e/\fH w m va s.a/\fH w m h s.b
theorem fH.below{w w':bI}(d:bK w w'):∀{m:Nat} {v:aC} {l:List St},fH w m v l->fH w' m v l
 | 0,_,_,h=>h
 | m+1,v,l,h=>by obtain⟨a,b,off,cap,y,z,B,C⟩:=h;refine⟨a,b,off,cap,y,z,B,λi s F=>?_⟩;obtain⟨H,I,r,t,u,x,va,K,e,f,g,j,k,n,p,q,G,D,E⟩:=C i s F;exact⟨H,I,r,t,u,x,va,K,by rw[d.cell (eH _ _ e)];exact e,by rw[d.cell (eH _ _ f)];exact f,by rw[d.cell (eH _ _ g)];exact g,by rw[d.cell (eH _ _ j)];exact j,by rw[d.cell (eH _ _ k)];exact k,by rw[d.cell (eH _ _ n)];exact n,by rw[d.cell (eH _ _ p)];exact p,by rw[d.cell (eH _ _ q)];exact q,G.below d,D.below d,E.below d⟩
theorem fH.mono{w:bI}:∀{m:Nat} {v:aC} {l:List St},fH w m v l->∀k,m<=k->fH w k v l
 | 0,_,_,h,_,_=>iU h
 | m+1,v,l,h,0,F=>by omega
 | m+1,v,l,h,k+1,F=>by obtain⟨a,b,off,cap,y,z,B,C⟩:=h;refine⟨a,b,off,cap,y,z,B,λi s G=>?_⟩;obtain⟨I,K,d,e,f,g,va,L,j,n,p,q,r,t,u,x,H,D,E⟩:=C i s G;exact⟨I,K,d,e,f,g,va,L,j,n,p,q,r,t,u,x,H.mono k bC,D.mono k bC,E.mono k bC⟩
def xG(w:bI)(v:Value)(l:List Va):Prop:=
 ∃(a:Option Addr) (b off cap:Nat),v=.slice a l.length cap/\(0<l.length->a=some ⟨b,off,none⟩)/\l.length<=9223372036854775807/\
  ∀i s,l[i]?=some s->s.name.size<=maxLen/\s.level.size<=maxLen/\w.cell? ⟨b,off+i*2,none⟩=some (.string s.name)/\w.cell? ⟨b,off+i*2+1,none⟩=some (.string s.level)
theorem xG.below{w w':bI}{v:aC}{l:List Va}(h:xG w v l)(f:bK w w'):xG w' v l:=by obtain⟨a,b,off,cap,g,j,k,m⟩:=h;refine⟨a,b,off,cap,g,j,k,λi s n=>?_⟩;obtain⟨p,q,d,e⟩:=m i s n;exact⟨p,q,by rw[f.cell (eH _ _ d)];exact d,by rw[f.cell (eH _ _ e)];exact e⟩
def mE(w:bI)(m:Nat)(v:Value)(l:List Fu):Prop:=
 ∃(a:Option Addr) (b off cap:Nat),v=.slice a l.length cap/\(0<l.length->a=some ⟨b,off,none⟩)/\l.length<=9223372036854775807/\
  ∀i s,l[i]?=some s->s.name.size<=maxLen/\∃j h d e f g,w.cell? ⟨b,off+i*7,none⟩=some (.string s.name)/\w.cell? ⟨b,off+i*7+1,none⟩=some j/\w.cell? ⟨b,off+i*7+2,none⟩=some h/\
   w.cell? ⟨b,off+i*7+3,none⟩=some d/\w.cell? ⟨b,off+i*7+4,none⟩=some e/\w.cell? ⟨b,off+i*7+5,none⟩=some f/\w.cell? ⟨b,off+i*7+6,none⟩=some g/\
   Strs w j s.params/\fH w m h s.body/\iH w m d e f g s.result
theorem mE.below{w w':bI}{m:Nat}{v:aC}{l:List Fu}(h:mE w m v l)(d:bK w w'):mE w' m v l:=by obtain⟨a,b,off,cap,x,y,z,B⟩:=h;refine⟨a,b,off,cap,x,y,z,λi s D=>?_⟩;obtain⟨G,I,H,q,r,t,u,e,f,g,j,k,n,p,C,E,F⟩:=B i s D;exact⟨G,I,H,q,r,t,u,by rw[d.cell (eH _ _ e)];exact e,by rw[d.cell (eH _ _ f)];exact f,by rw[d.cell (eH _ _ g)];exact g,by rw[d.cell (eH _ _ j)];exact j,by rw[d.cell (eH _ _ k)];exact k,by rw[d.cell (eH _ _ n)];exact n,by rw[d.cell (eH _ _ p)];exact p,C.below d,E.below d,F.below d⟩
def jl(w:bI)(m:Nat)(v:Value)(x:Mo):Prop:=
 ∃b d a,v=.agg #[.string x.name,b,d,a]/\x.name.size<=maxLen/\Strs w b x.imports/\xG w d x.vars/\mE w m a x.bq
theorem jl.below{w w':bI}{m:Nat}{v:aC}{x:Mo}(h:jl w m v x)(a:bK w w'):jl w' m v x:=by
 obtain⟨j,k,i,b,d,e,f,g⟩:=h
 exact⟨j,k,i,b,d,e.below a,f.below a,g.below a⟩
namespace bS
def iY(c:UInt8):Bool:=decide (97<=c.toNat)&&decide (c.toNat<=122)
def dZ(l:List UInt8):Bool:=decide (1<=l.length)&&decide (l.length<=8)&&l.all iY
end bS
theorem iG(s:aS):s.data.toList.length=s.size:=rfl
theorem Gy(s:aS)(h:∀j (a:j<s.size),iY s[j]=true):s.data.toList.all iY=true:=by rw[iB];intro x b;obtain⟨j,a,rfl⟩:=gU.1 b;exact h j (by simpa using a)
theorem uD(s:aS)(j:Nat)(a:j<s.size)(h:iY s[j]=false):s.data.toList.all iY=false:=by rw[CY];exact⟨s[j],gU.2 ⟨j,by simpa using a,rfl⟩,by simp[h]⟩
theorem aW{a b:Bool}(h:a=b):dz (.bool a)=dz (.bool b):=by rw[h]
theorem Yg{a b:Int}{c d:Int}(h:a=c)(e:b=d):dz (.tuple #[O a,O b])=dz (.tuple #[O c,O d]):=by rw[h,e]
theorem bZ{k:IntKind}{a b:Int}(h:a=b):dz (.int k a)=dz (.int k b):=by rw[h]
theorem Ou(a b:Nat):((a:Int) != (b:Int))=(a != b):=by rw[vG];simp only[bne_iff_ne,ne_eq];omega
theorem up{w w1 w2:bI}(h:bK w w1)(a:bK w1 w2):bK w w2:=h.trans<|a.mono h.size
theorem Z7{w w2:bI}{o:Obj}(a:Below (w.alloc o).heap.size (w.alloc o) w2):bK w w2:=up ((bQ _ _).alloc (bG _) _) a
theorem aG{w w1:bI}{a:Addr}{v:aC}(h:w.cell? a=some v)(b:bK w w1):w1.cell? a=some v:=by rw[b.cell (eH _ _ h)];exact h
theorem Rf(w:bI)(x y:aC)(t:TypeId):(w.alloc<|.cells #[x,y] t).cell? (aN w.heap.size 0)=some x:=by simp[go_sem]
theorem vH(w:bI)(x y:aC)(t:TypeId):(w.alloc<|.cells #[x,y] t).cell? (aN w.heap.size 1)=some y:=by simp[go_sem]
theorem eO{x:Int}(h:x≠0):(x != 0)=true:=by simp[h]
theorem aH(w:bI)(o:Obj):bK w (w.alloc o):=(bQ _ _).alloc (bG _) _
theorem CZ(a b:Nat):((a:Int)==(b:Int))=(a==b):=by rw[vG];simp only[beq_iff_eq];omega
theorem jJ{B:Nat}{a w:bI}(h:Below B a w)(k:Nat):Below B a (w.drewN k):=h.trans ⟨rfl,rfl,rfl,bG _,λ_ _=>rfl⟩
namespace bS
def Ov(ss:List aS)(t:aS)(i:Nat):Bool:=t.toList==(ss.getD i ByteArray.empty).toList
def dU(ss:List aS)(t:aS):Int:=match (List.range ss.length).find? (Ov ss t)with|some i=>i|none=>-1
end bS
theorem BF(w:bI)(v:aC)(ss:aJ)(t:aS)(x:Strs w v ss):
  aD 45 #[v,A t] w λf w'=>f=dz (O<|dU ss t)/\w'=w:=by
 obtain⟨a,b,off,cap,rfl,p,z,B,g⟩:=x
 obtain⟨len,j⟩:∃len,len=ss.length:=⟨_,rfl⟩
 rw[<-j]at p z g ⊢
 have n:J (len=ss.length):=j
 clear j
 go_enter func45,ntmps45
 go_wp2
 go_loop [8] (λi=>∃k:Nat,k<=len/\i=O k/\∀d,d<k->Ov ss t d=false) (λi=>len - (intOf i).toNat)
 exact⟨0,Nat.zero_le _,rfl,λd h=>absurd h<|Nat.not_lt_zero _⟩
 obtain⟨k,C,rfl,q⟩:=hrel
 have e:J (∀d,d<k->Ov ss t d=false):=q
 clear q
 by_cases u:k<len
 ·obtain rfl:=p bC
  obtain⟨s,l⟩:∃s,s=ss.getD k ByteArray.empty:=⟨_,rfl⟩
  have y:=g k u
  rw[<-l]at y
  have m:=Y l
  clear l g B
  cases r:(t.toList==s.toList)
  ·go_wp2
   go_round
   exact⟨k+1,by omega,by go_num,λd h=>by
     by_cases f:d=k
     ·subst f;unfold Ov;rw[<-m.out];exact r
     ·exact e.out d bC⟩
   exact gV
  ·go_wp2
   go_ret
   exact⟨bZ (by unfold dU;rw[mD (by rw[<-n.out];exact u) e.out (by unfold Ov;rw[<-m.out];exact r)]),rfl⟩
 ·go_wp2
  go_ret
  exact⟨bZ (by unfold dU;rw[jW (λd h=>e.out d (by have:=n.out;omega))]),rfl⟩
namespace Rd
structure Sr where
 r:List ByteArray
 f:Bool
def is(w:aS)(l:List UInt8):Bool:=w.data.toList==l
def Rh(st:Sr)(n:Nat):aS:=if st.f then ⟨#[]⟩else st.r.getD n ⟨#[]⟩
def pk(st:Sr):aS:=Rh st 0
def fl(st:Sr):Sr:=⟨st.r,true⟩
def tk(st:Sr):Sr:=if is (pk st) []then fl st else ⟨st.r.tail,st.f⟩
def kw(l:List UInt8)(st:Sr):Sr:=if is (pk st) l then tk st else fl st
def mx(d:Nat)(st:Sr):Sr:=if d=20 then fl st else st
def op(d:Nat)(st:Sr):Sr:=kw [40] (mx d st)
def sh(st:Sr):Sr:=kw [41] st
def plain(w:aS):Bool:=!is w []&&!is w [40]&&!is w [41]
def nm(st:Sr):Sr:=if plain (pk st)then st else fl st
def nU(c:UInt8):Bool:=decide (48<=c.toNat)&&decide (c.toNat<=57)
def Z8(w:aS):Bool:=w.data.toList.all nU&&!is w []
def Z9(w:aS):Bool:=decide (6<w.size)||(decide (1<w.size)&&(w.data.toList.getD 0 0==48))
def nu(st:Sr):Sr:=if Z9 (pk st)then fl st else st
def BG(w:aS):Int:=(Lib.atoi w.data.toList).getD 0
def opc(w:aS):Bool:=is w [43]||is w [45]||is w [42]||is w [60]||is w [61]
def cmd(w:aS):Int:=if is w [115,101,116]then 1 else if is w [105,102]then 2 else if is w [119,104,105,108,101]then 3 else if is w [112,114,105,110,116]then 4 else 0
def loop{α:Type}(c:Sr->Bool)(g:Sr->α × Sr):Nat->Sr->List α × Sr
 | 0,st=>([],st)
 | n+1,st=>if c st then ((g st).1::(loop c g n (g st).2).1,(loop c g n (g st).2).2)else ([],st)
def LV(st:Sr):Bool:=is (pk st) [40]
def Ri(st:Sr):Bool:=plain (pk st)
def argc(st:Sr):Bool:=is (pk st) [40]||plain (pk st)
def kY(st:Sr):Bool:=is (pk st) [40]&&decide (cmd (Rh st 1)≠0)
def iw(st:Sr):aS × Sr:=(pk (nm st),tk (nm st))
def oM(st:Sr):Ex × Sr:=(⟨2,0,pk (nm st),[]⟩,tk (nm st))
def nuE(st:Sr):Ex × Sr:=(⟨1,BG (pk (nu st)),⟨#[]⟩,[]⟩,tk (nu st))
def opE(pe:Sr->Ex × Sr)(s1:Sr):Ex × Sr:=(⟨3,0,pk s1,[(pe (tk s1)).1,(pe (pe (tk s1)).2).1]⟩,sh (pe (pe (tk s1)).2).2)
def caE(pe:Sr->Ex × Sr)(n:Nat)(s2:Sr):Ex × Sr:=(⟨4,0,pk (nm s2),(loop argc pe n (tk (nm s2))).1⟩,sh (loop argc pe n (tk (nm s2))).2)
def cE(pe:Sr->Ex × Sr)(n d:Nat)(st:Sr):Ex × Sr:=
 if opc (pk (op d st))then opE pe (op d st)
 else if is (pk (op d st)) [99,97,108,108]then caE pe n (tk (op d st))
 else (⟨0,0,⟨#[]⟩,[]⟩,sh (fl (op d st)))
def pE:Nat->Nat->Sr->Ex × Sr
 | 0,_,st=>oM st
 | k+1,d,st=>if is (pk st) [40]then cE (pE k (d+1)) k d st else if Z8 (pk st)then nuE st else oM st
def blk(g:Sr->St × Sr)(n d:Nat)(st:Sr):List St × Sr:=((loop LV g n (op d st)).1,sh (loop LV g n (op d st)).2)
def s2(d:Nat)(st:Sr):Sr:=if cmd (pk (op d st))=0 then fl (op d st)else op d st
def s3(d:Nat)(st:Sr):Sr:=tk (s2 d st)
def naB(kd:Int):Bool:=decide (kd=1)||decide (kd=4)
def s4(d:Nat)(st:Sr):aS × Sr:=if naB (cmd (pk (op d st)))then iw (s3 d st)else (⟨#[]⟩,s3 d st)
def aB(kd:Int):Bool:=decide (kd=2)||decide (kd=3)
def pS(K:Nat):Nat->Nat->Sr->St × Sr
 | 0,_,st=>(⟨0,⟨#[]⟩,⟨0,0,⟨#[]⟩,[]⟩,[],[]⟩,st)
 | k+1,d,st=>
  let kd:=cmd (pk (op d st))
  let e:=pE K (d+1) (s4 d st).2
  let a:=if aB kd then blk (pS K k (d+2)) k (d+1) e.2 else ([],e.2)
  let b:=if kd=2 then blk (pS K k (d+2)) k (d+1) a.2 else ([],a.2)
  (⟨kd,(s4 d st).1,e.1,a.1,b.1⟩,sh b.2)
def vI(n d:Nat)(st:Sr):List aS × Sr:=((loop Ri iw n (op d st)).1,sh (loop Ri iw n (op d st)).2)
def pF(K d:Nat)(st:Sr):Fu × Sr:=
 let ps:=vI K d (iw st).2
 let b:=loop kY (pS K K d) K ps.2
 let e:=pE K d b.2
 (⟨(iw st).1,ps.1,b.1,e.1⟩,e.2)
def pV(st:Sr):Va × Sr:=(⟨(iw st).1,(iw (iw st).2).1⟩,(iw (iw st).2).2)
def pI(K d:Nat)(m:Mo)(st:Sr):Mo × Sr:=
 if is (pk (op d st)) [105,109,112,111,114,116]then ({ m with imports:=m.imports++[(iw (tk (op d st))).1] },sh (iw (tk (op d st))).2)
 else if is (pk (op d st)) [118,97,114]then ({ m with vars:=m.vars++[(pV (tk (op d st))).1] },sh (pV (tk (op d st))).2)
 else if is (pk (op d st)) [102,117,110]then ({ m with bq:=m.bq++[(pF K (d+1) (tk (op d st))).1] },sh (pF K (d+1) (tk (op d st))).2)
 else (m,sh (fl (op d st)))
def Ow(K d:Nat):Nat->Mo->Sr->Mo × Sr
 | 0,m,st=>(m,st)
 | n+1,m,st=>if LV st then Ow K d n (pI K d m st).1 (pI K d m st).2 else (m,st)
def m1(st:Sr):Sr:=kw [109,111,100,117,108,101] (op 0 st)
def pM(K:Nat)(st:Sr):Mo × Sr:=
 let x:=Ow K 1 K ⟨(iw (m1 st)).1,[],[],[]⟩ (iw (m1 st)).2
 (x.1,sh x.2)
def CQ(st:Sr):Sr:=if is (pk st) []then st else fl st
def Le(st' st:Sr):Prop:=(st.f=true->st'.f=true)/\st'.r.length<=st.r.length
def Lt(st' st:Sr):Prop:=Le st' st/\(st'.f=true\/st'.r.length<st.r.length)
theorem Le.refl(st:Sr):Le st st:=⟨id,bG _⟩
theorem Le.trans{a b c:Sr}(h:Le a b)(k:Le b c):Le a c:=⟨λe=>h.1<|k.1 e,bE h.2 k.2⟩
theorem Lt.le{a b:Sr}(h:Lt a b):Le a b:=h.1
theorem Lt.gN{a b c:Sr}(h:Lt a b)(k:Le b c):Lt a c:=⟨h.1.trans k,h.2.elim aO (λe=>aQ<|wI e k.2)⟩
theorem Le.Jk{a b c:Sr}(h:Le a b)(k:Lt b c):Lt a c:=⟨h.trans k.1,k.2.elim (λe=>aO<|h.1 e) (λe=>aQ<|Nat.lt_of_le_of_lt h.2 e)⟩
theorem C8(st:Sr):Le (fl st) st:=⟨λ_=>rfl,bG _⟩
theorem Pf(st:Sr):Lt (fl st) st:=⟨C8 st,aO rfl⟩
theorem EY{st:Sr}(h:st.f=true)(n:Nat):Rh st n=⟨#[]⟩:=by unfold Rh;rw[aK h]
theorem iC(st:Sr):Lt (tk st) st:=by
 unfold tk;split;·exact Pf st
 ·rename_i h;refine⟨⟨id,by simp⟩,?_⟩;cases b:st.r with
  | nil =>exfalso;apply h;unfold pk Rh;rw[b];cases st.f<;>rfl
  | cons a l=>right;simp
theorem Jl(l:List UInt8)(st:Sr):Lt (kw l st) st:=by
 unfold kw;split;·exact iC st
 ·exact Pf st
theorem amE(d:Nat)(st:Sr):Le (mx d st) st:=by
 unfold mx;split;·exact C8 st
 ·exact Le.refl st
theorem jL(d:Nat)(st:Sr):Lt (op d st) st:=(Jl _ _).gN (amE d st)
theorem jM(st:Sr):Lt (sh st) st:=Jl _ _
theorem VB(st:Sr):Le (nm st) st:=by
 unfold nm;split;·exact Le.refl st
 ·exact C8 st
theorem iV(st:Sr):Lt (iw st).2 st:=(iC _).gN (VB st)
theorem amF(st:Sr):Le (nu st) st:=by
 unfold nu;split;·exact C8 st
 ·exact Le.refl st
theorem ajZ(st:Sr):Lt (nuE st).2 st:=(iC _).gN (amF st)
theorem Ro(st:Sr):Lt (oM st).2 st:=(iC _).gN (VB st)
theorem nV{α:Type}{c:Sr->Bool}{g:Sr->α × Sr}(hg:∀st,Le (g st).2 st):∀(n:Nat) (st:Sr),Le (loop c g n st).2 st
 | 0,st=>Le.refl st
 | n+1,st=>by
  simp only[loop];split;·exact(nV hg n _).trans (hg st)
  ·exact Le.refl st
theorem amG{pe:Sr->Ex × Sr}(hg:∀st,Lt (pe st).2 st)(n d:Nat)(st:Sr):Lt (cE pe n d st).2 st:=by
 unfold cE opE caE;split;·exact(((jM _).gN (hg _).le).gN (hg _).le).gN ((iC _).le.trans (jL d st).le)
 ·split;·exact((jM _).gN (nV (λs=>(hg s).le) _ _)).gN ((iV _).le.trans ((iC _).le.trans (jL d st).le))
  ·exact(jM _).gN ((C8 _).trans (jL d st).le)
theorem lY:∀(k d:Nat) (st:Sr),Lt (pE k d st).2 st
 | 0,_,st=>Ro st
 | k+1,d,st=>by
  simp only[pE];split;·exact amG (lY k<|d+1) k d st
  ·split;·exact ajZ st
   ·exact Ro st
theorem rX{g:Sr->St × Sr}(hg:∀st,Le (g st).2 st)(n d:Nat)(st:Sr):Lt (blk g n d st).2 st:=
 ((jM _).gN (nV hg _ _)).gN (jL d st).le
theorem amH(d:Nat)(st:Sr):Le (s2 d st) (op d st):=by
 unfold s2;split;·exact C8 _
 ·exact Le.refl _
theorem Pp(d:Nat)(st:Sr):Lt (s3 d st) (op d st):=(iC _).gN (amH d st)
theorem ML(d:Nat)(st:Sr):Le (s4 d st).2 (s3 d st):=by
 unfold s4;split;·exact(iV _).le
 ·exact Le.refl _
theorem vJ(K:Nat):∀(k d:Nat) (st:Sr),Le (pS K k d st).2 st
 | 0,_,st=>Le.refl st
 | k+1,d,st=>by
  simp only[pS];have a:Le (pE K (d+1) (s4 d st).2).2 st:=(lY _ _ _).le.trans ((ML d st).trans ((Pp d st).le.trans (jL d st).le));refine(jM _).le.trans ?_;have b:Le (if aB (cmd<|pk<|op d st)then blk (pS K k<|d+2) k (d+1) (pE K (d+1) (s4 d st).2).2 else ([],(pE K (d+1) (s4 d st).2).2)).2 st:=by
   split;·exact(rX (vJ K k<|d+2) _ _ _).le.trans a
   ·exact a
  split;·exact(rX (vJ K k<|d+2) _ _ _).le.trans b
  ·exact b
theorem Mg(K k d:Nat)(st:Sr):Lt (pS K (k+1) d st).2 st:=by
 simp only[pS];have a:Lt (pE K (d+1) (s4 d st).2).2 st:=(lY _ _ _).gN ((ML d st).trans ((Pp d st).le.trans (jL d st).le));refine(jM _).le.Jk ?_;have b:Lt (if aB (cmd<|pk<|op d st)then blk (pS K k<|d+2) k (d+1) (pE K (d+1) (s4 d st).2).2 else ([],(pE K (d+1) (s4 d st).2).2)).2 st:=by
  split;·exact(rX (vJ K k<|d+2) _ _ _).le.Jk a
  ·exact a
 split;·exact(rX (vJ K k<|d+2) _ _ _).le.Jk b
 ·exact b
theorem IQ(n d:Nat)(st:Sr):Lt (vI n d st).2 st:=((jM _).gN (nV (λs=>(iV s).le) _ _)).gN (jL d st).le
theorem WG(K d:Nat)(st:Sr):Lt (pF K d st).2 st:=
 (lY _ _ _).gN ((nV (λs=>vJ K K d s) _ _).trans ((IQ _ _ _).le.trans (iV st).le))
theorem amI(st:Sr):Lt (pV st).2 st:=(iV _).gN (iV st).le
theorem OZ(K d:Nat)(m:Mo)(st:Sr):Lt (pI K d m st).2 st:=by
 have a:Le (tk<|op d st) st:=(iC _).le.trans (jL d st).le;obtain⟨b,e,f,g⟩:=rY ((jM _).gN ((iV<|tk<|op d st).le.trans a)) ((jM _).gN ((amI<|tk<|op d st).le.trans a)) ((jM _).gN ((WG K (d+1)<|tk<|op d st).le.trans a))<|(jM _).gN ((C8<|op d st).trans (jL d st).le);unfold pI;cases is (pk<|op d st) [105,109,112,111,114,116]
 ·cases is (pk<|op d st) [118,97,114]
  ·cases is (pk<|op d st) [102,117,110];·simp only[rz,if_false];exact g
   ·simp only[rz,if_false,if_true];exact f
  ·simp only[rz,if_false,if_true];exact e
 ·simp only[if_true];exact b
theorem Vx(K d:Nat):∀(n:Nat) (m:Mo) (st:Sr),Le (Ow K d n m st).2 st
 | 0,m,st=>Le.refl st
 | n+1,m,st=>by
  simp only[Ow];split;·exact(Vx K d n _ _).trans (OZ K d m st).le
  ·exact Le.refl st
theorem Pe(st:Sr):Le (m1 st) st:=(Jl _ _).le.trans (jL 0 st).le
def Ok(k:Nat)(st:Sr):Prop:=st.f=true\/st.r.length<k
theorem Ok.le{k:Nat}{a b:Sr}(h:Ok k b)(e:Le a b):Ok k a:=h.elim (λd=>aO<|e.1 d) (λd=>aQ<|Nat.lt_of_le_of_lt e.2 d)
theorem Ok.lt{k:Nat}{a b:Sr}(h:Ok (k+1) b)(d:Lt a b):Ok k a:=by
 rcases h with h|h;·exact aO<|d.1.1 h
 ·exact d.2.elim aO (λe=>aQ bC)
theorem Yh{st:Sr}{n:Nat}{l:List UInt8}(h:is (Rh st n) l=true)(b:l≠[]):st.f=false:=by
 cases a:st.f;·rfl
 ·rw[EY a]at h;unfold is at h;exact aM (beq_iff_eq.1 h).symm b
theorem Rj{st:Sr}(h:plain (pk st)=true):st.f=false:=by
 cases a:st.f;·rfl
 ·unfold pk at h;rw[EY a]at h;cases h
theorem EZ{st:Sr}(h:LV st=true):st.f=false:=Yh (n:=0) h cK
theorem Yi{st:Sr}(h:argc st=true):st.f=false:=by
 unfold argc at h;rcases Bool.or_eq_true_iff.1 h with h|h;·exact Yh (n:=0) h cK
 ·exact Rj h
theorem Ok.pos{k:Nat}{st:Sr}(h:Ok k st)(a:st.f=false):∃j,k=j+1:=by
 rcases h with h|h;·rw[a]at h;cases h
 ·exact⟨k - 1,by omega⟩
theorem nI{α:Type}{c:Sr->Bool}{g:Sr->α × Sr}{n:Nat}{st:Sr}(a:c st=true):loop c g (n+1) st=((g st).1::(loop c g n (g st).2).1,(loop c g n (g st).2).2):=by simp only[loop];rw[aK a]
theorem rT{α:Type}{c:Sr->Bool}{g:Sr->α × Sr}{n:Nat}{st:Sr}(a:c st=false):loop c g n st=([],st):=by
 cases n with
 | zero=>rfl
 | succ n=>simp only[loop];rw[aI (by rw[a];simp)]
end Rd
