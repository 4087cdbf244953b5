/- part -/
import Derived.Test.YtbgkpehhdibaoaaGreatDoorRows
import Derived.Lib.SmallJoins
import Derived.Test.YtbgkpehhdibaoaaGreatDoorBZAG
import Derived.Test.YtbgkpehhdibaoaaGreatDoorBZAF
import Derived.Test.YtbgkpehhdibaoaaGreatDoorBShelf
set_option maxHeartbeats 0
set_option maxRecDepth 99999
namespace Go.Proofs.YtbgkpehhdibaoaaGreatDoor
open bN
open Go.Proofs.Tryz
open Go.RowKit
variable{w:World}{m k d i:Nat}{v:Value}{l:List aY}{x:Mo}{p:aY->Bool}{s:aY}
def iX:Nat->Ex->Nat
 | 0,_=>0
 | m+1,x=>x.name.size+4+(x.args.map (iX m)).sum
def dY:Nat->List St->Nat
 | 0,_=>0
 | m+1,l=>(l.map λs=>s.name.size+3+iX m s.e+dY m s.a+dY m s.b).sum+1
def lV(l:List ByteArray):Nat:=(l.map λs=>s.size+1).sum+1
def Rs(l:List Va):Nat:=(l.map λs=>s.name.size+s.level.size+3).sum+1
def zG(m:Nat)(l:List Fu):Nat:=(l.map λs=>s.name.size+2+lV s.params+dY m s.body+iX m s.result).sum+1
def vF(m:Nat)(x:Mo):Nat:=x.name.size+2+lV x.imports+Rs x.vars+zG m x.bg
theorem rV{α β:Type}{f g:α->β}{l:List α}(h:∀(i:Nat) (x:α),l[i]?=some x->f x=g x):l.map f=l.map g:=JY λx hx=>by obtain⟨i,hi,rfl⟩:=gZ.1 hx;exact h i _ (bD hi)
theorem qF:∀{m:Nat} {c0 c1 c2 c3:Value} {x:Ex},gT w m c0 c1 c2 c3 x->∀k,m<=k->iX k x=iX m x
 | 0,_,_,_,_,_,h,_,_=>iW h
 | m+1,c0,c1,c2,c3,x,h,0,hk=>by omega
 | m+1,c0,c1,c2,c3,x,h,k+1,hk=>by obtain⟨_,_,_,_,_,_,a,b,off,cap,_,_,_,h9⟩:=h;simp only[iX];rw[rV (f:=iX k) (g:=iX m) (λi y hy=>by obtain⟨e0,e1,e2,e3,_,_,_,_,hx⟩:=h9 i y hy;exact qF hx k aX)]
theorem qp:∀{m:Nat} {v:Value} {l:List St},fB w m v l->∀k,m<=k->dY k l=dY m l
 | 0,_,_,h,_,_=>iW h
 | m+1,v,l,h,0,hk=>by omega
 | m+1,v,l,h,k+1,hk=>by obtain⟨a,b,off,cap,_,_,_,h9⟩:=h;simp only[dY];rw[rV (λi s hs=>by obtain⟨_,_,e0,e1,e2,e3,va,vb,_,_,_,_,_,_,_,_,hx,ha,hb⟩:=h9 i s hs;rw[qF hx k aX,qp ha k aX,qp hb k aX])]
open Go.ChangeShapes Go.WideShapes Go.ChangeAt Go.Deep Go.Joins
section
variable {H : Type} {enc : TypeId × Value → H} {W : World}
theorem lM{t e k:Nat}{fuel:Nat}{v:Value}{y:DataW H × List MemPlace}(ht:prog.underlying t=some (.slice e))(hk:prog.cellsOf e=k)(hk0:0<k)(h:DataW.trod enc prog W 0 (λ_=>true) true fuel t [v]=some y):∃(a:Option Addr) (b off len cap:Nat) (D:List (DataW H)),v=.slice a len cap/\(0<len->a=some ⟨b,off,none⟩)/\len<=9223372036854775807/\D.length=len/\Rows.uptoBulkAll D+1<=Rows.uptoBulk y.1/\∀i,i<len->∃n cs d pl,fuel=n+1/\cs.length=k/\(∀j,j<k->W.cell? ⟨b,off+i*k+j,none⟩=cs[j]?)/\DataW.trod enc prog W 0 (λ_=>true) true n e cs=some (d,pl)/\D[i]?=some d:=by
 rcases DataW.trod_slice ht h with⟨hcs,rfl⟩|⟨a,len,cap,elems,rest,n,hfuel,hcs,rfl,_,hl,hm,hlen,hel,_,_⟩;·simp at hcs;subst hcs;exact⟨none,0,0,0,0,[],rfl,λh=>absurd h (Nat.lt_irrefl _),by decide,rfl,by simp[Rows.uptoBulk,Rows.uptoBulkAll],λi hi=>absurd hi (Nat.not_lt_zero _)⟩
 ·simp at hcs;subst hcs;unfold maxLen at hm;obtain⟨b,off,spot⟩:=a;have each:∀i,i<len->∃cs d pl,cs.length=k/\(∀j,j<k->W.cell? ((⟨b,off,spot⟩:Addr).add (i*k+j))=cs[j]?)/\DataW.trod enc prog W 0 (λ_=>true) true n e cs=some (d,pl)/\(elems.map (·.1))[i]?=some d:=by intro i hi;have h1:=hel i hi;rw[List.getElem?_eq_getElem (by omega),hk]at h1;obtain⟨cs,g1,g2⟩:=Option.bind_eq_some_iff.1 h1;obtain⟨_,g3,g4⟩:=World.cells?_some g1;refine⟨cs,_,_,g3,λj hj=>?_,g2,by simp[List.getElem?_map,List.getElem?_eq_getElem (show i<elems.length by omega)]⟩;rw[<-add_add];exact g4 j hj
  have hspot:0<len->spot=none:=by intro h0;obtain⟨cs,d,pl,g1,g2,_⟩:=each 0 h0;have:=g2 0 hk0;rw[List.getElem?_eq_getElem (by omega)]at this;have:=World.cell?_spot this;simpa[Addr.add]using this
  refine⟨some ⟨b,off,spot⟩,b,off,len,cap,elems.map (·.1),rfl,λh0=>by rw[hspot h0],by omega,by simp[hlen],?_,λi hi=>?_⟩;·simp only[Rows.uptoBulk];omega
  ·obtain⟨cs,d,pl,g1,g2,g3,g4⟩:=each i hi;refine⟨n,cs,d,pl,hfuel,g1,λj hj=>?_,g3,g4⟩;have:=g2 j hj;rw[hspot (by omega),add_plain]at this;rw[<-this,Nat.add_assoc]
theorem kr{α:Type}:∀(len:Nat) {p:Nat->α->Prop},(∀i,i<len->∃x,p i x)->∃l:List α,l.length=len/\∀(i:Nat) (x:α),l[i]?=some x->p i x
 | 0,_,_=>⟨[],rfl,λi x h=>by simp at h⟩
 | len+1,p,h=>by
  obtain⟨x,hx⟩:=h 0 aX;obtain⟨l,hl,hp⟩:=kr len (p:=λi=>p (i+1)) (λi hi=>h (i+1) aX);refine⟨x::l,by simp[hl],λi y hy=>?_⟩;cases i with
  | zero=>simp at hy;subst hy;exact hx
  | succ i=>exact hp i y (by simpa using hy)
theorem Cv{α:Type}{f:α->Nat}:∀{l:List α} {D:List (DataW H)},l.length=D.length->(∀(i:Nat) (x:α) (d:DataW H),l[i]?=some x->D[i]?=some d->f x<=Rows.uptoBulk d)->(l.map f).sum<=Rows.uptoBulkAll D
 | [],D,h,_=>by simp
 | x::l,[],h,_=>by simp at h
 | x::l,d::D,h,hp=>by have h0:=hp 0 x d rfl rfl;have h1:=Cv (l:=l) (D:=D) (by simpa using h) (λi y d' h1 h2=>hp (i+1) y d' (by simpa using h1) (by simpa using h2));simp only[fG,iZ,Rows.uptoBulkAll];omega
end
theorem Fp:prog.cellsOf 107=4:=by kernel_rfl
theorem cellsSt:prog.cellsOf 164=8:=by kernel_rfl
theorem Uz:prog.cellsOf 109=7:=by kernel_rfl
theorem cellsVa:prog.cellsOf 93=2:=by kernel_rfl
theorem cellsMo:prog.cellsOf 58=4:=by kernel_rfl
theorem F8:prog.cellsOf 3=1:=by kernel_rfl
theorem qG:prog.cellsOf 9=1:=by kernel_rfl
theorem Cw:prog.cellsOf 22=1:=by kernel_rfl
theorem ZH:prog.cellsOf 105=1:=by kernel_rfl
theorem F9:prog.cellsOf 104=1:=by kernel_rfl
theorem ZI:prog.cellsOf 55=1:=by kernel_rfl
theorem ZJ:prog.cellsOf 56=1:=by kernel_rfl
theorem Rt{n:Int}(h:(Lit.int .i64 n).wf=true):K5 n:=by simpa[K5,Lit.wf,IntKind.min,IntKind.max,IntKind.signed,IntKind.bits]using h
theorem qH(s:aY):s.data.toList.length=s.size:=rfl
theorem JZ{α:Type}{cs:List α}(h:cs.length=4):∃a b c d,cs=[a,b,c,d]:=by
 match cs,h with
 | [a,b,c,d],_=>exact⟨a,b,c,d,rfl⟩
section
variable {H : Type} {enc : TypeId × Value → H} {W : World}
theorem UA:∀(fuel:Nat) {cs:List Value} {d:DataW H} {pl:List MemPlace},DataW.trod enc prog W 0 (λ_=>true) true fuel 107 cs=some (d,pl)->∃c0 c1 c2 c3 x,cs=[c0,c1,c2,c3]/\gT W fuel c0 c1 c2 c3 x/\iX fuel x<=Rows.uptoBulk d:=by
 intro fuel;induction fuel using Nat.strongRecOn with
 | ind fuel ih=>
  intro cs d pl h;obtain⟨xs,n,hfn,hx,hlen,hxs,hf⟩:=J2 underlying107 h;rw[Fp]at hlen;obtain⟨c0,c1,c2,c3,rfl⟩:=JZ hlen;obtain⟨y0,y1,y2,y3,rfl⟩:=JZ (by simpa using hxs);have f0:DataW.trod enc prog W 0 (λ_=>true) true n 3 (([c0,c1,c2,c3].drop 0).take (prog.cellsOf 3))=some y0:=hf 0 _ rfl;rw[F8]at f0;simp only[List.drop,List.take]at f0;have f1:DataW.trod enc prog W 0 (λ_=>true) true n 3 (([c0,c1,c2,c3].drop 1).take (prog.cellsOf 3))=some y1:=hf 1 _ rfl;rw[F8]at f1;simp only[List.drop,List.take]at f1;have f2:DataW.trod enc prog W 0 (λ_=>true) true n 9 (([c0,c1,c2,c3].drop 2).take (prog.cellsOf 9))=some y2:=hf 2 _ rfl;rw[qG]at f2;simp only[List.drop,List.take]at f2;have f3:DataW.trod enc prog W 0 (λ_=>true) true n 105 (([c0,c1,c2,c3].drop 3).take (prog.cellsOf 105))=some y3:=hf 3 _ rfl;rw[ZH]at f3;simp only[List.drop,List.take]at f3;obtain⟨k0,e0,rfl,w0⟩:=DataW.trod_int underlying3 f0;obtain⟨k1,e1,rfl,w1⟩:=DataW.trod_int underlying3 f1;obtain⟨s,e2,rfl,hs⟩:=Ga underlying9 f2;simp at e0 e1 e2;subst e0 e1 e2;obtain⟨a,b,off,len,cap,D,hv,ha,hl,hD,Gb,hel⟩:=lM underlying105 Fp (by decide) f3;have each:∀i,i<len->∃x:Ex,∃d',D[i]?=some d'/\iX n x<=Rows.uptoBulk d'/\∃e0 e1 e2 e3,W.cell? ⟨b,off+i*4,none⟩=some e0/\W.cell? ⟨b,off+i*4+1,none⟩=some e1/\W.cell? ⟨b,off+i*4+2,none⟩=some e2/\W.cell? ⟨b,off+i*4+3,none⟩=some e3/\gT W n e0 e1 e2 e3 x:=by intro i hi;obtain⟨n',cs,d',pl',hn',hlen',hcell,sU,Y2⟩:=hel i hi;obtain⟨e0,e1,e2,e3,x,rfl,hx',hw⟩:=ih n' (by omega) sU;refine⟨x,d',Y2,by rw[qF hx' n (by omega)];exact hw,e0,e1,e2,e3,hcell 0 (by decide),hcell 1 (by decide),hcell 2 (by decide),hcell 3 (by decide),hx'.mono n (by omega)⟩
  obtain⟨l,hll,hp⟩:=kr len each;simp only[pq]at hx;obtain⟨rfl,_⟩:=hx;subst hfn;refine⟨_,_,_,_,⟨k0,k1,s,l⟩,rfl,⟨rfl,rfl,rfl,hs,Rt w0,Rt w1,a,b,off,cap,by rw[hv,<-hll],by rw[hll];exact ha,by rw[hll];exact hl,λi y hy=>?_⟩,?_⟩;·obtain⟨_,_,_,hh⟩:=hp i y hy;exact hh
  ·have hsum:=Cv (f:=iX n) (l:=l) (D:=D) (by rw[hll,hD]) (λi x d' h1 h2=>by obtain⟨d'',h3,h4,_⟩:=hp i x h1;rw[h2]at h3;cases h3;exact h4);simp only[iX,fG,jA,Rows.uptoBulk,Rows.uptoBulkAll,qH];omega
end
theorem list8{α:Type}{cs:List α}(h:cs.length=8):∃a b c d e f g i,cs=[a,b,c,d,e,f,g,i]:=by
 match cs,h with
 | [a,b,c,d,e,f,g,i],_=>exact⟨a,b,c,d,e,f,g,i,rfl⟩
theorem list7{α:Type}{cs:List α}(h:cs.length=7):∃a b c d e f g,cs=[a,b,c,d,e,f,g]:=by
 match cs,h with
 | [a,b,c,d,e,f,g],_=>exact⟨a,b,c,d,e,f,g,rfl⟩
theorem list5{α:Type}{cs:List α}(h:cs.length=5):∃a b c d e,cs=[a,b,c,d,e]:=by
 match cs,h with
 | [a,b,c,d,e],_=>exact⟨a,b,c,d,e,rfl⟩
theorem list2{α:Type}{cs:List α}(h:cs.length=2):∃a b,cs=[a,b]:=by
 match cs,h with
 | [a,b],_=>exact⟨a,b,rfl⟩
section
variable {H : Type} {enc : TypeId × Value → H} {W : World}
theorem ZK:∀(fuel:Nat) {v:Value} {y:DataW H × List MemPlace},DataW.trod enc prog W 0 (λ_=>true) true fuel 104 [v]=some y->∃l,fB W fuel v l/\dY fuel l<=Rows.uptoBulk y.1:=by
 intro fuel;induction fuel using Nat.strongRecOn with
 | ind fuel ih=>
  intro v y h;obtain⟨a,b,off,len,cap,D,hv,ha,hl,hD,Gb,hel⟩:=lM underlying104 cellsSt (by decide) h;have hpos:0<fuel:=by
   cases fuel with
   | zero=>simp[DataW.trod]at h
   | succ n=>omega
  obtain⟨q,rfl⟩:∃q,fuel=q+1:=⟨fuel - 1,by omega⟩;have each:∀i,i<len->∃s:St,∃d',D[i]?=some d'/\s.name.size+3+iX q s.e+dY q s.a+dY q s.b<=Rows.uptoBulk d'/\K5 s.kind/\s.name.size<=maxLen/\∃e0 e1 e2 e3 va vb,W.cell? ⟨b,off+i*8,none⟩=some (.int .i64 s.kind)/\W.cell? ⟨b,off+i*8+1,none⟩=some (.string s.name)/\W.cell? ⟨b,off+i*8+2,none⟩=some e0/\W.cell? ⟨b,off+i*8+3,none⟩=some e1/\W.cell? ⟨b,off+i*8+4,none⟩=some e2/\W.cell? ⟨b,off+i*8+5,none⟩=some e3/\W.cell? ⟨b,off+i*8+6,none⟩=some va/\W.cell? ⟨b,off+i*8+7,none⟩=some vb/\gT W q e0 e1 e2 e3 s.e/\fB W q va s.a/\fB W q vb s.b:=by intro i hi;obtain⟨n0,cs,d',pl',hn',hlen',hcell,sU,Y2⟩:=hel i hi;obtain⟨xs,n,hfn,hx,hlen,hxs,hf⟩:=J2 underlying164 sU;obtain⟨c0,c1,c2,c3,c4,c5,c6,c7,rfl⟩:=list8 hlen';obtain⟨y0,y1,y2,y3,y4,rfl⟩:=list5 (by simpa using hxs);have f0:DataW.trod enc prog W 0 (λ_=>true) true n 3 (([c0,c1,c2,c3,c4,c5,c6,c7].drop 0).take (prog.cellsOf 3))=some y0:=hf 0 _ rfl;rw[F8]at f0;simp only[List.drop,List.take]at f0;have f1:DataW.trod enc prog W 0 (λ_=>true) true n 9 (([c0,c1,c2,c3,c4,c5,c6,c7].drop 1).take (prog.cellsOf 9))=some y1:=hf 1 _ rfl;rw[qG]at f1;simp only[List.drop,List.take]at f1;have f2:DataW.trod enc prog W 0 (λ_=>true) true n 107 (([c0,c1,c2,c3,c4,c5,c6,c7].drop 2).take (prog.cellsOf 107))=some y2:=hf 2 _ rfl;rw[Fp]at f2;simp only[List.drop,List.take]at f2;have f3:DataW.trod enc prog W 0 (λ_=>true) true n 104 (([c0,c1,c2,c3,c4,c5,c6,c7].drop 6).take (prog.cellsOf 104))=some y3:=hf 3 _ rfl;rw[F9]at f3;simp only[List.drop,List.take]at f3;have f4:DataW.trod enc prog W 0 (λ_=>true) true n 104 (([c0,c1,c2,c3,c4,c5,c6,c7].drop 7).take (prog.cellsOf 104))=some y4:=hf 4 _ rfl;rw[F9]at f4;simp only[List.drop,List.take]at f4;obtain⟨k0,e0,rfl,w0⟩:=DataW.trod_int underlying3 f0;obtain⟨s,e1,rfl,hs⟩:=Ga underlying9 f1;simp at e0 e1;subst e0 e1;obtain⟨z0,z1,z2,z3,x,ez,hxe,hwe⟩:=UA n (d:=y2.1) (pl:=y2.2) f2;simp at ez;obtain⟨rfl,rfl,rfl,rfl⟩:=ez;obtain⟨la,hla,hwa⟩:=ih n (by omega) f3;obtain⟨lb,hlb,hwb⟩:=ih n (by omega) f4;simp only[pq]at hx;obtain⟨rfl,_⟩:=hx;refine⟨⟨k0,s,x,la,lb⟩,_,Y2,?_,Rt w0,hs,_,_,_,_,_,_,hcell 0 (by decide),hcell 1 (by decide),hcell 2 (by decide),hcell 3 (by decide),hcell 4 (by decide),hcell 5 (by decide),hcell 6 (by decide),hcell 7 (by decide),hxe.mono q (by omega),hla.mono q (by omega),hlb.mono q (by omega)⟩;rw[qF hxe q (by omega),qp hla q (by omega),qp hlb q (by omega)];simp only[fG,jA,Rows.uptoBulk,Rows.uptoBulkAll,qH];omega
  obtain⟨l,hll,hp⟩:=kr len each;refine⟨l,⟨a,b,off,cap,by rw[hv,<-hll],by rw[hll];exact ha,by rw[hll];exact hl,λi s hs=>?_⟩,?_⟩;·obtain⟨_,_,_,hh⟩:=hp i s hs;exact hh
  ·have hsum:=Cv (f:=λs:St=>s.name.size+3+iX q s.e+dY q s.a+dY q s.b) (l:=l) (D:=D) (by rw[hll,hD]) (λi x d' h1 h2=>by obtain⟨d'',h3,h4,_⟩:=hp i x h1;rw[h2]at h3;cases h3;exact h4);simp only[dY];omega
theorem Gc{fuel:Nat}{v:Value}{y:DataW H × List MemPlace}(h:DataW.trod enc prog W 0 (λ_=>true) true fuel 22 [v]=some y):∃ss,Strs W v ss/\lV ss<=Rows.uptoBulk y.1:=by
 obtain⟨a,b,off,len,cap,D,hv,ha,hl,hD,Gb,hel⟩:=lM underlying22 qG (by decide) h;have each:∀i,i<len->∃s:ByteArray,∃d',D[i]?=some d'/\s.size+1<=Rows.uptoBulk d'/\s.size<=maxLen/\W.cell? ⟨b,off+i,none⟩=some (.string s):=by intro i hi;obtain⟨n0,cs,d',pl',hn',hlen',hcell,sU,Y2⟩:=hel i hi;obtain⟨s,e1,ey,hs⟩:=Ga underlying9 sU;subst e1;simp only[pq]at ey;obtain⟨rfl,_⟩:=ey;have h0:=hcell 0 (by decide);simp at h0;exact⟨s,_,Y2,by simp[Rows.uptoBulk],hs,h0⟩
 obtain⟨l,hll,hp⟩:=kr len each;refine⟨l,⟨a,b,off,cap,by rw[hv,<-hll],by rw[hll];exact ha,by rw[hll];exact hl,λs hs=>?_,λj hj=>?_⟩,?_⟩;·obtain⟨i,hi,rfl⟩:=gZ.1 hs;obtain⟨_,_,_,hh,_⟩:=hp i _ (bD hi);exact hh
 ·obtain⟨_,_,_,_,hh⟩:=hp j _ (bD hj);rw[hh,List.getD,bD hj];rfl
 ·have hsum:=Cv (f:=λs:ByteArray=>s.size+1) (l:=l) (D:=D) (by rw[hll,hD]) (λi x d' h1 h2=>by obtain⟨d'',h3,h4,_⟩:=hp i x h1;rw[h2]at h3;cases h3;exact h4);unfold lV;omega
theorem ZL{fuel:Nat}{v:Value}{y:DataW H × List MemPlace}(h:DataW.trod enc prog W 0 (λ_=>true) true fuel 55 [v]=some y):∃l,uX W v l/\Rs l<=Rows.uptoBulk y.1:=by
 obtain⟨a,b,off,len,cap,D,hv,ha,hl,hD,Gb,hel⟩:=lM underlying55 cellsVa (by decide) h;have each:∀i,i<len->∃s:Va,∃d',D[i]?=some d'/\s.name.size+s.level.size+3<=Rows.uptoBulk d'/\s.name.size<=maxLen/\s.level.size<=maxLen/\W.cell? ⟨b,off+i*2,none⟩=some (.string s.name)/\W.cell? ⟨b,off+i*2+1,none⟩=some (.string s.level):=by intro i hi;obtain⟨n0,cs,d',pl',hn',hlen',hcell,sU,Y2⟩:=hel i hi;obtain⟨xs,n,hfn,hx,hlen,hxs,hf⟩:=J2 underlying93 sU;obtain⟨c0,c1,rfl⟩:=list2 hlen';obtain⟨y0,y1,rfl⟩:=list2 (by simpa using hxs);have f0:DataW.trod enc prog W 0 (λ_=>true) true n 9 (([c0,c1].drop 0).take (prog.cellsOf 9))=some y0:=hf 0 _ rfl;rw[qG]at f0;simp only[List.drop,List.take]at f0;have f1:DataW.trod enc prog W 0 (λ_=>true) true n 9 (([c0,c1].drop 1).take (prog.cellsOf 9))=some y1:=hf 1 _ rfl;rw[qG]at f1;simp only[List.drop,List.take]at f1;obtain⟨s0,e0,rfl,hs0⟩:=Ga underlying9 f0;obtain⟨s1,e1,rfl,hs1⟩:=Ga underlying9 f1;simp at e0 e1;subst e0 e1;simp only[pq]at hx;obtain⟨rfl,_⟩:=hx;refine⟨⟨s0,s1⟩,_,Y2,?_,hs0,hs1,hcell 0 (by decide),hcell 1 (by decide)⟩;simp only[fG,jA,Rows.uptoBulk,Rows.uptoBulkAll,qH];omega
 obtain⟨l,hll,hp⟩:=kr len each;refine⟨l,⟨a,b,off,cap,by rw[hv,<-hll],by rw[hll];exact ha,by rw[hll];exact hl,λi s hs=>?_⟩,?_⟩;·obtain⟨_,_,_,hh⟩:=hp i s hs;exact hh
 ·have hsum:=Cv (f:=λs:Va=>s.name.size+s.level.size+3) (l:=l) (D:=D) (by rw[hll,hD]) (λi x d' h1 h2=>by obtain⟨d'',h3,h4,_⟩:=hp i x h1;rw[h2]at h3;cases h3;exact h4);unfold Rs;omega
theorem ZM{fuel:Nat}{v:Value}{y:DataW H × List MemPlace}(h:DataW.trod enc prog W 0 (λ_=>true) true fuel 56 [v]=some y):∃l,kW W fuel v l/\zG fuel l<=Rows.uptoBulk y.1:=by
 obtain⟨a,b,off,len,cap,D,hv,ha,hl,hD,Gb,hel⟩:=lM underlying56 Uz (by decide) h;have each:∀i,i<len->∃s:Fu,∃d',D[i]?=some d'/\s.name.size+2+lV s.params+dY fuel s.body+iX fuel s.result<=Rows.uptoBulk d'/\s.name.size<=maxLen/\∃vp vb e0 e1 e2 e3,W.cell? ⟨b,off+i*7,none⟩=some (.string s.name)/\W.cell? ⟨b,off+i*7+1,none⟩=some vp/\W.cell? ⟨b,off+i*7+2,none⟩=some vb/\W.cell? ⟨b,off+i*7+3,none⟩=some e0/\W.cell? ⟨b,off+i*7+4,none⟩=some e1/\W.cell? ⟨b,off+i*7+5,none⟩=some e2/\W.cell? ⟨b,off+i*7+6,none⟩=some e3/\Strs W vp s.params/\fB W fuel vb s.body/\gT W fuel e0 e1 e2 e3 s.result:=by intro i hi;obtain⟨n0,cs,d',pl',hn',hlen',hcell,sU,Y2⟩:=hel i hi;obtain⟨xs,n,hfn,hx,hlen,hxs,hf⟩:=J2 underlying109 sU;obtain⟨c0,c1,c2,c3,c4,c5,c6,rfl⟩:=list7 hlen';obtain⟨y0,y1,y2,y3,rfl⟩:=JZ (by simpa using hxs);have f0:DataW.trod enc prog W 0 (λ_=>true) true n 9 (([c0,c1,c2,c3,c4,c5,c6].drop 0).take (prog.cellsOf 9))=some y0:=hf 0 _ rfl;rw[qG]at f0;simp only[List.drop,List.take]at f0;have f1:DataW.trod enc prog W 0 (λ_=>true) true n 22 (([c0,c1,c2,c3,c4,c5,c6].drop 1).take (prog.cellsOf 22))=some y1:=hf 1 _ rfl;rw[Cw]at f1;simp only[List.drop,List.take]at f1;have f2:DataW.trod enc prog W 0 (λ_=>true) true n 104 (([c0,c1,c2,c3,c4,c5,c6].drop 2).take (prog.cellsOf 104))=some y2:=hf 2 _ rfl;rw[F9]at f2;simp only[List.drop,List.take]at f2;have f3:DataW.trod enc prog W 0 (λ_=>true) true n 107 (([c0,c1,c2,c3,c4,c5,c6].drop 3).take (prog.cellsOf 107))=some y3:=hf 3 _ rfl;rw[Fp]at f3;simp only[List.drop,List.take]at f3;obtain⟨s0,e0,rfl,hs0⟩:=Ga underlying9 f0;simp at e0;subst e0;obtain⟨ps,hps,hwp⟩:=Gc f1;obtain⟨lb,hlb,hwb⟩:=ZK n f2;obtain⟨z0,z1,z2,z3,x,ez,hxe,hwe⟩:=UA n (d:=y3.1) (pl:=y3.2) f3;simp at ez;obtain⟨rfl,rfl,rfl,rfl⟩:=ez;simp only[pq]at hx;obtain⟨rfl,_⟩:=hx;refine⟨⟨s0,ps,lb,x⟩,_,Y2,?_,hs0,_,_,_,_,_,_,hcell 0 (by decide),hcell 1 (by decide),hcell 2 (by decide),hcell 3 (by decide),hcell 4 (by decide),hcell 5 (by decide),hcell 6 (by decide),hps,hlb.mono fuel (by omega),hxe.mono fuel (by omega)⟩;rw[qF hxe fuel (by omega),qp hlb fuel (by omega)];simp only[fG,jA,Rows.uptoBulk,Rows.uptoBulkAll,qH];omega
 obtain⟨l,hll,hp⟩:=kr len each;refine⟨l,⟨a,b,off,cap,by rw[hv,<-hll],by rw[hll];exact ha,by rw[hll];exact hl,λi s hs=>?_⟩,?_⟩;·obtain⟨_,_,_,hh⟩:=hp i s hs;exact hh
 ·have hsum:=Cv (f:=λs:Fu=>s.name.size+2+lV s.params+dY fuel s.body+iX fuel s.result) (l:=l) (D:=D) (by rw[hll,hD]) (λi x d' h1 h2=>by obtain⟨d'',h3,h4,_⟩:=hp i x h1;rw[h2]at h3;cases h3;exact h4);unfold zG;omega
end
theorem kW.UC{l:List Fu}(h:kW w m v l)(hk:m<=k):kW w k v l:=by obtain⟨a,b,off,cap,e,h0,hl,h1⟩:=h;refine⟨a,b,off,cap,e,h0,hl,λi s hs=>?_⟩;obtain⟨k1,vp,vb,e0,e1,e2,e3,g0,g1,g2,g3,g4,g5,g6,hp,hs',hx⟩:=h1 i s hs;exact⟨k1,vp,vb,e0,e1,e2,e3,g0,g1,g2,g3,g4,g5,g6,hp,hs'.mono k hk,hx.mono k hk⟩
theorem iY.UC(h:iY w m v x)(hk:m<=k):iY w k v x:=by obtain⟨vi,vv,vf,e,h0,h1,h2,h3⟩:=h;exact⟨vi,vv,vf,e,h0,h1,h2,h3.UC hk⟩
theorem Gd{l:List Fu}(h:kW w m v l)(hk:m<=k):zG k l=zG m l:=by obtain⟨a,b,off,cap,e,h0,hl,h1⟩:=h;unfold zG;rw[rV (λi s hs=>by obtain⟨_,vp,vb,e0,e1,e2,e3,_,_,_,_,_,_,_,_,hs',hx⟩:=h1 i s hs;rw[qF hx k hk,qp hs' k hk])]
theorem Wx(h:iY w m v x)(hk:m<=k):vF k x=vF m x:=by obtain⟨vi,vv,vf,e,h0,h1,h2,h3⟩:=h;unfold vF;rw[Gd h3 hk]
section
variable {H : Type} {enc : TypeId × Value → H} {W : World}
theorem Oh{d:DataW H}:∀{D:List (DataW H)} {i:Nat},D[i]?=some d->Rows.uptoBulk d<=Rows.uptoBulkAll D
 | [],i,h=>by simp at h
 | e::D,0,h=>by simp at h;subst h;simp only[Rows.uptoBulkAll];omega
 | e::D,i+1,h=>by have:=Oh (D:=D) (i:=i) (by simpa using h);simp only[Rows.uptoBulkAll];omega
end
theorem jL(w:World)(s:aY)(hs:s.size<=maxLen):Calls prog 92 #[A s] w λe w'=>e=dz (.bool (dP s.data.toList))/\w'=w:=by
 unfold maxLen at hs;by_cases h1:s.size<1
 ·have HF:Hid (dP s.data.toList=false):=by show dP s.data.toList=false;unfold dP;rw[gM];simp;omega
  go_enter func92,ntmps92;go_wp2;go_ret;exact⟨aP HF.symm,rfl⟩
 ·by_cases h8:8<s.size
  ·have HF:Hid (dP s.data.toList=false):=by show dP s.data.toList=false;unfold dP;rw[gM];simp;omega
   go_enter func92,ntmps92;go_wp2;go_ret;exact⟨aP HF.symm,rfl⟩
  ·have HF:Hid (dP s.data.toList=s.data.toList.all iI):=by show dP s.data.toList=_;unfold dP;rw[gM];rw[gq (by omega:1<=s.size),gq (by omega:s.size<=8)];rfl
   go_enter func92,ntmps92;go_wp2;go_loop [14] (λi=>∃k:Nat,k<=s.size/\i=O k/\∀j (hj:j<s.size),j<k->iI s[j]=true) (λi=>s.size - (intOf i).toNat);case atStart=>exact⟨0,bL _,rfl,λj hj hd=>aM hd (fT _)⟩
   case round=>
    obtain⟨k,hk,rfl,hall⟩:=hrel;have HA:Hid (∀j (hj:j<s.size),j<k->iI s[j]=true):=hall;clear hall;by_cases hlt:k<s.size
    ·go_wp2;·go_ret;exact⟨aP (by rw[HF,rD s k hlt (by simp[iI];omega)]),rfl⟩
     ·go_round;case rel=>exact⟨k+1,by omega,by go_num,λj hj hd=>by
       by_cases e:j=k;·subst e;simp[iI];omega
       ·exact HA j hj aX⟩
      case measure=>simp[intOf];omega
     ·go_ret;exact⟨aP (by rw[HF,rD s k hlt (by simp[iI];omega)]),rfl⟩
    ·go_wp2;go_ret;exact⟨aP (by rw[HF,DI s (λj hj=>HA j hj aX)]),rfl⟩
theorem ZN(h:∀d,d<l.length->p (l.getD d ByteArray.empty)=true):l.all p=true:=by rw[iB];intro x hx;obtain⟨i,hi,rfl⟩:=gZ.1 hx;have:=h i hi;simpa[hi]using this
theorem ZO(hd:d<l.length)(h:p (l.getD d ByteArray.empty)=false):l.all p=false:=by rw[Ar];exact⟨l[d],kP hd,by simp[hd]at h;simp[h]⟩
theorem AJ(w:World)(v:Value)(ss:List aY)(h:Strs w v ss):Calls prog 93 #[v] w λe w'=>e=dz (.bool (ss.all λs=>dP s.data.toList))/\w'=w:=by
 obtain⟨a,b,off,cap,rfl,ha,hl,hs,hc⟩:=h;obtain⟨len,hlen⟩:=bC ss.length;have HL:=I hlen;rw[<-hlen]at ha hl hc ⊢;obtain⟨HA,HC⟩:=bU ha hc;have HS:Hid (∀j,j<len->(ss.getD j ByteArray.empty).size<=maxLen):=I (λj hj=>hs _ (by
  have hj':j<ss.length:=by omega
  rw[show ss.getD j ByteArray.empty=ss[j] by simp[hj']];exact kP hj'))
 clear ha hc hs hlen;go_enter func93,ntmps93;go_wp2;go_loop [7] (λi=>∃k:Nat,k<=len/\i=O k/\∀d,d<k->dP (ss.getD d ByteArray.empty).data.toList=true) (λi=>len - (intOf i).toNat);case atStart=>exact⟨0,bL _,rfl,λd hd=>aM hd (fT _)⟩
 case round=>
  obtain⟨k,hk,rfl,hall⟩:=hrel;have fF:=I hall;clear hall;by_cases hlt:k<len
  ·obtain rfl:=HA aX;obtain⟨hck,hsk⟩:=eY (HC k hlt) (HS k hlt);obtain⟨s,hse⟩:=bC (ss.getD k ByteArray.empty);have DT:=I hse;rw[<-hse]at hck hsk;clear hse;go_wp2_with fail;refine(jL _ s hsk).mono ?_;rintro e w' ⟨rfl,hw⟩;subst hw;cases hb:dP s.data.toList;·have HB:=I hb;go_wp2;go_ret;exact⟨aP (ZO (d:=k) (by have:=HL.out;omega) (by rw[<-DT];exact HB)).symm,rfl⟩
   ·have HB:=I hb;go_wp2;go_round;case rel=>exact⟨k+1,by omega,by go_num,λd hd=>by
     by_cases e:d=k;·subst e;rw[<-DT];exact HB
     ·exact fF d aX⟩
    case measure=>simp[intOf];omega
  ·go_wp2;go_ret;exact⟨aP (ZN (λd hd=>fF d (by have:=HL.out;omega))).symm,rfl⟩
theorem vas_all{p:Va->Bool}{l:List Va}(h:∀(i:Nat) (x:Va),l[i]?=some x->p x=true):l.all p=true:=by rw[iB];intro x hx;obtain⟨i,hi,rfl⟩:=gZ.1 hx;exact h i _ (bD hi)
theorem UD{p:Va->Bool}{l:List Va}{x:Va}(hx:l[i]?=some x)(h:p x=false):l.all p=false:=by rw[Ar];exact⟨x,eT hx,by simp[h]⟩
theorem Oi(w:World)(v:Value)(vs:List Va)(h:uX w v vs):Calls prog 94 #[v] w λe w'=>e=dz (.bool (vs.all λs=>dP s.name.data.toList&&dP s.level.data.toList))/\bG w w':=by
 obtain⟨a,b,off,cap,rfl,ha,hl,hc⟩:=h;obtain⟨len,hlen⟩:=bC vs.length;have HL:=I hlen;rw[<-hlen]at ha hl ⊢;obtain⟨HA,HC⟩:=bU ha hc;clear ha hc hlen;go_enter func94,ntmps94;go_wp2;go_loopw[7] (λi wr=>∃k:Nat,k<=len/\i=O k/\(∀d y,d<k->vs[d]?=some y->(dP y.name.data.toList&&dP y.level.data.toList)=true)/\bG w wr) (λi _=>len - (intOf i).toNat);case atStart=>exact⟨0,bL _,rfl,λd y hd=>aM hd (fT _),bP _ _⟩
 case round=>
  obtain⟨k,hk,rfl,hall,hnx⟩:=hrel;have fF:=I hall;clear hall;by_cases hlt:k<len
  ·obtain rfl:=HA aX;obtain⟨y,hy⟩:∃y,vs[k]?=some y:=⟨_,bD (by rw[<-HL];exact hlt)⟩;obtain⟨k1,k2,g0,g1⟩:=HC k y hy;obtain⟨HY,fO⟩:=bU hy (hnx.trans ((aH wr (aW #[A y.name,A y.level] 93)).mono hnx.size));obtain⟨u0,u1⟩:=eY (aD g0 hnx) (aD g1 hnx);clear g0 g1 hy hnx;go_wp2_with fail;refine(jL _ y.name k1).mono ?_;rintro e w' ⟨rfl,hw⟩;subst hw;cases hb:dP y.name.data.toList;·have HB:=I hb;go_wp2;go_ret;exact⟨aP (UD HY (by rw[HB];rfl)).symm,fO⟩
   ·have HB:=I hb;go_wp2_with fail;refine(jL _ y.level k2).mono ?_;rintro e w' ⟨rfl,hw⟩;subst hw;cases hb2:dP y.level.data.toList;·have HB2:=I hb2;go_wp2;go_ret;exact⟨aP (UD HY (by rw[HB,HB2];rfl)).symm,fO⟩
    ·have HB2:=I hb2;go_wp2;go_roundw;case rel=>exact⟨k+1,by omega,by go_num,λd z hd hz=>by
      by_cases e:d=k;·subst e;rw[HY]at hz;cases hz;rw[HB,HB2];rfl
      ·exact fF d z aX hz,fO⟩
     case measure=>simp[intOf];omega
  ·go_wp2;go_ret;exact⟨aP (vas_all (λd z hz=>fF d z (by have:=(dK.1 hz).1;have:=HL.out;omega) hz)).symm,hnx⟩
theorem Lh(h:¬s.size=1):Ws s=false:=by
 unfold Ws;have:dR opS s=-1:=by
  unfold dR;rw[kE (p:=K7 opS s) (λc hc=>?_)];have hc':c<5:=hc;unfold K7;rw[beq_eq_false_iff_ne];intro e;rw[yK,yK]at e;have e2:=congrArg List.length e;rw[gM,gM]at e2;apply h;rw[e2];obtain rfl|rfl|rfl|rfl|rfl:c=0\/c=1\/c=2\/c=3\/c=4:=by omega
  all_goals rfl
 rw[this];rfl
theorem ZP:∀c:Fin 256,decide (0<=Lib.indexByte [43,45,42,60,61] (UInt8.ofFin c))=Ws ⟨#[UInt8.ofFin c]⟩:=by decide +kernel
theorem op_one(c:UInt8):decide (0<=Lib.indexByte [43,45,42,60,61] c)=Ws ⟨#[c]⟩:=ZP c.toFin
theorem one_byte(h:s.size=1):∃c,s=⟨#[c]⟩:=by
 obtain⟨⟨l⟩⟩:=s;match l,h with
 | [c],_=>exact⟨c,rfl⟩
theorem Gf(w:World)(s:aY)(hs:s.size<=maxLen):Calls prog 246 #[A s] w λe w'=>e=dz (.bool (Ws s))/\w'=w:=by
 unfold maxLen at hs;by_cases h1:s.size=1;·obtain⟨c,rfl⟩:=one_byte h1;clear h1;have h1':(((⟨#[c]⟩:aY).size:Int)==1)=true:=rfl;have HO:=I (op_one c);go_enter func246,ntmps246;go_wp2_with fail;refine(Tryz.strings_Contains_one _ c _).mono ?_;rintro e w' ⟨rfl,hw⟩;subst hw;rw[show decide (0<=Lib.indexByte (⟨#[43,45,42,60,61]⟩:aY).data.toList c)=Ws ⟨#[c]⟩from HO.out];go_wp2;go_ret;exact⟨rfl,rfl⟩
 ·have h1':((s.size:Int)==1)=false:=by simp;omega
  have HO:=I (Lh h1);clear h1;go_enter func246,ntmps246;go_wp2;go_ret;exact⟨aP HO.symm,rfl⟩
theorem Wy(s:aY):Lib.indexByte s.data.toList 46=match kM s with|some i=>(i:Int)|none=>-1:=by
 have hge:=Lib.indexByte_ge s.data.toList 46;by_cases h:Lib.indexByte s.data.toList 46=-1;·have hn:=Lib.indexByte_none h;have:kM s=none:=kE (λd hd=>by have hd':d<s.data.toList.length:=hd;have h':=hn d;rw[List.getD,bD hd'];rw[bD hd']at h';simpa using h');rw[h,this]
 ·obtain⟨o,ho⟩:∃o:Nat,Lib.indexByte s.data.toList 46=o:=⟨(Lib.indexByte s.data.toList 46).toNat,by omega⟩;obtain⟨h1,h2⟩:=Lib.indexByte_some ho;have ho':o<s.size:=(dK.1 h1).1;have:kM s=some o:=qx ho' (λc hc=>by have hc':c<s.data.toList.length:=Nat.lt_trans hc ho';have h':=h2 c hc;rw[List.getD,bD hc'];rw[bD hc']at h';simpa using h') (by rw[List.getD,h1];rfl);rw[ho,this]
theorem Oj(h:kM s=some k):k<s.size:=(bN.find_spec h).1
theorem ZQ(w:World)(s:aY)(hs:s.size<=maxLen):Calls prog 275 #[A s,A ⟨#[46]⟩] w λe w'=>e=dz (.tuple #[A (bN.preS s),A (sP s),.bool (kM s).isSome])/\bG w w':=by
 unfold maxLen at hs;have HI:=I (Wy s);cases hd:kM s;·rw[hd]at HI;have HD:=I hd;clear hd;go_enter func275,ntmps275;go_wp2_with fail;refine(Tryz.stringslite_Index_one s 46 _).mono ?_;rintro e w' ⟨rfl,hw⟩;subst hw;rw[HI];go_wp2;go_ret3;exact⟨by simp[bN.preS,sP,HD.out],bP _ _⟩
 ·rename_i k;rw[hd]at HI;have HD:=I hd;have hk:=Oj hd;have b1:(0:Int)<=(k:Int):=by omega
  have b2:(k:Int)<=(s.size:Int):=by omega
  have b3:(k:Int)+1<=(s.size:Int):=by omega
  clear hd;go_enter func275,ntmps275;go_wp2_with fail;refine(Tryz.stringslite_Index_one s 46 _).mono ?_;rintro e w' ⟨rfl,hw⟩;subst hw;rw[HI];go_wp2_with fail;go_quiet (fail);go_wp2;go_ret3;exact⟨by simp[bN.preS,sP,HD.out],nI (bP _ _) _⟩
theorem UE(w:World)(s:aY)(hs:s.size<=maxLen):Calls prog 249 #[A s,A ⟨#[46]⟩] w λe w'=>e=dz (.tuple #[A (bN.preS s),A (sP s),.bool (kM s).isSome])/\bG w w':=by have HC:=I (ZQ w s hs);generalize bN.preS s=pre at *;generalize sP s=suf at *;generalize (kM s).isSome=dot at *;go_enter func249,ntmps249;go_wp2_with fail;refine HC.mono ?_;rintro e w1 ⟨rfl,hb1⟩;have HB:=I hb1;clear hb1;go_wp2;go_ret3;exact⟨rfl,HB⟩
theorem Li(w:World)(s:aY)(hs:s.size<=maxLen):Calls prog 247 #[A s] w λe w'=>e=dz (.bool (vU s))/\bG w w':=by
 have HC:=I (UE w s hs);have hp1:(bN.preS s).size<=maxLen:=Nat.le_trans (preS_le s) hs;have hp2:(sP s).size<=maxLen:=Nat.le_trans (sufS_le s) hs;have HE:Hid (vU s=(dP (bN.preS s).data.toList&&(!(kM s).isSome||dP (sP s).data.toList))):=rfl;generalize bN.preS s=pre at *;generalize sP s=suf at *;generalize (kM s).isSome=dot at *;go_enter func247,ntmps247;go_wp2_with fail;refine HC.out.mono ?_;rintro e w1 ⟨rfl,hb1⟩;have HB:=I hb1;clear hb1;go_wp2_with fail;refine(jL _ pre hp1).mono ?_;rintro e w' ⟨rfl,hw⟩;subst hw;cases hb:dP pre.data.toList;·have HB1:=I hb;go_wp2;go_ret;exact⟨aP (by rw[HE.out,HB1.out];rfl),HB.out⟩
 ·have HB1:=I hb;cases dot;·go_wp2;go_ret;exact⟨aP (by rw[HE.out,HB1.out];rfl),HB.out⟩
  ·go_wp2_with fail;refine(jL _ suf hp2).mono ?_;rintro e w' ⟨rfl,hw⟩;subst hw;generalize dP suf.data.toList=b2 at *;go_wp2;go_ret;exact⟨aP (by rw[HE.out,HB1.out];simp),HB.out⟩
end Go.Proofs.YtbgkpehhdibaoaaGreatDoor
