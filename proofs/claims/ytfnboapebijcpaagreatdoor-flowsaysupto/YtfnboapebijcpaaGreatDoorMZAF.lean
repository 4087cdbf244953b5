/- What expressions, commands, functions and -/
import Derived.Test.YtfnboapebijcpaaGreatDoorRows
import Derived.ProofKit
import Derived.OpenShut
import Derived.SliceStrings
import Derived.Lib.SmallJoins
import Derived.Test.YtfnboapebijcpaaGreatDoorMZAD
import Derived.Shelf.SlSortCmp.QuietGrown
import Derived.Maps.OwnSet
import Derived.Deep.LoopGhost
import Derived.Deep.Light
import Derived.CellFam
import Derived.BigGuard
import Derived.Deep.RegionWith
import Derived.Lib.AppendIntMem
import Derived.Lib.ItoaLen
set_option maxHeartbeats 16000000
set_option maxRecDepth 100000
namespace Go.Proofs.YtfnboapebijcpaaGreatDoor
open bC
open Go.Proofs.Tryz
open Go.RowKit
def eu:Nat->Ex->Nat
 | 0,_=>0
 | m+1,x=>x.name.size+4+(x.args.map (eu m)).sum
def bK:Nat->List St->Nat
 | 0,_=>0
 | m+1,l=>(l.map λs=>s.name.size+3+eu m s.e+bK m s.a+bK m s.b).sum+1
def gY(l:List ByteArray):Nat:=(l.map λs=>s.size+1).sum+1
def BX(l:List Va):Nat:=(l.map λs=>s.name.size+s.level.size+3).sum+1
def p8(m:Nat)(l:List Fu):Nat:=(l.map λs=>s.name.size+2+gY s.params+bK m s.body+eu m s.result).sum+1
def uM(m:Nat)(x:Mo):Nat:=x.name.size+2+gY x.imports+BX x.vars+p8 m x.aR
theorem qN{α β:Type}{f g:α->β}{l:List α}(h:∀(i:Nat) (x:α),l[i]?=some x->f x=g x):l.map f=l.map g:=KE λx hx=>by obtain⟨i,hi,rfl⟩:=eX.1 hx;exact h i _ (aU hi)
theorem pI{w:World}:∀{m:Nat} {c0 c1 c2 c3:Value} {x:Ex},gq w m c0 c1 c2 c3 x->∀k,m<=k->eu k x=eu m x
 | 0,_,_,_,_,_,h,_,_=>False.elim h
 | m+1,c0,c1,c2,c3,x,h,0,hk=>by omega
 | m+1,c0,c1,c2,c3,x,h,k+1,hk=>by obtain⟨_,_,_,_,_,_,a,b,off,cap,_,_,_,h9⟩:=h;simp only[eu];rw[qN (f:=eu k) (g:=eu m) (λi y hy=>by obtain⟨e0,e1,e2,e3,_,_,_,_,hx⟩:=h9 i y hy;exact pI hx k (by omega))]
theorem oU{w:World}:∀{m:Nat} {v:Value} {l:List St},dW w m v l->∀k,m<=k->bK k l=bK m l
 | 0,_,_,h,_,_=>False.elim h
 | m+1,v,l,h,0,hk=>by omega
 | m+1,v,l,h,k+1,hk=>by obtain⟨a,b,off,cap,_,_,_,h9⟩:=h;simp only[bK];rw[qN (λi s hs=>by obtain⟨_,_,e0,e1,e2,e3,va,vb,_,_,_,_,_,_,_,_,hx,ha,hb⟩:=h9 i s hs;rw[pI hx k (by omega),oU ha k (by omega),oU hb k (by omega)])]
open Go.ChangeShapes Go.WideShapes Go.ChangeAt Go.Deep Go.Joins
section
variable {H : Type} {enc : TypeId × Value → H} {W : World}
theorem iH{t e k:Nat}{fuel:Nat}{v:Value}{y:DataW H × List MemPlace}(ht:prog.underlying t=some (.slice e))(hk:prog.cellsOf e=k)(hk0:0<k)(h:DataW.trod enc prog W 0 (λ_=>true) true fuel t [v]=some y):∃(a:Option Addr) (b off len cap:Nat) (D:List (DataW H)),v=.slice a len cap/\(0<len->a=some ⟨b,off,none⟩)/\len<=9223372036854775807/\D.length=len/\Rows.uptoBulkAll D+1<=Rows.uptoBulk y.1/\∀i,i<len->∃n cs d pl,fuel=n+1/\cs.length=k/\(∀j,j<k->W.cell? ⟨b,off+i*k+j,none⟩=cs[j]?)/\DataW.trod enc prog W 0 (λ_=>true) true n e cs=some (d,pl)/\D[i]?=some d:=by
 rcases DataW.trod_slice ht h with⟨hcs,rfl⟩|⟨a,len,cap,elems,rest,n,hfuel,hcs,rfl,_,hl,hm,hlen,hel,_,_⟩;·simp at hcs;subst hcs;exact⟨none,0,0,0,0,[],rfl,λh=>absurd h (Nat.lt_irrefl _),by decide,rfl,by simp[Rows.uptoBulk,Rows.uptoBulkAll],λi hi=>absurd hi (Nat.not_lt_zero _)⟩
 ·simp at hcs;subst hcs;unfold maxLen at hm;obtain⟨b,off,spot⟩:=a;have each:∀i,i<len->∃cs d pl,cs.length=k/\(∀j,j<k->W.cell? ((⟨b,off,spot⟩:Addr).add (i*k+j))=cs[j]?)/\DataW.trod enc prog W 0 (λ_=>true) true n e cs=some (d,pl)/\(elems.map (·.1))[i]?=some d:=by intro i hi;have h1:=hel i hi;rw[List.getElem?_eq_getElem (by omega),hk]at h1;obtain⟨cs,g1,g2⟩:=Option.bind_eq_some_iff.1 h1;obtain⟨_,g3,g4⟩:=World.cells?_some g1;refine⟨cs,_,_,g3,λj hj=>?_,g2,by simp[List.getElem?_map,List.getElem?_eq_getElem (show i<elems.length by omega)]⟩;rw[<-add_add];exact g4 j hj
  have hspot:0<len->spot=none:=by intro h0;obtain⟨cs,d,pl,g1,g2,_⟩:=each 0 h0;have:=g2 0 hk0;rw[List.getElem?_eq_getElem (by omega)]at this;have:=World.cell?_spot this;simpa[Addr.add]using this
  refine⟨some ⟨b,off,spot⟩,b,off,len,cap,elems.map (·.1),rfl,λh0=>by rw[hspot h0],by omega,by simp[hlen],?_,λi hi=>?_⟩;·simp only[Rows.uptoBulk];omega
  ·obtain⟨cs,d,pl,g1,g2,g3,g4⟩:=each i hi;refine⟨n,cs,d,pl,hfuel,g1,λj hj=>?_,g3,g4⟩;have:=g2 j hj;rw[hspot (by omega),add_plain]at this;rw[<-this,Nat.add_assoc]
theorem gW{α:Type}:∀(len:Nat) {p:Nat->α->Prop},(∀i,i<len->∃x,p i x)->∃l:List α,l.length=len/\∀(i:Nat) (x:α),l[i]?=some x->p i x
 | 0,_,_=>⟨[],rfl,λi x h=>by simp at h⟩
 | len+1,p,h=>by
  obtain⟨x,hx⟩:=h 0 (by omega);obtain⟨l,hl,hp⟩:=gW len (p:=λi=>p (i+1)) (λi hi=>h (i+1) (by omega));refine⟨x::l,by simp[hl],λi y hy=>?_⟩;cases i with
  | zero=>simp at hy;subst hy;exact hx
  | succ i=>exact hp i y (by simpa using hy)
theorem vH{α:Type}{f:α->Nat}:∀{l:List α} {D:List (DataW H)},l.length=D.length->(∀(i:Nat) (x:α) (d:DataW H),l[i]?=some x->D[i]?=some d->f x<=Rows.uptoBulk d)->(l.map f).sum<=Rows.uptoBulkAll D
 | [],D,h,_=>by simp
 | x::l,[],h,_=>by simp at h
 | x::l,d::D,h,hp=>by have h0:=hp 0 x d rfl rfl;have h1:=vH (l:=l) (D:=D) (by simpa using h) (λi y d' h1 h2=>hp (i+1) y d' (by simpa using h1) (by simpa using h2));simp only[dN,jE,Rows.uptoBulkAll];omega
end
theorem EL:prog.cellsOf 129=4:=by kernel_rfl
theorem cellsSt:prog.cellsOf 144=8:=by kernel_rfl
theorem Tz:prog.cellsOf 132=7:=by kernel_rfl
theorem cellsVa:prog.cellsOf 124=2:=by kernel_rfl
theorem KF:prog.cellsOf 26=4:=by kernel_rfl
theorem pJ:prog.cellsOf 3=1:=by kernel_rfl
theorem mW:prog.cellsOf 9=1:=by kernel_rfl
theorem wL:prog.cellsOf 22=1:=by kernel_rfl
theorem Xy:prog.cellsOf 127=1:=by kernel_rfl
theorem FV:prog.cellsOf 125=1:=by kernel_rfl
theorem Xz:prog.cellsOf 23=1:=by kernel_rfl
theorem XA:prog.cellsOf 24=1:=by kernel_rfl
theorem QD{n:Int}(h:(Lit.int .i64 n).wf=true):Qr n:=by simpa[Qr,Lit.wf,IntKind.min,IntKind.max,IntKind.signed,IntKind.bits]using h
theorem mq(s:ByteArray):s.data.toList.length=s.size:=rfl
theorem Jp{α:Type}{cs:List α}(h:cs.length=4):∃a b c d,cs=[a,b,c,d]:=by
 match cs,h with
 | [a,b,c,d],_=>exact⟨a,b,c,d,rfl⟩
section
variable {H : Type} {enc : TypeId × Value → H} {W : World}
theorem TA:∀(fuel:Nat) {cs:List Value} {d:DataW H} {pl:List MemPlace},DataW.trod enc prog W 0 (λ_=>true) true fuel 129 cs=some (d,pl)->∃c0 c1 c2 c3 x,cs=[c0,c1,c2,c3]/\gq W fuel c0 c1 c2 c3 x/\eu fuel x<=Rows.uptoBulk d:=by
 intro fuel;induction fuel using Nat.strongRecOn with
 | ind fuel ih=>
  intro cs d pl h;obtain⟨xs,n,hfn,hx,hlen,hxs,hf⟩:=vI underlying129 h;rw[EL]at hlen;obtain⟨c0,c1,c2,c3,rfl⟩:=Jp hlen;obtain⟨y0,y1,y2,y3,rfl⟩:=Jp (by simpa using hxs);have f0:DataW.trod enc prog W 0 (λ_=>true) true n 3 (([c0,c1,c2,c3].drop 0).take (prog.cellsOf 3))=some y0:=hf 0 _ rfl;rw[pJ]at f0;simp only[List.drop,List.take]at f0;have f1:DataW.trod enc prog W 0 (λ_=>true) true n 3 (([c0,c1,c2,c3].drop 1).take (prog.cellsOf 3))=some y1:=hf 1 _ rfl;rw[pJ]at f1;simp only[List.drop,List.take]at f1;have f2:DataW.trod enc prog W 0 (λ_=>true) true n 9 (([c0,c1,c2,c3].drop 2).take (prog.cellsOf 9))=some y2:=hf 2 _ rfl;rw[mW]at f2;simp only[List.drop,List.take]at f2;have f3:DataW.trod enc prog W 0 (λ_=>true) true n 127 (([c0,c1,c2,c3].drop 3).take (prog.cellsOf 127))=some y3:=hf 3 _ rfl;rw[Xy]at f3;simp only[List.drop,List.take]at f3;obtain⟨k0,e0,rfl,w0⟩:=yt underlying3 f0;obtain⟨k1,e1,rfl,w1⟩:=yt underlying3 f1;obtain⟨s,e2,rfl,hs⟩:=tq underlying9 f2;simp at e0 e1 e2;subst e0 e1 e2;obtain⟨a,b,off,len,cap,D,hv,ha,hl,hD,xM,hel⟩:=iH underlying127 EL (by decide) f3;have each:∀i,i<len->∃x:Ex,∃d',D[i]?=some d'/\eu n x<=Rows.uptoBulk d'/\∃e0 e1 e2 e3,W.cell? ⟨b,off+i*4,none⟩=some e0/\W.cell? ⟨b,off+i*4+1,none⟩=some e1/\W.cell? ⟨b,off+i*4+2,none⟩=some e2/\W.cell? ⟨b,off+i*4+3,none⟩=some e3/\gq W n e0 e1 e2 e3 x:=by intro i hi;obtain⟨n',cs,d',pl',hn',hlen',hcell,lJ,NK⟩:=hel i hi;obtain⟨e0,e1,e2,e3,x,rfl,hx',hw⟩:=ih n' (by omega) lJ;refine⟨x,d',NK,by rw[pI hx' n (by omega)];exact hw,e0,e1,e2,e3,hcell 0 (by decide),hcell 1 (by decide),hcell 2 (by decide),hcell 3 (by decide),hx'.mono n (by omega)⟩
  obtain⟨l,hll,hp⟩:=gW len each;simp only[qO]at hx;obtain⟨rfl,_⟩:=hx;subst hfn;refine⟨_,_,_,_,⟨k0,k1,s,l⟩,rfl,⟨rfl,rfl,rfl,hs,QD w0,QD w1,a,b,off,cap,by rw[hv,<-hll],by rw[hll];exact ha,by rw[hll];exact hl,λi y hy=>?_⟩,?_⟩;·obtain⟨_,_,_,hh⟩:=hp i y hy;exact hh
  ·have hsum:=vH (f:=eu n) (l:=l) (D:=D) (by rw[hll,hD]) (λi x d' h1 h2=>by obtain⟨d'',h3,h4,_⟩:=hp i x h1;rw[h2]at h3;cases h3;exact h4);simp only[eu,dN,iK,Rows.uptoBulk,Rows.uptoBulkAll,mq];omega
end
theorem list8{α:Type}{cs:List α}(h:cs.length=8):∃a b c d e f g i,cs=[a,b,c,d,e,f,g,i]:=by
 match cs,h with
 | [a,b,c,d,e,f,g,i],_=>exact⟨a,b,c,d,e,f,g,i,rfl⟩
theorem list7{α:Type}{cs:List α}(h:cs.length=7):∃a b c d e f g,cs=[a,b,c,d,e,f,g]:=by
 match cs,h with
 | [a,b,c,d,e,f,g],_=>exact⟨a,b,c,d,e,f,g,rfl⟩
theorem list5{α:Type}{cs:List α}(h:cs.length=5):∃a b c d e,cs=[a,b,c,d,e]:=by
 match cs,h with
 | [a,b,c,d,e],_=>exact⟨a,b,c,d,e,rfl⟩
theorem list2{α:Type}{cs:List α}(h:cs.length=2):∃a b,cs=[a,b]:=by
 match cs,h with
 | [a,b],_=>exact⟨a,b,rfl⟩
section
variable {H : Type} {enc : TypeId × Value → H} {W : World}
theorem XB:∀(fuel:Nat) {v:Value} {y:DataW H × List MemPlace},DataW.trod enc prog W 0 (λ_=>true) true fuel 125 [v]=some y->∃l,dW W fuel v l/\bK fuel l<=Rows.uptoBulk y.1:=by
 intro fuel;induction fuel using Nat.strongRecOn with
 | ind fuel ih=>
  intro v y h;obtain⟨a,b,off,len,cap,D,hv,ha,hl,hD,xM,hel⟩:=iH underlying125 cellsSt (by decide) h;have hpos:0<fuel:=by
   cases fuel with
   | zero=>simp[DataW.trod]at h
   | succ n=>omega
  obtain⟨q,rfl⟩:∃q,fuel=q+1:=⟨fuel - 1,by omega⟩;have each:∀i,i<len->∃s:St,∃d',D[i]?=some d'/\s.name.size+3+eu q s.e+bK q s.a+bK q s.b<=Rows.uptoBulk d'/\Qr s.kind/\s.name.size<=maxLen/\∃e0 e1 e2 e3 va vb,W.cell? ⟨b,off+i*8,none⟩=some (.int .i64 s.kind)/\W.cell? ⟨b,off+i*8+1,none⟩=some (.string s.name)/\W.cell? ⟨b,off+i*8+2,none⟩=some e0/\W.cell? ⟨b,off+i*8+3,none⟩=some e1/\W.cell? ⟨b,off+i*8+4,none⟩=some e2/\W.cell? ⟨b,off+i*8+5,none⟩=some e3/\W.cell? ⟨b,off+i*8+6,none⟩=some va/\W.cell? ⟨b,off+i*8+7,none⟩=some vb/\gq W q e0 e1 e2 e3 s.e/\dW W q va s.a/\dW W q vb s.b:=by intro i hi;obtain⟨n0,cs,d',pl',hn',hlen',hcell,lJ,NK⟩:=hel i hi;obtain⟨xs,n,hfn,hx,hlen,hxs,hf⟩:=vI underlying144 lJ;obtain⟨c0,c1,c2,c3,c4,c5,c6,c7,rfl⟩:=list8 hlen';obtain⟨y0,y1,y2,y3,y4,rfl⟩:=list5 (by simpa using hxs);have f0:DataW.trod enc prog W 0 (λ_=>true) true n 3 (([c0,c1,c2,c3,c4,c5,c6,c7].drop 0).take (prog.cellsOf 3))=some y0:=hf 0 _ rfl;rw[pJ]at f0;simp only[List.drop,List.take]at f0;have f1:DataW.trod enc prog W 0 (λ_=>true) true n 9 (([c0,c1,c2,c3,c4,c5,c6,c7].drop 1).take (prog.cellsOf 9))=some y1:=hf 1 _ rfl;rw[mW]at f1;simp only[List.drop,List.take]at f1;have f2:DataW.trod enc prog W 0 (λ_=>true) true n 129 (([c0,c1,c2,c3,c4,c5,c6,c7].drop 2).take (prog.cellsOf 129))=some y2:=hf 2 _ rfl;rw[EL]at f2;simp only[List.drop,List.take]at f2;have f3:DataW.trod enc prog W 0 (λ_=>true) true n 125 (([c0,c1,c2,c3,c4,c5,c6,c7].drop 6).take (prog.cellsOf 125))=some y3:=hf 3 _ rfl;rw[FV]at f3;simp only[List.drop,List.take]at f3;have f4:DataW.trod enc prog W 0 (λ_=>true) true n 125 (([c0,c1,c2,c3,c4,c5,c6,c7].drop 7).take (prog.cellsOf 125))=some y4:=hf 4 _ rfl;rw[FV]at f4;simp only[List.drop,List.take]at f4;obtain⟨k0,e0,rfl,w0⟩:=yt underlying3 f0;obtain⟨s,e1,rfl,hs⟩:=tq underlying9 f1;simp at e0 e1;subst e0 e1;obtain⟨z0,z1,z2,z3,x,ez,hxe,hwe⟩:=TA n (d:=y2.1) (pl:=y2.2) f2;simp at ez;obtain⟨rfl,rfl,rfl,rfl⟩:=ez;obtain⟨la,hla,hwa⟩:=ih n (by omega) f3;obtain⟨lb,hlb,hwb⟩:=ih n (by omega) f4;simp only[qO]at hx;obtain⟨rfl,_⟩:=hx;refine⟨⟨k0,s,x,la,lb⟩,_,NK,?_,QD w0,hs,_,_,_,_,_,_,hcell 0 (by decide),hcell 1 (by decide),hcell 2 (by decide),hcell 3 (by decide),hcell 4 (by decide),hcell 5 (by decide),hcell 6 (by decide),hcell 7 (by decide),hxe.mono q (by omega),hla.mono q (by omega),hlb.mono q (by omega)⟩;rw[pI hxe q (by omega),oU hla q (by omega),oU hlb q (by omega)];simp only[dN,iK,Rows.uptoBulk,Rows.uptoBulkAll,mq];omega
  obtain⟨l,hll,hp⟩:=gW len each;refine⟨l,⟨a,b,off,cap,by rw[hv,<-hll],by rw[hll];exact ha,by rw[hll];exact hl,λi s hs=>?_⟩,?_⟩;·obtain⟨_,_,_,hh⟩:=hp i s hs;exact hh
  ·have hsum:=vH (f:=λs:St=>s.name.size+3+eu q s.e+bK q s.a+bK q s.b) (l:=l) (D:=D) (by rw[hll,hD]) (λi x d' h1 h2=>by obtain⟨d'',h3,h4,_⟩:=hp i x h1;rw[h2]at h3;cases h3;exact h4);simp only[bK];omega
theorem tu{fuel:Nat}{v:Value}{y:DataW H × List MemPlace}(h:DataW.trod enc prog W 0 (λ_=>true) true fuel 22 [v]=some y):∃ss,Strs W v ss/\gY ss<=Rows.uptoBulk y.1:=by
 obtain⟨a,b,off,len,cap,D,hv,ha,hl,hD,xM,hel⟩:=iH underlying22 mW (by decide) h;have each:∀i,i<len->∃s:ByteArray,∃d',D[i]?=some d'/\s.size+1<=Rows.uptoBulk d'/\s.size<=maxLen/\W.cell? ⟨b,off+i,none⟩=some (.string s):=by intro i hi;obtain⟨n0,cs,d',pl',hn',hlen',hcell,lJ,NK⟩:=hel i hi;obtain⟨s,e1,ey,hs⟩:=tq underlying9 lJ;subst e1;simp only[qO]at ey;obtain⟨rfl,_⟩:=ey;have h0:=hcell 0 (by decide);simp at h0;exact⟨s,_,NK,by simp[Rows.uptoBulk],hs,h0⟩
 obtain⟨l,hll,hp⟩:=gW len each;refine⟨l,⟨a,b,off,cap,by rw[hv,<-hll],by rw[hll];exact ha,by rw[hll];exact hl,λs hs=>?_,λj hj=>?_⟩,?_⟩;·obtain⟨i,hi,rfl⟩:=eX.1 hs;obtain⟨_,_,_,hh,_⟩:=hp i _ (aU hi);exact hh
 ·obtain⟨_,_,_,_,hh⟩:=hp j _ (aU hj);rw[hh,List.getD,aU hj];rfl
 ·have hsum:=vH (f:=λs:ByteArray=>s.size+1) (l:=l) (D:=D) (by rw[hll,hD]) (λi x d' h1 h2=>by obtain⟨d'',h3,h4,_⟩:=hp i x h1;rw[h2]at h3;cases h3;exact h4);unfold gY;omega
theorem NM{fuel:Nat}{v:Value}{y:DataW H × List MemPlace}(h:DataW.trod enc prog W 0 (λ_=>true) true fuel 23 [v]=some y):∃l,Dv W v l/\BX l<=Rows.uptoBulk y.1:=by
 obtain⟨a,b,off,len,cap,D,hv,ha,hl,hD,xM,hel⟩:=iH underlying23 cellsVa (by decide) h;have each:∀i,i<len->∃s:Va,∃d',D[i]?=some d'/\s.name.size+s.level.size+3<=Rows.uptoBulk d'/\s.name.size<=maxLen/\s.level.size<=maxLen/\W.cell? ⟨b,off+i*2,none⟩=some (.string s.name)/\W.cell? ⟨b,off+i*2+1,none⟩=some (.string s.level):=by intro i hi;obtain⟨n0,cs,d',pl',hn',hlen',hcell,lJ,NK⟩:=hel i hi;obtain⟨xs,n,hfn,hx,hlen,hxs,hf⟩:=vI underlying124 lJ;obtain⟨c0,c1,rfl⟩:=list2 hlen';obtain⟨y0,y1,rfl⟩:=list2 (by simpa using hxs);have f0:DataW.trod enc prog W 0 (λ_=>true) true n 9 (([c0,c1].drop 0).take (prog.cellsOf 9))=some y0:=hf 0 _ rfl;rw[mW]at f0;simp only[List.drop,List.take]at f0;have f1:DataW.trod enc prog W 0 (λ_=>true) true n 9 (([c0,c1].drop 1).take (prog.cellsOf 9))=some y1:=hf 1 _ rfl;rw[mW]at f1;simp only[List.drop,List.take]at f1;obtain⟨s0,e0,rfl,hs0⟩:=tq underlying9 f0;obtain⟨s1,e1,rfl,hs1⟩:=tq underlying9 f1;simp at e0 e1;subst e0 e1;simp only[qO]at hx;obtain⟨rfl,_⟩:=hx;refine⟨⟨s0,s1⟩,_,NK,?_,hs0,hs1,hcell 0 (by decide),hcell 1 (by decide)⟩;simp only[dN,iK,Rows.uptoBulk,Rows.uptoBulkAll,mq];omega
 obtain⟨l,hll,hp⟩:=gW len each;refine⟨l,⟨a,b,off,cap,by rw[hv,<-hll],by rw[hll];exact ha,by rw[hll];exact hl,λi s hs=>?_⟩,?_⟩;·obtain⟨_,_,_,hh⟩:=hp i s hs;exact hh
 ·have hsum:=vH (f:=λs:Va=>s.name.size+s.level.size+3) (l:=l) (D:=D) (by rw[hll,hD]) (λi x d' h1 h2=>by obtain⟨d'',h3,h4,_⟩:=hp i x h1;rw[h2]at h3;cases h3;exact h4);unfold BX;omega
theorem NN{fuel:Nat}{v:Value}{y:DataW H × List MemPlace}(h:DataW.trod enc prog W 0 (λ_=>true) true fuel 24 [v]=some y):∃l,mP W fuel v l/\p8 fuel l<=Rows.uptoBulk y.1:=by
 obtain⟨a,b,off,len,cap,D,hv,ha,hl,hD,xM,hel⟩:=iH underlying24 Tz (by decide) h;have each:∀i,i<len->∃s:Fu,∃d',D[i]?=some d'/\s.name.size+2+gY s.params+bK fuel s.body+eu fuel s.result<=Rows.uptoBulk d'/\s.name.size<=maxLen/\∃vp vb e0 e1 e2 e3,W.cell? ⟨b,off+i*7,none⟩=some (.string s.name)/\W.cell? ⟨b,off+i*7+1,none⟩=some vp/\W.cell? ⟨b,off+i*7+2,none⟩=some vb/\W.cell? ⟨b,off+i*7+3,none⟩=some e0/\W.cell? ⟨b,off+i*7+4,none⟩=some e1/\W.cell? ⟨b,off+i*7+5,none⟩=some e2/\W.cell? ⟨b,off+i*7+6,none⟩=some e3/\Strs W vp s.params/\dW W fuel vb s.body/\gq W fuel e0 e1 e2 e3 s.result:=by intro i hi;obtain⟨n0,cs,d',pl',hn',hlen',hcell,lJ,NK⟩:=hel i hi;obtain⟨xs,n,hfn,hx,hlen,hxs,hf⟩:=vI underlying132 lJ;obtain⟨c0,c1,c2,c3,c4,c5,c6,rfl⟩:=list7 hlen';obtain⟨y0,y1,y2,y3,rfl⟩:=Jp (by simpa using hxs);have f0:DataW.trod enc prog W 0 (λ_=>true) true n 9 (([c0,c1,c2,c3,c4,c5,c6].drop 0).take (prog.cellsOf 9))=some y0:=hf 0 _ rfl;rw[mW]at f0;simp only[List.drop,List.take]at f0;have f1:DataW.trod enc prog W 0 (λ_=>true) true n 22 (([c0,c1,c2,c3,c4,c5,c6].drop 1).take (prog.cellsOf 22))=some y1:=hf 1 _ rfl;rw[wL]at f1;simp only[List.drop,List.take]at f1;have f2:DataW.trod enc prog W 0 (λ_=>true) true n 125 (([c0,c1,c2,c3,c4,c5,c6].drop 2).take (prog.cellsOf 125))=some y2:=hf 2 _ rfl;rw[FV]at f2;simp only[List.drop,List.take]at f2;have f3:DataW.trod enc prog W 0 (λ_=>true) true n 129 (([c0,c1,c2,c3,c4,c5,c6].drop 3).take (prog.cellsOf 129))=some y3:=hf 3 _ rfl;rw[EL]at f3;simp only[List.drop,List.take]at f3;obtain⟨s0,e0,rfl,hs0⟩:=tq underlying9 f0;simp at e0;subst e0;obtain⟨ps,hps,hwp⟩:=tu f1;obtain⟨lb,hlb,hwb⟩:=XB n f2;obtain⟨z0,z1,z2,z3,x,ez,hxe,hwe⟩:=TA n (d:=y3.1) (pl:=y3.2) f3;simp at ez;obtain⟨rfl,rfl,rfl,rfl⟩:=ez;simp only[qO]at hx;obtain⟨rfl,_⟩:=hx;refine⟨⟨s0,ps,lb,x⟩,_,NK,?_,hs0,_,_,_,_,_,_,hcell 0 (by decide),hcell 1 (by decide),hcell 2 (by decide),hcell 3 (by decide),hcell 4 (by decide),hcell 5 (by decide),hcell 6 (by decide),hps,hlb.mono fuel (by omega),hxe.mono fuel (by omega)⟩;rw[pI hxe fuel (by omega),oU hlb fuel (by omega)];simp only[dN,iK,Rows.uptoBulk,Rows.uptoBulkAll,mq];omega
 obtain⟨l,hll,hp⟩:=gW len each;refine⟨l,⟨a,b,off,cap,by rw[hv,<-hll],by rw[hll];exact ha,by rw[hll];exact hl,λi s hs=>?_⟩,?_⟩;·obtain⟨_,_,_,hh⟩:=hp i s hs;exact hh
 ·have hsum:=vH (f:=λs:Fu=>s.name.size+2+gY s.params+bK fuel s.body+eu fuel s.result) (l:=l) (D:=D) (by rw[hll,hD]) (λi x d' h1 h2=>by obtain⟨d'',h3,h4,_⟩:=hp i x h1;rw[h2]at h3;cases h3;exact h4);unfold p8;omega
theorem open_mo{b0:Nat}{v:Value}{d:DataW H}{p:List MemPlace}(hv:Value.okWide prog W .any b0 26 v)(h:DataW.Trod enc prog W 0 (λ_=>true) true 26 v d p):∃m x,jK W m v x/\uM m x<=Rows.uptoBulk d:=by obtain⟨c0,c1,c2,c3,y0,y1,y2,y3,m,rfl,rfl,_,f0,f1,f2,f3⟩:=open_agg4 underlying26 (by kernel_rfl) KF hv h;obtain⟨s0,e0,rfl,hs0⟩:=tq underlying9 f0;simp at e0;subst e0;obtain⟨im,him,hwi⟩:=tu f1;obtain⟨va,hva,hwv⟩:=NM f2;obtain⟨fu,hfu,hwf⟩:=NN f3;refine⟨m,⟨s0,im,va,fu⟩,⟨_,_,_,rfl,hs0,him,hva,hfu⟩,?_⟩;unfold uM;simp only[Rows.uptoBulk,Rows.uptoBulkAll,mq];omega
end
theorem mP.DK{w:World}{m k:Nat}{v:Value}{l:List Fu}(h:mP w m v l)(hk:m<=k):mP w k v l:=by obtain⟨a,b,off,cap,e,h0,hl,h1⟩:=h;refine⟨a,b,off,cap,e,h0,hl,λi s hs=>?_⟩;obtain⟨k1,vp,vb,e0,e1,e2,e3,g0,g1,g2,g3,g4,g5,g6,hp,hs',hx⟩:=h1 i s hs;exact⟨k1,vp,vb,e0,e1,e2,e3,g0,g1,g2,g3,g4,g5,g6,hp,hs'.mono k hk,hx.mono k hk⟩
theorem jK.DK{w:World}{m k:Nat}{v:Value}{x:Mo}(h:jK w m v x)(hk:m<=k):jK w k v x:=by obtain⟨vi,vv,vf,e,h0,h1,h2,h3⟩:=h;exact⟨vi,vv,vf,e,h0,h1,h2,h3.DK hk⟩
theorem kV.DK{w:World}{m k:Nat}{v:Value}{l:List Mo}(h:kV w m v l)(hk:m<=k):kV w k v l:=by obtain⟨a,b,off,cap,e,h0,hl,h1⟩:=h;refine⟨a,b,off,cap,e,h0,hl,λi x hx=>?_⟩;obtain⟨vi,vv,vf,g0,g1,g2,g3,hm⟩:=h1 i x hx;exact⟨vi,vv,vf,g0,g1,g2,g3,hm.DK hk⟩
theorem FW{w:World}{m k:Nat}{v:Value}{l:List Fu}(h:mP w m v l)(hk:m<=k):p8 k l=p8 m l:=by obtain⟨a,b,off,cap,e,h0,hl,h1⟩:=h;unfold p8;rw[qN (λi s hs=>by obtain⟨_,vp,vb,e0,e1,e2,e3,_,_,_,_,_,_,_,_,hs',hx⟩:=h1 i s hs;rw[pI hx k hk,oU hs' k hk])]
theorem BZ{w:World}{m k:Nat}{v:Value}{x:Mo}(h:jK w m v x)(hk:m<=k):uM k x=uM m x:=by obtain⟨vi,vv,vf,e,h0,h1,h2,h3⟩:=h;unfold uM;rw[FW h3 hk]
theorem QE{w:World}{m k:Nat}{v:Value}{l:List Mo}(h:kV w m v l)(hk:m<=k):∀y∈l,uM k y=uM m y:=λy hy=>by obtain⟨a,b,off,cap,e,h0,hl,h1⟩:=h;obtain⟨i,hi,rfl⟩:=eX.1 hy;obtain⟨vi,vv,vf,g0,g1,g2,g3,hm⟩:=h1 i _ (aU hi);exact BZ hm hk
section
variable {H : Type} {enc : TypeId × Value → H} {W : World}
theorem NP{d:DataW H}:∀{D:List (DataW H)} {i:Nat},D[i]?=some d->Rows.uptoBulk d<=Rows.uptoBulkAll D
 | [],i,h=>by simp at h
 | e::D,0,h=>by simp at h;subst h;simp only[Rows.uptoBulkAll];omega
 | e::D,i+1,h=>by have:=NP (D:=D) (i:=i) (by simpa using h);simp only[Rows.uptoBulkAll];omega
theorem XC{fuel:Nat}{cs:List Value}{d:DataW H}{pl:List MemPlace}(hl4:cs.length=4)(h:DataW.trod enc prog W 0 (λ_=>true) true fuel 26 cs=some (d,pl)):∃x vi vv vf,cs=[.string x.name,vi,vv,vf]/\jK W fuel (.agg #[.string x.name,vi,vv,vf]) x/\uM fuel x<=Rows.uptoBulk d:=by obtain⟨xs,n,hfn,hx,hlen,hxs,hf⟩:=vI underlying26 h;obtain⟨c0,c1,c2,c3,rfl⟩:=Jp hl4;obtain⟨y0,y1,y2,y3,rfl⟩:=Jp (by simpa using hxs);have f0:DataW.trod enc prog W 0 (λ_=>true) true n 9 (([c0,c1,c2,c3].drop 0).take (prog.cellsOf 9))=some y0:=hf 0 _ rfl;rw[mW]at f0;simp only[List.drop,List.take]at f0;have f1:DataW.trod enc prog W 0 (λ_=>true) true n 22 (([c0,c1,c2,c3].drop 1).take (prog.cellsOf 22))=some y1:=hf 1 _ rfl;rw[wL]at f1;simp only[List.drop,List.take]at f1;have f2:DataW.trod enc prog W 0 (λ_=>true) true n 23 (([c0,c1,c2,c3].drop 2).take (prog.cellsOf 23))=some y2:=hf 2 _ rfl;rw[Xz]at f2;simp only[List.drop,List.take]at f2;have f3:DataW.trod enc prog W 0 (λ_=>true) true n 24 (([c0,c1,c2,c3].drop 3).take (prog.cellsOf 24))=some y3:=hf 3 _ rfl;rw[XA]at f3;simp only[List.drop,List.take]at f3;obtain⟨s0,e0,rfl,hs0⟩:=tq underlying9 f0;simp at e0;subst e0;obtain⟨im,him,hwi⟩:=tu f1;obtain⟨va,hva,hwv⟩:=NM f2;obtain⟨fu,hfu,hwf⟩:=NN f3;simp only[qO]at hx;obtain⟨rfl,_⟩:=hx;refine⟨⟨s0,im,va,fu⟩,_,_,_,rfl,⟨_,_,_,rfl,hs0,him,hva,hfu.DK (by omega)⟩,?_⟩;unfold uM;rw[FW hfu (k:=fuel) (by omega)];simp only[dN,iK,Rows.uptoBulk,Rows.uptoBulkAll,mq];omega
theorem XD{b0:Nat}{v:Value}{d:DataW H}{p:List MemPlace}(hv:Value.okWide prog W .any b0 35 v)(h:DataW.Trod enc prog W 0 (λ_=>true) true 35 v d p):∃m l,kV W m v l/\∀y∈l,uM m y<=Rows.uptoBulk d:=by
 obtain⟨a0,l0,c0,rfl⟩:=okWide_slice underlying35 hv;obtain⟨fuel,hf⟩:=h;have hf':DataW.trod enc prog W 0 (λ_=>true) true fuel 35 [.slice a0 l0 c0]=some (d,p):=hf;obtain⟨a,b,off,len,cap,D,hv',ha,hl,hD,xM,hel⟩:=iH underlying35 KF (by decide) hf';have each:∀i,i<len->∃x:Mo,∃d',D[i]?=some d'/\uM fuel x<=Rows.uptoBulk d'/\∃vi vv vf,W.cell? ⟨b,off+i*4,none⟩=some (.string x.name)/\W.cell? ⟨b,off+i*4+1,none⟩=some vi/\W.cell? ⟨b,off+i*4+2,none⟩=some vv/\W.cell? ⟨b,off+i*4+3,none⟩=some vf/\jK W fuel (.agg #[.string x.name,vi,vv,vf]) x:=by intro i hi;obtain⟨n',cs,d',pl',hn',hlen',hcell,lJ,NK⟩:=hel i hi;obtain⟨x,vi,vv,vf,rfl,hx',hw⟩:=XC hlen' lJ;refine⟨x,d',NK,by rw[BZ hx' (k:=fuel) (by omega)];exact hw,vi,vv,vf,hcell 0 (by decide),hcell 1 (by decide),hcell 2 (by decide),hcell 3 (by decide),hx'.DK (by omega)⟩
 obtain⟨l,hll,hp⟩:=gW len each;refine⟨fuel,l,⟨a,b,off,cap,by rw[hv',<-hll],by rw[hll];exact ha,by rw[hll];exact hl,λi s hs=>?_⟩,λy hy=>?_⟩;·obtain⟨_,_,_,hh⟩:=hp i s hs;exact hh
 ·obtain⟨i,hi,rfl⟩:=eX.1 hy;obtain⟨d',h1,h2,_⟩:=hp i _ (aU hi);have h3:Rows.uptoBulk d'<=Rows.uptoBulkAll D:=NP h1;have h4:Rows.uptoBulkAll D+1<=Rows.uptoBulk d:=xM;omega
end
def gn(w:World)(n:Nat)(os:Array Obj):World:={ w with heap:=w.heap++os,drawn:=n }
theorem aS(w:World)(n:Nat)(os:Array Obj):Below w.heap.size w (gn w n os):=
 ⟨rfl,rfl,rfl,by simp[gn],λk hk=>by simp[gn,Array.getElem?_append,hk]⟩
theorem NQ{w w':World}(h:Below w.heap.size w w'):∃p:GrownBy,w'=gn w p.n p.os:=by
 refine⟨⟨w'.drawn,w'.heap.extract w.heap.size w'.heap.size⟩,?_⟩;have hh:w'.heap=w.heap++w'.heap.extract w.heap.size w'.heap.size:=by
  have hs:=h.size;apply Array.ext_getElem?;intro i;rw[Array.getElem?_append];split;·rename_i hi;exact h.block i hi
  ·rename_i hi;rw[Array.getElem?_extract];split;·congr 1;omega
   ·rw[Jc];omega
 obtain⟨hp,tp,dr,os,ou⟩:=w';obtain⟨hp0,tp0,dr0,os0,ou0⟩:=w;have e1:=h.os;have e2:=h.tape;have e3:=h.output;simp only at e1 e2 e3 hh;subst e1 e2 e3;simp only[gn,World.mk.injEq,and_true];exact hh
theorem aO{P:Program}{id:Nat}{Q:Exit->Act->World->Prop}{a:Act}{w:World}{l:List Oper}(hm:P.follows .mixedOrders=true)(hB:Region.lexB .any l.toArray=true)
  (h:wpQuiet P l.toArray (λw'=>∃p:GrownBy,w'=gn w p.n p.os) (λa'=>∀w',(∃p:GrownBy,w'=gn w p.n p.os)->Q .normal a' w') l a):(Code.region id l.toArray true).wp P Q a w:=
 wp_region_quiet (C:=λw'=>∃p:GrownBy,w'=gn w p.n p.os) hm hB ⟨⟨w.drawn+1,#[]⟩,by simp[gn]⟩ (by simpa using h)
theorem aM{w:World}{a:Addr}{v:Value}(h:w.cell? a=some v)(n:Nat)(os:Array Obj):(gn w n os).cell? a=some v:=aA h (aS w n os)
theorem Calls.fJ{P:Program}{f:FuncId}{args:Array Value}{w:World}{n:Nat}{os:Array Obj}{v:Value}
  (h:Calls P f args (gn w n os) λe w'=>e=.returned v/\Below (gn w n os).heap.size (gn w n os) w'):Calls P f args (gn w n os) λe w''=>e=.returned v/\∃p:GrownBy,w''=gn w p.n p.os:=
 h.mono λ_ _ ⟨he,hb⟩=>⟨he,NQ (up (aS w n os) hb)⟩
open Go.Maps Go.WideMaps
namespace bC
def kM(ss:List ByteArray)(k:Nat):Bool:=!((ss.take k).any λt=>t.data.toList==(ss.getD k ByteArray.empty).data.toList)&&bL (ss.getD k ByteArray.empty).data.toList
def gZ(ss:List ByteArray):Bool:=(List.range ss.length).all (kM ss)&&decide (0<ss.length)
end bC
theorem lawS:Keyed prog 9:=string_keyed underlying9
theorem XF(w:World):(zeroValue 3).run prog w=.ok (.int .i64 0) w:=by kernel_rfl
theorem NR(ss:List ByteArray)(k:Nat)(hk:k<ss.length)(p:ByteArray->Bool):(ss.take (k+1)).any p=((ss.take k).any p||p (ss.getD k ByteArray.empty)):=by rw[lI hk,List.any_append];simp[List.getD,aU hk]
theorem XG{ss:List ByteArray}{k:Nat}(hk:k<ss.length){D:DataW Unit}(hm:IsMap D)(h:∀l,Maps.has D (.string l)=(ss.take k).any λt=>t.data.toList==l)(d:DataW Unit):∀l,Maps.has (D.put (.string (ss.getD k ByteArray.empty).data.toList) d) (.string l)=(ss.take (k+1)).any λt=>t.data.toList==l:=by
 intro l;rw[NR ss k hk];by_cases e:l=(ss.getD k ByteArray.empty).data.toList;·subst e;rw[has_put_same hm (by simp[WideAt.IsKeyLit])];simp
 ·rw[has_put_other (by intro h';exact e (by injection h')),h l];have e':((ss.getD k ByteArray.empty).data.toList==l)=false:=beq_eq_false_iff_ne.2 (λh'=>e h'.symm);rw[e',Bool.or_false]
theorem Jq{ss:List ByteArray}(h:∀s∈ss,s.size<=maxLen)(k:Nat):(ss.getD k ByteArray.empty).size<=maxLen:=by
 by_cases hk:k<ss.length;·rw[List.getD,aU hk];exact h _ (fI hk)
 ·rw[List.getD,List.getElem?_eq_none (by omega)];exact bJ _
theorem IE(w:World)(v:Value)(ss:List ByteArray)(hS:Strs w v ss):Calls prog 197 #[v] w λe w'=>e=.returned (.bool (gZ ss))/\Below w.heap.size w w':=by
 obtain⟨a,b,off,cap,rfl,ha,hl,hs,h1⟩:=hS;obtain⟨len,hlen⟩:=aG ss.length;rw[<-hlen]at ha hl h1 ⊢;have HL:Hid (len=ss.length):=hlen;clear hlen;have hmm:=@run_makeMap prog;go_enter func197,ntmps197;go_wp2;go_loopw[11] (λi wr=>∃k:Nat,k<=len/\i=.int .i64 k/\(∀d,d<k->kM ss d=true)/\Below w.heap.size w wr/\∃D:DataW Unit,wr.ownsMap prog 9 (plainElem prog 3) w.heap.size k D/\∀l,Maps.has D (.string l)=(ss.take k).any λt=>t.data.toList==l) (λi _=>len - (intOf i).toNat);case atStart=>exact⟨0,bJ _,rfl,λd hd=>absurd hd (dY _),(aX _ _).alloc (bM _) _,.map [],World.ownsMap_made _ _ _ _,λl=>rfl⟩
 case round=>
  obtain⟨k,hk,rfl,hall,hnx,D,hown,hhas⟩:=hrel;have HA:Hid (∀d,d<k->kM ss d=true):=hall;have HH:Hid (∀l,Maps.has D (.string l)=(ss.take k).any λt=>t.data.toList==l):=hhas;clear hall hhas hmm;by_cases hlt:k<len
  ·obtain rfl:=ha (by omega);obtain⟨s,hsk⟩:=aG (ss.getD k ByteArray.empty);have hcx:wr.cell? ⟨b,off+k,none⟩=some (.string s):=by rw[hsk];rw[hnx.cell (gT _ _ (h1 k hlt))];exact h1 k hlt
   have hsz:s.size<=maxLen:=by rw[hsk];exact Jq hs k
   have hkey:keyOf prog 9 (.string s)=some (.string s.data.toList):=keyOf_string_mk underlying9 hsz;have HK:Hid (s=ss.getD k ByteArray.empty):=hsk;have hbad:Maps.has D (.string s.data.toList)=true\/bL s.data.toList=false->gZ ss=false:=by
    intro h;have:kM ss k=false:=by unfold kM;rw[<-HK,<-HH];rcases h with h|h<;>simp[h]
    unfold gZ;rw[bC.all_false (by rw[<-HL];exact hlt) this];rfl
   have HB:=hide hbad;clear hsk h1 hs hbad;cases hh:Maps.has D (.string s.data.toList)
   ·cases hnm:bL s.data.toList
    ·go_wp2_with (first
      | (at_lookup;refine wpList_lookup_own_ok_int _ rfl _ _ 209 rfl 9 3 .i64 lawS underlying209 underlying3 (XF _) w.heap.size k D rfl hown _ _ rfl hkey ?_;intro c _ _)
      | (go_at_call 136;refine(DF _ s hsz).mono ?_;rintro e w' ⟨rfl,rfl⟩)
      | go_in)
     go_ret;exact⟨aH ((fC HB) (Or.inr hnm)).symm,hnx⟩
    ·go_wp2_with (first
      | (at_lookup;refine wpList_lookup_own_ok_int _ rfl _ _ 209 rfl 9 3 .i64 lawS underlying209 underlying3 (XF _) w.heap.size k D rfl hown _ _ rfl hkey ?_;intro c _ _)
      | (go_at_call 136;refine(DF _ s hsz).mono ?_;rintro e w' ⟨rfl,rfl⟩)
      | (at_mapUpdate;refine wpList_mapUpdate_own _ rfl _ _ _ 209 rfl 9 3 lawS underlying209 _ w.heap.size k _ rfl hown (by unfold maxLen;omega) _ _ _ rfl rfl hkey _ [] (plainElem_int underlying3 (WalkArith.wf_i64 (by omega))) ?_)
      | go_in)
     intro w1 hown1 hgrow1;have R2:=hnx.grown hgrow1 hnx.size (λj hj=>by cases hj;exact bM _);have hn1:kM ss k=true:=by unfold kM;rw[<-HK,<-HH,hh,hnm];rfl
     have hn2:=XG (k:=k) (by rw[<-HL];exact hlt) hown.isMap HH (.lit (.int .i64 k));rw[<-HK]at hn2;have H2:=hide hn2;have H1:=hide hn1;clear hgrow1 hown hcx hn1 hn2 hh;go_wp2;go_roundw;case rel=>exact⟨k+1,by omega,by go_num,λd hd=>by
      by_cases e:d=k;·subst e;exact fC H1
      ·exact HA d (by omega),R2,_,hown1,fC H2⟩
     case measure=>simp[intOf];omega
   ·go_wp2_with (first
     | (at_lookup;refine wpList_lookup_own_ok_int _ rfl _ _ 209 rfl 9 3 .i64 lawS underlying209 underlying3 (XF _) w.heap.size k D rfl hown _ _ rfl hkey ?_;intro c _ _)
     | go_in)
    go_ret;exact⟨aH ((fC HB) (Or.inl hh)).symm,hnx⟩
  ·go_wp2;go_ret;refine⟨aH ?_,hnx⟩;unfold gZ;rw[bC.all_true (λd hd=>HA d (by have:=HL.out;omega)),<-HL];simp
theorem NS:(prog.info? 4).map (λi=>(i.zero,i.size,i.bytes))=some (some (.bool false),1,1):=by kernel_rfl
theorem TB:(prog.info? 200).map (λi=>(i.zero,i.size,i.bytes))=some (some (.slice none 0 0),1,24):=by kernel_rfl
def top(N n:Nat)(r:Nat):Nat->Value:=λj=>if j<r then .slice (some ⟨N+1+j,0,none⟩) n n else .slice none 0 0
structure NT(w wr:World)(n r:Nat)(Z:Nat->Nat->Bool):Prop where
 since:Below w.heap.size w wr
 size:wr.heap.size=w.heap.size+1+r
 top:wr.rowIs w.heap.size 200 n (top w.heap.size n r)
 done:∀j,j<r->wr.rowIs (w.heap.size+1+j) 4 n (λc=>.bool (Z j c))
structure Inner(w wi:World)(n r c:Nat)(Z:Nat->Nat->Bool):Prop where
 since:Below w.heap.size w wi
 size:wi.heap.size=w.heap.size+1+r+1
 top:wi.rowIs w.heap.size 200 n (top w.heap.size n (r+1))
 done:∀j,j<r->wi.rowIs (w.heap.size+1+j) 4 n (λc=>.bool (Z j c))
 cur:wi.rowIs (w.heap.size+1+r) 4 n (λi=>if i<c then .bool (Z r i)else .bool false)
theorem NU(w:World)(n:Nat)(Z:Nat->Nat->Bool):NT w (w.alloc (.cells (madeCells #[.slice none 0 0] n) 200)) n 0 Z:=
 ⟨(aX _ _).alloc (bM _) _,by simp,(World.rowIs_made w _ n 200).congr (λj _=>by simp[top]),λj hj=>absurd hj (dY _)⟩
theorem NV{w wr:World}{n r:Nat}{Z:Nat->Nat->Bool}(h:NT w wr n r Z):Inner w ((wr.alloc (.cells (madeCells #[.bool false] n) 4)).setCell ⟨w.heap.size,r,none⟩ (.slice (some ⟨w.heap.size+1+r,0,none⟩) n n)) n r 0 Z:=by
 have hnew:=World.rowIs_made wr (.bool false) n 4;rw[h.size]at hnew;refine⟨(h.since.alloc (by rw[h.size];omega) _).setCell (bM _) _,by simp[h.size],((h.top.alloc _).set r _).congr (λj _=>?_),λj hj=>((h.done j hj).alloc _).setOther (by show w.heap.size+1+j≠w.heap.size;omega) _,(hnew.setOther (by show w.heap.size+1+r≠w.heap.size;omega) _).congr (λi _=>by simp)⟩;simp only[top];by_cases e:j=r;·subst e;simp
 ·rw[if_neg e];by_cases hlt:j<r;·rw[if_pos hlt,if_pos (by omega)]
  ·rw[if_neg hlt,if_neg (by omega)]
theorem QF{w wi:World}{n r c:Nat}{Z:Nat->Nat->Bool}(h:Inner w wi n r c Z){b:Bool}(hb:b=Z r c):Inner w (wi.setCell ⟨w.heap.size+1+r,c,none⟩ (.bool b)).drew n r (c+1) Z:=by
 subst hb
 refine⟨(h.since.setCell (by show w.heap.size<=w.heap.size+1+r;omega) _).drew,by simp[h.size],(h.top.setOther (by show w.heap.size≠w.heap.size+1+r;omega) _).drew,
  λj hj=>((h.done j hj).setOther (by show w.heap.size+1+j≠w.heap.size+1+r;omega) _).drew,((h.cur.set c _).congr (λi _=>?_)).drew⟩
 by_cases e:i=c;·subst e;simp
 ·rw[if_neg e];by_cases hlt:i<c;·rw[if_pos hlt,if_pos (by omega)]
  ·rw[if_neg hlt,if_neg (by omega)]
theorem QG{w wi:World}{n r:Nat}{Z:Nat->Nat->Bool}(h:Inner w wi n r n Z):NT w wi n (r+1) Z:=
 ⟨h.since,by rw[h.size];omega,h.top,λj hj=>by
  by_cases e:j=r;·subst e;exact h.cur.congr (λi hi=>by rw[if_pos hi])
  ·exact h.done j (by omega)⟩
theorem QH{w w':World}{n:Nat}{Z:Nat->Nat->Bool}(h:NT w w' n n Z):mO w' (.slice (some ⟨w.heap.size,0,none⟩) n n) n Z:=
 ⟨w.heap.size,0,n,λj=>w.heap.size+1+j,λ_=>0,λ_=>n,rfl,
  λr hr=>by rw[fT,h.top.cell hr];simp[top,hr],
  λr c hr hc=>by rw[fT];exact(h.done r hr).cell hc⟩
theorem FX(w:World)(v:Value)(n:Nat)(Z:Nat->Nat->Bool)(hG:mO w v n Z)(hn:n<=6):Calls prog 201 #[v] w λe w'=>∃v',e=.returned v'/\mO w' v' n (bC.tr Z)/\Below w.heap.size w w':=by
 obtain⟨gb,go,gc,RB,RO,C,rfl,hrow,hcell⟩:=hG;have hmk22:=run_make_row' (P:=prog) 32 200 (.slice none 0 0) 24 underlying32 TB rfl .i64 .i64 n (by omega) (by omega);go_enter func201,ntmps201;go_wp2;clear hmk22;go_loopg [11] n (λg i wr=>∃r:Nat,r<=n/\g=n - r/\i=.int .i64 r/\NT w wr n r (bC.tr Z));case atStart=>exact⟨0,bJ _,rfl,rfl,NU w n _⟩
 case round=>
  obtain⟨r,hr,rfl,rfl,hO⟩:=hrel;by_cases hrG:r<n
  ·have hrz:(r:Int)<(n:Int):=by omega
   have hsize:=hO.size;have hmk23:=run_make_row' (P:=prog) 200 4 (.bool false) 1 underlying200 NS rfl .i64 .i64 n (by omega) (by omega);have hst1:∀o,(wr.alloc o).cell? ⟨w.heap.size,r,none⟩=some (top w.heap.size n r r):=λo=>(hO.top.alloc o).cell hrG;have hst2:∀o,(wr.alloc o).frozen? ⟨w.heap.size,r,none⟩=false:=λo=>(hO.top.alloc o).frozen r;go_wp2;have hI0:=NV hO;clear hmk23 hst1 hst2 hsize hO;go_loopg [25] n (λg i wi=>∃c:Nat,c<=n/\g=n - c/\i=.int .i64 c/\Inner w wi n r c (bC.tr Z));case atStart=>exact⟨0,bJ _,rfl,rfl,hI0⟩
   case round=>
    obtain⟨c,hc,rfl,rfl,hI⟩:=hrel;clear hI0;by_cases hcL:c<n
    ·have hcz:(c:Int)<(n:Int):=by omega
     have t1:wr.cell? ⟨w.heap.size,r,none⟩=some (.slice (some ⟨w.heap.size+1+r,0,none⟩) n n):=by simpa[top]using hI.top.cell hrG
     have t2:wr.cell? ⟨gb,go+c,none⟩=some (.slice (some ⟨RB c,RO c,none⟩) n (C c)):=by rw[hI.since.cell (gT _ _ (hrow c hcL))];exact hrow c hcL
     have t3:wr.cell? ⟨RB c,RO c+r,none⟩=some (.bool (Z c r)):=by rw[hI.since.cell (gT _ _ (hcell c r hcL hrG))];exact hcell c r hcL hrG
     have t4:wr.cell? ⟨w.heap.size+1+r,c,none⟩=some (.bool false):=by simpa using hI.cur.cell hcL
     have t5:wr.frozen? ⟨w.heap.size+1+r,c,none⟩=false:=hI.cur.frozen c;clear hrow hcell;go_wp2_with fail;go_big_region;go_wp2;go_roundg (n - (c+1));case measure=>go_light;omega
     case rel=>go_light;exact⟨c+1,by omega,rfl,by simp,QF hI rfl⟩
    ·obtain rfl:c=n:=by omega
     have hcz:¬((c:Int)<(c:Int)):=by omega
     go_wp2;go_roundg (c - (r+1));case measure=>go_light;omega
     case rel=>go_light;exact⟨r+1,by omega,rfl,by simp,QG hI⟩
  ·have hrz:¬((r:Int)<(n:Int)):=by omega
   go_wp2;go_ret;obtain rfl:r=n:=by omega
   exact⟨_,rfl,QH hO,hO.since⟩
namespace bC
def dD(ss:List ByteArray)(G:Nat)(L:Nat->Nat)(Z:Nat->Nat->Bool):Int:=
 if gZ ss=false then 1 else if 6<ss.length then 2 else if fG G L ss.length=false then 5 else if o7 Z ss.length=false then 5
 else if jJ Z ss.length=false then 5 else if jJ (tr Z) ss.length=false then 5 else 0
end bC
theorem zT{w:World}{v:Value}{G n:Nat}{L:Nat->Nat}{Z:Nat->Nat->Bool}(h:Qb w v G L Z)(hn:0<n)(hs:fG G L n=true):mO w v n Z:=by
 unfold fG at hs;obtain⟨h1,h2⟩:=DC.1 hs;have e:G=n:=by simpa using h1
 subst e;exact h.grid hn (λr hr=>by simpa[mJ]using jU h2 hr)
theorem U1{ss:List ByteArray}(h:gZ ss=true):0<ss.length:=by unfold gZ at h;simpa using(DC.1 h).2
theorem Jr(w:World)(vn vl:Value)(ss:List ByteArray)(G:Nat)(L:Nat->Nat)(Z:Nat->Nat->Bool)(hS:Strs w vn ss)(hR:Qb w vl G L Z):Calls prog 114 #[.agg #[vn,vl]] w λe w'=>e=.returned (.int .i64 (dD ss G L Z))/\Below w.heap.size w w':=by
 have HS:=hide hS;have HR:=hide hR;obtain⟨a,b,off,cap,rfl,ha,hl,hs,h1⟩:=hS;clear ha hs h1 hR;obtain⟨n,hlen⟩:=aG ss.length
 have HE:Hid (dD ss G L Z=if gZ ss=false then 1 else if 6<n then 2 else if fG G L n=false then 5 else if o7 Z n=false then 5
  else if jJ Z n=false then 5 else if jJ (bC.tr Z) n=false then 5 else 0):=by rw[hlen];rfl
 have HP:Hid (gZ ss=true->0<n):=by rw[hlen];exact U1
 rw[<-hlen]at hl HS ⊢;clear hlen;go_enter func114,ntmps114;go_wp2_with fail;refine(IE _ _ ss (HS.below ((aX _ _).alloc (bM _) _))).mono ?_;rintro e w1 ⟨rfl,hb1⟩;have q0:=aA (zJ w (.slice a n cap) vl 34) hb1;have q1:=aA (mQ w (.slice a n cap) vl 34) hb1;have HB:=hide (Qc hb1);clear hb1;cases zn:gZ ss;·go_wp2;go_ret;exact⟨bA (by rw[HE,if_pos zn]),HB⟩
 ·have hpos:=HP zn;by_cases h6:6<n;·go_wp2;go_ret;exact⟨bA (by rw[HE,zn,if_neg (by simp),if_pos h6]),HB⟩
  ·have HR1:=hide (HR.below HB);go_wp2_with fail;refine(Ky w1 vl G n L Z HR1 (by omega)).mono ?_;rintro e w' ⟨rfl,hw⟩;subst hw;cases zs:fG G L n;·go_wp2;go_ret;exact⟨bA (by rw[HE,zn,if_neg (by simp),if_neg h6,if_pos zs]),HB⟩
   ·have HG:=hide (zT HR1 hpos zs);go_wp2_with fail;refine(Nw w' vl n Z HG (by omega)).mono ?_;rintro e w'' ⟨rfl,hw⟩;subst hw;cases zo:o7 Z n;·go_wp2;go_ret;exact⟨bA (by rw[HE,zn,if_neg (by simp),if_neg h6,zs,if_neg (by simp),if_pos zo]),HB⟩
    ·go_wp2_with fail;refine(zQ w'' vl n Z HG (by omega)).mono ?_;rintro e w3 ⟨rfl,hw⟩;subst hw;cases zj:jJ Z n;·go_wp2;go_ret;exact⟨bA (by rw[HE,zn,if_neg (by simp),if_neg h6,zs,if_neg (by simp),zo,if_neg (by simp),if_pos zj]),HB⟩
     ·go_wp2_with fail;refine(FX w3 vl n Z HG (by omega)).mono ?_;rintro e w4 ⟨v',rfl,hG4,hb4⟩;have HG4:=hide hG4;have qY:=hide (up HB hb4);clear hG4 hb4;go_wp2_with fail;refine(zQ w4 v' n (bC.tr Z) HG4 (by omega)).mono ?_;rintro e w5 ⟨rfl,hw⟩;subst hw;cases zt:jJ (bC.tr Z) n;·go_wp2;go_ret;exact⟨bA (by rw[HE,zn,if_neg (by simp),if_neg h6,zs,if_neg (by simp),zo,if_neg (by simp),zj,if_neg (by simp),if_pos zt]),qY⟩
      ·go_wp2;go_ret;exact⟨bA (by rw[HE,zn,if_neg (by simp),if_neg h6,zs,if_neg (by simp),zo,if_neg (by simp),zj,if_neg (by simp),zt,if_neg (by simp)]),qY⟩
def Tab(w:World):Prop:=Lib.TabIs prog w "internal/strconv.uint64pow10" .u64 Lib.pow10Tab
theorem XJ:(prog.globalNamed "internal/strconv.uint64pow10").isSome=true:=by kernel_rfl
theorem Tab.below{w w':World}(h:Tab w)(hb:Below w.heap.size w w'):Tab w':=by obtain⟨g,hg⟩:=Kw.1 XJ;exact Joins.tab_stays hg h hb (bM _)
theorem XK(w:World)(n:Int)(hn:Qr n)(ht:Tab w):Calls prog 288 #[.int .i64 n] w λe w'=>e=.returned (.string ⟨(Lib.itoa n).toArray⟩)/\Below w.heap.size w w':=by refine(Tryz.strconv_Itoa n hn.1 hn.2 w ht).mono ?_;rintro e w' ⟨rfl,k,os,rfl⟩;exact⟨rfl,Lib.below_grow _ _ (bM _) _ _⟩
namespace bC
def jc(t:Ex->ByteArray)(acc:ByteArray)(y:Ex):ByteArray:=acc++((⟨#[32]⟩:ByteArray)++t y)
def nI(x:Ex):ByteArray:=(if x.kind=4 then (⟨#[40,99,97,108,108,32]⟩:ByteArray)else ⟨#[40]⟩)++x.name
def jI:Nat->Ex->ByteArray
 | 0,_=>⟨#[]⟩
 | m+1,x=>if x.kind=1 then ⟨(Lib.itoa x.n).toArray⟩else if x.kind=2 then x.name else x.args.foldl (jc (jI m)) (nI x)++(⟨#[41]⟩:ByteArray)
end bC
theorem tC{t:Ex->ByteArray}:∀(l:List Ex) (acc:ByteArray),(l.foldl (jc t) acc).size=acc.size+(l.map λy=>(t y).size+1).sum
 | [],acc=>by simp
 | y::l,acc=>by
  rw[pG,tC l];have e:(jc t acc y).size=acc.size+(1+(t y).size):=by unfold jc;rw[ko,ko];rfl
  rw[e,dN,jE];omega
theorem rG{f g:Ex->Nat}:∀{l:List Ex},(∀(i:Nat) (x:Ex),l[i]?=some x->f x<=g x)->(l.map f).sum<=(l.map g).sum
 | [],_=>bM _
 | x::l,h=>by have h0:=h 0 x rfl;have h1:=rG (l:=l) (λi y hy=>h (i+1) y (by simpa using hy));simp only[dN,jE];omega
theorem TD(k:Nat)(f:Ex->Nat):∀l:List Ex,(l.map λx=>k*f x).sum=k*(l.map f).sum
 | []=>rfl
 | x::l=>by simp only[dN,jE,TD k f l,Nat.mul_add]
theorem mX{w:World}:∀{m:Nat} {c0 c1 c2 c3:Value} {x:Ex},gq w m c0 c1 c2 c3 x->(jI m x).size+1<=6*eu m x
 | 0,_,_,_,_,_,h=>False.elim h
 | m+1,c0,c1,c2,c3,x,h=>by
  obtain⟨_,_,_,_,_,hn,a,b,off,cap,_,_,_,h9⟩:=h;have hs:(x.args.map λy=>(jI m y).size+1).sum<=6*(x.args.map (eu m)).sum:=by rw[<-TD];exact rG (λi y hy=>by obtain⟨e0,e1,e2,e3,_,_,_,_,hx⟩:=h9 i y hy;exact mX hx)
  have hh:(nI x).size<=x.name.size+6:=by
   unfold nI;rw[ko];split;·show 6+_<=_;omega
   ·show 1+_<=_;omega
  simp only[jI,eu];split;·have:=Lib.itoa_length_le x.n hn.1 hn.2;show(Lib.itoa x.n).toArray.size+1<=_;rw[List.size_toArray];omega
  ·split;·omega
   ·rw[ko,tC];show _+1+1<=_;omega
theorem zU{a b:ByteArray}(h:a=b):Ending.returned (.string a)=.returned (.string b):=by rw[h]
theorem iE{a b:ByteArray}(h:a=b):Value.string a=.string b:=by rw[h]
theorem jd{α:Type}{f:α->Nat}{y:α}:∀{l:List α},y∈l->f y<=(l.map f).sum
 | x::l,h=>by
  simp only[dN,jE];rcases eY.1 h with rfl|h;·omega
  ·have:=jd (f:=f) h;omega
theorem U2{t:Ex->ByteArray}{l:List Ex}{j:Nat}{y:Ex}(h:l[j]?=some y)(acc:ByteArray):(l.take (j+1)).foldl (jc t) acc=jc t ((l.take j).foldl (jc t) acc) y:=by obtain⟨hj,rfl⟩:=dG.1 h;rw[lI hj,KG];rfl
theorem FY{t:Ex->ByteArray}(l:List Ex)(j:Nat)(acc:ByteArray):((l.take j).foldl (jc t) acc).size<=(l.foldl (jc t) acc).size:=by
 rw[tC,tC];have:((l.take j).map λy=>(t y).size+1).sum<=(l.map λy=>(t y).size+1).sum:=by
  conv=>rhs;rw[<-kW j l]
  rw[cZ,nT];omega
 omega
theorem oq(m:Nat):∀(w:World) (c0 c1 c2 c3:Value) (x:Ex),gq w m c0 c1 c2 c3 x->eu m x<=1048576->Tab w->Calls prog 223 #[.agg #[c0,c1,c2,c3]] w λe w'=>e=.returned (.string (jI m x))/\Below w.heap.size w w':=by
 induction m with
 | zero=>intro w c0 c1 c2 c3 x h;exact False.elim h
 | succ m ih=>
  intro w c0 c1 c2 c3 x h hw ht;have HI:=hide ih;clear ih;have hsize:=mX h;obtain⟨rfl,rfl,rfl,hsz,hk1,hk2,a,b,off,cap,rfl,ha,hl,hel⟩:=h;obtain⟨k,n,s,args⟩:=x;simp only at hsz hk1 hk2 ha hl hel ⊢;have gF:=hide hel;have HA:=hide ha;have HT:=hide (ht.below (aB w (.cells #[.int .i64 k,.int .i64 n,.string s,.slice a args.length cap] 129)));have hsn:s.size<=1048576:=by simp only[eu]at hw;omega
  have HW:Hid (∀(i:Nat) (y:Ex),args[i]?=some y->eu m y<=1048576):=hide (λi y hy=>by have:eu m y<=(args.map (eu m)).sum:=jd (gD hy);simp only[eu]at hw;omega);clear hel ha ht;by_cases h1:k=1;·subst h1;go_enter func223,ntmps223;go_wp2_with fail;refine(XK _ n hk2 HT).mono ?_;rintro e w1 ⟨rfl,hb1⟩;have HB:=hide (Qc hb1);clear hb1;go_wp2_with fail;go_ret;exact⟨zU (by simp[jI]),HB⟩
  by_cases h2:k=2;·subst h2;go_enter func223,ntmps223;go_wp2_with fail;go_ret;exact⟨zU (by simp[jI]),aB _ _⟩
  have hk1':(k==1)=false:=by simp[h1]
  have hk2':(k==2)=false:=by simp[h2]
  have HE:Hid (jI (m+1) ⟨k,n,s,args⟩=args.foldl (jc (jI m)) (nI ⟨k,n,s,args⟩)++(⟨#[41]⟩:ByteArray)):=hide (by simp only[jI];rw[if_neg h1,if_neg h2]);have hfs:(args.foldl (jc (jI m)) (nI ⟨k,n,s,args⟩)).size<=6291456:=by rw[HE,ko]at hsize;have e:(⟨#[41]⟩:ByteArray).size=1:=rfl;omega
  have Qg:=hide hfs;have HHD:Hid (nI ⟨k,n,s,args⟩=(if k=4 then (⟨#[40,99,97,108,108,32]⟩:ByteArray)else ⟨#[40]⟩)++s):=rfl;generalize nI ⟨k,n,s,args⟩=hd at *;obtain⟨len,hlen⟩:=aG args.length;have HL:=hide hlen;rw[<-hlen]at hl HA HT ⊢;have q3:=kU w (.int .i64 k) (.int .i64 n) (.string s) (.slice a len cap) 129;have HB0:=hide (aB w (.cells #[.int .i64 k,.int .i64 n,.string s,.slice a len cap] 129));clear hlen hfs hsize hw h1 h2;cases hk4:(k==4);case' false=>rw[if_neg (by simpa using hk4)]at HHD
  case' true=>rw[if_pos (by simpa using hk4)]at HHD
  all_goals
   go_enter func223,ntmps223;go_wp2_with fail;rw[<-HHD];generalize (w.alloc (.cells #[.int .i64 k,.int .i64 n,.string s,.slice a len cap] 129))=W0 at *;go_loopw[3,4] (λo i wr=>∃j:Nat,j<=len/\i=.int .i64 j/\o=.string ((args.take j).foldl (jc (jI m)) hd)/\Below W0.heap.size W0 wr) (λ_ i _=>len - (intOf i).toNat);case atStart=>exact⟨0,bJ _,rfl,rfl,aX _ _⟩
   case round=>
    obtain⟨j,hj,rfl,rfl,hnx⟩:=hrel;have t3:=aA q3 hnx;have hacc:=bS (FY (t:=jI m) args j hd) Qg;by_cases hjl:j<len
    ·obtain⟨y,hy⟩:∃y,args[j]?=some y:=⟨_,aU (by rw[<-HL];exact hjl)⟩;obtain⟨e0,e1,e2,e3,g0,g1,g2,g3,hye⟩:=gF j y hy;obtain rfl:=HA (by omega);have hbb:=up HB0 hnx;have u0:=aA g0 hbb;have u1:=aA g1 hbb;have Qt:=aA g2 hbb;have Ed:=aA g3 hbb;have Ni:=hide (hye.below hbb);have hys:=mX hye;have M7:=HW j y hy;have hyt:(jI m y).size<=6291456:=by omega
     have HST:=hide (U2 (t:=jI m) hy hd);have bR:=hide hnx;clear g0 g1 g2 g3 hye hy hbb hnx hys;go_wp2_with fail;refine(HI _ e0 e1 e2 e3 y Ni M7 (HT.below bR)).mono ?_;rintro e w5 ⟨rfl,hb5⟩;have iL:=hide (up bR hb5);clear hb5 bR;generalize hty:jI m y=ty at *;have HTY:=hide hty;clear hty;generalize hac:(args.take j).foldl (jc (jI m)) hd=acc at *;have HAC:=hide hac;clear hac;go_wp2_with fail;go_roundw;case rel=>exact⟨j+1,by omega,by go_num,iE (by rw[HST];unfold jc;rw[HTY]),iL⟩
     case measure=>simp[intOf];omega
    ·go_wp2_with fail;go_ret;exact⟨zU (by rw[HE,eP (by have:=HL.out;omega)]),up HB0 hnx⟩
structure Ce where
 mod:ByteArray
 name:ByteArray
 val:Int
end Go.Proofs.YtfnboapebijcpaaGreatDoor
