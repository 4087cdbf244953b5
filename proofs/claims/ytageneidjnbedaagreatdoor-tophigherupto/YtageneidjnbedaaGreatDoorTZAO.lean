import Derived.Test.YtageneidjnbedaaGreatDoorTZI2
import Derived.Deep.RegionHeld3
set_option maxHeartbeats 0
set_option maxRecDepth 99999
namespace Go.Proofs.YtageneidjnbedaaGreatDoor
open bS
open Go.Proofs.Tryz
open Go.RowKit
namespace bS
def stT(a:Ex->aS)(bt:List St->aS)(s:St)(acc:aS):aS:=
 if s.kind=1 then acc++((⟨#[40,115,101,116,32]⟩:aS)++s.name++(⟨#[32]⟩:aS)++a s.e++(⟨#[41]⟩:aS))
 else if s.kind=4 then acc++((⟨#[40,112,114,105,110,116,32]⟩:aS)++s.name++(⟨#[32]⟩:aS)++a s.e++(⟨#[41]⟩:aS))
 else if s.kind=3 then acc++((⟨#[40,119,104,105,108,101,32]⟩:aS)++a s.e++(⟨#[32,40]⟩:aS)++bt s.a++(⟨#[41,41]⟩:aS))
 else if s.kind=2 then acc++((⟨#[40,105,102,32]⟩:aS)++a s.e++(⟨#[32,40]⟩:aS)++bt s.a++(⟨#[41,32,40]⟩:aS)++bt s.b++(⟨#[41,41]⟩:aS))
 else acc
def mK(a:Ex->aS)(bt:List St->aS)(l:List St):Nat->aS
 | 0=>⟨#[]⟩
 | j+1=>match l[j]? with
  | some s=>stT a bt s (if 0<j then mK a bt l j++(⟨#[32]⟩:aS)else mK a bt l j)
  | none=>mK a bt l j
def bdT:Nat->List St->aS
 | 0,_=>⟨#[]⟩
 | m+1,l=>mK (zT m) (bdT m) l l.length
end bS
variable{l:List St}{j m:Nat}{s:St}{w:bI}
theorem Fz{a:Ex->aS}{bt:List St->aS}(h:l[j]?=some s):bS.mK a bt l (j+1)=stT a bt s (if 0<j then bS.mK a bt l j++(⟨#[32]⟩:aS)else bS.mK a bt l j):=by simp only[bS.mK,h]
theorem axO(a:Ex->aS)(bt:List St->aS)(s:St)(acc:aS):acc.size<=(stT a bt s acc).size/\(stT a bt s acc).size<=acc.size+s.name.size+(a s.e).size+(bt s.a).size+(bt s.b).size+11:=by
 have b:(⟨#[40,115,101,116,32]⟩:aS).size=5:=rfl;have d:(⟨#[40,112,114,105,110,116,32]⟩:aS).size=7:=rfl;have e:(⟨#[40,119,104,105,108,101,32]⟩:aS).size=7:=rfl;have g:(⟨#[40,105,102,32]⟩:aS).size=4:=rfl;have h:(⟨#[32,40]⟩:aS).size=2:=rfl;have i:(⟨#[41,41]⟩:aS).size=2:=rfl;have k:(⟨#[41,32,40]⟩:aS).size=3:=rfl;have n:(⟨#[32]⟩:aS).size=1:=rfl;have p:(⟨#[41]⟩:aS).size=1:=rfl;unfold stT;repeat' split
 all_goals(try simp only[ZP,b,d,e,g,h,i,k,n,p])
 all_goals omega
def stW(m:Nat)(s:St):Nat:=s.name.size+3+jF m s.e+fA m s.a+fA m s.b
theorem Nk(m:Nat)(l:List St):fA (m+1) l=(l.map<|stW m).sum+1:=rfl
theorem axf{f:St->Nat}(h:l[j]?=some s):((l.take<|j+1).map f).sum=((l.take j).map f).sum+f s:=by obtain⟨a,rfl⟩:=cO.1 h;rw[uW a,gX,tH];simp
theorem axk(h:∀(i:Nat) (s:St),l[i]?=some s->(zT m s.e).size+1<=6*jF m s.e/\(bdT m s.a).size+1<=6*fA m s.a/\(bdT m s.b).size+1<=6*fA m s.b):
 ∀j,j<=l.length->(bS.mK (zT m) (bdT m) l j).size<=6*((l.take j).map (stW m)).sum
 | 0,_=>bN _
 | j+1,n=>by
  have q:=axk h j bC;obtain⟨s,a⟩:∃s,l[j]?=some s:=⟨_,aZ bC⟩;rw[Fz a,axf a];have g:=(axO (zT m) (bdT m) s<|if 0<j then bS.mK (zT m) (bdT m) l j++(⟨#[32]⟩:aS)else bS.mK (zT m) (bdT m) l j).2;have k:(if 0<j then bS.mK (zT m) (bdT m) l j++(⟨#[32]⟩:aS)else bS.mK (zT m) (bdT m) l j).size<=(bS.mK (zT m) (bdT m) l j).size+1:=by
   split;·rw[ZP];exact bG _
   ·omega
  obtain⟨b,d,e⟩:=h j s a;have p:stW m s=s.name.size+3+jF m s.e+fA m s.a+fA m s.b:=rfl;omega
theorem awk:∀{m:Nat} {v:aC} {l:List St},fH w m v l->(bdT m l).size+1<=6*fA m l
 | 0,_,_,h=>iU h
 | m+1,v,l,h=>by obtain⟨a,b,off,cap,_,_,_,d⟩:=h;have:=axk (m:=m) (l:=l) (λi s k=>by obtain⟨_,_,p,q,r,t,va,u,_,_,_,_,_,_,_,_,n,e,g⟩:=d i s k;exact⟨av5 n,awk e,awk g⟩) l.length (bG _);rw[jQ]at this;rw[Nk];simp only[bdT];omega
namespace bS
def Ru(acc s:ByteArray):ByteArray:=acc++((⟨#[32,40,105,109,112,111,114,116,32]⟩:ByteArray)++s++(⟨#[41]⟩:ByteArray))
def vaT(acc:ByteArray)(v:Va):ByteArray:=acc++((⟨#[32,40,118,97,114,32]⟩:ByteArray)++v.name++(⟨#[32]⟩:ByteArray)++v.level++(⟨#[41]⟩:ByteArray))
def GZ(l:List ByteArray)(acc:ByteArray):Nat->ByteArray
 | 0=>acc
 | j+1=>(if 0<j then GZ l acc j++(⟨#[32]⟩:ByteArray)else GZ l acc j)++l.getD j ByteArray.empty
def fuH(acc:ByteArray)(f:Fu):ByteArray:=acc++((⟨#[32,40,102,117,110,32]⟩:ByteArray)++f.name++(⟨#[32,40]⟩:ByteArray))
def fuP(acc:ByteArray)(f:Fu):ByteArray:=GZ f.params (fuH acc f) f.params.length++(⟨#[41]⟩:ByteArray)
def fuB(m:Nat)(acc:ByteArray)(f:Fu):ByteArray:=if 0<f.body.length then fuP acc f++((⟨#[32]⟩:ByteArray)++bdT m f.body)else fuP acc f
def fuT(m:Nat)(acc:ByteArray)(f:Fu):ByteArray:=fuB m acc f++((⟨#[32]⟩:ByteArray)++zT m f.result++(⟨#[41]⟩:ByteArray))
def moH(x:Mo):ByteArray:=(⟨#[40,109,111,100,117,108,101,32]⟩:ByteArray)++x.name
def moI(x:Mo):ByteArray:=x.imports.foldl Ru (moH x)
def moV(x:Mo):ByteArray:=x.vars.foldl vaT (moI x)
def moF(m:Nat)(x:Mo):ByteArray:=x.bq.foldl (fuT m) (moV x)
def moT(m:Nat)(x:Mo):ByteArray:=moF m x++(⟨#[41]⟩:ByteArray)
end bS
section
variable {α : Type} {f : ByteArray → α → ByteArray} {wt : α → Nat}
theorem ax6{l:List α}{j:Nat}{y:α}(h:l[j]?=some y)(acc:ByteArray):(l.take<|j+1).foldl f acc=f ((l.take j).foldl f acc) y:=by obtain⟨a,rfl⟩:=cO.1 h;rw[uW a,JX];rfl
theorem axl(l:List α)(j:Nat):((l.take j).map wt).sum<=(l.map wt).sum:=by
 conv=>rhs;rw[<-pK j l]
 rw[gX,tH];omega
theorem awX{l:List α}(h:∀(i:Nat) (y:α),l[i]?=some y->∀acc,(f acc y).size<=acc.size+12*wt y)(acc:ByteArray):
 ∀j,j<=l.length->((l.take j).foldl f acc).size<=acc.size+12*((l.take j).map wt).sum
 | 0,_=>by simp
 | j+1,g=>by
  have k:=awX h acc j bC;obtain⟨y,a⟩:∃y,l[j]?=some y:=⟨_,aZ bC⟩;rw[ax6 a];have d:=h j y a<|(l.take j).foldl f acc;have e:((l.take<|j+1).map wt).sum=((l.take j).map wt).sum+wt y:=by obtain⟨b,rfl⟩:=cO.1 a;rw[uW b,gX,tH];simp
  omega
theorem awK{l:List α}(h:∀(i:Nat) (y:α),l[i]?=some y->∀acc,(f acc y).size<=acc.size+12*wt y)(acc:ByteArray)(j:Nat)(a:j<=l.length):((l.take j).foldl f acc).size<=acc.size+12*(l.map wt).sum:=by have b:=awX h acc j a;have d:=axl (wt:=wt) l j;omega
end
theorem ayC(acc s:ByteArray):(Ru acc s).size<=acc.size+12*(s.size+1):=by unfold Ru;simp only[ZP];show acc.size+(9+s.size+1)<=_;omega
theorem ayU(acc:ByteArray)(s:Va):(vaT acc s).size<=acc.size+12*(s.name.size+s.level.size+3):=by unfold vaT;simp only[ZP];show acc.size+(6+s.name.size+1+s.level.size+1)<=_;omega
theorem awY(l:aJ)(acc:ByteArray):∀j,j<=l.length->(GZ l acc j).size<=acc.size+((l.take j).map λs=>s.size+1).sum
 | 0,_=>by simp[GZ]
 | j+1,d=>by
  have e:=awY l acc j bC;have b:((l.take<|j+1).map λs=>s.size+1).sum=((l.take j).map λs=>s.size+1).sum+((l.getD j ByteArray.empty).size+1):=by rw[uW bC,gX,tH];simp[show j<l.length by omega]
  have a:(⟨#[32]⟩:ByteArray).size=1:=rfl;simp only[GZ];split<;>simp only[ZP,a]<;>omega
theorem axn(l:aJ)(acc:ByteArray)(j:Nat)(a:j<=l.length):(GZ l acc j).size<=acc.size+(l.map λs=>s.size+1).sum:=by have b:=awY l acc j a;have d:=axl (wt:=λs:ByteArray=>s.size+1) l j;omega
def fuW(m:Nat)(s:Fu):Nat:=s.name.size+2+nJ s.params+fA m s.body+jF m s.result
theorem ahv(m:Nat)(l:List Fu):BK m l=(l.map<|fuW m).sum+1:=rfl
theorem ayV(acc:ByteArray)(f:Fu):(fuH acc f).size=acc.size+(f.name.size+8):=by unfold fuH;simp only[ZP];show acc.size+(6+f.name.size+2)=_;omega
theorem ayW(acc:ByteArray)(f:Fu):(fuP acc f).size<=acc.size+(f.name.size+8+nJ f.params):=by unfold fuP;have h:=axn f.params (fuH acc f) f.params.length<|bG _;rw[ayV]at h;rw[ZP];show _+1<=_;unfold nJ;omega
theorem axP{f:Fu}{i d a b e:aC}(g:fH w m i f.body)(h:iH w m d a b e f.result)(acc:ByteArray):(fuT m acc f).size<=acc.size+12*fuW m f:=by have k:=ayW acc f;obtain⟨n,p⟩:=eY (awk g)<|av5 h;have a:(⟨#[32]⟩:ByteArray).size=1:=rfl;have b:(⟨#[41]⟩:ByteArray).size=1:=rfl;unfold fuT fuB fuW;split<;>simp only[ZP,a,b]<;>omega
theorem ayX(x:Mo):(moH x).size=8+x.name.size:=by unfold moH;rw[ZP];rfl
theorem am6(w:bI)(c0 a b d:aC)(t:TypeId):(w.alloc<|.cells #[c0,a,b,d] t).cell? (aN w.heap.size 0)=some c0:=by simp[go_sem]
theorem am7(w:bI)(a c1 b d:aC)(t:TypeId):(w.alloc<|.cells #[a,c1,b,d] t).cell? (aN w.heap.size 1)=some c1:=by simp[go_sem]
theorem am8(w:bI)(a b c2 d:aC)(t:TypeId):(w.alloc<|.cells #[a,b,c2,d] t).cell? (aN w.heap.size 2)=some c2:=by simp[go_sem]
theorem am9(w:bI)(a b d c3:aC)(t:TypeId):(w.alloc<|.cells #[a,b,d,c3] t).cell? (aN w.heap.size 3)=some c3:=by simp[go_sem]
theorem V9(l:aJ)(acc:ByteArray)(j:Nat):GZ l acc (j+1)=(if 0<j then GZ l acc j++(⟨#[32]⟩:ByteArray)else GZ l acc j)++l.getD j ByteArray.empty:=rfl
