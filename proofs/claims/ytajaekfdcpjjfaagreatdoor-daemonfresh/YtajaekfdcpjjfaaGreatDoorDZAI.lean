import Derived.Test.YtajaekfdcpjjfaaGreatDoorRows
import Derived.Lib.SmallJoins
import Derived.Test.YtajaekfdcpjjfaaGreatDoorDZAG
import Derived.Test.YtajaekfdcpjjfaaGreatDoorDShelf
set_option maxHeartbeats 0
set_option maxRecDepth 99999
namespace Go.Proofs.YtajaekfdcpjjfaaGreatDoor
open bS
open Go.Proofs.Tryz
open Go.RowKit
variable{p:aS->Bool}{l:List Va}{d i k:Nat}{s:aS}
def jF:Nat->Ex->Nat
 | 0,_=>0
 | m+1,x=>x.name.size+4+(x.args.map (jF m)).sum
def fA:Nat->List St->Nat
 | 0,_=>0
 | m+1,l=>(l.map λs=>s.name.size+3+jF m s.e+fA m s.a+fA m s.b).sum+1
def nJ(l:List ByteArray):Nat:=(l.map λs=>s.size+1).sum+1
def VE(l:List Va):Nat:=(l.map λs=>s.name.size+s.level.size+3).sum+1
def BK(m:Nat)(l:List Fu):Nat:=(l.map λs=>s.name.size+2+nJ s.params+fA m s.body+jF m s.result).sum+1
def xH(m:Nat)(x:Mo):Nat:=x.name.size+2+nJ x.imports+VE x.vars+BK m x.bq
theorem uU{α β:Type}{f g:α->β}{l:List α}(a:∀(i:Nat) (x:α),l[i]?=some x->f x=g x):l.map f=l.map g:=Na λx c=>by obtain⟨i,b,rfl⟩:=gU.1 c;exact a i _<|aZ b
theorem sJ{w:bI}:∀{m:Nat} {e h j n:aC} {x:Ex},iH w m e h j n x->∀k,m<=k->jF k x=jF m x
 | 0,_,_,_,_,_,c,_,_=>iU c
 | m+1,e,h,j,n,x,c,0,q=>by omega
 | m+1,e,h,j,n,x,c,k+1,q=>by obtain⟨_,_,_,_,_,_,a,b,off,cap,_,_,_,o⟩:=c;simp only[jF];rw[uU (f:=jF k) (g:=jF m) (λi y t=>by obtain⟨u,v,z,B,_,_,_,_,r⟩:=o i y t;exact sJ r k bC)]
open Go.ChangeShapes Go.WideShapes Go.ChangeAt Go.Deep Go.Joins
section
variable {H : Type} {enc : TypeId × Value → H} {W : World}
theorem kD{t e k:Nat}{fuel:Nat}{v:Value}{y:DataW H × List MemPlace}(ht:prog.underlying t=some (.slice e))(hk:prog.cellsOf e=k)(hk0:0<k)(h:DataW.trod enc prog W 0 (λ_=>true) true fuel t [v]=some y):∃(a:Option Addr) (b off len cap:Nat) (D:List (DataW H)),v=.slice a len cap/\(0<len->a=some ⟨b,off,none⟩)/\len<=9223372036854775807/\D.length=len/\Rows.uptoBulkAll D+1<=Rows.uptoBulk y.1/\∀i,i<len->∃n cs d pl,fuel=n+1/\cs.length=k/\(∀j,j<k->W.cell? ⟨b,off+i*k+j,none⟩=cs[j]?)/\DataW.trod enc prog W 0 (λ_=>true) true n e cs=some (d,pl)/\D[i]?=some d:=by
 rcases DataW.trod_slice ht h with⟨hcs,rfl⟩|⟨a,len,cap,elems,rest,n,hfuel,hcs,rfl,_,hl,hm,hlen,hel,_,_⟩;·simp at hcs;subst hcs;exact⟨none,0,0,0,0,[],rfl,λh=>absurd h (Nat.lt_irrefl _),by decide,rfl,by simp[Rows.uptoBulk,Rows.uptoBulkAll],λi hi=>absurd hi (Nat.not_lt_zero _)⟩
 ·simp at hcs;subst hcs;unfold maxLen at hm;obtain⟨b,off,spot⟩:=a;have each:∀i,i<len->∃cs d pl,cs.length=k/\(∀j,j<k->W.cell? ((⟨b,off,spot⟩:Addr).add (i*k+j))=cs[j]?)/\DataW.trod enc prog W 0 (λ_=>true) true n e cs=some (d,pl)/\(elems.map (·.1))[i]?=some d:=by intro i hi;have h1:=hel i hi;rw[List.getElem?_eq_getElem (by omega),hk]at h1;obtain⟨cs,g1,g2⟩:=Option.bind_eq_some_iff.1 h1;obtain⟨_,g3,g4⟩:=World.cells?_some g1;refine⟨cs,_,_,g3,λj hj=>?_,g2,by simp[List.getElem?_map,List.getElem?_eq_getElem (show i<elems.length by omega)]⟩;rw[<-add_add];exact g4 j hj
  have hspot:0<len->spot=none:=by intro h0;obtain⟨cs,d,pl,g1,g2,_⟩:=each 0 h0;have:=g2 0 hk0;rw[List.getElem?_eq_getElem (by omega)]at this;have:=World.cell?_spot this;simpa[Addr.add]using this
  refine⟨some ⟨b,off,spot⟩,b,off,len,cap,elems.map (·.1),rfl,λh0=>by rw[hspot h0],by omega,by simp[hlen],?_,λi hi=>?_⟩;·simp only[Rows.uptoBulk];omega
  ·obtain⟨cs,d,pl,g1,g2,g3,g4⟩:=each i hi;refine⟨n,cs,d,pl,hfuel,g1,λj hj=>?_,g3,g4⟩;have:=g2 j hj;rw[hspot (by omega),add_plain]at this;rw[<-this,Nat.add_assoc]
theorem jO{α:Type}:∀(len:Nat) {p:Nat->α->Prop},(∀i,i<len->∃x,p i x)->∃l:List α,l.length=len/\∀(i:Nat) (x:α),l[i]?=some x->p i x
 | 0,_,_=>⟨[],rfl,λi x a=>by simp at a⟩
 | len+1,p,a=>by
  obtain⟨x,f⟩:=a 0 bC;obtain⟨l,c,e⟩:=jO len (p:=λi=>p<|i+1) (λi g=>a (i+1) bC);refine⟨x::l,by simp[c],λi y b=>?_⟩;cases i with
  | zero=>simp at b;subst b;exact f
  | succ i=>exact e i y (by simpa using b)
end
theorem yH:prog.cellsOf 3=1:=by kernel_rfl
theorem nZ:prog.cellsOf 9=1:=by kernel_rfl
section
variable {H : Type} {enc : TypeId × Value → H} {W : World}
end
section
variable {H : Type} {enc : TypeId × Value → H} {W : World}
end
section
variable {H : Type} {enc : TypeId × Value → H} {W : World}
end
theorem kE(w:bI)(s:aS)(m:s.size<=maxLen):aD 110 #[A s] w λc w'=>c=dz (.bool<|dZ s.data.toList)/\w'=w:=by
 unfold maxLen at m;by_cases n:s.size<1
 ·have a:J (dZ s.data.toList=false):=by show dZ s.data.toList=false;unfold dZ;rw[iG];simp;omega
  go_enter func110,ntmps110;go_wp2;go_ret;exact⟨aW a.symm,rfl⟩
 ·by_cases o:8<s.size
  ·have a:J (dZ s.data.toList=false):=by show dZ s.data.toList=false;unfold dZ;rw[iG];simp;omega
   go_enter func110,ntmps110;go_wp2;go_ret;exact⟨aW a.symm,rfl⟩
  ·have a:J (dZ s.data.toList=s.data.toList.all iY):=by show dZ s.data.toList=_;unfold dZ;rw[iG];rw[gW (by omega:1<=s.size),gW (by omega:s.size<=8)];rfl
   go_enter func110,ntmps110;go_wp2;go_loop [14] (λi=>∃k:Nat,k<=s.size/\i=O k/\∀j (b:j<s.size),j<k->iY s[j]=true) (λi=>s.size - (intOf i).toNat);exact⟨0,bN _,rfl,λj b g=>aM g<|fU _⟩
   obtain⟨k,q,rfl,f⟩:=hrel;have e:J (∀j (b:j<s.size),j<k->iY s[j]=true):=f;clear f;by_cases h:k<s.size
   ·go_wp2;·go_ret;exact⟨aW (by rw[a,uD s k h (by simp[iY];omega)]),rfl⟩
    ·go_round;exact⟨k+1,by omega,by go_num,λj b g=>by
      by_cases c:j=k;·subst c;simp[iY];omega
      ·exact e j b bC⟩
     exact gV
    ·go_ret;exact⟨aW (by rw[a,uD s k h (by simp[iY];omega)]),rfl⟩
   ·go_wp2;go_ret;exact⟨aW (by rw[a,Gy s (λj b=>e j b bC)]),rfl⟩
theorem acV{l:aJ}(b:∀d,d<l.length->p (l.getD d ByteArray.empty)=true):l.all p=true:=by rw[iB];intro x c;obtain⟨i,a,rfl⟩:=gU.1 c;have:=b i a;simpa[a]using this
theorem acW{l:aJ}(b:d<l.length)(a:p (l.getD d ByteArray.empty)=false):l.all p=false:=by rw[CY];exact⟨l[d],kZ b,by simp[b]at a;simp[a]⟩
theorem Dk(w:bI)(v:aC)(ss:aJ)(F:Strs w v ss):aD 111 #[v] w λc w'=>c=dz (.bool<|ss.all λs=>dZ s.data.toList)/\w'=w:=by
 obtain⟨a,b,off,cap,rfl,f,I,z,g⟩:=F;obtain⟨len,m⟩:=aV ss.length;have q:=Y m;rw[<-m]at f I g ⊢;obtain⟨C,D⟩:=bV f g;have E:J (∀j,j<len->(ss.getD j ByteArray.empty).size<=maxLen):=Y (λj L=>z _ (by
  have x:j<ss.length:=by omega
  rw[show ss.getD j ByteArray.empty=ss[j] by simp[x]];exact kZ x))
 clear f g z m;go_enter func111,ntmps111;go_wp2;go_loop [7] (λi=>∃k:Nat,k<=len/\i=O k/\∀d,d<k->dZ (ss.getD d ByteArray.empty).data.toList=true) (λi=>len - (intOf i).toNat);exact⟨0,bN _,rfl,λd h=>aM h<|fU _⟩
 obtain⟨k,M,rfl,t⟩:=hrel;have r:=Y t;clear t;by_cases y:k<len
 ·obtain rfl:=C bC;obtain⟨G,B⟩:=eY (D k y)<|E k y;obtain⟨s,n⟩:=aV<|ss.getD k ByteArray.empty;have o:=Y n;rw[<-n]at G B;clear n;go_wp2_with fail;refine(kE _ s B).mono ?_;rintro c w' ⟨rfl,K⟩;subst K;cases u:dZ s.data.toList;·have e:=Y u;go_wp2;go_ret;exact⟨aW (acW (d:=k) (by have:=q.out;omega) (by rw[<-o];exact e)).symm,rfl⟩
  ·have e:=Y u;go_wp2;go_round;exact⟨k+1,by omega,by go_num,λd h=>by
    by_cases c:d=k;·subst c;rw[<-o];exact e
    ·exact r d bC⟩
   exact gV
 ·go_wp2;go_ret;exact⟨aW (acV (λd h=>r d (by have:=q.out;omega))).symm,rfl⟩
theorem ahb{p:Va->Bool}(a:∀(i:Nat) (x:Va),l[i]?=some x->p x=true):l.all p=true:=by rw[iB];intro x c;obtain⟨i,b,rfl⟩:=gU.1 c;exact a i _<|aZ b
theorem Yt{p:Va->Bool}{x:Va}(b:l[i]?=some x)(a:p x=false):l.all p=false:=by rw[CY];exact⟨x,dG b,by simp[a]⟩
theorem akx(w:bI)(v:aC)(g:List Va)(M:xG w v g):aD 112 #[v] w λf w'=>f=dz (.bool<|g.all λs=>dZ s.name.data.toList&&dZ s.level.data.toList)/\bK w w':=by
 obtain⟨a,b,off,cap,rfl,o,N,G⟩:=M;obtain⟨len,q⟩:=aV g.length;have x:=Y q;rw[<-q]at o N ⊢;obtain⟨K,L⟩:=bV o G;clear o G q;go_enter func112,ntmps112;go_wp2;go_loopw[7] (λi wr=>∃k:Nat,k<=len/\i=O k/\(∀d y,d<k->g[d]?=some y->(dZ y.name.data.toList&&dZ y.level.data.toList)=true)/\bK w wr) (λi _=>len - (intOf i).toNat);exact⟨0,bN _,rfl,λd y I=>aM I<|fU _,bQ _ _⟩
 obtain⟨k,S,rfl,D,c⟩:=hrel;have z:=Y D;clear D;by_cases P:k<len
 ·obtain rfl:=K bC;obtain⟨y,t⟩:∃y,g[k]?=some y:=⟨_,aZ (by rw[<-x];exact P)⟩;obtain⟨Q,R,B,C⟩:=L k y t;obtain⟨m,n⟩:=bV t<|c.trans<|(aH wr<|aY #[A y.name,A y.level] 111).mono c.size;obtain⟨U,V⟩:=eY (aG B c)<|aG C c;clear B C t c;go_wp2_with fail;refine(kE _ y.name Q).mono ?_;rintro f w' ⟨rfl,r⟩;subst r;cases E:dZ y.name.data.toList;·have h:=Y E;go_wp2;go_ret;exact⟨aW (Yt m (by rw[h];rfl)).symm,n⟩
  ·have h:=Y E;go_wp2_with fail;refine(kE _ y.level R).mono ?_;rintro f w' ⟨rfl,r⟩;subst r;cases F:dZ y.level.data.toList;·have j:=Y F;go_wp2;go_ret;exact⟨aW (Yt m (by rw[h,j];rfl)).symm,n⟩
   ·have j:=Y F;go_wp2;go_roundw;exact⟨k+1,by omega,by go_num,λd u I e=>by
     by_cases f:d=k;·subst f;rw[m]at e;cases e;rw[h,j];rfl
     ·exact z d u bC e,n⟩
    exact gV
 ·go_wp2;go_ret;exact⟨aW (ahb (λd u e=>z d u (by have:=(cO.1 e).1;have:=x.out;omega) e)).symm,c⟩
theorem OC(e:¬s.size=1):opB s=false:=by
 unfold opB;have:dU opS s=-1:=by
  unfold dU;rw[jW (p:=Ov opS s) (λc f=>?_)];have g:c<5:=f;unfold Ov;rw[beq_eq_false_iff_ne];intro a;rw[A8,A8]at a;have b:=congrArg List.length a;rw[iG,iG]at b;apply e;rw[b];obtain rfl|rfl|rfl|rfl|rfl:c=0\/c=1\/c=2\/c=3\/c=4:=by omega
  all_goals rfl
 rw[this];rfl
theorem acX:∀c:Fin 256,decide (0<=Lib.indexByte [43,45,42,60,61] (UInt8.ofFin c))=opB ⟨#[UInt8.ofFin c]⟩:=by decide +kernel
theorem aj1(c:UInt8):decide (0<=Lib.indexByte [43,45,42,60,61] c)=opB ⟨#[c]⟩:=acX c.toFin
theorem one_byte(h:s.size=1):∃c,s=⟨#[c]⟩:=by
 obtain⟨⟨l⟩⟩:=s;match l,h with
 | [c],_=>exact⟨c,rfl⟩
theorem ajv(w:bI)(s:aS)(g:s.size<=maxLen):aD 261 #[A s] w λe w'=>e=dz (.bool<|opB s)/\w'=w:=by
 unfold maxLen at g;by_cases a:s.size=1;·obtain⟨c,rfl⟩:=one_byte a;clear a;have f:(((⟨#[c]⟩:aS).size:Int)==1)=true:=rfl;have b:=Y<|aj1 c;go_enter func261,ntmps261;go_wp2_with fail;refine(Tryz.strings_Contains_one _ c _).mono ?_;rintro e w' ⟨rfl,h⟩;subst h;rw[show decide (0<=Lib.indexByte (⟨#[43,45,42,60,61]⟩:aS).data.toList c)=opB ⟨#[c]⟩from b.out];go_wp2;go_ret;exact⟨rfl,rfl⟩
 ·have f:((s.size:Int)==1)=false:=by simp;omega
  have b:=Y<|OC a;clear a;go_enter func261,ntmps261;go_wp2;go_ret;exact⟨aW b.symm,rfl⟩
theorem aah(s:aS):Lib.indexByte s.data.toList 46=match lI s with|some i=>(i:Int)|none=>-1:=by
 have t:=Lib.indexByte_ge s.data.toList 46;by_cases b:Lib.indexByte s.data.toList 46=-1;·have r:=Lib.indexByte_none b;have:lI s=none:=jW (λd q=>by have h:d<s.data.toList.length:=q;have a:=r d;rw[List.getD,aZ h];rw[aZ h]at a;simpa using a);rw[b,this]
 ·obtain⟨o,j⟩:∃o:Nat,Lib.indexByte s.data.toList 46=o:=⟨(Lib.indexByte s.data.toList 46).toNat,by omega⟩;obtain⟨e,n⟩:=Lib.indexByte_some j;have m:o<s.size:=(cO.1 e).1;have:lI s=some o:=mD m (λc f=>by have g:c<s.data.toList.length:=Nat.lt_trans f m;have a:=n c f;rw[List.getD,aZ g];rw[aZ g]at a;simpa using a) (by rw[List.getD,e];rfl);rw[j,this]
theorem am0(h:lI s=some k):k<s.size:=(bS.find_spec h).1
theorem acY(w:bI)(s:aS)(g:s.size<=maxLen):aD 286 #[A s,A ⟨#[46]⟩] w λe w'=>e=dz (.tuple #[A (bS.preS s),A<|uR s,.bool (lI s).isSome])/\bK w w':=by
 unfold maxLen at g;have b:=Y<|aah s;cases a:lI s;·rw[a]at b;have c:=Y a;clear a;go_enter func286,ntmps286;go_wp2_with fail;refine(Tryz.stringslite_Index_one s 46 _).mono ?_;rintro e w' ⟨rfl,f⟩;subst f;rw[b];go_wp2;go_ret3;exact⟨by simp[bS.preS,uR,c.out],bQ _ _⟩
 ·rename_i k;rw[a]at b;have c:=Y a;have n:=am0 a;have h:(0:Int)<=(k:Int):=by omega
  have j:(k:Int)<=(s.size:Int):=by omega
  have m:(k:Int)+1<=(s.size:Int):=by omega
  clear a;go_enter func286,ntmps286;go_wp2_with fail;refine(Tryz.stringslite_Index_one s 46 _).mono ?_;rintro e w' ⟨rfl,f⟩;subst f;rw[b];go_wp2_with fail;go_quiet (fail);go_wp2;go_ret3;exact⟨by simp[bS.preS,uR,c.out],jJ (bQ _ _) _⟩
theorem Yu(w:bI)(s:aS)(f:s.size<=maxLen):aD 264 #[A s,A ⟨#[46]⟩] w λa w'=>a=dz (.tuple #[A (bS.preS s),A<|uR s,.bool (lI s).isSome])/\bK w w':=by have e:=Y<|acY w s f;generalize bS.preS s=h at *;generalize uR s=j at *;generalize (lI s).isSome=g at *;go_enter func264,ntmps264;go_wp2_with fail;refine e.mono ?_;rintro a w1 ⟨rfl,b⟩;have c:=Y b;clear b;go_wp2;go_ret3;exact⟨rfl,c⟩
theorem adz(w:bI)(s:aS)(f:s.size<=maxLen):aD 262 #[A s] w λb w'=>b=dz (.bool<|yB s)/\bK w w':=by
 have o:=Y<|Yu w s f;have r:(bS.preS s).size<=maxLen:=Nat.le_trans (ag4 s) f;have t:(uR s).size<=maxLen:=Nat.le_trans (ag5 s) f;have e:J (yB s=(dZ (bS.preS s).data.toList&&(!(lI s).isSome||dZ (uR s).data.toList))):=rfl;generalize bS.preS s=m at *;generalize uR s=n at *;generalize (lI s).isSome=q at *;go_enter func262,ntmps262;go_wp2_with fail;refine o.out.mono ?_;rintro b w1 ⟨rfl,j⟩;have c:=Y j;clear j;go_wp2_with fail;refine(kE _ m r).mono ?_;rintro b w' ⟨rfl,g⟩;subst g;cases h:dZ m.data.toList;·have a:=Y h;go_wp2;go_ret;exact⟨aW (by rw[e.out,a.out];rfl),c.out⟩
 ·have a:=Y h;cases q;·go_wp2;go_ret;exact⟨aW (by rw[e.out,a.out];rfl),c.out⟩
  ·go_wp2_with fail;refine(kE _ n t).mono ?_;rintro b w' ⟨rfl,g⟩;subst g;generalize dZ n.data.toList=u at *;go_wp2;go_ret;exact⟨aW (by rw[e.out,a.out];simp),c.out⟩
