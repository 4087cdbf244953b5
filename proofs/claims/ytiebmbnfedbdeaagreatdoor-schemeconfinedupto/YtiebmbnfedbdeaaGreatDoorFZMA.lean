import Derived.Test.YtiebmbnfedbdeaaGreatDoorFZLG
set_option maxHeartbeats 0
set_option maxRecDepth 99999
namespace Go.Proofs.YtiebmbnfedbdeaaGreatDoor
open bO
open Go.Proofs.Tryz
open Go.RowKit
namespace Lw
def lv(a:List Mo)(x y:aS):Option aS:=(a.find? λm=>cB m.name x).bind λm=>(m.vars.find? λv=>cB v.name y).map (·.level)
end Lw
open Lw
open Go.Maps Go.WideMaps
namespace Lw
theorem aub{l:List Mo}{x y:aS}(h:(l.find? λm=>cB m.name x)=none):lv l x y=none:=by unfold lv;rw[h];rfl
end Lw
theorem jl.auc{w:bI}{m:Nat}{n:aS}{c d b:aC}{x:Mo}(e:jl w m (.agg #[A n,c,d,b]) x):x.name.size<=maxLen/\Strs w c x.imports/\xG w d x.vars/\mE w m b x.bq:=by obtain⟨k,p,j,a,f,g,h,i⟩:=e;simp at a;obtain⟨-,rfl,rfl,rfl⟩:=a;exact⟨f,g,h,i⟩
section
variable {w wx wy : World} {vn vl : Value} {bm nm : Nat} {o : ByteArray → ByteArray → Option Int} {v : Value} {l : List Ce}
end
section
variable {w wx wy : World} {vn vl : Value} {v : Value} {l : List (ByteArray × Int)}
end
namespace Lw
end Lw
namespace Lw
def Found(l:List Mo)(s:aS)(i:Int):Prop:=(i=-1/\(l.find? λm=>cB m.name s)=none)\/∃(k:Nat) (y:Mo),i=k/\l[k]?=some y/\(l.find? λm=>cB m.name s)=some y
theorem mD{α:Type}{p:α->Bool}{l:List α}{j:Nat}{y:α}(h:l[j]?=some y)(f:p y=true)(b:∀(d:Nat) (g:α),d<j->l[d]?=some g->p g=false):l.find? p=some y:=by obtain⟨e,a⟩:=cO.1 h;refine List.find?_eq_some_iff_getElem.2 ⟨f,j,e,a,λd c=>?_⟩;rw[b d l[d] c (aZ bC)];rfl
theorem atQ{α:Type}{p:α->Bool}{l:List α}(a:∀(d:Nat) (g:α),l[d]?=some g->p g=false):l.find? p=none:=by refine Gv.2 λx c=>?_;obtain⟨i,b,rfl⟩:=gU.1 c;rw[a i _ (aZ b)];simp
end Lw
theorem atX(m:Nat)(w:bI)(v:aC)(l:List Mo)(s:aS)(C:jN w m v l):aD 28 #[v,A s] w λh w'=>∃i:Int,h=dz (O i)/\J (Lw.Found l s i)/\w'=w:=by
 obtain⟨a,b,off,cap,rfl,p,D,x⟩:=C;have E:=Y x;obtain⟨n,q⟩:=aV l.length;have t:=Y q;rw[<-q]at p D ⊢;have B:=Y p;clear x p q;go_enter func28,ntmps28;go_wp2_with fail;go_loopw[5] (λi wx=>∃j:Nat,j<=n/\i=O j/\J (∀(d:Nat) (g:Mo),d<j->l[d]?=some g->cB g.name s=false)/\wx=w) (λi _=>n - (intOf i).toNat);exact⟨0,bN _,rfl,Y (λd g u=>aM u<|fU _),rfl⟩
 obtain⟨j,G,rfl,k,rfl⟩:=hrel;by_cases H:j<n
 ·obtain⟨y,r⟩:∃f,l[j]?=some f:=⟨_,aZ (by have:=t.out;omega)⟩;obtain⟨K,L,I,F,-⟩:=E j y r;obtain rfl:=B bC;have e:=Y r;clear r;have c:J (cB y.name s=(y.name.toList==s.toList)):=rfl;cases z:(y.name.toList==s.toList)
  ·rw[z]at c;go_wp2;go_roundw;exact⟨j+1,by omega,by go_num,Y (λd g u hg=>by
    by_cases h:d=j;·subst h;rw[e]at hg;cases hg;exact c
    ·exact k d g bC hg),by first|trivial|rfl⟩
   exact gV
  ·rw[z]at c;go_wp2;go_ret;exact⟨_,rfl,Y<|aQ ⟨j,y,rfl,e,Lw.mD e c k⟩,rfl⟩
 ·go_wp2;go_ret;exact⟨_,rfl,Y (aO ⟨rfl,atQ λd g hg=>k d g (by have:=(cO.1 hg).1;have:=t.out;omega) hg⟩),rfl⟩
theorem atS(m:Nat)(w:bI)(v:aC)(l:List Mo)(c:Ce)(B:jN w m v l):aD 12 #[v,.agg #[A c.mod,A c.name,O c.val]] w λr w'=>r=dz (A<|(Lw.lv l c.mod c.name).getD ⟨#[]⟩)/\bK w w':=by
 obtain⟨W,e⟩:=aV<|w.alloc<|aY #[A c.mod,A c.name,O c.val] 50;have s:bK w W:=by rw[e];exact aH _ _
 have x:=Y s;have U:dR W w.heap.size (aY #[A c.mod,A c.name,O c.val] 50):=by rw[e];exact bF _ _
 obtain⟨Q,S⟩:=jv U;obtain⟨K,HM⟩:=bV (atX m W v l c.mod<|B.below s)<|B.below s;clear B U s;obtain⟨R,C⟩:=aV<|(Lw.lv l c.mod c.name).getD ⟨#[]⟩;have L:=Y C;rw[<-C];clear C;obtain⟨a,b,off,cap,rfl,D,ae,aa⟩:=HM.out;have j5:=Y aa;obtain⟨n,E⟩:=aV l.length;have HN:=Y E;rw[<-E]at D ae K ⊢;have HA:=Y D;clear aa D E;rw[e]at Q S;go_enter func12,ntmps12;go_wp2_with fail;rw[<-e];rw[<-e]at Q S;clear e;refine K.mono ?_;rintro r w1 ⟨i,rfl,HI,ag⟩;subst ag;rcases HI with⟨rfl,ab⟩|⟨k,y,rfl,G,ac⟩;·have h:J (R=⟨#[]⟩):=Y (by rw[L,aub ab];rfl);clear ab;go_wp2;go_ret;exact⟨by rw[h];rfl,x⟩
 ·have ai:k<n:=by have:=(cO.1 G).1;have:=HN.out;omega
  have h:J (R=((y.vars.find? λv=>cB v.name c.name).map (·.level)).getD ⟨#[]⟩):=Y (by rw[L];unfold Lw.lv;rw[ac];rfl);obtain⟨vi,vv,vf,-,-,g2,-,hm⟩:=j5 k y G;obtain⟨-,-,h2,-⟩:=hm.auc;obtain⟨av,bv,ov,cv,rfl,V,af,Z⟩:=h2;obtain rfl:=HA bC;obtain⟨ad,I⟩:=bV Z V;obtain⟨H,t⟩:=aV y.vars.length;have P:=Y t;rw[<-t]at g2 af I;clear G ac hm Z V t;go_wp2_with fail;go_loopw[6] (λi wx=>∃j:Nat,j<=H/\i=O j/\J (∀(d:Nat) (g:Va),d<j->y.vars[d]?=some g->cB g.name c.name=false)/\∃q,wx=w1.drewN q) (λi _=>H - (intOf i).toNat);exact⟨0,bN _,rfl,Y (λd g hd=>aM hd<|fU _),0,rfl⟩
  obtain⟨j,hj,rfl,z,q,rfl⟩:=hrel;by_cases ah:j<H
  ·obtain⟨u,F⟩:∃f,y.vars[j]?=some f:=⟨_,aZ (by have:=P.out;omega)⟩;obtain⟨-,-,p0,p1⟩:=ad j u F;obtain rfl:=I bC;have N:=Y F;clear F;have p:J (cB u.name c.name=(u.name.toList==c.name.toList)):=rfl;cases hq:(u.name.toList==c.name.toList)
   ·rw[hq]at p;go_wp2_with fail;go_quiet (fail);go_wp2;go_roundw;exact⟨j+1,by omega,by go_num,Y (λd g hd hg=>by
     by_cases r:d=j;·subst r;rw[N]at hg;cases hg;exact p
     ·exact z d g bC hg),q+nq,by rw[<-World.drewN_drewN]⟩
    exact gV
   ·rw[hq]at p;go_wp2_with fail;go_quiet (fail);go_wp2;go_ret;refine⟨?_,jJ x.out _⟩;rw[h.out,Lw.mD N.out p.out z.out];rfl
  ·go_wp2;go_ret;refine⟨?_,jJ x _⟩;rw[h,atQ λd g hg=>z d g (by have:=(cO.1 hg).1;have:=P.out;omega) hg];rfl
