import Derived.Test.YtiebmbnfedbdeaaGreatDoorTZBR
set_option maxHeartbeats 0
set_option maxRecDepth 99999
namespace Go.Proofs.YtiebmbnfedbdeaaGreatDoor
open Ck Fl bS bO Rn Sm
open Go.Proofs.Tryz
open Go.RowKit
namespace Rn
structure May where
 rd:ByteArray × ByteArray->Prop
 st:ByteArray × ByteArray->Prop
 pr:ByteArray->Prop
structure May.Le(p q:May):Prop where
 rd:∀x,p.rd x->q.rd x
 st:∀x,p.st x->q.st x
 pr:∀x,p.pr x->q.pr x
structure uy(nm:List (ByteArray × ByteArray))(p:May)(s t:gM):Prop where
 len:t.vs.length=s.vs.length
 vs:∀(i:Nat) (v u:Vr),s.vs[i]?=some v->t.vs[i]?=some u->(u.rd=true->v.rd=true\/∃x,nm[i]?=some x/\p.rd x)/\(u.st=true->v.st=true\/∃x,nm[i]?=some x/\p.st x)
 pr:∀d∈t.pr,d∈s.pr\/p.pr d.1
section
variable {nm : List (ByteArray × ByteArray)} {p q : May} {s t u : gM}
theorem uy.refl(s:gM):uy nm p s s:=⟨rfl,λi v u f b=>by rw[f]at b;cases b;exact⟨aO,aO⟩,λ_ d=>aO d⟩
theorem uy.same(f:t.vs=s.vs)(h:t.pr=s.pr):uy nm p s t:=⟨by rw[f],λi v u a b=>by rw[f,a]at b;cases b;exact⟨aO,aO⟩,λd g=>aO<|h ▸ g⟩
theorem uy.trans(b:uy nm p s t)(k:uy nm p t u):uy nm p s u:=by
 refine⟨k.len.trans b.len,λi v w g o=>?_,λd r=>?_⟩
 ·have n:i<t.vs.length:=by rw[b.len];exact(cO.1 g).1
  obtain⟨h,j⟩:=eY (b.vs i v _ g<|aZ n)<|k.vs i _ w (aZ n) o;exact⟨λf=>(j.1 f).elim h.1 aQ,λf=>(j.2 f).elim h.2 aQ⟩
 ·exact(k.pr d r).elim (b.pr d) aQ
theorem uy.mono(f:uy nm p s t)(g:p.Le q):uy nm q s t:=by refine⟨f.len,λi v w n o=>?_,λd r=>(f.pr d r).imp id (g.pr _)⟩;have j:=f.vs i v w n o;exact⟨λh=>(j.1 h).imp id λ⟨x,a,b⟩=>⟨x,a,g.rd x b⟩,λh=>(j.2 h).imp id λ⟨x,a,b⟩=>⟨x,a,g.st x b⟩⟩
theorem uy.mod(i:Nat)(g:Vr->Vr)(hg:∀v,((g v).rd=true->v.rd=true\/∃x,nm[i]?=some x/\p.rd x)/\((g v).st=true->v.st=true\/∃x,nm[i]?=some x/\p.st x)):uy nm p s { s with vs:=s.vs.modify i g }:=by
 refine⟨by simp,λj v u f h=>?_,λ_ d=>aO d⟩;have b:(s.vs.modify i g)[j]?=some u:=h;rw[List.getElem?_modify,f]at b;by_cases e:i=j;·simp[e]at b;subst b e;exact hg v
 ·simp[e]at b;subst b;exact⟨aO,aO⟩
theorem uy.qX{s1:gM}(h:qX s=some s1):uy nm p s s1:=uy.same (zY h).2.1 (zY h).2.2
end
theorem Ot{nm:List (aS × aS)}{md n:aS}{i:Nat}(d:pos nm md n=some i):nm[i]?=some (md,n):=by
 unfold pos at d;have b:=Jj d;cases f:nm[i]? with
 | none=>rw[f]at b;simp at b
 | some v =>rw[f]at b;simp only[dK,dM]at b;rw[<-b.1,<-b.2]
def Sh(nm:List (aS × aS))(md:aS)(ps:List aS)(n:aS):Prop:=n∉ps/\(pos nm md n).isSome=true
def QW(nm:List (aS × aS))(md:aS)(ps:List aS)(o:Own):Prop:=(∀n∈ps,(o n).isSome=true)/\∀n,(o n).isSome=true->n∈ps\/pos nm md n=none
theorem QW.sh{nm:List (aS × aS)}{md:aS}{ps:aJ}{o:Own}(d:QW nm md ps o){n:aS}{i:Nat}(b:Rn.sh nm md o n=some i):Sh nm md ps n/\nm[i]?=some (md,n):=by
 unfold Rn.sh at b;split at b;·cases b
 ·rename_i f;exact⟨⟨λg=>f<|d.1 n g,by rw[b];rfl⟩,Ot b⟩
theorem LG{o:Own}{n x:aS}{v:Int}:(put o n v x).isSome=true↔x=n\/(o x).isSome=true:=by
 unfold put;by_cases h:cB x n=true;·rw[aK h];simp[dM.1 h]
 ·rw[aI h];constructor;·exact aQ
  ·rintro(rfl|k);·exact aM (dM.2 rfl) h
   ·exact k
theorem QW.put{nm:List (aS × aS)}{md:aS}{ps:aJ}{o:Own}(d:QW nm md ps o){n:aS}(v:Int)(f:Rn.sh nm md o n=none):QW nm md ps (Rn.put o n v):=by
 refine⟨λx b=>LG.2<|aQ<|d.1 x b,λx b=>?_⟩;rcases LG.1 b with rfl|b
 ·unfold Rn.sh at f;split at f;·rename_i g;exact d.2 _ g
  ·exact aQ f
 ·exact d.2 x b
theorem LH:∀(l:List (aS × Int)) (o:Own) (n:aS),((l.foldl (λo p=>put o p.1 p.2) o) n).isSome=true↔n∈l.map (·.1)\/(o n).isSome=true
 | [],o,n=>by simp
 | p::l,o,n=>by
  rw[pz,LH l,LG,fZ,fV];constructor
  ·rintro(h|h|h);·exact aO<|aQ h
   ·exact aO<|aO h
   ·exact aQ h
  ·rintro((h|h)|h);·exact aQ<|aO h
   ·exact aO h
   ·exact aQ<|aQ h
theorem QW.start(nm:List (aS × aS))(md:aS){ps:aJ}{args:List Int}(b:ps.length=args.length):QW nm md ps (qD ps args):=by
 have e:(ps.zip args).map (·.1)=ps:=List.map_fst_zip bC;refine⟨λn d=>(LH _ _ n).2 (aO (by rw[e];exact d)),λn d=>?_⟩;rcases(LH _ _ n).1 d with b|b;·rw[e]at b;exact aO b
 ·cases b
section
variable (nm : List (ByteArray × ByteArray)) (l : List Mo) (T : Nat → Nat → May) (Ok : Nat → Nat → Prop)
def clA(a k:Nat)(x:Ex):Prop:=∃y g,l[a]?=some y/\(fF y k x.name l).2.2=true/\
 (l[if (fF y k x.name l).1<0 then a else (fF y k x.name l).1.toNat]?.bind λm=>m.bq[(fF y k x.name l).2.1.toNat]?)=some g/\g.params.length=x.args.length/\
 Ok (if (fF y k x.name l).1<0 then a else (fF y k x.name l).1.toNat) (fF y k x.name l).2.1.toNat/\
 (T (if (fF y k x.name l).1<0 then a else (fF y k x.name l).1.toNat) (fF y k x.name l).2.1.toNat).Le (T a k)
def exA(a k:Nat)(ps:List aS):Nat->Ex->Prop
 | 0,_=>False
 | m+1,x=>(x.kind=2->Sh nm (mn l a) ps x.name->(T a k).rd (mn l a,x.name))/\(x.kind=4->clA l T Ok a k x)/\∀y∈x.args,exA a k ps m y
def stA(a k:Nat)(ps:List aS):Nat->List St->Prop
 | 0,_=>False
 | m+1,c=>∀s∈c,exA nm l T Ok a k ps m s.e/\(s.kind=1->Sh nm (mn l a) ps s.name->(T a k).st (mn l a,s.name))/\(s.kind=4->(T a k).pr s.name)/\stA a k ps m s.a/\stA a k ps m s.b
def End(e:Int):Prop:=e=0\/e=6
structure UD(F:FJ):Prop where
 ev:∀(a k:Nat) f o m x s,Ok a k->(l[a]?.bind λy=>y.bq[k]?)=some f->QW nm (mn l a) f.params o->exA nm l T Ok a k f.params m x->End (F.ev a k o x s).2.1/\uy nm (T a k) s (F.ev a k o x s).2.2
 dO:∀(a k:Nat) f o m c s,Ok a k->(l[a]?.bind λy=>y.bq[k]?)=some f->QW nm (mn l a) f.params o->stA nm l T Ok a k f.params m [c]->End (F.dO a k o c s).1/\QW nm (mn l a) f.params (F.dO a k o c s).2.1/\uy nm (T a k) s (F.dO a k o c s).2.2
 lp:∀(a k:Nat) f o m c s,Ok a k->(l[a]?.bind λy=>y.bq[k]?)=some f->QW nm (mn l a) f.params o->stA nm l T Ok a k f.params m [c]->End (F.lp a k o c s).1/\QW nm (mn l a) f.params (F.lp a k o c s).2.1/\uy nm (T a k) s (F.lp a k o c s).2.2
def Code:Prop:=∀(a k:Nat) f,Ok a k->(l[a]?.bind λy=>y.bq[k]?)=some f->∃m,stA nm l T Ok a k f.params m f.body/\exA nm l T Ok a k f.params m f.result
end
section
variable {nm : List (ByteArray × ByteArray)} {l : List Mo} {T : Nat → Nat → May} {Ok : Nat → Nat → Prop}
theorem ajb{a k:Nat}{ps:aJ}{m:Nat}{c:List St}(b:stA nm l T Ok a k ps m c){s:St}(f:s∈c):stA nm l T Ok a k ps m [s]:=by
 cases m with
 | zero=>exact b
 | succ m =>intro t d;rw[dh]at d;subst d;exact b t f
theorem U1{p:May}{C:Ex->Prop}{f:Ex->gM->Int × Int × gM}(h:∀x s,C x->End (f x s).2.1/\uy nm p s (f x s).2.2):∀(r:List Ex) (s:gM),(∀x∈r,C x)->(End (evs f r s).2.1/\uy nm p s (evs f r s).2.2)/\((evs f r s).2.1=0->(evs f r s).1.length=r.length)
 | [],s,_=>⟨⟨aO rfl,uy.refl s⟩,λ_=>rfl⟩
 | x::r,s,j=>by
  obtain⟨g,d⟩:=eY (h x s<|j x List.mem_cons_self)<|U1 h r (f x s).2.2 λy o=>j y<|l8 _ o;unfold evs;split;·exact⟨⟨d.1.1,g.2.trans d.1.2⟩,λb=>by show(evs f r (f x s).2.2).1.length+1=r.length+1;rw[d.2 b]⟩
  ·rename_i n;exact⟨g,λb=>aM b n⟩
theorem U2{p:May}{I:Own->Prop}{C:St->Prop}{f:Own->St->gM->Int × Own × gM}(h:∀o c s,I o->C c->End (f o c s).1/\I (f o c s).2.1/\uy nm p s (f o c s).2.2):∀(r:List St) (o:Own) (s:gM),I o->(∀x∈r,C x)->End (rA f r o s).1/\I (rA f r o s).2.1/\uy nm p s (rA f r o s).2.2
 | [],o,s,g,_=>⟨aO rfl,g,uy.refl s⟩
 | x::r,o,s,g,j=>by
  have b:=h o x s g<|j x List.mem_cons_self;unfold rA;split;·have d:=U2 h r (f o x s).2.1 (f o x s).2.2 b.2.1 λy n=>j y<|l8 _ n;exact⟨d.1,d.2.1,b.2.2.trans d.2.2⟩
  ·exact b
theorem bodies{F:FJ}(g:UD nm l T Ok F){a k:Nat}{f:Fu}(j:Ok a k)(h:(l[a]?.bind λy=>y.bq[k]?)=some f){m:Nat}{c:List St}(b:stA nm l T Ok a k f.params m c)(o:Own)(s:gM)(d:QW nm (mn l a) f.params o):
  End (rA (F.dO a k) c o s).1/\QW nm (mn l a) f.params (rA (F.dO a k) c o s).2.1/\uy nm (T a k) s (rA (F.dO a k) c o s).2.2:=
 U2 (I:=QW nm (mn l a) f.params) (C:=λx=>stA nm l T Ok a k f.params m [x]) (λo c s d b=>g.dO a k f o m c s j h d b) c o s d λ_ n=>ajb b n
theorem LJ{F:FJ}(h:UD nm l T Ok F)(o:Code nm l T Ok){a k:Nat}{f:Fu}(g:Ok a k)(d:(l[a]?.bind λy=>y.bq[k]?)=some f){args:List Int}(n:f.params.length=args.length)(s:gM):End (enter F l a k args s).2.1/\uy nm (T a k) s (enter F l a k args s).2.2:=by
 obtain⟨m,r,v⟩:=o a k f g d;have b:=bodies h g d r (qD f.params args) s<|QW.start nm (mn l a) n;unfold enter;rw[d];simp only;rw[aK n];split;·have j:=h.ev a k f (rA (F.dO a k) f.body (qD f.params args) s).2.1 m f.result (rA (F.dO a k) f.body (qD f.params args) s).2.2 g d b.2.1 v;exact⟨j.1,b.2.2.trans j.2⟩
 ·exact⟨b.1,b.2.2⟩
theorem ach{F:FJ}(d:UD nm l T Ok F)(f:Code nm l T Ok){a k:Nat}{x:Ex}(w:clA l T Ok a k x){args:List Int}(n:args.length=x.args.length)(s:gM):End (call F l a k x.name args s).2.1/\uy nm (T a k) s (call F l a k x.name args s).2.2:=by
 obtain⟨y,g,z,v,hg,r,j,o⟩:=w;unfold call;rw[z];cases h:qX s with
 | none=>exact⟨aQ rfl,uy.refl s⟩
 | some s1 =>simp only;rw[aI (by rw[v];simp)];have b:=LJ d f j hg (r.trans n.symm) s1;exact⟨b.1,(uy.qX h).trans (b.2.mono o)⟩
theorem ajc{p:May}{md:aS}{ps:aJ}{o:Own}(g:QW nm md ps o){n:aS}(f:Sh nm md ps n->p.rd (md,n))(s:gM):uy nm p s (gt nm md o n s).2:=by
 unfold gt;cases h:sh nm md o n with
 | none=>exact uy.refl s
 | some i =>obtain⟨b,d⟩:=g.sh h;exact uy.mod i _ λv=>⟨λ_=>aQ ⟨_,d,f b⟩,aO⟩
theorem ajd{p:May}{md:aS}{ps:aJ}{o:Own}(b:QW nm md ps o){n:aS}(h:Sh nm md ps n->p.st (md,n))(x:Int)(s:gM):QW nm md ps (pt nm md o n x s).1/\uy nm p s (pt nm md o n x s).2:=by
 unfold pt;cases d:sh nm md o n with
 | none=>exact⟨b.put x d,uy.refl s⟩
 | some i =>obtain⟨f,g⟩:=b.sh d;exact⟨b,uy.mod i _ λv=>⟨aO,λ_=>aQ ⟨_,g,h f⟩⟩⟩
theorem aci{F:FJ}(v:UD nm l T Ok F)(hC:Code nm l T Ok):UD nm l T Ok (step nm l F):=by
 refine⟨λa k f o m x s r n b D=>?_,λa k f o m c s r n b z=>?_,λa k f o m c s r n b z=>?_⟩
 ·cases m with
  | zero=>exact iU D
  | succ m=>
   obtain⟨W,B,hr⟩:=D;have y:=U1 (p:=T a k) (C:=exA nm l T Ok a k f.params m) (f:=F.ev a k o) (λx s D=>v.ev a k f o m x s r n b D) x.args s hr;simp only[step];split;·exact⟨aO rfl,uy.refl s⟩
   ·split;·rename_i V;exact⟨aO rfl,ajc b (W V) s⟩
    ·split
     ·rename_i S;split;·rename_i H;have h:=ach v hC (B H) (y.2 S) (evs (F.ev a k o) x.args s).2.2;exact⟨h.1,y.1.2.trans h.2⟩
      ·exact⟨aO rfl,y.1.2⟩
     ·exact y.1
 ·cases m with
  | zero=>exact iU z
  | succ m=>
   obtain⟨P,y,B,K,R⟩:=z c<|dh.2 rfl;simp only[step];cases N:qX s with
   | none=>exact⟨aQ rfl,b,uy.refl s⟩
   | some s1=>
    have w:=uy.qX (nm:=nm) (p:=T a k) N;simp only;split;·have h:=v.lp a k f o (m+1) c s1 r n b z;exact⟨h.1,h.2.1,w.trans h.2.2⟩
    ·have h:=v.ev a k f o m c.e s1 r n b P;have j:=w.trans h.2;split
     ·split;·rename_i U;have g:=ajd (p:=T a k) b (y U) (F.ev a k o c.e s1).1 (F.ev a k o c.e s1).2.2;exact⟨aO rfl,g.1,j.trans g.2⟩
      ·split
       ·rename_i H;refine⟨aO rfl,b,j.trans ⟨rfl,(uy.refl (nm:=nm) (p:=T a k) _).vs,λd w=>?_⟩⟩;rcases bX.1 w with w|w;·exact aO w
        ·rw[dh]at w;subst w;exact aQ<|B H
       ·split;·have g:=bodies v r n R o (F.ev a k o c.e s1).2.2 b;exact⟨g.1,g.2.1,j.trans g.2.2⟩
        ·have g:=bodies v r n K o (F.ev a k o c.e s1).2.2 b;exact⟨g.1,g.2.1,j.trans g.2.2⟩
     ·exact⟨h.1,b,j⟩
 ·cases m with
  | zero=>exact iU z
  | succ m=>
   obtain⟨P,y,B,K,R⟩:=z c<|dh.2 rfl;obtain⟨h,j⟩:=eY (v.ev a k f o m c.e s r n b P)<|bodies v r n K o (F.ev a k o c.e s).2.2 b;have g:=h.2.trans j.2.2;simp only[step];split
   ·split
    ·cases N:qX (rA (F.dO a k) c.a o (F.ev a k o c.e s).2.2).2.2 with
     | none=>exact⟨aQ rfl,j.2.1,g⟩
     | some s2 =>have I:=v.lp a k f (rA (F.dO a k) c.a o (F.ev a k o c.e s).2.2).2.1 (m+1) c s2 r n j.2.1 z;exact⟨I.1,I.2.1,(g.trans<|uy.qX N).trans I.2.2⟩
    ·exact⟨j.1,j.2.1,g⟩
   ·exact⟨h.1,b,h.2⟩
theorem KO(d:Code nm l T Ok):∀g,UD nm l T Ok<|M nm l g
 | 0=>⟨λ_ _ _ _ _ _ s _ _ _ _=>⟨aO rfl,uy.refl s⟩,λ_ _ _ _ _ _ s _ _ b _=>⟨aO rfl,b,uy.refl s⟩,λ_ _ _ _ _ _ s _ _ b _=>⟨aO rfl,b,uy.refl s⟩⟩
 | g+1=>aci (KO d g) d
end
end Rn
open Go.Maps Go.WideMaps
namespace Ck
theorem LM{l:List Mo}{F:aS->Fi}:∀{r:aJ} {acc:List Dg},(bl l F r acc).2=0->(bl l F r acc).1=[]->acc=[]/\∀b∈r,(dQ l b).isSome=true->(F b).2.2=0/\(F b).2.1=[]
 | [],acc,_,g=>⟨g,λb d=>by cases d⟩
 | s::r,acc,f,g=>by
  unfold bl at f g;by_cases v:(dQ l s).isSome=false
  ·rw[aK v]at f g;obtain⟨e,n⟩:=LM f g;refine⟨e,λb d h=>?_⟩;rcases fV.1 d with rfl|d;·rw[v]at h;cases h
   ·exact n b d h
  ·rw[aI v]at f g;by_cases j:(F s).2.2≠0;·rw[aK j]at f;exact aM f j
   ·rw[aI j]at f g;obtain⟨e,n⟩:=LM f g;by_cases o:(F s).2.1≠[];·rw[aK o]at e;simp at e
    ·rw[aI o]at e;refine⟨e,λb d h=>?_⟩;rcases fV.1 d with rfl|d;·exact⟨Decidable.of_not_not j,Classical.not_not.1 o⟩
     ·exact n b d h
theorem Gs{l:List Dg}(h:bO.once l=[]):l=[]:=by
 cases l with
 | nil=>rfl
 | cons d l =>have:=(Dh (d::l) d).2 List.mem_cons_self;rw[h]at this;cases this
theorem acj{c:Cx}{F:aS->Fi}{x:Mo}(f:(Oj c F x).2.2=0)(d:(Oj c F x).2.1=[]):¬yu c.l x.name x.name/\∀b∈x.imports,(dQ c.l b).isSome=true->(F b).2.2=0/\(F b).2.1=[]:=by
 unfold Oj at f d;by_cases j:yu c.l x.name x.name;·rw[aK j]at d;cases d
 ·rw[aI j]at f d;by_cases g:(bl c.l F x.imports []).2≠0;·rw[aK g]at f;exact aM f g
  ·rw[aI g]at f d;by_cases h:bO.once (bl c.l F x.imports []).1≠[];·rw[aK h]at d;exact aM d h
   ·exact⟨j,(LM (Decidable.of_not_not g)<|Gs<|Classical.not_not.1 h).2⟩
theorem amt{c:Cx}{s b:aS}(d:(FD c s).2.2=0)(f:(FD c s).2.1=[])(j:imp c.l s b):(FD c b).2.2=0/\(FD c b).2.1=[]:=by obtain⟨i,x,n,o,g,h⟩:=j;rw[QU n o]at d f;exact(acj d f).2 b g h
theorem agL{c:Cx}{name:aS}(b:(an c name).2.2=0):nN (dD c.ss c.G c.L c.Z) c.m c.l=0/\(dQ c.l name).isSome=true/\an c name=FD c name:=by
 unfold an at b ⊢;by_cases d:nN (dD c.ss c.G c.L c.Z) c.m c.l≠0;·rw[aK d]at b;exact aM b d
 ·rw[aI d]at b ⊢;by_cases f:(dQ c.l name).isSome=false;·rw[aK f]at b;cases b
  ·rw[aI f];refine⟨Decidable.of_not_not d,?_,rfl⟩;cases g:(dQ c.l name).isSome with
   | true=>rfl
   | false=>exact aM g f
end Ck
namespace Sm
open Fl
section
variable {ss : List ByteArray} {G : Nat} {L : Nat → Nat} {Z : Nat → Nat → Bool} {m : Nat} {x : Mo} {known : List Mo} {bL : List (List Sc)}
theorem acn(f:(ans ss G L Z m x known bL).2.2=0)(g:(ans ss G L Z m x known bL).2.1=[]):bO.once (D9 ss x known m)=[]/\qI ss G L Z m x known bL x.bq.length=0/\(inf ss Z m x known bL x.bq.length).2=[]/\(ans ss G L Z m x known bL).1=(inf ss Z m x known bL x.bq.length).1:=by
 unfold ans at f g ⊢;by_cases a:AO (dD ss G L Z) m x known=0
 ·rw[aI (by simp[a])]at f g ⊢;by_cases b:bO.once (D9 ss x known m)=[]
  ·rw[aI (by simp[b])]at f g ⊢;by_cases d:qI ss G L Z m x known bL x.bq.length=0
   ·rw[aI (by simp[d])]at f g ⊢;by_cases e:(inf ss Z m x known bL x.bq.length).2=[];·rw[aI (by simp[e])];exact⟨b,d,e,rfl⟩
    ·rw[aK e]at g;exact aM (Gs g) e
   ·rw[aK d]at f;exact aM f d
  ·rw[aK b]at g;exact aM g b
 ·rw[aK a]at f;exact aM f a
theorem U3:∀{n:Nat},qI ss G L Z m x known bL n=0->∀k,k<n->Vq ss G L Z m x k known bL (inf ss Z m x known bL k).1 40 1000=0
 | 0,_,k,b=>aM b<|fU k
 | n+1,d,k,b=>by
  obtain⟨f,g⟩:=Gl d;by_cases e:k=n;·subst e;exact g
  ·exact U3 f k bC
theorem LP:∀{n:Nat},n<=x.bq.length->∀k,k<=n->(inf ss Z m x known bL n).1.take k=(inf ss Z m x known bL k).1
 | 0,_,k,d=>by
  obtain rfl:k=0:=by omega
  rfl
 | n+1,f,k,d=>by
  by_cases e:k=n+1;·subst e;exact fQ (by rw[xB f];exact bG _)
  ·have b:=aZ (show n<x.bq.length by omega);rw[tL b];show((inf ss Z m x known bL n).1++_).take k=_;rw[List.take_append_of_le_length (by rw[xB bC];omega)];exact LP bC k bC
noncomputable def scK(ss:List aS)(Z:Nat->Nat->Bool)(m:Nat)(x:Mo)(known:List Mo)(bL:List (List Sc))(k:Nat)(f:Fu):Sc:=
 eF Z ss.length (least Z ss.length ((gH ss Z x k known bL (inf ss Z m x known bL k).1 f).jd m f).names.length ((gH ss Z x k known bL (inf ss Z m x known bL k).1 f).jd m f).cons) ((gH ss Z x k known bL (inf ss Z m x known bL k).1 f).jd m f) f
theorem amu{k:Nat}{f:Fu}(b:x.bq[k]?=some f):(inf ss Z m x known bL x.bq.length).1[k]?=some (scK ss Z m x known bL k f):=by have d:=(cO.1 b).1;have g:=LP (ss:=ss) (Z:=Z) (m:=m) (known:=known) (bL:=bL) (bG x.bq.length) (k+1) d;have h:((inf ss Z m x known bL x.bq.length).1.take (k+1))[k]?=(inf ss Z m x known bL x.bq.length).1[k]?:=nM<|Nat.lt_succ_self k;rw[<-h,g,tL b];show((inf ss Z m x known bL k).1++[_])[k]?=_;have j:=xB (ss:=ss) (Z:=Z) (m:=m) (known:=known) (bL:=bL)<|xq d;rw[kL bC,j,mW];rfl
end
theorem pcf{Z:aL}{N n:Nat}(f:bS.Ord Z N)(K:bS.Joins (bS.tr Z) N):∀(l:List Si) (b:Nat),b<N->(∀s∈l,Ez N n s)->
 l.foldl (pcW Z N) b<N/\Z (l.foldl (pcW Z N) b) b=true/\∀s∈l,s.gY=true->Z (l.foldl (pcW Z N) b) s.lv.toNat=true
 | [],b,d,_=>⟨d,f.refl b d,λs h=>by cases h⟩
 | s::l,b,d,h=>by
  have r:=h s List.mem_cons_self;have o:=RL (Z:=Z) K d r;obtain⟨j,v,B⟩:=pcf f K l (pcW Z N b s) o λt g=>h t<|l8 _ g;have w:Z (pcW Z N b s) b=true/\(s.gY=true->Z (pcW Z N b s) s.lv.toNat=true):=by
   unfold pcW;by_cases e:s.gY=true;·rw[aK e];have:=K.spec d r.lvN.1;exact⟨this.left,λ_=>this.right⟩
   ·rw[aI e];exact⟨f.refl b d,λz=>aM z e⟩
  rw[pz];refine⟨j,f.trans _ _ _ j o d v w.1,λt g y=>?_⟩;rcases fV.1 g with rfl|g;·exact f.trans _ _ _ j o r.lvN.1 v<|w.2 y
  ·exact B t g y
end Sm
namespace Ck
theorem aje{c:Cx}{F:aS->Fi}{x:Mo}(d:(Oj c F x).2.2=0)(b:(Oj c F x).2.1=[]):Oj c F x=Sm.ans c.ss c.G c.L c.Z c.m x (tN c.l x) (vE c.l F x):=by
 unfold Oj at d b ⊢;by_cases h:yu c.l x.name x.name;·rw[aK h]at b;cases b
 ·rw[aI h]at d b ⊢;by_cases f:(bl c.l F x.imports []).2≠0;·rw[aK f]at d;exact aM d f
  ·rw[aI f]at d b ⊢;by_cases g:bO.once (bl c.l F x.imports []).1≠[];·rw[aK g]at b;exact aM b g
   ·rw[aI g]
structure Acc(c:Cx)(i:Nat)(x:Mo):Prop where
 mo:c.l[i]?=some x
 form:nN (dD c.ss c.G c.L c.Z) c.m c.l=0
 err:(FD c x.name).2.2=0
 dg:(FD c x.name).2.1=[]
structure asU(c:Cx)(x:Mo):Prop where
 chk:dD c.ss c.G c.L c.Z=0
 moe:oO c.m x=0
 nm:pX c.ss x (tN c.l x) c.m
 imp:∀s∈x.imports,s≠x.name
 fns:(x.bq.map (·.name)).Nodup
 inf:qI c.ss c.G c.L c.Z c.m x (tN c.l x) (vE c.l (FD c) x) x.bq.length=0
 GJ:(Sm.inf c.ss c.Z c.m x (tN c.l x) (vE c.l (FD c) x) x.bq.length).2=[]
 eF:(FD c x.name).1=(Sm.inf c.ss c.Z c.m x (tN c.l x) (vE c.l (FD c) x) x.bq.length).1
section
variable {c : Cx} {i : Nat} {x : Mo}
theorem Acc.at(h:Acc c i x):dQ c.l x.name=some i:=Ak (kK h.form).2.2.2 h.mo
theorem Acc.facts(f:Acc c i x):asU c x:=by have e:=QU f.at f.mo;obtain⟨g,h⟩:=eY f.err f.dg;rw[e]at g h;have r:=aje g h;rw[r]at g h;obtain⟨a,b,d,k⟩:=acn g h;obtain⟨f1,_,z,_⟩:=kK f.form;have n:=Gs a;unfold D9 at n;simp only[uE,DT,gL,MZ]at n;obtain⟨D,o,_,_⟩:=n;unfold twD at o;simp only[uE,DT,gL,MZ]at o;refine⟨f1,z x<|dG f.mo,Fl.Qr a,λs B y=>?_,Gc o.1.2.2,b,d,by rw[e,r];exact k⟩;obtain⟨j,w,rfl⟩:=gU.1 B;have v:=K6 D j w;rw[sQ (aZ w),aK (by rw[GK];exact aO<|dM.2 y)]at v;cases v
theorem ajf{y:Mo}(h:y∈tN c.l x):y∈c.l:=(List.mem_filter.1 h).1
theorem agM(F:cnt c.l c.l.length=c.l.length){k:Nat}{call:aS}(f:(fF x k call<|tN c.l x).2.2=true):(∃(j:Nat) (g:Fu),fF x k call (tN c.l x)=(-1,(j:Int),true)/\fF x k call c.l=(-1,(j:Int),true)/\x.bq[j]?=some g)\/∃(a b:Nat) (y:Mo) (j:Nat) (g:Fu),fF x k call (tN c.l x)=((a:Int),(j:Int),true)/\fF x k call c.l=((b:Int),(j:Int),true)/\(tN c.l x)[a]?=some y/\c.l[b]?=some y/\y.name∈x.imports/\y.bq[j]?=some g:=by
 cases h:lI call with
 | none=>
  left;have e:∀D,fF x k call D=bO.tV (-1) x.bq call k:=λD=>by simp[fF,h]
  rw[e]at f ⊢;rw[e];unfold bO.tV at f ⊢;cases o:vP x.bq call k with
  | none=>rw[o]at f;simp at f
  | some j =>obtain⟨_,g,hg⟩:=Dy o;exact⟨j,g,rfl,rfl,hg⟩
 | some d=>
  right;rcases vR x.imports (bS.preS call)with r|⟨n,r,hn⟩
  ·have e:fF x k call (tN c.l x)=(0,0,false):=by simp[fF,h,r]
   rw[e]at f;simp at f
  ·cases w:dQ (tN c.l x) (x.imports.getD n ByteArray.empty)with
   | none=>rw[Dn h r w]at f;simp at f
   | some a=>
    obtain⟨y,z,B⟩:=iT w;have H:y.name∈x.imports:=by rw[B,List.getD,aZ hn];exact kZ hn
    obtain⟨b,v⟩:=YU.1<|ajf<|dG z;have I:dQ c.l (x.imports.getD n ByteArray.empty)=some b:=by rw[<-B];exact Ak F v
    rw[Dp h r w z]at f ⊢;rw[Dp h r I v];unfold bO.tV at f ⊢;cases o:vP y.bq (uR call) y.bq.length with
    | none=>rw[o]at f;simp at f
    | some j =>obtain⟨_,g,hg⟩:=Dy o;exact⟨a,b,y,j,g,rfl,rfl,z,v,H,hg⟩
theorem Acc.imp(d:Acc c i x){b:Nat}{y:Mo}(f:c.l[b]?=some y)(j:y.name∈x.imports):Acc c b y:=by have n:=Ak (kK d.form).2.2.2 f;obtain⟨g,h⟩:=amt d.err d.dg (⟨i,x,d.at,d.mo,j,by rw[n];rfl⟩:Ck.imp c.l x.name y.name);exact⟨f,d.form,g,h⟩
noncomputable def xD(c:Cx)(a k:Nat):Sc:=match c.l[a]? with
 | some x=>(FD c x.name).1.getD k Fl.Gf
 | none=>Fl.Gf
def OkF(c:Cx)(a k:Nat):Prop:=∃x,Acc c a x/\k<x.bq.length
theorem Acc.xD(d:Acc c i x){k:Nat}{f:Fu}(g:x.bq[k]?=some f):Ck.xD c i k=scK c.ss c.Z c.m x (tN c.l x) (vE c.l (FD c) x) k f/\(FD c x.name).1[k]?=some (Ck.xD c i k):=by
 have b:=amu (ss:=c.ss) (Z:=c.Z) (m:=c.m) (known:=tN c.l x) (bL:=vE c.l (FD c) x) g;rw[<-d.facts.eF]at b;have e:Ck.xD c i k=scK c.ss c.Z c.m x (tN c.l x) (vE c.l (FD c) x) k f:=by unfold Ck.xD;rw[d.mo];simp only;rw[List.getD,b];rfl
 exact⟨e,by rw[e];exact b⟩
theorem Acc.target(f:Acc c i x){k:Nat}(H:k<x.bq.length){call:aS}{n:Nat}(d:bO.code x (tN c.l x) k call n=0):∃b j g,(fF x k call c.l).2.2=true/\(if (fF x k call c.l).1<0 then i else (fF x k call c.l).1.toNat)=b/\(fF x k call c.l).2.1.toNat=j/\(c.l[b]?.bind λm=>m.bq[j]?)=some g/\g.params.length=n/\OkF c b j/\Fl.qH x k (tN c.l x) (vE c.l (FD c) x) (Sm.inf c.ss c.Z c.m x (tN c.l x) (vE c.l (FD c) x) k).1 call=Ck.xD c b j:=by
 have I:(fF x k call<|tN c.l x).2.2=true:=by
  unfold bO.code at d;cases f:(fF x k call<|tN c.l x).2.2 with
  | true=>rfl
  | false=>rw[f]at d;simp at d
 rcases agM (kK f.form).2.2.2 I with⟨j,g,o,h,hg⟩|⟨a,b,y,j,g,o,h,z,v,w,hg⟩
 ·refine⟨i,j,g,by rw[h],by rw[h];rfl,by rw[h];rfl,by rw[f.mo];exact hg,?_,⟨x,f,(cO.1 hg).1⟩,?_⟩;·unfold bO.code VQ at d;rw[o]at d;simp[hg]at d;exact d
  ·have F:=Ua o;have B:Fl.qH x k (tN c.l x) (vE c.l (FD c) x) (Sm.inf c.ss c.Z c.m x (tN c.l x) (vE c.l (FD c) x) k).1 call=(Sm.inf c.ss c.Z c.m x (tN c.l x) (vE c.l (FD c) x) k).1.getD j Fl.Gf:=by unfold Fl.qH;rw[o];simp
   rw[B,<-LP (bG x.bq.length) k (xq H),<-f.facts.eF,List.getD,nM F,(f.xD hg).2];rfl
 ·have r:=f.imp v w;refine⟨b,j,g,by rw[h],by rw[h];simp;omega,by rw[h];rfl,by rw[v];exact hg,?_,⟨y,r,(cO.1 hg).1⟩,?_⟩
  ·unfold bO.code VQ at d;rw[o]at d;have:¬((a:Int)=-1):=by omega
   simp[z,hg,this]at d;exact d
  ·have D:(vE c.l (FD c) x)[a]?=some (FD c y.name).1:=by unfold vE;rw[pq,z];simp only[kV,Kj];unfold sc1;rw[aK (QM.2 w)]
   unfold Fl.qH;rw[o];have:¬((a:Int)<0):=by omega
   simp only[Bool.true_eq_false,if_false,this,vQ];rw[List.getD,List.getD,D,gD,(r.xD hg).2];rfl
end
end Ck
namespace Ck
open Fl
structure Br(e:Env)(nm:List (ByteArray × ByteArray))(l:List Mo)(T:Nat->Nat->Rn.May)(Ok:Nat->Nat->Prop)(a k:Nat)(ps:List ByteArray)(E:List ByteArray)(Q:Int->Prop)(C:Ex->Prop):Prop where
 rd:∀n,Rn.Sh nm (Rn.mn l a) ps n->(∀t∈e.Q8 ⟨#[114,58]⟩ n,t∈E)->(T a k).rd (Rn.mn l a,n)
 st:∀n,Rn.Sh nm (Rn.mn l a) ps n->(∀t∈e.Q8 ⟨#[119,58]⟩ n,t∈E)->(∀i,e.nQ n=some i->Q i)->(T a k).st (Rn.mn l a,n)
 pr:∀s:ByteArray,(⟨#[112,58]⟩++s:ByteArray)∈E->Q (e.pl s)->(T a k).pr s
 cl:∀y:Ex,C y->(∀t∈(e.eF y.name).gY,t∈E)->Q (e.eF y.name).pc->clA l T Ok a k y
section
variable {e : Env} {nm : List (ByteArray × ByteArray)} {l : List Mo} {T : Nat → Nat → Rn.May} {Ok : Nat → Nat → Prop} {a k : Nat} {ps : List ByteArray} {E : List ByteArray} {Q : Int → Prop} {C : Ex → Prop}
theorem Yb(B:Br e nm l T Ok a k ps E Q C):∀(m:Nat) (x:Ex) (pc:Hg),e.xZ m x->(∀t∈e.AA m x,t∈E)->(∀s∈e.zi m x pc,s.gY=true->Q s.lv)->(∀y∈fK m x,C y)->exA nm l T Ok a k ps m x
 | 0,_,_,n,_,_,_=>iU n
 | m+1,x,pc,n,f,j,h=>by
  simp only[Env.AA,bX,gZ]at f;simp only[Env.zi,bX,gZ]at j;simp only[fK,bX,gZ]at h;refine⟨λo v=>B.rd _ v λt b=>f t (aO (by rw[aK o];exact b)),λd=>?_,λy g=>?_⟩
  ·refine B.cl x (h x<|aO (by rw[aK d];exact dh.2 rfl)) (λt b=>f t<|aO ?_) (j (sk pc (e.eF x.name).pc x.name true) (aQ ?_) rfl);·rw[aI (by rw[d];decide),aK d];exact b
   ·rw[aK d];exact List.mem_append_right _<|dh.2 rfl
  ·exact Yb B m y pc (n.2.2.2 y g) (λt b=>f t<|aQ ⟨y,g,b⟩) (λs r=>j s<|aO ⟨y,g,r⟩) λz w=>h z<|aQ ⟨y,g,w⟩
theorem Yc(B:Br e nm l T Ok a k ps E Q C)(M:Nat):∀(m:Nat) (c:List St) (pc:Hg),m<=M->e.yg m c->(∀t∈e.Pz m c,t∈E)->(∀s∈e.Il m c pc,s.gY=true->Q s.lv)->(∀s∈bO.all m c,∀y∈fK M s.e,C y)->Rn.stA nm l T Ok a k ps m c
 | 0,_,_,_,v,_,_,_=>iU v
 | m+1,c,pc,N,v,f,g,o=>by
  intro s b;obtain⟨_,z,_,_,D,F⟩:=v s b;simp only[Env.Pz,bX,gZ]at f;simp only[Env.Il,bX,gZ]at g;simp only[bO.all,bO.within,bX,gZ,dh]at o
  refine⟨Yb B m s.e (e.at m pc s) z (λt d=>f t ⟨s,b,aO<|aO<|aO d⟩) (λj h=>g j ⟨s,b,aO<|aO<|aO h⟩) (λy K=>o s ⟨s,b,aO<|aO rfl⟩ y (p9 m M _ _ bC K)),
   λw I=>B.st _ I (λt d=>f t ⟨s,b,aO<|aO<|aQ ?_⟩) λi H=>g (sk (e.here m pc s) i s.name true) ⟨s,b,aO<|aO<|aQ ?_⟩ rfl,
   λn=>B.pr _ (f _ ⟨s,b,aO<|aO<|aQ ?_⟩)<|g (sk (e.here m pc s) (e.pl s.name) s.name true) ⟨s,b,aO<|aO<|aQ ?_⟩ rfl,
   Yc B M m s.a (e.here m pc s) bC D (λt d=>f t ⟨s,b,aO<|aQ d⟩) (λj h=>g j ⟨s,b,aO<|aQ h⟩) (λu r=>o u ⟨s,b,aO<|aQ r⟩),
   Yc B M m s.b (e.here m pc s) bC F (λt d=>f t ⟨s,b,aQ d⟩) (λj h=>g j ⟨s,b,aQ h⟩) (λu r=>o u ⟨s,b,aQ r⟩)⟩
  ·unfold Env.Py;rw[aK w];exact d
  ·unfold Env.Vl Env.skN;rw[aK w,H];exact dh.2 rfl
  ·unfold Env.Py;rw[aI (by rw[n];decide),aK n];exact dh.2 rfl
  ·unfold Env.Vl;rw[aI (by rw[n];decide),aK n];exact dh.2 rfl
end
def Zy(l:List Mo)(v:aS × aS):Option aS:=(l.find? λm=>cB m.name v.1).bind λm=>(m.vars.find? λu=>cB u.name v.2).map (·.level)
def wF(c:Cx)(pc:Int)(s:aS):Prop:=0<=dU c.ss s/\dU c.ss s<c.ss.length/\c.Z pc.toNat (dU c.ss s).toNat=true
def Yd(c:Cx)(y:Sc):Rn.May:=⟨λv=>Rn.tag 114 v∈y.gY,λv=>Rn.tag 119 v∈y.gY/\∃s,Zy c.l v=some s/\wF c y.pc s,λs=>yj s∈y.gY/\wF c y.pc s⟩
noncomputable def may(c:Cx)(a k:Nat):Rn.May:=Yd c (xD c a k)
theorem ajg{c:Cx}{y d:Sc}(h:bS.Ord c.Z c.ss.length)(f:∀t∈d.gY,t∈y.gY)(n:y.pc.toNat<c.ss.length)(o:d.pc.toNat<c.ss.length)(j:c.Z y.pc.toNat d.pc.toNat=true):(Yd c d).Le (Yd c y):=by have g:∀s,wF c d.pc s->wF c y.pc s:=λs ⟨p,q,r⟩=>⟨p,q,h.trans _ _ _ n o bC j r⟩;exact⟨λv b=>f _ b,λv ⟨b,s,e,k⟩=>⟨f _ b,s,e,g s k⟩,λs ⟨b,k⟩=>⟨f _ b,g s k⟩⟩
theorem agN{c:Cx}{i:Nat}{x:Mo}(b:Acc c i x):(c.l.find? λm=>cB m.name x.name)=some x:=by
 obtain⟨f,e⟩:=cO.1 b.mo;refine List.find?_eq_some_iff_getElem.2 ⟨dM.2 rfl,i,f,e,λj n=>?_⟩;have g:j<c.l.length:=by omega
 cases h:cB (c.l[j]).name x.name with
 | false=>rfl
 | true =>have d:=Ak (kK b.form).2.2.2<|aZ g;rw[dM.1 h,b.at]at d;injection d with d;omega
theorem U4{d:List Va}(f:(d.map (·.name)).Nodup){v:Va}(b:v∈d):(d.find? λu=>cB u.name v.name)=some v:=by
 induction d with
 | nil=>cases b
 | cons u d h=>
  rw[fZ,List.nodup_cons]at f;rw[List.find?_cons];cases g:cB u.name v.name with
  | true=>
   have e:=dM.1 g;rcases fV.1 b with rfl|b;·rfl
   ·exact aM (iZ.2 ⟨v,b,e.symm⟩) f.1
  | false=>
   rcases fV.1 b with rfl|b;·rw[dM.2 rfl]at g;cases g
   ·exact h f.2 b
theorem ajh{ss ps:aJ}{b:List Va}{s:aS}{v:Va}(h:s∉ps)(j:v∈b)(e:v.name=s)(g:(b.map (·.name)).Nodup):tJ ss ps b s=some (dU ss v.level).toNat:=by
 unfold tJ;rw[aI (by rw[uN];exact h)];have f:(b.reverse.map (·.name)).Nodup:=by rw[List.map_reverse];exact List.pairwise_reverse.2<|g.imp Ne.symm
 have d:=U4 f<|List.mem_reverse.2 j;rw[e]at d;rw[d];rfl
theorem U5(c:Cx)(nm:List (aS × aS))(am:∀(a:Nat) y,c.l[a]?=some y->∀n,(Rn.pos nm y.name n).isSome=true->∃v∈y.vars,v.name=n):Rn.Code nm c.l (may c) (OkF c):=by
 rintro a k f ⟨x,w,hk⟩ I;rw[w.mo]at I;have I:x.bq[k]?=some f:=I;have F:=w.facts;obtain⟨H,e0⟩:=eY (EH I<|U3 F.inf k hk)<|(w.xD I).1;obtain⟨own,aa⟩:=aV<|(Sm.inf c.ss c.Z c.m x (tN c.l x) (vE c.l (FD c) x) k).1;have af:=λ(call:aS) (n:Nat) (hc:bO.code x (tN c.l x) k call n=0)=>w.target hk hc;rw[<-aa]at H af;obtain⟨e,z⟩:=aV<|gH c.ss c.Z x k (tN c.l x) (vE c.l (FD c) x) own f;have aq:e.N=c.ss.length:=by rw[z];rfl
 have U:=qF F.chk;have S:=Jq U.order;have ah:=sD S U.joins;have K:bS.Joins (bS.tr c.Z) c.ss.length:=sD S.turn U.meets;have ak:(xD c a k).gY=gP (jZ<|e.gY c.m f):=by rw[e0,z,aa];rfl
 have ae:(xD c a k).pc=(Sm.pc c.Z c.ss.length (e.jd c.m f).sinks:Nat):=by rw[e0,z,aa];rfl
 rw[<-z]at H;have W:Rn.mn c.l a=x.name:=by unfold Rn.mn;rw[w.mo];rfl
 have ao:Sm.top c.Z c.ss.length<c.ss.length:=(Db (Z:=bS.tr c.Z) ah U.pos).1;obtain⟨p1,_,p3⟩:=pcf S K (e.jd c.m f).sinks (Sm.top c.Z c.ss.length) ao H.pb.sinks;have ag:(xD c a k).pc.toNat<c.ss.length:=by rw[ae,vQ];exact p1
 have hE:∀t∈e.gY c.m f,t∈(xD c a k).gY:=λt N=>by rw[ak];exact QK.2 N
 have hQ:∀s∈e.Il c.m f.body ([],e.low)++e.zi c.m f.result ([],e.low),s.gY=true->0<=s.lv/\s.lv<c.ss.length/\c.Z (xD c a k).pc.toNat s.lv.toNat=true:=λs D ai=>by have hm:oP (e.names c.m f) s∈(e.jd c.m f).sinks:=iZ.2 ⟨s,D,rfl⟩;obtain⟨h,o⟩:=eY (p3 _ hm ai)<|(H.pb.sinks _ hm).lv;refine⟨o.1,o.2,?_⟩;rw[ae,vQ];exact h
 have ad:=F.nm.calls k f I;have hB:Br e nm c.l (may c) (OkF c) a k f.params (xD c a k).gY (λlv=>0<=lv/\lv<c.ss.length/\c.Z (xD c a k).pc.toNat lv.toNat=true) (λy=>bO.code x (tN c.l x) k y.name y.args.length=0):=by
  have ac:∀n,Rn.Sh nm (Rn.mn c.l a) f.params n->∃v∈x.vars,v.name=n/\e.nQ n=some (dU c.ss v.level).toNat:=λn r=>by rw[W]at r;obtain⟨v,P,ev⟩:=am a x w.mo n r.2;exact⟨v,P,ev,by rw[z];exact ajh r.1 P ev F.nm.vars⟩
  have ab:∀d n,Rn.Sh nm (Rn.mn c.l a) f.params n->e.Q8 d n=[deed d x.name n]:=λd n r=>by
   obtain⟨v,_,_,B⟩:=ac n r;unfold Env.Q8;rw[B];have:e.md=x.name:=by rw[z];rfl
   rw[this]
  refine⟨λn r h=>?_,λn r h o=>?_,λs h o=>?_,λy R h o=>?_⟩;·have V:=h _ (by rw[ab _ n r];exact dh.2 rfl);rw[W];exact V
  ·have V:=h _ (by rw[ab _ n r];exact dh.2 rfl);obtain⟨v,P,ev,B⟩:=ac n r;obtain⟨q1,q2,q3⟩:=o _ B;have al:=F.nm.Ig v P;rw[W];refine⟨V,v.level,?_,al,by omega,?_⟩;·unfold Zy;rw[agN w,Option.bind_some,<-ev,U4 F.nm.vars P];rfl
   ·rw[vQ]at q3;exact q3
  ·refine⟨h,?_⟩;have B:e.pl s=dU c.ss s:=by rw[z];rfl
   rw[B]at o;exact o
  ·obtain⟨b,j,g,t1,t2,t3,t4,t5,t6,t7⟩:=af y.name y.args.length R;have B:e.eF y.name=xD c b j:=by rw[z];exact t7
   refine⟨x,g,w.mo,t1,by rw[t2,t3];exact t4,t5,by rw[t2,t3];exact t6,?_⟩;rw[t2,t3];rw[B]at h o;exact ajg S h ag bC o.2.2
 refine⟨c.m,?_,?_⟩;·exact Yc hB c.m c.m f.body ([],e.low) (bG _) H.st (λt N=>hE t<|M7 _ N) (λs D=>hQ s<|M7 _ D) λs D y R=>ad y<|M7 _<|gZ.2 ⟨s,D,R⟩
 ·exact Yb hB c.m f.result ([],e.low) H.ex (λt N=>hE t<|List.mem_append_right _ N) (λs D=>hQ s<|List.mem_append_right _ D) λy R=>ad y<|List.mem_append_right _ R
end Ck
namespace Rn
def U6(st:List (aS × aS) × List Vr):Prop:=st.2.length=st.1.length/\∀v∈st.2,v.rd=false/\v.st=false
theorem LQ{store:List Ce}{mod:aS}:∀(f:List Va) (st:List (aS × aS) × List Vr),U6 st->U6 (AP store mod st f)
 | [],_,d=>d
 | v::f,st,d=>by
  refine LQ f (addN st.1 mod v.name,En store st.1 st.2 mod v.name) ⟨aeX d.1,λu b=>?_⟩;have b:u∈En store st.1 st.2 mod v.name:=b;unfold En at b;split at b;·exact d.2 u b
  ·rcases bX.1 b with b|b;·exact d.2 u b
   ·rw[dh]at b;subst b;exact⟨rfl,rfl⟩
theorem xE(store:List Ce)(l:List Mo):∀i,U6<|mP store l i
 | 0=>⟨rfl,λv b=>by cases b⟩
 | i+1=>by
  unfold mP;split
  ·split;·exact xE store l i
   ·exact LQ _ _<|xE store l i
  ·exact xE store l i
theorem LU(t:UInt8)(x:aS × aS):(tag t x).data.toList=t::58::(x.1.data.toList++46::x.2.data.toList):=by unfold tag;simp[ByteArray.data_append]
theorem acp(s:aS):(yj s).data.toList=112::58::s.data.toList:=by unfold yj;simp[ByteArray.data_append]
theorem UO{a b:aS}(h:a.data.toList=b.data.toList):a=b:=by cases a;cases b;congr 1;exact Array.toList_inj.1 h
theorem ZY:∀{a b c d:List UInt8},46∉a->46∉c->a++46::b=c++46::d->a=c/\b=d
 | [],b,[],d,_,_,f=>⟨rfl,by injection f⟩
 | [],b,y::c,d,_,j,f=>by injection f with g _;exact aM (by rw[g];exact List.mem_cons_self) j
 | x::a,b,[],d,h,_,f=>by injection f with g _;exact aM (by rw[g];exact List.mem_cons_self) h
 | x::a,b,y::c,d,h,j,f=>by injection f with g n;obtain⟨o,r⟩:=ZY (λk=>h<|l8 _ k) (λk=>j<|l8 _ k) n;exact⟨by rw[g,o],r⟩
theorem acr{s:aS}(b:kR s=true):(46:UInt8)∉s.data.toList:=λd=>by unfold kR dZ at b;simp only[dK,iB]at b;have:=b.2 _ d;unfold iY at this;simp at this
theorem aji{t:UInt8}{x y:aS × aS}(h:(46:UInt8)∉x.1.data.toList)(j:(46:UInt8)∉y.1.data.toList)(d:tag t x=tag t y):x=y:=by have b:=congrArg (λs:aS=>s.data.toList) d;simp only[LU,R9,true_and]at b;obtain⟨f,g⟩:=ZY h j b;exact Prod.ext (UO f)<|UO g
theorem ajj{nm:List (aS × aS)}{p:May}{s t:gM}(D:U6 (nm,s.vs))(B:s.pr=[])(f:uy nm p s t){u:aS}(b:u∈did nm t.vs t.pr):(∃x∈nm,u=tag 114 x/\p.rd x)\/(∃x∈nm,u=tag 119 x/\p.st x)\/∃d∈t.pr,u=yj d.1/\p.pr d.1:=by
 unfold did at b;rcases bX.1 b with b|b
 ·unfold H8 at b;rw[Rl]at b;obtain⟨r,H,b⟩:=b;obtain⟨K,I,rfl⟩:=iZ.1 H;obtain⟨i,F⟩:=YU.1 I;obtain⟨h,o⟩:=NP.1 F;obtain⟨v0,v⟩:∃v0,s.vs[i]?=some v0:=⟨_,aZ (by have:=(cO.1 o).1;rw[f.len]at this;exact this)⟩;obtain⟨f1,w⟩:=D.2 v0<|dG v;obtain⟨y,z⟩:=f.vs i v0 K.2 v o;have n:=dG h;unfold TD at b;rcases bX.1 b with b|b
  ·split at b
   ·rename_i e;rw[dh]at b;rcases y e with k|⟨x,k,g⟩;·rw[f1]at k;cases k
    ·rw[h]at k;cases k;exact aO ⟨_,n,b,g⟩
   ·cases b
  ·split at b
   ·rename_i e;rw[dh]at b;rcases z e with k|⟨x,k,g⟩;·rw[w]at k;cases k
    ·rw[h]at k;cases k;exact aQ<|aO ⟨_,n,b,g⟩
   ·cases b
 ·obtain⟨d,j,rfl⟩:=iZ.1 b;rcases f.pr d j with k|k;·rw[B]at k;cases k
  ·exact aQ<|aQ ⟨d,j,rfl,k⟩
end Rn
namespace Ck
theorem Z0{m:Nat}:∀{l:List Mo},(∀y∈l,oO m y=0)->um m l=0
 | [],_=>rfl
 | x::l,b=>by unfold um;rw[aK (b x List.mem_cons_self)];exact Z0 λy d=>b y<|l8 _ d
theorem ajk{m:Nat}{x:Mo}(b:oO m x=0):(46:UInt8)∉x.name.data.toList:=by
 unfold oO at b;split at b;·cases b
 ·split at b;·cases b
  ·rename_i d;simp only[Bool.not_eq_false,dK]at d;exact acr d.1.1
theorem ajl{c:Cx}{name:aS}(I:(an c name).2.2=0)(h1:(an c name).2.1=[]){k:Nat}{y:Sc}(R:(an c name).1[k]?=some y){args:List Int}(ha:args.length=y.bounds.length)(g:Nat)(store:List Ce){fuel:Int}(hf:¬(fuel<1\/10000<fuel)):((Rn.run g c.m c.l name y.fn args store fuel).err=0\/(Rn.run g c.m c.l name y.fn args store fuel).err=6)/\(∀t∈(Rn.run g c.m c.l name y.fn args store fuel).did,t∈y.gY)/\(∀p∈(Rn.run g c.m c.l name y.fn args store fuel).pr,wF c y.pc p.1)/\(∀h∈(Rn.run g c.m c.l name y.fn args store fuel).TB,Rn.tag 119 (h.mod,h.name)∈(Rn.run g c.m c.l name y.fn args store fuel).did->∃s,Zy c.l (h.mod,h.name)=some s/\wF c y.pc s):=by
 obtain⟨ae,ao,e⟩:=agL I;rw[e]at I h1 R;obtain⟨i,hi⟩:=sF.1 ao;obtain⟨x,hx,rfl⟩:=iT hi;have N:Acc c i x:=⟨hx,ae,I,h1⟩;have H:=N.facts;have al:(FD c x.name).1.length=x.bq.length:=by rw[H.eF];exact xB<|bG _
 have S:k<x.bq.length:=by rw[<-al];exact(cO.1 R).1
 obtain⟨f,hfk⟩:∃f,x.bq[k]?=some f:=⟨_,aZ S⟩;obtain⟨s1,s2⟩:=N.xD hfk;rw[R]at s2;injection s2 with s2;have ad:y.fn=f.name:=by rw[s2,s1];rfl
 have ar:y.bounds.length=f.params.length:=by rw[s2,s1];exact QG _ _
 obtain⟨_,f2,f3,f4⟩:=kK ae;have ah:F6 c.m c.l=0:=by unfold F6;rw[aK (Z0 f3),aI bC]
 have ai:Rn.tV c.l x.name y.fn=some (i,k):=by
  unfold Rn.tV;rw[hi,Option.bind_some,hx];simp only[kV,gD];rw[Jp S hfk (dM.2 ad.symm) λd g hd hg=>?_];·rfl
  ·cases U:cB g.name y.fn with
   | false=>rfl
   | true=>
    have h2:=dM.1 U;rw[ad]at h2;have h3:(x.bq.map (·.name))[d]?=some f.name:=by rw[pq,hg];simp[h2]
    have h4:(x.bq.map (·.name))[k]?=some f.name:=by rw[pq,hfk];rfl
    have:=DZ H.fns h3 h4;omega
 obtain⟨st,W⟩:=aV<|mP store c.l c.l.length;have ak:U6 st:=by rw[W];exact xE _ _ _
 have af:∀v∈st.1,∃h∈c.l,∃u∈h.vars,v=(h.name,u.name):=λv B=>by rw[W]at B;exact zI B
 have ag:∀(a:Nat) h,c.l[a]?=some h->∀n,(Rn.pos st.1 h.name n).isSome=true->∃v∈h.vars,v.name=n:=λa h w n hn=>by obtain⟨j,hj⟩:=sF.1 hn;obtain⟨z',aa,u,hu,eu⟩:=af _<|dG<|Ot hj;injection eu with z e2;obtain⟨b,P⟩:=YU.1 aa;have m1:=Ak f4 P;rw[<-z,Ak f4 w]at m1;injection m1 with m1;subst m1;rw[w]at P;cases P;exact⟨u,hu,e2.symm⟩
 have V:=LJ (KO (U5 c st.1 ag) g) (U5 c st.1 ag) (⟨x,N,S⟩:OkF c i k) (f:=f) (by rw[hx];exact hfk) (args:=args) bC ⟨fuel.toNat,st.2,[]⟩;have am:may c i k=Yd c y:=by unfold may;rw[<-s2]
 rw[am]at V;obtain⟨r,hr⟩:=aV<|Rn.enter (Rn.M st.1 c.l g) c.l i k args ⟨fuel.toNat,st.2,[]⟩;have er:Rn.run g c.m c.l x.name y.fn args store fuel=Rn.out st.1 r:=by unfold Rn.run;rw[aI (by rw[ah];simp),aI hf,ai];simp only;rw[<-W,<-hr]
 rw[<-hr]at V;rw[er];obtain⟨D,h6⟩:=V;unfold Rn.out;by_cases K:r.2.1=0
 ·rw[aK K];have ac:∀u,u∈gP (jZ<|Rn.did st.1 r.2.2.vs r.2.2.pr)->(∃x∈st.1,u=Rn.tag 114 x/\(Yd c y).rd x)\/(∃x∈st.1,u=Rn.tag 119 x/\(Yd c y).st x)\/∃d∈r.2.2.pr,u=yj d.1/\(Yd c y).pr d.1:=λu hu =>ajj (s:=⟨fuel.toNat,st.2,[]⟩) ak rfl h6 (QK.1 hu);refine⟨aO rfl,λt F=>?_,λp o=>?_,λh w F=>?_⟩
  ·rcases ac t F with⟨v,_,rfl,o⟩|⟨v,_,rfl,o⟩|⟨d,_,rfl,o⟩;·exact o
   ·exact o.1
   ·exact o.1
  ·rcases h6.pr p o with k|k;·cases k
   ·exact k.2
  ·have aq:(h.mod,h.name)∈st.1:=by have w:h∈Rn.TB st.1 r.2.2.vs:=w;unfold Rn.TB at w;obtain⟨q,U,rfl⟩:=iZ.1 w;exact(List.of_mem_zip U).1
   have ab:∀v∈st.1,(46:UInt8)∉v.1.data.toList:=λv B=>by obtain⟨z',aa,u,_,rfl⟩:=af v B;exact ajk<|f3 z' aa
   rcases ac _ F with⟨v,_,z,_⟩|⟨v,B,z,o⟩|⟨d,_,z,_⟩;·have:=congrArg (λs:aS=>s.data.toList) z;simp only[LU,R9]at this;exact aM this.1 bM
   ·have:=aji (ab _ aq) (ab _ B) z;rw[this];exact o.2
   ·have:=congrArg (λs:aS=>s.data.toList) z;simp only[LU,acp,R9]at this;exact aM this.1 bM
 ·rw[aI K];rcases D with D|D;·exact aM D K
  ·refine⟨aQ D,?_,?_,?_⟩;·intro t F;exact aM (show t∈([]:aJ)from F) qZ
   ·intro p o;exact aM (show p∈([]:List (aS × Int))from o) qZ
   ·intro h w;exact aM (show h∈([]:List Ce)from w) qZ
end Ck
