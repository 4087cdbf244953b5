import Derived.Test.YtiebmbnfedbdeaaGreatDoorTZBN
set_option maxHeartbeats 0
set_option maxRecDepth 99999
namespace Go.Proofs.YtiebmbnfedbdeaaGreatDoor
open Ck bS bO Rn Sm
open Go.Proofs.Tryz
open Go.RowKit Go.Maps Go.WideMaps
namespace Sm
open Fl
structure UOk(U ss:List ByteArray)(x:Mo)(bL:List (List Sc)):Prop where
 eF:∀l∈bL,∀y∈l,∀t∈y.gY,t∈U
 var:∀v∈x.vars,deed ⟨#[114,58]⟩ x.name v.name∈U/\deed ⟨#[119,58]⟩ x.name v.name∈U
 nQ:∀s∈ss,(⟨#[112,58]⟩++s:ByteArray)∈U
 len:U.length<=1048576
 size:∀t∈U,t.size<=maxLen
def XI(U:List ByteArray)(y:Sc):Prop:=(∀t∈y.gY,t∈U)/\y.gY.length<=U.length
section
variable {c : Env} {U : List ByteArray}
theorem XJ(f:∀s,∀t∈(c.eF s).gY,t∈U)(h:∀s n,c.nQ s=some n->deed ⟨#[114,58]⟩ c.md s∈U/\deed ⟨#[119,58]⟩ c.md s∈U):∀(m:Nat) (x:Ex) (t:aS),t∈c.AA m x->t∈U
 | 0,_,_,d=>by simp[Env.AA]at d
 | m+1,x,t,d=>by
  simp only[Env.AA,bX,gZ]at d;rcases d with d|⟨y,_,d⟩
  ·split at d
   ·unfold Env.Q8 at d;split at d;·rename_i n j;rw[dh]at d;subst d;exact(h _ _ j).1
    ·cases d
   ·split at d;·exact f _ _ d
    ·cases d
  ·exact XJ f h m y t d
theorem XK(h:∀s,∀t∈(c.eF s).gY,t∈U)(f:∀s n,c.nQ s=some n->deed ⟨#[114,58]⟩ c.md s∈U/\deed ⟨#[119,58]⟩ c.md s∈U)(j:∀s,0<=c.pl s->(⟨#[112,58]⟩++s:aS)∈U):∀(m:Nat) (l:List St),c.yg m l->∀t∈c.Pz m l,t∈U
 | 0,_,p,_,_=>iU p
 | m+1,l,p,t,d=>by
  simp only[Env.Pz,bX,gZ]at d;obtain⟨s,D,d⟩:=d;obtain⟨_,_,_,q,r,u⟩:=p s D;rcases d with((d|d)|d)|d;·exact XJ h f m s.e t d
  ·unfold Env.Py at d;split at d
   ·unfold Env.Q8 at d;split at d;·rename_i n C;rw[dh]at d;subst d;exact(f _ _ C).2
    ·cases d
   ·split at d;·rename_i z;rw[dh]at d;subst d;exact j _<|q z
    ·cases d
  ·exact XK h f j m s.a r t d
  ·exact XK h f j m s.b u t d
theorem XL:∀{m:Nat} {x:Ex} {v:aS},c.xZ m x->v∈c.oM m x->v.size<=17
 | 0,_,_,f,_=>iU f
 | m+1,x,v,f,d=>by
  obtain⟨h,_,_,j⟩:=f;simp only[Env.oM,bX,gZ]at d;rcases d with d|⟨y,p,d⟩
  ·split at d
   ·unfold Env.MH at d;split at d;·simp at d
    ·rw[dh]at d;subst d;exact h
   ·simp at d
  ·exact XL (j y p) d
theorem XM:∀{m:Nat} {l:List St} {v:aS},c.yg m l->v∈c.yx m l->v.size<=17
 | 0,_,_,_,d=>by simp[Env.yx]at d
 | m+1,l,v,p,d=>by
  simp only[Env.yx,gZ,bX]at d;obtain⟨s,q,d⟩:=d;obtain⟨r,f,_,_,h,j⟩:=p s q;rcases d with((d|d)|d)|d;·exact XL f d
  ·unfold Env.G8 Env.MH at d;split at d
   ·split at d;·simp at d
    ·rw[dh]at d;subst d;omega
   ·simp at d
  ·exact XM h d
  ·exact XM j d
end
theorem abM(l:aJ):(gP<|jZ l).Nodup:=(KV _<|Et l).imp λh=>h.2
theorem QK{l:aJ}{t:aS}:t∈gP (jZ l)↔t∈l:=by rw[yY,vT]
section
variable {ss : List ByteArray} {G : Nat} {L : Nat → Nat} {Z : Nat → Nat → Bool} {m : Nat} {x : Mo} {known : List Mo} {bL : List (List Sc)} {own : List Sc} {U : List ByteArray}
theorem afT{k:Nat}(j:UOk U ss x bL)(p:∀y∈own,∀t∈y.gY,t∈U)(s:aS):∀t∈(qH x k known bL own s).gY,t∈U:=by
 intro t d;unfold qH at d;split at d;·simp[Gf]at d
 split at d
 ·rw[xK]at d;cases f:own[(fF x k s known).2.1.toNat]? with
  | none=>rw[f]at d;simp[Gf]at d
  | some y=>rw[f]at d;exact p y (dG f) t d
 ·rw[xK,xK]at d;cases f:bL[(fF x k s known).1.toNat]? with
  | none=>rw[f]at d;simp[Gf]at d
  | some l=>
   rw[f]at d;simp only[gD]at d;cases h:l[(fF x k s known).2.1.toNat]? with
   | none=>rw[h]at d;simp[Gf]at d
   | some y=>rw[h]at d;exact j.eF l (dG f) y (dG h) t d
theorem aiQ{ps:aJ}{vs:List Va}{s:aS}{n:Nat}(d:tJ ss ps vs s=some n):∃v∈vs,v.name=s:=by
 unfold tJ at d;split at d;·cases d
 ·obtain⟨v,f,_⟩:=yF.1 d;exact⟨v,by simpa using Gw f,dM.1<|Jj (p:=λv:Va=>cB v.name s) f⟩
structure tZ(ss:List ByteArray)(G:Nat)(L:Nat->Nat)(Z:Nat->Nat->Bool)(m:Nat)(x:Mo)(c:Env)(f:Fu):Prop where
 chk:dD ss G L Z=0
 moe:oO m x=0
 st:c.yg m f.body
 ex:c.xZ m f.result
 env:c.Ok
 par:f.params.length<=4
 bq:x.bq.length<=8
 pb:Xx ss.length (c.jd m f)
 nm:(c.jd m f).names.length<=40
 cn:(c.jd m f).cons.length<=1000
theorem Ai(d:oO m x=0):x.bq.length<=8/\∀f∈x.bq,f.params.length<=4:=by
 unfold oO at d;by_cases j:8<x.imports.length\/8<x.vars.length\/8<x.bq.length;·rw[aK j]at d;omega
 ·rw[aI j]at d;refine⟨by omega,λf u=>?_⟩;by_cases p:((kR x.name&&x.imports.all kR)&&x.vars.all Q6)=false;·rw[aK p]at d;omega
  ·rw[aI p]at d;by_cases h:uZ m x.bq≠0;·rw[aK h]at d;exact aM d h
   ·have q:=uP (Classical.not_not.1 h) f u;unfold Q7 at q;by_cases r:4<f.params.length;·rw[aK r]at q;omega
    ·omega
theorem XO{h:Int}(d:AO h m x known=0):h=0/\oO m x=0:=by
 unfold AO at d;by_cases f:h=0
 ·rw[aK f]at d;by_cases j:oO m x=0;·exact⟨f,j⟩
  ·rw[aI j]at d;exact aM d j
 ·rw[aI f]at d;exact aM d f
theorem EH{k:Nat}{f:Fu}(h:x.bq[k]?=some f)(d:Vq ss G L Z m x k known bL own 40 1000=0):tZ ss G L Z m x (gH ss Z x k known bL own f) f:=by
 have I:QA ss G L Z m x k known bL own=0:=by
  by_cases r:QA ss G L Z m x k known bL own=0;·exact r
  ·unfold Vq at d;rw[aK r]at d;exact aM d r
 have p:Lb (gH ss Z x k known bL own f) m f 40 1000=false:=by
  unfold Vq at d;rw[aI (by simp[I])]at d;simp only[vQ,h]at d;cases S:Lb (gH ss Z x k known bL own f) m f 40 1000 with
  | false=>rfl
  | true=>simp[S]at d
 obtain⟨R,N,K,f',hk,D,W,V⟩:=KX I;have aa:K=k:=by omega
 subst aa;rw[h]at D;cases D;obtain⟨C,q⟩:=XO R;have E:=Qr N;obtain⟨j,z,F⟩:=lS (Zu (Z:=Z) E q h W V) (Ub C E K bL own f)<|Ai q;have H:=F.2 f<|dG h;unfold Lb at p;simp only[Bool.or_eq_false_iff,decide_eq_false_iff_not]at p;refine⟨C,q,j.st,j.ex,z,H,F.1,aiF z (λs=>?_) j.st j.ex H,?_,?_⟩
 ·rcases T9 ss s with u|u;·exact u
  ·exfalso;have:=z.low;simp only[gH,u,Ef]at this;omega
 ·have:=p.1;simp only[Env.jd];omega
 ·rw[MV];have:=p.2;omega
theorem tZ.sinks{c:Env}{f:Fu}(d:tZ ss G L Z m x c f)(h:f∈x.bq)(p:xH m x<=1048576):(c.jd m f).sinks.length<=2097148:=by have j:=afu (m:=m) h;obtain⟨s1,s2⟩:=eY (Jc c m f.body ([],c.low) d.st)<|Jb c m f.result ([],c.low) d.ex;simp only[Env.jd,dV,bg];omega
theorem tL{k:Nat}{f:Fu}(h:x.bq[k]?=some f):inf ss Z m x known bL (k+1)=((inf ss Z m x known bL k).1++[eF Z ss.length (least Z ss.length ((gH ss Z x k known bL (inf ss Z m x known bL k).1 f).jd m f).names.length ((gH ss Z x k known bL (inf ss Z m x known bL k).1 f).jd m f).cons) ((gH ss Z x k known bL (inf ss Z m x known bL k).1 f).jd m f) f],(inf ss Z m x known bL k).2++GJ Z ss.length (least Z ss.length ((gH ss Z x k known bL (inf ss Z m x known bL k).1 f).jd m f).names.length ((gH ss Z x k known bL (inf ss Z m x known bL k).1 f).jd m f).cons) ((gH ss Z x k known bL (inf ss Z m x known bL k).1 f).jd m f) f.name):=by
 rw[inf];split;·rename_i d;rw[h]at d;cases d
 ·rename_i g d;rw[h]at d;cases d;rfl
theorem Gl{k:Nat}(d:qI ss G L Z m x known bL (k+1)=0):qI ss G L Z m x known bL k=0/\Vq ss G L Z m x k known bL (inf ss Z m x known bL k).1 40 1000=0:=by
 rw[qI]at d;by_cases f:qI ss G L Z m x known bL k=0;·rw[aI (by simp[f])]at d;exact⟨f,d⟩
 ·rw[aK f]at d;exact aM d f
theorem Od{k:Nat}(f:qI ss G L Z m x known bL k≠0):∀d,qI ss G L Z m x known bL (k+d)=qI ss G L Z m x known bL k
 | 0=>rfl
 | d+1=>by have h:=Od f d;rw[<-Nat.add_assoc,qI,h,aK f]
theorem Oe{k:Nat}(d:qI ss G L Z m x known bL k=0):qI ss G L Z m x known bL (k+1)=Vq ss G L Z m x k known bL (inf ss Z m x known bL k).1 40 1000:=by rw[qI,aI (by simp[d])]
theorem xB:∀{k:Nat},k<=x.bq.length->(inf ss Z m x known bL k).1.length=k
 | 0,_=>rfl
 | k+1,h=>by rw[tL (aZ<|show k<x.bq.length by omega)];simp only[bg,iI,xB<|show k<=x.bq.length by omega]
theorem Uu{k:Nat}{f:Fu}(h:UOk U ss x bL)(u:∀y∈own,∀t∈y.gY,t∈U)(z:tZ ss G L Z m x (gH ss Z x k known bL own f) f):(∀t∈((gH ss Z x k known bL own f).jd m f).gY,t∈U)/\((gH ss Z x k known bL own f).jd m f).gY.length<=U.length:=by
 have r:∀t∈gP (jZ<|(gH ss Z x k known bL own f).gY m f),t∈U:=λt C=>by
  have d:=QK.1 C;unfold Env.gY at d;have p:=afT (known:=known) (k:=k) h u;have q:∀s n,(gH ss Z x k known bL own f).nQ s=some n->deed ⟨#[114,58]⟩ x.name s∈U/\deed ⟨#[119,58]⟩ x.name s∈U:=λs n j=>by obtain⟨v,D,rfl⟩:=aiQ j;exact h.var v D
  rcases bX.1 d with d|d;·exact XK p q (λs j=>h.nQ s<|wD.1 j) m _ z.st t d
  ·exact XJ p q m _ t d
 exact⟨r,Ga (abM _) r⟩
theorem QL(f:UOk U ss x bL):∀{k:Nat},k<=x.bq.length->qI ss G L Z m x known bL k=0->∀y∈(inf ss Z m x known bL k).1,XI U y
 | 0,_,_,_,d=>by cases d
 | k+1,u,q,y,d=>by
  obtain⟨p,r⟩:=Gl q;obtain⟨h,j⟩:=eY (aZ<|show k<x.bq.length by omega) (QL f (show k<=x.bq.length by omega) p);rw[tL h]at d;rcases bX.1 d with d|d;·exact j y d
  ·rw[dh]at d;subst d;exact Uu f (λy d=>(j y d).1)<|EH h r
theorem ZB(f:xH m x<=1048576):∀{k:Nat},k<=x.bq.length->qI ss G L Z m x known bL k=0->(inf ss Z m x known bL k).2.length<=2097148*k
 | 0,_,_=>by simp[inf]
 | k+1,u,p=>by
  obtain⟨h,r⟩:=Gl p;obtain⟨d,C⟩:=eY (aZ<|show k<x.bq.length by omega) (ZB f (show k<=x.bq.length by omega) h);have q:=(EH d r).sinks (dG d) f;rw[tL d];simp only[bg];have j:∀V,(GJ Z ss.length V ((gH ss Z x k known bL (inf ss Z m x known bL k).1<|x.bq[k]).jd m (x.bq[k])) (x.bq[k]).name).length<=2097148:=λV=>by unfold GJ;rw[dV];exact bE (Km _ _) q
  have z:=j<|least Z ss.length ((gH ss Z x k known bL (inf ss Z m x known bL k).1<|x.bq[k]).jd m (x.bq[k])).names.length ((gH ss Z x k known bL (inf ss Z m x known bL k).1<|x.bq[k]).jd m (x.bq[k])).cons;omega
noncomputable def ans(ss:List ByteArray)(G:Nat)(L:Nat->Nat)(Z:Nat->Nat->Bool)(m:Nat)(x:Mo)(known:List Mo)(bL:List (List Sc)):List Sc × List Dg × Int:=
 if AO (dD ss G L Z) m x known≠0 then ([],[],AO (dD ss G L Z) m x known)
 else if bO.once (D9 ss x known m)≠[]then ([],bO.once (D9 ss x known m),0)
 else if qI ss G L Z m x known bL x.bq.length≠0 then ([],[],qI ss G L Z m x known bL x.bq.length)
 else if (inf ss Z m x known bL x.bq.length).2≠[]then ([],bO.once (inf ss Z m x known bL x.bq.length).2,0)
 else ((inf ss Z m x known bL x.bq.length).1,[],0)
theorem ZC{ss:aJ}{G:Nat}{L:Nat->Nat}{Z:aL}{m:Nat}{x:Mo}{known:List Mo}{bL:List (List Sc)}{U:aJ}(h:UOk U ss x bL):∀y∈(ans ss G L Z m x known bL).1,XI U y:=by
 intro y d;unfold ans at d;split at d;·cases d
 ·split at d;·cases d
  ·split at d;·cases d
   ·rename_i f;split at d;·cases d
    ·exact QL h (bG _) (Classical.not_not.1 f) y d
end
end Sm
variable{l:List Mo}{t:TypeId}{w w' w1 wr:bI}{n m G B i g cap base e k nk tg tc:Nat}{eU vc vs vf ve v o:aC}{ss U out:aJ}{x:Int}{c xs:List aC}{y:Sc}{P:Pb}{s a b name:aS}{rb:Nat->Bool}
theorem yt.MS{L:Nat->Nat}{Z:aL}{x:Mo}{c:Fl.Env}{f:Fu}(h:tZ ss G L Z m x c f)(z:f∈x.bq)(E:xH m x<=1048576)(C:∀u∈f.params,u.size<=maxLen)(q:∀t∈(c.jd m f).gY,t∈U)(F:(c.jd m f).gY.length<=U.length)(H:U.length<=1048576)(r:∀t∈U,t.size<=maxLen)(j:yt w n eU vc vs vf ve (c.jd m f)):PbV w eU vc vs vf ve (c.jd m f):=by
 refine⟨Own.strs j.names (λu p=>?_) (by have:=h.nm;omega),alx j.cons (by have:=h.cn;omega),aly j.sinks (by have:=h.sinks z E;omega),j.fr.ints,j.gY.strs (λu p=>r u<|q u p) bC⟩;have D:u∈Fl.adds f.params (c.yx m f.body++c.oM m f.result):=p;rcases Fl.sV.1 D with d|d;·exact C u d
 ·rcases bX.1 d with d|d;·exact bE (XM h.st d) bM
  ·exact bE (XL h.ex d) bM
section
variable {α : Type} {At : World → List Value → α → Prop} {w : World} {ops : Array Oper} {rest : List Oper} {o : Oper} {a : Act} {Q : Exit → Act → World → Prop}
theorem mU(S:o.guard=none)(s x:Operand)(t e k q:Nat)(p:aC)(ho:o.op=.call { callee:=.builtin .append,args:=#[s,x],argTypes:=#[t,t] })(ht:prog.underlying t=some (.slice e))(aa:(prog.info? e).map (λi=>(i.zero,i.size,i.bytes))=some (some p,k,q))(af:p.cells.size=k)(hk:0<k)(N:q<=1024)(n:Nat)(v:aC)(l:List α)(hs:a.eval s=v)(ab:eZ At w n e k v l)(B:Nat)(c:List aC)(y:α)(hx:a.eval x=Tc B 1 1)(R:∀(j:Nat) u,c[j]?=some u->bJ w B j=some u)(C:c.length=k)(H:∀u∈c,u.oneCell'=true)(hy:At w c y)(hl:l.length<=16777216)(K:n<=w.heap.size)(z:∀w' c y,w.grownBy w' v.ownBlock->At w c y->At w' c y)(F:∀g cap w',eZ At w' n e k (Tc g (l.length+1) cap) (l++[y])->w.grownBy w' v.ownBlock->wpList prog ops Q rest (a.put o.dst<|Tc g (l.length+1) cap) w'):wpList prog ops Q (o::rest) a w:=by
 obtain⟨iS,E,ac,ad,ae⟩:=info_parts aa;obtain⟨cs,hr,D,k2,k3⟩:=ab;refine wpList_append_lies w S s x t ho n e iS p k q ht E ac ad ae af hk v l.length cs.flatten hs hr (aN B 0) 1 1 c hx (by rw[C,uS]) (λj u hu=>by rw[Addr.add_lit,d9];exact R j u hu) H bM (by unfold maxLen;omega) (bE (yE (show l.length+1<=16777217 by omega) N) bM) K w.heap.size rfl ?_;intro g cap w' I r h3 _;refine F g cap w' ⟨cs++[c],by rw[bg,Da];simpa using I,by simp[D],λd f=>?_,λi d p f h=>?_⟩ r
 ·rcases bX.1 f with f|f;·exact k2 d f
  ·rw[dh]at f;subst f;exact C
 ·by_cases V:i<l.length;·rw[jX bC]at f;rw[jX V]at h;exact z w' d p r<|k3 i d p f h
  ·have W:i=l.length:=by have:=(cO.1 h).1;rw[bg,iI]at this;omega
   subst W;rw[kL bC,D,mW]at f;rw[kL (bG _),mW]at h;simp at f h;subst f h;exact z w' _ _ r hy
end
def mV(t:TypeId)(w w':World):Prop:=∀(j:Nat) (cs:Array Value) (u:TypeId),w.heap[j]?=some (.cells cs u (0,0))->u≠t->w'.heap[j]?=some (.cells cs u (0,0))
section
variable {w w' : World} {t : TypeId}
theorem mV.grown{r:Option Nat}(hg:w.grownBy w' r)(q:∀k,r=some k->∃h,w.heap[k]?=some (.cells h t (0,0))):mV t w w':=λj cs u f z=>by
 rw[hg.block j (aR f) (λp=>?_)];·exact f
 ·obtain⟨h,d⟩:=q j p.symm;rw[f]at d;simp at d;exact z d.2
theorem mV.below(d:bK w w'):mV t w w':=λ_ _ _ f _=>bH f d
theorem pJ.st{B:Nat}{v:aC}{l:aJ}(d:pJ w B v l)(p:mV t w w')(q:9≠t):pJ w' B v l:=by
 rcases d with d|⟨g,cap,e,h,f,j,r⟩;·exact aO d
 ·exact aQ ⟨g,cap,e,h,f,p g _ _ j q,r⟩
theorem dJ.st{v:aC}{l:List Int}(d:dJ w v l)(p:mV t w w')(q:3≠t):dJ w' v l:=by
 rcases d with d|⟨g,cap,e,j,f,h,r⟩;·exact aO d
 ·exact aQ ⟨g,cap,e,j,f,p g _ _ h q,r⟩
end
def Ht(w:World)(c:List Value)(y:Sc):Prop:=∃d ve,c=[.string y.fn,.int .i64 y.mask,.int .i64 y.level,d,.int .i64 y.pc,ve]/\dJ w d y.bounds/\pJ w 0 ve y.gY
theorem Ht.st(f:Ht w c y)(d:mV t w w')(h:9≠t)(j:3≠t):Ht w' c y:=by obtain⟨r,ve,e,p,q⟩:=f;exact⟨r,ve,e,p.st d j,q.st d h⟩
theorem Ht.below(d:Ht w c y)(f:bK w w'):Ht w' c y:=d.st (t:=35) (mV.below f) bM bM
theorem yt.st(f:yt w n eU vc vs vf ve P)(d:mV 35 w w'):yt w' n eU vc vs vf ve P:=
 ⟨f.names.keep λ_ _ _ h=>d _ _ _ h bM,f.cons.keep (λ_ _ _ h=>d _ _ _ h bM) λc y j=>j.mono λv l p=>p.st d bM,f.sinks.keep (λ_ _ _ h=>d _ _ _ h bM) λc y j=>j.mono λv l p=>p.st d bM,f.fr.st d bM,f.gY.st d bM⟩
theorem yt.Lh(d:yt w n eU vc vs vf ve P)(f:bK w w'):yt w' n eU vc vs vf ve P:=d.st<|mV.below f
theorem mM.Mi{w w':World}{v:Value}{l:List (Int × Int)}{r:Option Nat}(h:mM w v l)(hv:La0 v)(hg:w.grownBy w' r)(hr:∀k,r=some k->∃s,w.cell? (aN k 0)=some (A s)):mM w' v l:=by
 obtain⟨a,b,off,cap,e,h0,hl,h1⟩:=h;refine⟨a,b,off,cap,e,h0,hl,λi x hx=>?_⟩;have hpos:0<l.length:=by have:=(cO.1 hx).1;omega
 obtain⟨b',hb'⟩:=hv (aN b off) _ _ (by rw[e,h0 hpos]);injection hb' with hb1 hb2;subst hb2;obtain⟨k0,k1⟩:=h1 i x hx;have hlt:b<w.heap.size:=eH _ _ k0;have hne:some b≠r:=λer=>by obtain⟨s,hs⟩:=hr b er.symm;have h2:=(h1 0 _ (aZ hpos)).1;rw[Nat.zero_mul,hs]at h2;simp at h2
 have hk:=hg.block b hlt hne;exact⟨(jH hk).trans k0,(jH hk).trans k1⟩
theorem Li{l:List Sc}(h:eZ Ht w n 35 6 v l)(z:l.length<=9223372036854775807)(R:∀y∈l,∀u∈y.gY,u.size<=maxLen)(I:∀y∈l,y.gY.length<=1048576):xO w v l:=by
 cases l with
 | nil =>obtain⟨a,c,e⟩:=h.form;exact⟨a,0,0,c,e,λD=>aM D cK,z,λi y f=>aM f cK⟩
 | cons V r =>obtain⟨g,cap,e,_⟩:=h.get (i:=0) (y:=V) rfl;refine⟨_,g,0,cap,e,λ_=>rfl,z,λi y f=>?_⟩;obtain⟨g',W,p,c,_,H,S,ve,F,E,K⟩:=h.get f;rw[e]at p;injection p with d e2 e3;injection d with d;injection d with d;subst d;have q:=λj N=>H j N;rw[F]at q;have C:=dG f;rw[d9];exact⟨S,ve,q 0 bM,q 1 bM,q 2 bM,q 3 bM,q 4 bM,q 5 bM,E.ints,K.strs (R y C) (by have:=I y C;omega)⟩
theorem abN{l:List Sc}(h:eZ Ht w n 35 6 v l)(j:l=[]->v=aU):∀k,v.ownBlock=some k->∃s,bJ w k 0=some (A s):=by
 intro k d;cases l with
 | nil=>rw[j rfl]at d;cases d
 | cons y r =>obtain⟨g,cap,e,c,_,p,u,ve,q,_⟩:=h.get (i:=0) (y:=y) rfl;rw[e]at d;injection d with d;subst d;have f:=p 0 bM;rw[q]at f;exact⟨y.fn,f⟩
def Ck.un(f:Fu):Sc:=⟨f.name,0,0,List.replicate f.params.length 0,0,[]⟩
theorem TT:(prog.info? 35).map (λi=>(i.zero,i.size,i.bytes))=some (some<|.agg #[A ⟨#[]⟩,O 0,O 0,aU,O 0,aU],6,88):=by kernel_rfl
theorem qJ.Tg{l:List Int}(f:qJ w B l)(j:l.length<=9223372036854775807):dJ w (Tc B l.length l.length) l:=
 aQ ⟨B,_,rfl,j,_,f,by simp,λi d h=>by simp[h]⟩
namespace Ck
def imp(l:List Mo)(a b:ByteArray):Prop:=∃i x,dQ l a=some i/\l[i]?=some x/\b∈x.imports/\(dQ l b).isSome=true
inductive yu (l:List Mo) (a:ByteArray):ByteArray->Prop
 | one {b:ByteArray} (h:imp l a b):yu l a b
 | more {b c:ByteArray} (h:yu l a b) (k:imp l b c):yu l a c
def arl(l:List Mo)(name:ByteArray)(R:List ByteArray):Prop:=R.Pairwise ltS/\∀b,b∈R↔yu l name b
theorem iT(f:dQ l s=some i):∃x,l[i]?=some x/\x.name=s:=by
 unfold dQ at f;have d:=Jj f;cases h:l[i]? with
 | none=>rw[h]at d;cases d
 | some x =>rw[h]at d;exact⟨x,rfl,dM.1 d⟩
theorem rJ(d:dQ l s=some i):i<l.length:=by obtain⟨x,f,_⟩:=iT d;exact(cO.1 f).1
theorem afX{t:aS}(h:dQ l s=some i)(j:dQ l t=some i):s=t:=by obtain⟨x,p,e⟩:=iT h;obtain⟨y,d,f⟩:=iT j;rw[p]at d;cases d;rw[<-e,f]
theorem XP(h:yu l a b):(dQ l b).isSome=true:=by
 cases h with
 | one h=>obtain⟨_,_,_,_,_,h⟩:=h;exact h
 | more _ h=>obtain⟨_,_,_,_,_,h⟩:=h;exact h
theorem aiR(d:yu l a b):(dQ l a).isSome=true:=by
 induction d with
 | one d=>obtain⟨i,_,d,_⟩:=d;rw[d];rfl
 | more _ _ f=>exact f
def Full(l:List Mo)(out:List ByteArray)(i j:Nat):Prop:=∀x,l[i]?=some x->∀b∈x.imports.take j,(dQ l b).isSome=true->b∈out
structure RI(l:List Mo)(name:ByteArray)(out:List ByteArray)(td:List Nat)(cu:Option (Nat × Nat)):Prop where
 rch:∀b∈out,yu l name b
 nd:out.Nodup
 tdo:∀t∈td,∃nm,dQ l nm=some t/\(nm=name\/nm∈out)
 cur:∀c j,cu=some (c,j)->∃nm,dQ l nm=some c/\(nm=name\/nm∈out)
 clo:∀nm i,(nm=name\/nm∈out)->dQ l nm=some i->i∈td\/(∀x,l[i]?=some x->Full l out i x.imports.length)\/∃j,cu=some (i,j)/\Full l out i j
def Uv(l:List Mo)(out:List ByteArray)(rb:Nat->Bool):Prop:=∀i,rb i=true↔∃b∈out,dQ l b=some i
section
variable {l : List Mo} {name : ByteArray} {out : List ByteArray} {td : List Nat}
theorem RI.start{i:Nat}(d:dQ l name=some i):RI l name [] [i] none where
 rch:=λb q=>by cases q
 nd:=List.nodup_nil
 tdo:=λt p=>by rw[dh]at p;subst p;exact⟨name,d,aO rfl⟩
 cur:=λc j d=>by cases d
 clo:=λnm k f h=>by
  rcases f with rfl|f
  ·rw[d]at h;cases h;exact aO<|dh.2 rfl
  ·cases f
theorem RI.len{cu:Option (Nat × Nat)}(h:RI l name out td cu):out.length<=l.length:=by
 have h1:=Ga (r:=l.map (·.name)) h.nd λb hb=>by obtain⟨i,hi⟩:=sF.1 (XP (h.rch b hb));obtain⟨x,hx,e⟩:=iT hi;exact iZ.2 ⟨x,dG hx,e⟩
 rwa[dV]at h1
theorem RI.pop{c:Nat}(f:RI l name out (td++[c]) none):RI l name out td (some (c,0)) where
 rch:=f.rch
 nd:=f.nd
 tdo:=λt r=>f.tdo t<|bX.2<|aO r
 cur:=λu j e=>by cases e;exact f.tdo c<|bX.2<|aQ<|dh.2 rfl
 clo:=λnm i h p=>by
  rcases f.clo nm i h p with d|d|⟨j,d,_⟩
  ·rcases bX.1 d with d|d
   ·exact aO d
   ·rw[dh]at d
    subst d
    exact aQ<|aQ ⟨0,rfl,λx _ b q=>by simp at q⟩
  ·exact aQ<|aO d
  ·cases d
theorem RI.skip{c j:Nat}{x:Mo}{b:aS}(f:RI l name out td (some (c,j)))(q:l[c]?=some x)(E:x.imports[j]?=some b)(F:(dQ l b).isSome=true->b∈out):RI l name out td (some (c,j+1)) where
 rch:=f.rch
 nd:=f.nd
 tdo:=f.tdo
 cur:=λI H e=>by cases e;exact f.cur c j rfl
 clo:=λnm i z C=>by
  rcases f.clo nm i z C with h|h|⟨H,h,D⟩
  ·exact aO h
  ·exact aQ<|aO h
  ·cases h
   refine aQ<|aQ ⟨j+1,rfl,λy r u d p=>?_⟩
   rw[q]at r
   cases r
   rw[gy,E,kI]at d
   rcases bX.1 d with d|d
   ·exact D x q u d p
   ·rw[dh]at d
    subst d
    exact F p
theorem RI.push{c j i:Nat}{x:Mo}{b:aS}(f:RI l name out td (some (c,j)))(H:l[c]?=some x)(K:x.imports[j]?=some b)(E:dQ l b=some i)(hn:b∉out):RI l name (out++[b]) (td++[i]) (some (c,j+1)):=by
 obtain⟨C,N,z⟩:=f.cur c j rfl;have R:imp l C b:=⟨c,x,N,H,dG K,by rw[E];rfl⟩;have aa:yu l name b:=by
  rcases z with rfl|z;·exact yu.one R
  ·exact yu.more (f.rch C z) R
 have up:∀nm,(nm=name\/nm∈out)->(nm=name\/nm∈out++[b]):=λnm f=>f.imp id λf=>bX.2<|aO f;have I:∀k j,Full l out k j->Full l (out++[b]) k j:=λk j f y r p d F=>bX.2<|aO<|f y r p d F;refine⟨λp d=>?_,?_,λt q=>?_,λc' j' e=>?_,λnm k h D=>?_⟩
 ·rcases bX.1 d with d|d;·exact f.rch p d
  ·rw[dh]at d;subst d;exact aa
 ·rw[PY];refine⟨f.nd,List.nodup_cons.2 ⟨by simp,List.nodup_nil⟩,λa ha p d e=>?_⟩;rw[dh]at d;subst d e;exact hn ha
 ·rcases bX.1 q with q|q;·obtain⟨nm,q1,q2⟩:=f.tdo t q;exact⟨nm,q1,up nm q2⟩
  ·rw[dh]at q;subst q;exact⟨b,E,aQ<|bX.2<|aQ<|dh.2 rfl⟩
 ·cases e;exact⟨C,N,up C z⟩
 ·by_cases S:nm=b;·subst S;rw[E]at D;cases D;exact aO<|bX.2<|aQ<|dh.2 rfl
  ·have V:nm=name\/nm∈out:=by
    rcases h with h|h;·exact aO h
    ·rcases bX.1 h with h|h;·exact aQ h
     ·exact aM (dh.1 h) S
   rcases f.clo nm k V D with u|u|⟨j',u,W⟩;·exact aO<|bX.2<|aO u
   ·exact aQ<|aO λy r=>I _ _<|u y r
   ·cases u;refine aQ<|aQ ⟨j+1,rfl,λy r p d F=>?_⟩;rw[H]at r;cases r;rw[gy,K,kI]at d;rcases bX.1 d with d|d;·exact I _ _ W x H p d F
    ·exact bX.2<|aQ d
theorem RI.done{c:Nat}{x:Mo}(f:RI l name out td (some (c,x.imports.length)))(u:l[c]?=some x):RI l name out td none where
 rch:=f.rch
 nd:=f.nd
 tdo:=f.tdo
 cur:=λ_ _ e=>by cases e
 clo:=λnm i p q=>by
  rcases f.clo nm i p q with d|d|⟨j,d,r⟩
  ·exact aO d
  ·exact aQ<|aO d
  ·cases d
   exact aQ (aO λy h=>by rw[u]at h;cases h;exact r)
theorem RI.all(h:RI l name out [] none):∀b,b∈out↔yu l name b:=by
 intro b;refine⟨h.rch b,λu=>?_⟩;have q:∀nm c,(nm=name\/nm∈out)->imp l nm c->c∈out:=λnm c r ⟨i,x,C,p,D,E⟩=>by
  rcases h.clo nm i r C with d|d|⟨j,d,_⟩;·cases d
  ·exact d x p x p c (by rw[jQ];exact D) E
  ·cases d
 induction u with
 | one f=>exact q name _ (aO rfl) f
 | more _ f z=>exact q _ _ (aQ z) f
theorem Uv.old{rb:Nat->Bool}(d:Uv l out rb){b:aS}{i:Nat}(h:dQ l b=some i)(j:rb i=true):b∈out:=by obtain⟨p,f,e⟩:=(d i).1 j;rw[afX h e];exact f
theorem Uv.new{rb:Nat->Bool}(f:Uv l out rb){b:aS}{i:Nat}(j:dQ l b=some i)(d:rb i=false):b∉out:=λh=>by rw[(f i).2 ⟨b,h,j⟩]at d;cases d
theorem Uv.put{rb:Nat->Bool}(q:Uv l out rb){b:aS}{i:Nat}(p:dQ l b=some i):Uv l (out++[b]) (λk=>if k=i then true else rb k):=λk=>by
 by_cases j:k=i;·subst j;simp only[if_true,true_iff];exact⟨b,bX.2<|aQ<|dh.2 rfl,p⟩
 ·simp only[aI j];rw[q k];constructor;·rintro⟨h,d,f⟩;exact⟨h,bX.2<|aO d,f⟩
  ·rintro⟨h,d,f⟩;rcases bX.1 d with d|d;·exact⟨h,d,f⟩
   ·rw[dh]at d;subst d;rw[p]at f;cases f;exact aM rfl j
theorem RI.size{m:Nat}{w:bI}{v:aC}{d:Option (Nat × Nat)}(f:RI l name out td d)(q:jN w m v l):∀b∈out,b.size<=maxLen:=λb h=>by obtain⟨i,p⟩:=sF.1<|XP<|f.rch b h;obtain⟨x,u,e⟩:=iT p;obtain⟨_,_,_,_,_,_,_,j⟩:=q;obtain⟨_,_,_,_,_,_,_,r⟩:=j i x u;rw[<-e];exact Qj r
end
end Ck
def CP(w:World)(B n:Nat)(rb:Nat->Bool):Prop:=w.heap[B]?=some (.cells ((List.range n).map λi=>Value.bool (rb i)).toArray 4 (0,0))
theorem CP.cell(d:CP w B n rb)(f:i<n):w.cell? (aN B i)=some (.bool<|rb i):=by rw[aj d];simp[f]
theorem CP.put(f:CP w B n rb)(i:Nat):CP (w.setCell (aN B i)<|.bool true) B n (λk=>if k=i then true else rb k):=by
 unfold CP;rw[aP f i (.bool true)];congr 2;apply Array.ext;·simp
 ·intro k h j;by_cases d:i=k;·subst d;simp
  ·simp[d];exact λe=>aM e.symm d
theorem alG:(prog.info? 4).map (λi=>(i.zero,i.size,i.bytes))=some (some<|.bool false,1,1):=by kernel_rfl
theorem afY(n:Nat)(r:n<=1048576)(w:bI):(Instr.makeSlice 45 (O (n:Int))<|O (n:Int)).run prog w=.ok (Tc w.heap.size n n) (w.alloc<|.cells (madeCells #[.bool false] n) 4):=by obtain⟨i,j,f⟩:=yF.1 alG;simp only[pO]at f;obtain⟨q,p,h⟩:=f;have d:=run_make (P:=prog) w 45 4 i _ underlying45 j q .i64 .i64 n n bC (Int.le_refl _) (by rw[h];omega) bC;rw[p,show(Value.bool false).cells=#[.bool false]from rfl]at d;simpa using d
theorem afZ(n:Nat):madeCells #[Value.bool false] n=((List.range n).map λ_=>Value.bool false).toArray:=by
 apply Array.ext;·simp[madeCells]
 ·intro i d f;simp[madeCells,Nat.mod_one]
theorem gQ.pop{l:List Int}(r:gQ w B (Tc g (l.length+1) cap) (l++[x])):gQ w B (Tc g l.length cap) l:=by
 obtain⟨K,f⟩:=r;rcases f with⟨f,_⟩|⟨I,F,p,e,u,C,z,D,E,j⟩;·injection f with f;cases f
 ·injection e with d H q;injection d with d;injection d with d;subst d q;rw[bg,iI]at z j;refine⟨by simp,aQ ⟨g,cap,p,rfl,u,C,by omega,D,E,?_⟩⟩;have h:=congrArg (List.take l.length) j;rw[List.take_take,gX,List.take_left' cK]at h;rw[<-h];congr 1;omega
theorem gQ.aol{l:List Int}(f:gQ w B (Tc g n cap) l)(j:n=l.length)(d:l[i]?=some x):w.cell? (aN g i)=some (O x):=by subst j;have h:=yC f i (by rw[Nat.mul_one];exact(cO.1 d).1);rw[h,pq,d];rfl
def Uw:Value->Nat
 | .slice _ n _=>n
 | _=>0
theorem Own.Uw{l:aJ}(f:Own w B v l):Go.Proofs.YtiebmbnfedbdeaaGreatDoor.Uw v=l.length:=by
 rcases f.2 with⟨d,h⟩|⟨g,cap,j,d,_⟩;·rw[d,h];rfl
 ·rw[d];rfl
theorem gQ.aom{l:List Int}(f:gQ w B v l)(j:l.length=n)(q:0<n):∃g cap,v=Tc g n cap/\n<=cap:=by
 rcases f.2 with⟨d,h⟩|⟨g,cap,p,d,_,_,h,_⟩;·omega
 ·exact⟨g,cap,by rw[d,j],by omega⟩
theorem af0{l:aJ}(z:Own w B (Tc g n cap) l):ji w g l/\B<=g/\n=l.length:=by
 rcases z.2 with⟨h,_⟩|⟨N,K,q,h,C,E,D,_,H,I⟩;·injection h with h;cases h
 ·injection h with f r u;injection f with f;injection f with f;subst f u;refine⟨⟨q,E,by rw[H,Nat.mul_one];exact D,λi d p=>?_⟩,C,r⟩;have F:i<l.length:=(cO.1 p).1;have j:=congrArg (λt=>t[i]?) I;simp only[pq,p,Nat.mul_one]at j;rw[nM F]at j;rw[<-Array.getElem?_toList];exact j
theorem Og(w:bI)(c:Nat):Strs w (X none 0 c) []:=⟨none,0,0,c,rfl,λd=>aM d cK,by simp,λu h=>aM h cK,λi f=>aM f cK⟩
theorem Gm(l:List Nat)(x:Nat):((l++[x]).map λn:Nat=>(n:Int))=(l.map λn:Nat=>(n:Int))++[(x:Int)]:=by simp
theorem ZE(p:w.ownsRow base e k v n xs):∀j,v.ownBlock=some j->∃f,dR w j (.cells f e (0,0)):=by
 intro j d;rcases p.2 with⟨h,_⟩|⟨g,cap,f,h,_,q,_⟩;·rw[h]at d;cases d
 ·rw[h]at d;injection d with d;subst d;exact⟨f,q⟩
theorem CP.st(d:CP w B n rb)(f:mV t w w')(h:4≠t):CP w' B n rb:=f _ _ _ d h
structure XQ(w1 wr:World)(nk:Nat)(l:List Mo)(name:ByteArray)(o:Value)(out:List ByteArray)(td:List Nat)(tg tc:Nat)(cu:Option (Nat × Nat)):Prop where
 ri:RI l name out td cu
 len:td.length<=out.length+1
 own:Own wr w1.heap.size o out
 owi:gQ wr w1.heap.size (.slice (some ⟨tg,0,none⟩) td.length tc) (td.map λn:Nat=>(n:Int))
 rb:∃rb,CP wr w1.heap.size nk rb/\Uv l out rb
 wB:Below w1.heap.size w1 wr
theorem XQ.below{td:List Nat}{cu:Option (Nat × Nat)}(d:XQ w1 wr nk l name o out td tg tc cu)(f:bK wr w'):XQ w1 w' nk l name o out td tg tc cu:=
 ⟨d.ri,d.len,fM d.own f,fM d.owi f,by obtain⟨rb,h,j⟩:=d.rb;exact⟨rb,bH h f,j⟩,up d.wB f⟩
theorem abO(m:Nat)(w:bI)(v:aC)(l:List Mo)(name:ByteArray)(h:jN w m v l)(hl:l.length<=1048575)(hn:name.size<=maxLen)(hsm:∀x∈l,xH m x<=1048576):aD 147 #[v,A name] w λe w'=>∃u,e=dz u/\J (∃R,arl l name R/\Strs w' u R/\bK w w'):=by
 obtain⟨HMS,MF,KZ⟩:=fE h hsm (Cy m w v l h bC);obtain⟨a,b,off,cap,rfl,h0,-,hel⟩:=h;obtain⟨H0,j5⟩:=bV h0 hel;obtain⟨nk,hnk⟩:=aV l.length;have LW:=Y hnk;rw[<-hnk]at hl H0 KZ ⊢;clear h0 hel hnk hsm;go_enter func147,ntmps147;go_wp2_with fail;refine KZ.mono ?_;rintro e w1 ⟨b1,rfl,Ki⟩;obtain⟨hm1,-,hb1⟩:=Ki.out;obtain⟨Cv,HB1⟩:=bV hm1 hb1;have LK:=hm1.caM.sS underlying117 Dq hn;clear Ki hm1 hb1 hn;cases hmo:dQ l name with
 | none=>
  have e1:Ck.fi l name=none:=by unfold Ck.fi;rw[hmo];rfl
  rw[e1]at LK;simp only[lK,nE]at LK;have HMO:=Y hmo;clear hmo e1;go_wp2;go_ret;exact⟨_,rfl,Y ⟨[],⟨List.Pairwise.nil,λb=>⟨λh=>(by cases h),λh=>(by have h1:=aiR h;rw[HMO]at h1;cases h1)⟩⟩,Og _ _,HB1⟩⟩
 | some i0=>
  have e1:Ck.fi l name=some (O (i0:Nat)):=by unfold Ck.fi;rw[hmo];rfl
  rw[e1]at LK;simp only[gD,nD]at LK;have HMO:=Y hmo;have MK:=afY nk bC;obtain⟨W,hW,k0,k1,hsz,hBW⟩:=AL w1 (.cells (madeCells #[.bool false] nk) 4) (aY #[O (i0:Nat)] 3);rw[afZ]at k0;have HRT:J (CP W w1.heap.size nk (λ_=>false)):=Y k0;have HTI:J (gQ W w1.heap.size (Tc (w1.heap.size+1) 1 1) [(i0:Int)]):=Y ⟨by simp,aQ ⟨w1.heap.size+1,1,_,rfl,dN _,k1,by simp,by unfold maxLen;omega,rfl,rfl⟩⟩;have iO:=Y hBW;clear hmo e1 k0 k1 hsz hBW;go_wp2_with fail;rw[<-hW];clear hW MK LK;go_loopw[8,10] (λo t wr=>∃(ov:aC) (out:aJ) (td:List Nat) (tg tc:Nat),ov=o/\t=Tc tg td.length tc/\td.length<=tc/\J (XQ w1 wr nk l name ov out td tg tc none)) (λo t _=>Uw t+2*(nk - Uw o));exact⟨_,[],[i0],_,1,rfl,rfl,bG _,Y ⟨RI.start HMO,bG _,lJ _ _ _ _,HTI,⟨λ_=>false,HRT,λi=>by simp⟩,iO⟩⟩
  obtain⟨o,out,td,tg,tc,rfl,rfl,htc,HR⟩:=hrel;have GR:=Y (up HB1 HR.wB);have HOL:J (out.length<=nk):=Y (by rw[LW];exact HR.ri.len);have HLO:J (Uw o=out.length):=Y HR.out.own.Uw;by_cases htd:td=[]
  ·subst htd;rcases Own.shape HR.own with⟨rfl,hz⟩|⟨g,cp,rfl,hc,hg⟩;·subst hz;have eP:=Y HR.out.ri.all;simp only[Ef]at *;go_wp2_with fail;refine(Cm _ _ _).mono ?_;rintro e w9 ⟨rfl,hw9⟩;subst hw9;go_wp2;go_ret;exact⟨_,rfl,Y ⟨[],⟨List.Pairwise.nil,eP⟩,Og _ _,GR⟩⟩
   ·obtain⟨hrow,hgb,-⟩:=af0 HR.own;obtain⟨HSO,HZ,HGB⟩:=fE (TW wr g out.length cp out hrow rfl (by have:=HOL.out;omega)) (HR.ri.size HMS) hgb;obtain⟨no,hno⟩:=aV out.length;have HNO:=Y hno;rw[<-hno]at HSO ⊢;simp only[Ef]at *;clear hrow hgb hno hc hg;go_wp2_with fail;refine HSO.mono ?_;rintro e w9 ⟨rfl,hrow,XR⟩;obtain⟨sU,aa1⟩:=bV hrow XR;clear hrow XR;go_wp2;go_ret;refine⟨_,rfl,Y ⟨jZ out,⟨(Et out).and ((NY out).nodup_iff.2 HR.ri.nd),λb=>(vT _ _).trans (HR.ri.all b)⟩,?_,?_⟩⟩
    ·have hlen:(jZ out).length=no:=by rw[(NY out).length_eq,HNO]
     have h1:pJ w9 0 (Tc g (jZ out).length cp) (jZ out):=aQ ⟨g,cp,rfl,bN _,sU⟩;rw[hlen]at h1;exact h1.strs (λu hu=>HZ u ((vT _ _).1 hu)) (by rw[hlen];have:=HOL.out;have:=HNO.out;omega)
    ·exact GR.trans (aa1.below (bE HB1.out.size HGB) GR.size)
  ·obtain⟨td0,c,rfl⟩:∃a b,td=a++[b]:=⟨td.dropLast,td.getLast htd,(List.dropLast_concat_getLast htd).symm⟩;obtain⟨n1,hn1⟩:=aV ((td0++[c]).length);obtain⟨n0,hn0⟩:=aV td0.length;have h10:n1=n0+1:=by rw[hn1,hn0,bg];rfl
   have arn:J (gQ wr w1.heap.size (Tc tg n0 tc) (td0.map λn:Nat=>(n:Int))):=Y (by have h1:=HR.owi;rw[Gm,bg,iI]at h1;have h2:=gQ.pop (l:=td0.map λn:Nat=>(n:Int)) (by rw[dV];exact h1);rw[dV]at h2;rw[hn0];exact h2);have aon:bJ wr tg n0=some (O (c:Nat)):=HR.owi.aol cK (by rw[Gm,kL (by rw[dV,<-hn0];exact bG _),dV,<-hn0,mW];rfl);have HRI:=Y HR.out.ri.pop;obtain⟨nmc,hmc,aro⟩:=HR.ri.tdo c (bX.2 (aQ (dh.2 rfl)));have HMC:=Y hmc;have atz:c<nk:=by rw[LW];exact Ck.rJ hmc
   obtain⟨y,hy,hyn⟩:=iT hmc;have HY:=Y hy;obtain⟨yi,yv,yf,g0,g1,g2,g3,LX⟩:=j5 c y hy;obtain rfl:=H0 bC;obtain⟨hyI,hyV,hyF⟩:=LX.split;have HIL:J (y.imports.length<=1048576):=Y (by have a1:=zL y.imports;have hw:=MF y (dG hy);unfold xH at hw;omega);obtain⟨ia,ib,io,ic,rfl,hia,-,hiz,hic⟩:=hyI;obtain⟨a2,b2,o2,c2,rfl,-⟩:=hyV;obtain⟨a3,b3,o3,c3,rfl,-⟩:=hyF;obtain⟨HIA,HIZ,HIC⟩:=fE hia hiz hic;obtain⟨ni,hni⟩:=aV y.imports.length;have IW:=Y hni;rw[<-hni]at g1 HIA HIC HIL;generalize y.vars.length=n2 at *;generalize y.bq.length=n3 at *;replace g0:=aG g0 GR;replace g1:=aG g1 GR;replace g2:=aG g2 GR;replace g3:=aG g3 GR;have hc0:(0:Int)<=(c:Int):=by omega
   have hc1:(c:Int)<(nk:Int):=by omega
   have hsub:wrap64 ((n1:Int) - 1)=(n0:Int):=by
    have h1:((n1:Int) - 1)=(n0:Int):=by omega
    obtain⟨h2,h3⟩:=eY HR.len HOL.out;rw[<-hn1]at h2;rw[h1];unfold wrap64;omega
   rw[<-hn1]at htc ⊢;have hpos:(n1:Int) > 0:=by omega
   have hlt1:(n0:Int)<(n1:Int):=by omega
   have aoo:n0<=tc:=by omega
   have hz0:(0:Int)<=(n0:Int):=by omega
   have jP:J (n0<=out.length):=Y (by have h2:=HR.len;rw[<-hn1]at h2;omega);obtain⟨II,H10,arp⟩:=fE hn0 h10 aoo;clear hy hyn LX hia hiz hic hni hmc aro htd hn0 h10 hn1;go_upto_region 11 with fail;obtain⟨qO,HKB⟩:=sO wr (aY #[A y.name,X ia ni ic,X a2 n2 c2,X a3 n3 c3] 59);have arq:J (XQ w1 (wr.alloc (aY #[A y.name,X ia ni ic,X a2 n2 c2,X a3 n3 c3] 59)) nk l name o out td0 tg tc (some (c,0))):=Y (XQ.below ⟨HRI,by have:=jP.out;have:=II.out;omega,HR.own,by rw[<-II];exact arn,HR.rb,HR.wB⟩ qO);generalize wr.alloc (aY #[A y.name,X ia ni ic,X a2 n2 c2,X a3 n3 c3] 59)=W5 at *;generalize wr.heap.size=MK at *;obtain⟨-,q1⟩:=jv HKB;clear g0 g1 g2 g3 aon hsub hpos hlt1 hz0 hc0 hc1 htc aoo;go_wp2_with fail;clear q1;rw[II];go_loopw[8,10,51] (λo t i wx=>∃(ov:aC) (j d:Nat) (agB:aJ) (adq:List Nat) (tg2 tc2:Nat),ov=o/\j<=ni/\i=O j/\t=Tc tg2 adq.length tc2/\adq.length<=tc2/\J (XQ w1 wx nk l name ov agB adq tg2 tc2 (some (c,j))/\agB.length=out.length+d/\adq.length=n0+d)) (λ_ _ i _=>ni - (intOf i).toNat);exact⟨_,0,0,out,td0,tg,tc,rfl,bN _,rfl,rfl,by rw[<-II];exact arp,Y ⟨arq,rfl,II.symm⟩⟩
   obtain⟨o2,j,d,agB,adq,tg2,tc2,rfl,hj,rfl,rfl,aiS,HR2⟩:=hrel;have GR:=Y (up HB1 HR2.1.wB);have atA:=HIL.out;have alH:J (agB.length<=nk):=Y (by rw[LW];exact HR2.1.ri.len);by_cases hjl:j<ni
   ·obtain⟨bi,hbi⟩:∃y',y.imports[j]?=some y':=⟨_,aZ (by rw[<-IW];exact hjl)⟩;have HBI:=Y hbi;have g:=aG (HIC j hjl) GR;rw[List.getD,hbi,gD]at g;obtain rfl:=HIA bC;have HBZ:=Y (HIZ bi (dG hbi));have LK:=((Cv.below HR2.1.wB).caM).sS underlying117 Dq HBZ;clear hbi;cases hmb:dQ l bi with
    | none=>
     have e1:Ck.fi l bi=none:=by unfold Ck.fi;rw[hmb];rfl
     rw[e1]at LK;simp only[lK,nE]at LK;have WE:=Y (HR2.1.ri.skip HY HBI (λh=>by rw[hmb]at h;cases h));clear hmb e1;go_wp2;go_roundw;exact⟨_,j+1,d,agB,adq,tg2,tc2,rfl,by omega,by go_num,rfl,aiS,Y ⟨⟨WE,HR2.1.len,HR2.1.own,HR2.1.owi,HR2.1.rb,HR2.1.wB⟩,HR2.2.1,HR2.2.2⟩⟩;exact gV
    | some i=>
     have e1:Ck.fi l bi=some (O (i:Nat)):=by unfold Ck.fi;rw[hmb];rfl
     rw[e1]at LK;simp only[gD,nD]at LK;have HMB:=Y hmb;have hik:i<nk:=by rw[LW];exact Ck.rJ hmb
     obtain⟨rb,hrt,hrk⟩:=HR2.1.rb;obtain⟨aiT,HRK⟩:=bV hrt hrk;have rc:=hrt.cell hik;have hi0:(0:Int)<=(i:Int):=by omega
     have hi1:(i:Int)<(nk:Int):=by omega
     clear hmb e1 hrt hrk;cases hrb:rb i
     ·rw[hrb]at rc;have ars:=Y (HRK.new HMB hrb);obtain⟨afl,HRP⟩:=bV (HR2.1.ri.push HY HBI HMB ars) (HRK.put HMB);have z0:=aF aiT i;clear hrb;go_upto_region 17 with fail;have aru:=Y (aiT.put i);have yP:J (But w1.heap.size wr (wr.setCell (aN w1.heap.size i) (.bool true))):=Y ((But.refl w1.heap.size wr).set (a:=(aN w1.heap.size i)) (aO rfl) (.bool true));have xJ:J (Own (wr.setCell (aN w1.heap.size i) (.bool true)) w1.heap.size o2 agB):=Y (Ox (l:=agB) HR2.1.own aiT bM yP);have Y5:J (gQ (wr.setCell (aN w1.heap.size i) (.bool true)) w1.heap.size (Tc tg2 adq.length tc2) (adq.map λn:Nat=>(n:Int))):=Y (Ox (l:=adq.map λn:Nat=>(n:Int)) HR2.1.owi aiT bM yP);have fD:J (bK w1 (wr.setCell (aN w1.heap.size i) (.bool true))):=Y (HR2.1.wB.setCell (p:=(aN w1.heap.size i)) (bG _) _);generalize wr.setCell (aN w1.heap.size i) (.bool true)=W6 at *;obtain⟨OW,HC6⟩:=bV (aH W6 (aY #[A bi] 9)) ((aj (bF W6 (aY #[A bi] 9)) 0).trans rfl);obtain⟨n2',alI⟩:∃n,n=adq.length:=⟨_,rfl⟩;have xg:=Y alI;rw[<-alI]at Y5 aiS ⊢;clear rc z0 LK hi0 hi1 alI
      go_upto_region 18 with(first
       | (at_builtin;refine lg rfl _ _ rfl w1.heap.size o2 agB rfl (fM xJ OW) W6.heap.size bi rfl HC6 (by have:=alH.out;omega) (bE fD.out.size OW.size) ?_;intro o7 w7 gF dI;have EP:=Y gF;have HI7:J (gQ w7 w1.heap.size (Tc tg2 n2' tc2) (adq.map λn:Nat=>(n:Int))):=Y (gQ.kept Y5 xJ dI);have kG:J (bK w1 w7):=Y (Below.grown (up fD OW) dI (up fD OW).size (λk e=>(Fp xJ k e).1));have arv:J (CP w7 w1.heap.size nk (λk=>if k=i then true else rb k)):=Y (CP.st (bH aru OW) (mV.grown dI (ZE (fM xJ OW))) bM);clear gF dI)
       | fail)
      go_wp2_with (first
       | (at_builtin;have ahO:=aH w7 (aY #[O (i:Nat)] 3);refine nW rfl _ _ rfl w1.heap.size (Tc tg2 n2' tc2) (adq.map λn:Nat=>(n:Int)) rfl (fM HI7 ahO) w7.heap.size (i:Int) rfl ((aj (bF w7 (aY #[O (i:Nat)] 3)) 0).trans rfl) (by rw[dV];have h3:=HR2.1.len;have:=alH.out;omega) (bE kG.out.size ahO.size) ?_;intro t9 w9 rE jm;have HT9:=Y rE;have HO9:J (Own w9 w1.heap.size o7 (agB++[bi])):=Y (Own.kept EP HI7 jm);have Ac:J (bK w1 w9):=Y (Below.grown (up kG ahO) jm (up kG ahO).size (λk e=>(Fp HI7 k e).1));have arw:J (CP w9 w1.heap.size nk (λk=>if k=i then true else rb k)):=Y (CP.st (bH arv ahO) (mV.grown jm (ZE (fM HI7 ahO))) bM);clear rE jm ahO)
       | fail)
      obtain⟨tg9,tc9,rfl,arx⟩:=gQ.aom HT9 (n:=adq.length+1) cK (Nat.succ_pos _);go_roundw;exact⟨_,j+1,d+1,agB++[bi],adq++[i],tg9,tc9,rfl,by omega,by go_num,by rw[bg];rfl,by rw[bg];exact arx,Y ⟨⟨afl,by rw[bg,bg];have:=HR2.1.len;simp only[iI];omega,HO9,by rw[Gm,bg];exact HT9,⟨_,arw,HRP⟩,Ac⟩,by rw[bg,iI,HR2.2.1];omega,by rw[bg,iI,HR2.2.2];omega⟩⟩;exact gV
     ·rw[hrb]at rc;have WE:=Y (HR2.1.ri.skip HY HBI (λ_=>HRK.old HMB hrb));clear hrb;go_wp2;go_roundw;exact⟨_,j+1,d,agB,adq,tg2,tc2,rfl,by omega,by go_num,rfl,aiS,Y ⟨⟨WE,HR2.1.len,HR2.1.own,HR2.1.owi,HR2.1.rb,HR2.1.wB⟩,HR2.2.1,HR2.2.2⟩⟩;exact gV
   ·obtain rfl:j=ni:=by omega
    have HDN:=Y (RI.done (by rw[<-IW];exact HR2.1.ri) HY);go_wp2;go_roundw;case rel=>exact⟨_,agB,adq,tg2,tc2,rfl,rfl,aiS,Y ⟨HDN,HR2.1.len,HR2.1.own,HR2.1.owi,HR2.1.rb,HR2.1.wB⟩⟩
    case measure =>have h1:=HR2.1.own.Uw;obtain⟨h2,h3,h4,h5⟩:=rY HLO.out HR2.2.1 HR2.2.2 alH.out;have h6:=H10.out;rw[h1,h2];simp only[Uw];omega
