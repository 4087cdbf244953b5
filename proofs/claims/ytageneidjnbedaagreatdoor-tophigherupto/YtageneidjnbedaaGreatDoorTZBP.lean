import Derived.Test.YtageneidjnbedaaGreatDoorTZBN
set_option maxHeartbeats 0
set_option maxRecDepth 99999
namespace Go.Proofs.YtageneidjnbedaaGreatDoor
open Ck bS bO Rn Sm
open Go.Proofs.Tryz
open Go.RowKit Go.Maps Go.WideMaps
namespace Sm
open Fl
structure UOk(U ss:List ByteArray)(x:Mo)(bL:List (List Sc)):Prop where
 eF:∀l∈bL,∀y∈l,∀t∈y.gY,t∈U
 var:∀v∈x.vars,deed ⟨#[114,58]⟩ x.name v.name∈U/\deed ⟨#[119,58]⟩ x.name v.name∈U
 nQ:∀s∈ss,(⟨#[112,58]⟩++s:ByteArray)∈U
 len:U.length<=1048576
 size:∀t∈U,t.size<=maxLen
def XI(U:List ByteArray)(y:Sc):Prop:=(∀t∈y.gY,t∈U)/\y.gY.length<=U.length
section
variable {c : Env} {U : List ByteArray}
theorem XJ(f:∀s,∀t∈(c.eF s).gY,t∈U)(h:∀s n,c.nQ s=some n->deed ⟨#[114,58]⟩ c.md s∈U/\deed ⟨#[119,58]⟩ c.md s∈U):∀(m:Nat) (x:Ex) (t:aS),t∈c.AA m x->t∈U
 | 0,_,_,d=>by simp[Env.AA]at d
 | m+1,x,t,d=>by
  simp only[Env.AA,bX,gZ]at d;rcases d with d|⟨y,_,d⟩
  ·split at d
   ·unfold Env.Q8 at d;split at d;·rename_i n j;rw[dh]at d;subst d;exact(h _ _ j).1
    ·cases d
   ·split at d;·exact f _ _ d
    ·cases d
  ·exact XJ f h m y t d
theorem XK(h:∀s,∀t∈(c.eF s).gY,t∈U)(f:∀s n,c.nQ s=some n->deed ⟨#[114,58]⟩ c.md s∈U/\deed ⟨#[119,58]⟩ c.md s∈U)(j:∀s,0<=c.pl s->(⟨#[112,58]⟩++s:aS)∈U):∀(m:Nat) (l:List St),c.yg m l->∀t∈c.Pz m l,t∈U
 | 0,_,p,_,_=>iU p
 | m+1,l,p,t,d=>by
  simp only[Env.Pz,bX,gZ]at d;obtain⟨s,D,d⟩:=d;obtain⟨_,_,_,q,r,u⟩:=p s D;rcases d with((d|d)|d)|d;·exact XJ h f m s.e t d
  ·unfold Env.Py at d;split at d
   ·unfold Env.Q8 at d;split at d;·rename_i n C;rw[dh]at d;subst d;exact(f _ _ C).2
    ·cases d
   ·split at d;·rename_i z;rw[dh]at d;subst d;exact j _<|q z
    ·cases d
  ·exact XK h f j m s.a r t d
  ·exact XK h f j m s.b u t d
theorem XL:∀{m:Nat} {x:Ex} {v:aS},c.xZ m x->v∈c.oM m x->v.size<=17
 | 0,_,_,f,_=>iU f
 | m+1,x,v,f,d=>by
  obtain⟨h,_,_,j⟩:=f;simp only[Env.oM,bX,gZ]at d;rcases d with d|⟨y,p,d⟩
  ·split at d
   ·unfold Env.MH at d;split at d;·simp at d
    ·rw[dh]at d;subst d;exact h
   ·simp at d
  ·exact XL (j y p) d
theorem XM:∀{m:Nat} {l:List St} {v:aS},c.yg m l->v∈c.yx m l->v.size<=17
 | 0,_,_,_,d=>by simp[Env.yx]at d
 | m+1,l,v,p,d=>by
  simp only[Env.yx,gZ,bX]at d;obtain⟨s,q,d⟩:=d;obtain⟨r,f,_,_,h,j⟩:=p s q;rcases d with((d|d)|d)|d;·exact XL f d
  ·unfold Env.G8 Env.MH at d;split at d
   ·split at d;·simp at d
    ·rw[dh]at d;subst d;omega
   ·simp at d
  ·exact XM h d
  ·exact XM j d
end
theorem abM(l:aJ):(gP<|jZ l).Nodup:=(KV _<|Et l).imp λh=>h.2
theorem QK{l:aJ}{t:aS}:t∈gP (jZ l)↔t∈l:=by rw[yY,vT]
section
variable {ss : List ByteArray} {G : Nat} {L : Nat → Nat} {Z : Nat → Nat → Bool} {m : Nat} {x : Mo} {known : List Mo} {bL : List (List Sc)} {own : List Sc} {U : List ByteArray}
theorem afT{k:Nat}(j:UOk U ss x bL)(p:∀y∈own,∀t∈y.gY,t∈U)(s:aS):∀t∈(qH x k known bL own s).gY,t∈U:=by
 intro t d;unfold qH at d;split at d;·simp[Gf]at d
 split at d
 ·rw[xK]at d;cases h:own[(fF x k s known).2.1.toNat]? with
  | none=>rw[h]at d;simp[Gf]at d
  | some y=>rw[h]at d;exact p y (dG h) t d
 ·rw[xK,xK]at d;cases h:bL[(fF x k s known).1.toNat]? with
  | none=>rw[h]at d;simp[Gf]at d
  | some l=>
   rw[h]at d;simp only[gD]at d;cases f:l[(fF x k s known).2.1.toNat]? with
   | none=>rw[f]at d;simp[Gf]at d
   | some y=>rw[f]at d;exact j.eF l (dG h) y (dG f) t d
theorem aiQ{ps:aJ}{vs:List Va}{s:aS}{n:Nat}(h:tJ ss ps vs s=some n):∃v∈vs,v.name=s:=by
 unfold tJ at h;split at h;·cases h
 ·obtain⟨v,d,_⟩:=yF.1 h;exact⟨v,by simpa using Gw d,dM.1<|Jj (p:=λv:Va=>cB v.name s) d⟩
structure tZ(ss:List ByteArray)(G:Nat)(L:Nat->Nat)(Z:Nat->Nat->Bool)(m:Nat)(x:Mo)(c:Env)(f:Fu):Prop where
 chk:dD ss G L Z=0
 moe:oO m x=0
 st:c.yg m f.body
 ex:c.xZ m f.result
 env:c.Ok
 par:f.params.length<=4
 bq:x.bq.length<=8
 pb:Xx ss.length (c.jd m f)
 nm:(c.jd m f).names.length<=40
 cn:(c.jd m f).cons.length<=1000
theorem Ai(d:oO m x=0):x.bq.length<=8/\∀f∈x.bq,f.params.length<=4:=by
 unfold oO at d;by_cases j:8<x.imports.length\/8<x.vars.length\/8<x.bq.length;·rw[aK j]at d;omega
 ·rw[aI j]at d;refine⟨by omega,λf u=>?_⟩;by_cases p:((bS.kR x.name&&x.imports.all bS.kR)&&x.vars.all Q6)=false;·rw[aK p]at d;omega
  ·rw[aI p]at d;by_cases h:uZ m x.bq≠0;·rw[aK h]at d;exact aM d h
   ·have q:=uP (Classical.not_not.1 h) f u;unfold Q7 at q;by_cases r:4<f.params.length;·rw[aK r]at q;omega
    ·omega
theorem XO{h:Int}(d:AO h m x known=0):h=0/\oO m x=0:=by
 unfold AO at d;by_cases f:h=0
 ·rw[aK f]at d;by_cases j:oO m x=0;·exact⟨f,j⟩
  ·rw[aI j]at d;exact aM d j
 ·rw[aI f]at d;exact aM d f
theorem EH{k:Nat}{f:Fu}(d:x.bq[k]?=some f)(h:Vq ss G L Z m x k known bL own 40 1000=0):tZ ss G L Z m x (gH ss Z x k known bL own f) f:=by
 have I:QA ss G L Z m x k known bL own=0:=by
  by_cases r:QA ss G L Z m x k known bL own=0;·exact r
  ·unfold Vq at h;rw[aK r]at h;exact aM h r
 have p:Lb (gH ss Z x k known bL own f) m f 40 1000=false:=by
  unfold Vq at h;rw[aI (by simp[I])]at h;simp only[vQ,d]at h;cases R:Lb (gH ss Z x k known bL own f) m f 40 1000 with
  | false=>rfl
  | true=>simp[R]at h
 obtain⟨N,M,K,f',hk,D,V,S⟩:=KX I;have W:K=k:=by omega
 subst W;rw[d]at D;cases D;obtain⟨C,q⟩:=XO N;have E:=Qr M;obtain⟨j,z,F⟩:=lS (Zu (Z:=Z) E q d V S) (Ub C E K bL own f)<|Ai q;have H:=F.2 f<|dG d;unfold Lb at p;simp only[Bool.or_eq_false_iff,decide_eq_false_iff_not]at p;refine⟨C,q,j.st,j.ex,z,H,F.1,aiF z (λs=>?_) j.st j.ex H,?_,?_⟩
 ·rcases T9 ss s with u|u;·exact u
  ·exfalso;have:=z.low;simp only[gH,u,Ef]at this;omega
 ·have:=p.1;simp only[Env.jd];omega
 ·rw[MV];have:=p.2;omega
theorem tZ.sinks{c:Env}{f:Fu}(h:tZ ss G L Z m x c f)(d:f∈x.bq)(p:xH m x<=1048576):(c.jd m f).sinks.length<=2097148:=by have j:=afu (m:=m) d;obtain⟨s1,s2⟩:=eY (Jc c m f.body ([],c.low) h.st)<|Jb c m f.result ([],c.low) h.ex;simp only[Env.jd,dV,bg];omega
theorem tL{k:Nat}{f:Fu}(d:x.bq[k]?=some f):inf ss Z m x known bL (k+1)=((inf ss Z m x known bL k).1++[eF Z ss.length (least Z ss.length ((gH ss Z x k known bL (inf ss Z m x known bL k).1 f).jd m f).names.length ((gH ss Z x k known bL (inf ss Z m x known bL k).1 f).jd m f).cons) ((gH ss Z x k known bL (inf ss Z m x known bL k).1 f).jd m f) f],(inf ss Z m x known bL k).2++GJ Z ss.length (least Z ss.length ((gH ss Z x k known bL (inf ss Z m x known bL k).1 f).jd m f).names.length ((gH ss Z x k known bL (inf ss Z m x known bL k).1 f).jd m f).cons) ((gH ss Z x k known bL (inf ss Z m x known bL k).1 f).jd m f) f.name):=by
 rw[inf];split;·rename_i h;rw[d]at h;cases h
 ·rename_i g h;rw[d]at h;cases h;rfl
theorem Gl{k:Nat}(h:qI ss G L Z m x known bL (k+1)=0):qI ss G L Z m x known bL k=0/\Vq ss G L Z m x k known bL (inf ss Z m x known bL k).1 40 1000=0:=by
 rw[qI]at h;by_cases d:qI ss G L Z m x known bL k=0;·rw[aI (by simp[d])]at h;exact⟨d,h⟩
 ·rw[aK d]at h;exact aM h d
theorem Od{k:Nat}(f:qI ss G L Z m x known bL k≠0):∀d,qI ss G L Z m x known bL (k+d)=qI ss G L Z m x known bL k
 | 0=>rfl
 | d+1=>by have h:=Od f d;rw[<-Nat.add_assoc,qI,h,aK f]
theorem Oe{k:Nat}(d:qI ss G L Z m x known bL k=0):qI ss G L Z m x known bL (k+1)=Vq ss G L Z m x k known bL (inf ss Z m x known bL k).1 40 1000:=by rw[qI,aI (by simp[d])]
theorem xB:∀{k:Nat},k<=x.bq.length->(inf ss Z m x known bL k).1.length=k
 | 0,_=>rfl
 | k+1,h=>by rw[tL (aZ<|show k<x.bq.length by omega)];simp only[bg,iI,xB (show k<=x.bq.length by omega)]
theorem Uu{k:Nat}{f:Fu}(h:UOk U ss x bL)(u:∀y∈own,∀t∈y.gY,t∈U)(z:tZ ss G L Z m x (gH ss Z x k known bL own f) f):(∀t∈((gH ss Z x k known bL own f).jd m f).gY,t∈U)/\((gH ss Z x k known bL own f).jd m f).gY.length<=U.length:=by
 have r:∀t∈gP (jZ<|(gH ss Z x k known bL own f).gY m f),t∈U:=λt C=>by
  have d:=QK.1 C;unfold Env.gY at d;have p:=afT (known:=known) (k:=k) h u;have q:∀s n,(gH ss Z x k known bL own f).nQ s=some n->deed ⟨#[114,58]⟩ x.name s∈U/\deed ⟨#[119,58]⟩ x.name s∈U:=λs n j=>by obtain⟨v,D,rfl⟩:=aiQ j;exact h.var v D
  rcases bX.1 d with d|d;·exact XK p q (λs j=>h.nQ s<|wD.1 j) m _ z.st t d
  ·exact XJ p q m _ t d
 exact⟨r,Ga (abM _) r⟩
theorem QL(f:UOk U ss x bL):∀{k:Nat},k<=x.bq.length->qI ss G L Z m x known bL k=0->∀y∈(inf ss Z m x known bL k).1,XI U y
 | 0,_,_,_,d=>by cases d
 | k+1,h,r,y,d=>by
  obtain⟨q,u⟩:=Gl r;obtain⟨j,p⟩:=eY (aZ<|show k<x.bq.length by omega) (QL f (show k<=x.bq.length by omega) q);rw[tL j]at d;rcases bX.1 d with d|d;·exact p y d
  ·rw[dh]at d;subst d;exact Uu f (λy d=>(p y d).1)<|EH j u
theorem ZB(f:xH m x<=1048576):∀{k:Nat},k<=x.bq.length->qI ss G L Z m x known bL k=0->(inf ss Z m x known bL k).2.length<=2097148*k
 | 0,_,_=>by simp[inf]
 | k+1,h,q=>by
  obtain⟨j,u⟩:=Gl q;obtain⟨d,C⟩:=eY (aZ<|show k<x.bq.length by omega) (ZB f (show k<=x.bq.length by omega) j);have r:=(EH d u).sinks (dG d) f;rw[tL d];simp only[bg];have p:∀V,(GJ Z ss.length V ((gH ss Z x k known bL (inf ss Z m x known bL k).1<|x.bq[k]).jd m (x.bq[k])) (x.bq[k]).name).length<=2097148:=λV=>by unfold GJ;rw[dV];exact bE (Km _ _) r
  have z:=p<|least Z ss.length ((gH ss Z x k known bL (inf ss Z m x known bL k).1<|x.bq[k]).jd m (x.bq[k])).names.length ((gH ss Z x k known bL (inf ss Z m x known bL k).1<|x.bq[k]).jd m (x.bq[k])).cons;omega
noncomputable def ans(ss:List ByteArray)(G:Nat)(L:Nat->Nat)(Z:Nat->Nat->Bool)(m:Nat)(x:Mo)(known:List Mo)(bL:List (List Sc)):List Sc × List Dg × Int:=
 if AO (dD ss G L Z) m x known≠0 then ([],[],AO (dD ss G L Z) m x known)
 else if bO.once (D9 ss x known m)≠[]then ([],bO.once (D9 ss x known m),0)
 else if qI ss G L Z m x known bL x.bq.length≠0 then ([],[],qI ss G L Z m x known bL x.bq.length)
 else if (inf ss Z m x known bL x.bq.length).2≠[]then ([],bO.once (inf ss Z m x known bL x.bq.length).2,0)
 else ((inf ss Z m x known bL x.bq.length).1,[],0)
theorem ZC{ss:aJ}{G:Nat}{L:Nat->Nat}{Z:aL}{m:Nat}{x:Mo}{known:List Mo}{bL:List (List Sc)}{U:aJ}(h:UOk U ss x bL):∀y∈(ans ss G L Z m x known bL).1,XI U y:=by
 intro y d;unfold ans at d;split at d;·cases d
 ·split at d;·cases d
  ·split at d;·cases d
   ·rename_i f;split at d;·cases d
    ·exact QL h (bG _) (Classical.not_not.1 f) y d
end
end Sm
variable{l:List Mo}{t:TypeId}{w w' w1 wr:bI}{n m G B i g cap base e k nk tg tc:Nat}{eU vc vs vf ve v o:aC}{ss U out:aJ}{x:Int}{c xs:List aC}{y:Sc}{P:Pb}{s a b name:aS}{rb:Nat->Bool}
theorem yt.MS{L:Nat->Nat}{Z:aL}{x:Mo}{c:Fl.Env}{f:Fu}(h:tZ ss G L Z m x c f)(z:f∈x.bq)(E:xH m x<=1048576)(C:∀j∈f.params,j.size<=maxLen)(r:∀t∈(c.jd m f).gY,t∈U)(F:(c.jd m f).gY.length<=U.length)(H:U.length<=1048576)(u:∀t∈U,t.size<=maxLen)(p:yt w n eU vc vs vf ve (c.jd m f)):PbV w eU vc vs vf ve (c.jd m f):=by
 refine⟨Own.strs p.names (λj q=>?_) (by have:=h.nm;omega),alx p.cons (by have:=h.cn;omega),aly p.sinks (by have:=h.sinks z E;omega),p.fr.ints,p.gY.strs (λj q=>u j<|r j q) bC⟩;have D:j∈Fl.adds f.params (c.yx m f.body++c.oM m f.result):=q;rcases Fl.sV.1 D with d|d;·exact C j d
 ·rcases bX.1 d with d|d;·exact bE (XM h.st d) bM
  ·exact bE (XL h.ex d) bM
section
variable {α : Type} {At : World → List Value → α → Prop} {w : World} {ops : Array Oper} {rest : List Oper} {o : Oper} {a : Act} {Q : Exit → Act → World → Prop}
theorem mU(R:o.guard=none)(s x:Operand)(t e k u:Nat)(r:aC)(ho:o.op=.call { callee:=.builtin .append,args:=#[s,x],argTypes:=#[t,t] })(ht:prog.underlying t=some (.slice e))(W:(prog.info? e).map (λi=>(i.zero,i.size,i.bytes))=some (some r,k,u))(ae:r.cells.size=k)(hk:0<k)(M:u<=1024)(n:Nat)(v:aC)(l:List α)(hs:a.eval s=v)(aa:eZ At w n e k v l)(B:Nat)(c:List aC)(y:α)(hx:a.eval x=Tc B 1 1)(N:∀(j:Nat) q,c[j]?=some q->bJ w B j=some q)(D:c.length=k)(H:∀q∈c,q.oneCell'=true)(hy:At w c y)(hl:l.length<=16777216)(K:n<=w.heap.size)(C:∀w' c y,w.grownBy w' v.ownBlock->At w c y->At w' c y)(h:∀g cap w',eZ At w' n e k (Tc g (l.length+1) cap) (l++[y])->w.grownBy w' v.ownBlock->wpList prog ops Q rest (a.put o.dst<|Tc g (l.length+1) cap) w'):wpList prog ops Q (o::rest) a w:=by
 obtain⟨iS,F,ab,ac,ad⟩:=info_parts W;obtain⟨cs,hr,E,k2,k3⟩:=aa;refine wpList_append_lies w R s x t ho n e iS r k u ht F ab ac ad ae hk v l.length cs.flatten hs hr (aN B 0) 1 1 c hx (by rw[D,uS]) (λj q hu=>by rw[Addr.add_lit,d9];exact N j q hu) H bM (by unfold maxLen;omega) (bE (yE (show l.length+1<=16777217 by omega) M) bM) K w.heap.size rfl ?_;intro g cap w' I z h3 _;refine h g cap w' ⟨cs++[c],by rw[bg,Da];simpa using I,by simp[E],λd f=>?_,λi d r f p=>?_⟩ z
 ·rcases bX.1 f with f|f;·exact k2 d f
  ·rw[dh]at f;subst f;exact D
 ·by_cases S:i<l.length;·rw[jX bC]at f;rw[jX S]at p;exact C w' d r z<|k3 i d r f p
  ·have V:i=l.length:=by have:=(cO.1 p).1;rw[bg,iI]at this;omega
   subst V;rw[kL bC,E,mW]at f;rw[kL (bG _),mW]at p;simp at f p;subst f p;exact C w' _ _ z hy
end
def mV(t:TypeId)(w w':World):Prop:=∀(j:Nat) (cs:Array Value) (u:TypeId),w.heap[j]?=some (.cells cs u (0,0))->u≠t->w'.heap[j]?=some (.cells cs u (0,0))
section
variable {w w' : World} {t : TypeId}
theorem mV.grown{r:Option Nat}(hg:w.grownBy w' r)(q:∀k,r=some k->∃h,w.heap[k]?=some (.cells h t (0,0))):mV t w w':=λj cs z f u=>by
 rw[hg.block j (aR f) (λp=>?_)];·exact f
 ·obtain⟨h,d⟩:=q j p.symm;rw[f]at d;simp at d;exact u d.2
theorem mV.below(d:bK w w'):mV t w w':=λ_ _ _ f _=>bH f d
theorem pJ.st{B:Nat}{v:aC}{l:aJ}(h:pJ w B v l)(p:mV t w w')(q:9≠t):pJ w' B v l:=by
 rcases h with h|⟨g,cap,e,f,d,j,r⟩;·exact aO h
 ·exact aQ ⟨g,cap,e,f,d,p g _ _ j q,r⟩
theorem dJ.st{v:aC}{l:List Int}(h:dJ w v l)(p:mV t w w')(q:3≠t):dJ w' v l:=by
 rcases h with h|⟨g,cap,e,j,d,f,r⟩;·exact aO h
 ·exact aQ ⟨g,cap,e,j,d,p g _ _ f q,r⟩
end
def Ht(w:World)(c:List Value)(y:Sc):Prop:=∃d ve,c=[.string y.fn,.int .i64 y.mask,.int .i64 y.level,d,.int .i64 y.pc,ve]/\dJ w d y.bounds/\pJ w 0 ve y.gY
theorem Ht.st(h:Ht w c y)(d:mV t w w')(f:9≠t)(j:3≠t):Ht w' c y:=by obtain⟨r,ve,e,p,q⟩:=h;exact⟨r,ve,e,p.st d j,q.st d f⟩
theorem Ht.below(h:Ht w c y)(d:bK w w'):Ht w' c y:=h.st (t:=34) (mV.below d) bM bM
theorem yt.st(h:yt w n eU vc vs vf ve P)(d:mV 34 w w'):yt w' n eU vc vs vf ve P:=
 ⟨h.names.keep λ_ _ _ f=>d _ _ _ f bM,h.cons.keep (λ_ _ _ f=>d _ _ _ f bM) λc y j=>j.mono λv l p=>p.st d bM,h.sinks.keep (λ_ _ _ f=>d _ _ _ f bM) λc y j=>j.mono λv l p=>p.st d bM,h.fr.st d bM,h.gY.st d bM⟩
theorem yt.Lh(h:yt w n eU vc vs vf ve P)(d:bK w w'):yt w' n eU vc vs vf ve P:=h.st<|mV.below d
theorem mM.Mi{w w':World}{v:Value}{l:List (Int × Int)}{r:Option Nat}(h:mM w v l)(hv:La0 v)(hg:w.grownBy w' r)(hr:∀k,r=some k->∃s,w.cell? (aN k 0)=some (A s)):mM w' v l:=by
 obtain⟨a,b,off,cap,e,h0,hl,h1⟩:=h;refine⟨a,b,off,cap,e,h0,hl,λi x hx=>?_⟩;have hpos:0<l.length:=by have:=(cO.1 hx).1;omega
 obtain⟨b',hb'⟩:=hv (aN b off) _ _ (by rw[e,h0 hpos]);injection hb' with hb1 hb2;subst hb2;obtain⟨k0,k1⟩:=h1 i x hx;have hlt:b<w.heap.size:=eH _ _ k0;have hne:some b≠r:=λer=>by obtain⟨s,hs⟩:=hr b er.symm;have h2:=(h1 0 _ (aZ hpos)).1;rw[Nat.zero_mul,hs]at h2;simp at h2
 have hk:=hg.block b hlt hne;exact⟨(jH hk).trans k0,(jH hk).trans k1⟩
theorem Li{l:List Sc}(h:eZ Ht w n 34 6 v l)(u:l.length<=9223372036854775807)(M:∀y∈l,∀N∈y.gY,N.size<=maxLen)(H:∀y∈l,y.gY.length<=1048576):xO w v l:=by
 cases l with
 | nil =>obtain⟨a,c,e⟩:=h.form;exact⟨a,0,0,c,e,λC=>aM C cK,u,λi y f=>aM f cK⟩
 | cons S r =>obtain⟨g,cap,e,_⟩:=h.get (i:=0) (y:=S) rfl;refine⟨_,g,0,cap,e,λ_=>rfl,u,λi y f=>?_⟩;obtain⟨g',V,p,c,_,F,R,ve,E,D,I⟩:=h.get f;rw[e]at p;injection p with d W e3;injection d with d;injection d with d;subst d;have q:=λj K=>F j K;rw[E]at q;have z:=dG f;rw[d9];exact⟨R,ve,q 0 bM,q 1 bM,q 2 bM,q 3 bM,q 4 bM,q 5 bM,D.ints,I.strs (M y z) (by have:=H y z;omega)⟩
theorem abN{l:List Sc}(h:eZ Ht w n 34 6 v l)(j:l=[]->v=aU):∀k,v.ownBlock=some k->∃s,bJ w k 0=some (A s):=by
 intro k d;cases l with
 | nil=>rw[j rfl]at d;cases d
 | cons y r =>obtain⟨g,cap,e,c,_,p,u,ve,q,_⟩:=h.get (i:=0) (y:=y) rfl;rw[e]at d;injection d with d;subst d;have f:=p 0 bM;rw[q]at f;exact⟨y.fn,f⟩
def Ck.un(f:Fu):Sc:=⟨f.name,0,0,List.replicate f.params.length 0,0,[]⟩
theorem TT:(prog.info? 34).map (λi=>(i.zero,i.size,i.bytes))=some (some<|.agg #[A ⟨#[]⟩,O 0,O 0,aU,O 0,aU],6,88):=by kernel_rfl
theorem qJ.Tg{l:List Int}(h:qJ w B l)(j:l.length<=9223372036854775807):dJ w (Tc B l.length l.length) l:=
 aQ ⟨B,_,rfl,j,_,h,by simp,λi d f=>by simp[f]⟩
namespace Ck
def imp(l:List Mo)(a b:ByteArray):Prop:=∃i x,dQ l a=some i/\l[i]?=some x/\b∈x.imports/\(dQ l b).isSome=true
inductive yu (l:List Mo) (a:ByteArray):ByteArray->Prop
 | one {b:ByteArray} (h:imp l a b):yu l a b
 | more {b c:ByteArray} (h:yu l a b) (k:imp l b c):yu l a c
def arl(l:List Mo)(name:ByteArray)(R:List ByteArray):Prop:=R.Pairwise ltS/\∀b,b∈R↔yu l name b
theorem iT(h:dQ l s=some i):∃x,l[i]?=some x/\x.name=s:=by
 unfold dQ at h;have d:=Jj h;cases f:l[i]? with
 | none=>rw[f]at d;cases d
 | some x =>rw[f]at d;exact⟨x,rfl,dM.1 d⟩
theorem rJ(h:dQ l s=some i):i<l.length:=by obtain⟨x,d,_⟩:=iT h;exact(cO.1 d).1
theorem afX{t:aS}(h:dQ l s=some i)(j:dQ l t=some i):s=t:=by obtain⟨x,p,e⟩:=iT h;obtain⟨y,d,f⟩:=iT j;rw[p]at d;cases d;rw[<-e,f]
theorem XP(h:yu l a b):(dQ l b).isSome=true:=by
 cases h with
 | one h=>obtain⟨_,_,_,_,_,h⟩:=h;exact h
 | more _ h=>obtain⟨_,_,_,_,_,h⟩:=h;exact h
theorem aiR(h:yu l a b):(dQ l a).isSome=true:=by
 induction h with
 | one h=>obtain⟨i,_,h,_⟩:=h;rw[h];rfl
 | more _ _ d=>exact d
def Full(l:List Mo)(out:List ByteArray)(i j:Nat):Prop:=∀x,l[i]?=some x->∀b∈x.imports.take j,(dQ l b).isSome=true->b∈out
structure RI(l:List Mo)(name:ByteArray)(out:List ByteArray)(td:List Nat)(cu:Option (Nat × Nat)):Prop where
 rch:∀b∈out,yu l name b
 nd:out.Nodup
 tdo:∀t∈td,∃nm,dQ l nm=some t/\(nm=name\/nm∈out)
 cur:∀c j,cu=some (c,j)->∃nm,dQ l nm=some c/\(nm=name\/nm∈out)
 clo:∀nm i,(nm=name\/nm∈out)->dQ l nm=some i->i∈td\/(∀x,l[i]?=some x->Full l out i x.imports.length)\/∃j,cu=some (i,j)/\Full l out i j
def Uv(l:List Mo)(out:List ByteArray)(rb:Nat->Bool):Prop:=∀i,rb i=true↔∃b∈out,dQ l b=some i
section
variable {l : List Mo} {name : ByteArray} {out : List ByteArray} {td : List Nat}
theorem RI.start{i:Nat}(h:dQ l name=some i):RI l name [] [i] none where
 rch:=λb q=>by cases q
 nd:=List.nodup_nil
 tdo:=λt p=>by rw[dh]at p;subst p;exact⟨name,h,aO rfl⟩
 cur:=λc j h=>by cases h
 clo:=λnm k d f=>by
  rcases d with rfl|d
  ·rw[h]at f;cases f;exact aO<|dh.2 rfl
  ·cases d
theorem RI.len{cu:Option (Nat × Nat)}(h:RI l name out td cu):out.length<=l.length:=by
 have h1:=Ga (r:=l.map (·.name)) h.nd λb hb=>by obtain⟨i,hi⟩:=sF.1 (XP (h.rch b hb));obtain⟨x,hx,e⟩:=iT hi;exact iZ.2 ⟨x,dG hx,e⟩
 rwa[dV]at h1
theorem RI.pop{c:Nat}(h:RI l name out (td++[c]) none):RI l name out td (some (c,0)) where
 rch:=h.rch
 nd:=h.nd
 tdo:=λt r=>h.tdo t<|bX.2<|aO r
 cur:=λu j e=>by cases e;exact h.tdo c<|bX.2<|aQ<|dh.2 rfl
 clo:=λnm i f p=>by
  rcases h.clo nm i f p with d|d|⟨j,d,_⟩
  ·rcases bX.1 d with d|d
   ·exact aO d
   ·rw[dh]at d
    subst d
    exact aQ (aQ ⟨0,rfl,λx _ b q=>by simp at q⟩)
  ·exact aQ<|aO d
  ·cases d
theorem RI.skip{c j:Nat}{x:Mo}{b:aS}(h:RI l name out td (some (c,j)))(q:l[c]?=some x)(E:x.imports[j]?=some b)(F:(dQ l b).isSome=true->b∈out):RI l name out td (some (c,j+1)) where
 rch:=h.rch
 nd:=h.nd
 tdo:=h.tdo
 cur:=λI H e=>by cases e;exact h.cur c j rfl
 clo:=λnm i z C=>by
  rcases h.clo nm i z C with f|f|⟨H,f,D⟩
  ·exact aO f
  ·exact aQ<|aO f
  ·cases f
   refine aQ<|aQ ⟨j+1,rfl,λy r u d p=>?_⟩
   rw[q]at r
   cases r
   rw[gy,E,kI]at d
   rcases bX.1 d with d|d
   ·exact D x q u d p
   ·rw[dh]at d
    subst d
    exact F p
theorem RI.push{c j i:Nat}{x:Mo}{b:aS}(h:RI l name out td (some (c,j)))(H:l[c]?=some x)(K:x.imports[j]?=some b)(E:dQ l b=some i)(hn:b∉out):RI l name (out++[b]) (td++[i]) (some (c,j+1)):=by
 obtain⟨C,M,z⟩:=h.cur c j rfl;have N:imp l C b:=⟨c,x,M,H,dG K,by rw[E];rfl⟩;have aa:yu l name b:=by
  rcases z with rfl|z;·exact yu.one N
  ·exact yu.more (h.rch C z) N
 have up:∀nm,(nm=name\/nm∈out)->(nm=name\/nm∈out++[b]):=λnm h=>h.imp id λh=>bX.2<|aO h;have I:∀k j,Full l out k j->Full l (out++[b]) k j:=λk j h y r p d F=>bX.2<|aO<|h y r p d F;refine⟨λp d=>?_,?_,λt q=>?_,λc' j' e=>?_,λnm k f D=>?_⟩
 ·rcases bX.1 d with d|d;·exact h.rch p d
  ·rw[dh]at d;subst d;exact aa
 ·rw[List.nodup_append];refine⟨h.nd,List.nodup_cons.2 ⟨by simp,List.nodup_nil⟩,λa W p d e=>?_⟩;rw[dh]at d;subst d e;exact hn W
 ·rcases bX.1 q with q|q;·obtain⟨nm,q1,q2⟩:=h.tdo t q;exact⟨nm,q1,up nm q2⟩
  ·rw[dh]at q;subst q;exact⟨b,E,aQ<|bX.2<|aQ<|dh.2 rfl⟩
 ·cases e;exact⟨C,M,up C z⟩
 ·by_cases R:nm=b;·subst R;rw[E]at D;cases D;exact aO<|bX.2<|aQ<|dh.2 rfl
  ·have S:nm=name\/nm∈out:=by
    rcases f with f|f;·exact aO f
    ·rcases bX.1 f with f|f;·exact aQ f
     ·exact aM (dh.1 f) R
   rcases h.clo nm k S D with u|u|⟨j',u,V⟩;·exact aO<|bX.2<|aO u
   ·exact aQ<|aO λy r=>I _ _<|u y r
   ·cases u;refine aQ<|aQ ⟨j+1,rfl,λy r p d F=>?_⟩;rw[H]at r;cases r;rw[gy,K,kI]at d;rcases bX.1 d with d|d;·exact I _ _ V x H p d F
    ·exact bX.2<|aQ d
theorem RI.done{c:Nat}{x:Mo}(h:RI l name out td (some (c,x.imports.length)))(u:l[c]?=some x):RI l name out td none where
 rch:=h.rch
 nd:=h.nd
 tdo:=h.tdo
 cur:=λ_ _ e=>by cases e
 clo:=λnm i p q=>by
  rcases h.clo nm i p q with d|d|⟨j,d,r⟩
  ·exact aO d
  ·exact aQ<|aO d
  ·cases d
   exact aQ (aO λy f=>by rw[u]at f;cases f;exact r)
theorem RI.all(h:RI l name out [] none):∀b,b∈out↔yu l name b:=by
 intro b;refine⟨h.rch b,λu=>?_⟩;have q:∀nm c,(nm=name\/nm∈out)->imp l nm c->c∈out:=λnm c r ⟨i,x,C,p,D,E⟩=>by
  rcases h.clo nm i r C with d|d|⟨j,d,_⟩;·cases d
  ·exact d x p x p c (by rw[jQ];exact D) E
  ·cases d
 induction u with
 | one f=>exact q name _ (aO rfl) f
 | more _ f z=>exact q _ _ (aQ z) f
theorem Uv.old{rb:Nat->Bool}(h:Uv l out rb){b:aS}{i:Nat}(f:dQ l b=some i)(j:rb i=true):b∈out:=by obtain⟨p,d,e⟩:=(h i).1 j;rw[afX f e];exact d
theorem Uv.new{rb:Nat->Bool}(h:Uv l out rb){b:aS}{i:Nat}(j:dQ l b=some i)(d:rb i=false):b∉out:=λf=>by rw[(h i).2 ⟨b,f,j⟩]at d;cases d
theorem Uv.put{rb:Nat->Bool}(h:Uv l out rb){b:aS}{i:Nat}(q:dQ l b=some i):Uv l (out++[b]) (λk=>if k=i then true else rb k):=λk=>by
 by_cases p:k=i;·subst p;simp only[if_true,true_iff];exact⟨b,bX.2<|aQ<|dh.2 rfl,q⟩
 ·simp only[aI p];rw[h k];constructor;·rintro⟨j,d,f⟩;exact⟨j,bX.2<|aO d,f⟩
  ·rintro⟨j,d,f⟩;rcases bX.1 d with d|d;·exact⟨j,d,f⟩
   ·rw[dh]at d;subst d;rw[q]at f;cases f;exact aM rfl p
theorem RI.size{m:Nat}{w:bI}{v:aC}{d:Option (Nat × Nat)}(h:RI l name out td d)(q:jN w m v l):∀b∈out,b.size<=maxLen:=λb f=>by obtain⟨i,p⟩:=sF.1<|XP<|h.rch b f;obtain⟨x,u,e⟩:=iT p;obtain⟨_,_,_,_,_,_,_,j⟩:=q;obtain⟨_,_,_,_,_,_,_,r⟩:=j i x u;rw[<-e];exact Qj r
end
end Ck
def CP(w:World)(B n:Nat)(rb:Nat->Bool):Prop:=w.heap[B]?=some (.cells ((List.range n).map λi=>Value.bool (rb i)).toArray 4 (0,0))
theorem CP.cell(h:CP w B n rb)(d:i<n):w.cell? (aN B i)=some (.bool<|rb i):=by rw[aj h];simp[d]
theorem CP.put(h:CP w B n rb)(i:Nat):CP (w.setCell (aN B i)<|.bool true) B n (λk=>if k=i then true else rb k):=by
 unfold CP;rw[aP h i (.bool true)];congr 2;apply Array.ext;·simp
 ·intro k f j;by_cases d:i=k;·subst d;simp
  ·simp[d];exact λe=>aM e.symm d
theorem alG:(prog.info? 4).map (λi=>(i.zero,i.size,i.bytes))=some (some<|.bool false,1,1):=by kernel_rfl
theorem afY(n:Nat)(r:n<=1048576)(w:bI):(Instr.makeSlice 43 (O (n:Int))<|O (n:Int)).run prog w=.ok (Tc w.heap.size n n) (w.alloc<|.cells (madeCells #[.bool false] n) 4):=by obtain⟨i,j,f⟩:=yF.1 alG;simp only[pO]at f;obtain⟨q,p,h⟩:=f;have d:=run_make (P:=prog) w 43 4 i _ underlying43 j q .i64 .i64 n n bC (Int.le_refl _) (by rw[h];omega) bC;rw[p,show(Value.bool false).cells=#[.bool false]from rfl]at d;simpa using d
theorem afZ(n:Nat):madeCells #[Value.bool false] n=((List.range n).map λ_=>Value.bool false).toArray:=by
 apply Array.ext;·simp[madeCells]
 ·intro i d f;simp[madeCells,Nat.mod_one]
theorem gQ.pop{l:List Int}(h:gQ w B (Tc g (l.length+1) cap) (l++[x])):gQ w B (Tc g l.length cap) l:=by
 obtain⟨K,f⟩:=h;rcases f with⟨f,_⟩|⟨I,F,q,e,u,C,z,D,E,p⟩;·injection f with f;cases f
 ·injection e with d H r;injection d with d;injection d with d;subst d r;rw[bg,iI]at z p;refine⟨by simp,aQ ⟨g,cap,q,rfl,u,C,by omega,D,E,?_⟩⟩;have j:=congrArg (List.take l.length) p;rw[List.take_take,gX,List.take_left' cK]at j;rw[<-j];congr 1;omega
theorem gQ.aol{l:List Int}(h:gQ w B (Tc g n cap) l)(j:n=l.length)(d:l[i]?=some x):w.cell? (aN g i)=some (O x):=by subst j;have f:=yC h i (by rw[Nat.mul_one];exact(cO.1 d).1);rw[f,pq,d];rfl
def Uw:Value->Nat
 | .slice _ n _=>n
 | _=>0
theorem Own.Uw{l:aJ}(h:Own w B v l):Go.Proofs.YtageneidjnbedaaGreatDoor.Uw v=l.length:=by
 rcases h.2 with⟨d,f⟩|⟨g,cap,j,d,_⟩;·rw[d,f];rfl
 ·rw[d];rfl
theorem gQ.aom{l:List Int}(h:gQ w B v l)(j:l.length=n)(q:0<n):∃g cap,v=Tc g n cap/\n<=cap:=by
 rcases h.2 with⟨d,f⟩|⟨g,cap,p,d,_,_,f,_⟩;·omega
 ·exact⟨g,cap,by rw[d,j],by omega⟩
theorem af0{l:aJ}(h:Own w B (Tc g n cap) l):ji w g l/\B<=g/\n=l.length:=by
 rcases h.2 with⟨j,_⟩|⟨M,K,r,j,C,E,D,_,H,I⟩;·injection j with j;cases j
 ·injection j with f u z;injection f with f;injection f with f;subst f z;refine⟨⟨r,E,by rw[H,Nat.mul_one];exact D,λi d q=>?_⟩,C,u⟩;have F:i<l.length:=(cO.1 q).1;have p:=congrArg (λt=>t[i]?) I;simp only[pq,q,Nat.mul_one]at p;rw[nM F]at p;rw[<-Array.getElem?_toList];exact p
theorem Og(w:bI)(c:Nat):Strs w (X none 0 c) []:=⟨none,0,0,c,rfl,λh=>aM h cK,by simp,λj f=>aM f cK,λi d=>aM d cK⟩
theorem Gm(l:List Nat)(x:Nat):((l++[x]).map λn:Nat=>(n:Int))=(l.map λn:Nat=>(n:Int))++[(x:Int)]:=by simp
theorem ZE(h:w.ownsRow base e k v n xs):∀j,v.ownBlock=some j->∃f,dR w j (.cells f e (0,0)):=by
 intro j d;rcases h.2 with⟨p,_⟩|⟨g,cap,f,p,_,q,_⟩;·rw[p]at d;cases d
 ·rw[p]at d;injection d with d;subst d;exact⟨f,q⟩
theorem CP.st(h:CP w B n rb)(d:mV t w w')(f:4≠t):CP w' B n rb:=d _ _ _ h f
structure XQ(w1 wr:World)(nk:Nat)(l:List Mo)(name:ByteArray)(o:Value)(out:List ByteArray)(td:List Nat)(tg tc:Nat)(cu:Option (Nat × Nat)):Prop where
 ri:RI l name out td cu
 len:td.length<=out.length+1
 own:Own wr w1.heap.size o out
 owi:gQ wr w1.heap.size (.slice (some ⟨tg,0,none⟩) td.length tc) (td.map λn:Nat=>(n:Int))
 rb:∃rb,CP wr w1.heap.size nk rb/\Uv l out rb
 wB:Below w1.heap.size w1 wr
theorem XQ.below{td:List Nat}{cu:Option (Nat × Nat)}(h:XQ w1 wr nk l name o out td tg tc cu)(d:bK wr w'):XQ w1 w' nk l name o out td tg tc cu:=
 ⟨h.ri,h.len,fM h.own d,fM h.owi d,by obtain⟨rb,f,j⟩:=h.rb;exact⟨rb,bH f d,j⟩,up h.wB d⟩
theorem abO(m:Nat)(w:bI)(v:aC)(l:List Mo)(name:ByteArray)(h:jN w m v l)(hl:l.length<=1048575)(hn:name.size<=maxLen)(hsm:∀x∈l,xH m x<=1048576):aD 52 #[v,A name] w λe w'=>∃u,e=dz u/\J (∃R,arl l name R/\Strs w' u R/\bK w w'):=by
 obtain⟨HMS,MF,KZ⟩:=fE h hsm (Cy m w v l h bC);obtain⟨a,b,off,cap,rfl,h0,-,hel⟩:=h;obtain⟨H0,j5⟩:=bV h0 hel;obtain⟨nk,hnk⟩:=aV l.length;have LW:=Y hnk;rw[<-hnk]at hl H0 KZ ⊢;clear h0 hel hnk hsm;go_enter func52,ntmps52;go_wp2_with fail;refine KZ.mono ?_;rintro e w1 ⟨b1,rfl,Ki⟩;obtain⟨hm1,-,hb1⟩:=Ki.out;obtain⟨Cv,HB1⟩:=bV hm1 hb1;have LK:=hm1.caM.sS underlying58 Dq hn;clear Ki hm1 hb1 hn;cases hmo:dQ l name with
 | none=>
  have e1:Ck.fi l name=none:=by unfold Ck.fi;rw[hmo];rfl
  rw[e1]at LK;simp only[lK,nE]at LK;have HMO:=Y hmo;clear hmo e1;go_wp2;go_ret;exact⟨_,rfl,Y ⟨[],⟨List.Pairwise.nil,λb=>⟨λh=>(by cases h),λh=>(by have h1:=aiR h;rw[HMO]at h1;cases h1)⟩⟩,Og _ _,HB1⟩⟩
 | some i0=>
  have e1:Ck.fi l name=some (O (i0:Nat)):=by unfold Ck.fi;rw[hmo];rfl
  rw[e1]at LK;simp only[gD,nD]at LK;have HMO:=Y hmo;have MK:=afY nk bC;obtain⟨W,hW,k0,k1,hsz,hBW⟩:=AL w1 (.cells (madeCells #[.bool false] nk) 4) (aY #[O (i0:Nat)] 3);rw[afZ]at k0;have HRT:J (CP W w1.heap.size nk (λ_=>false)):=Y k0;have HTI:J (gQ W w1.heap.size (Tc (w1.heap.size+1) 1 1) [(i0:Int)]):=Y ⟨by simp,aQ ⟨w1.heap.size+1,1,_,rfl,dN _,k1,by simp,by unfold maxLen;omega,rfl,rfl⟩⟩;have iO:=Y hBW;clear hmo e1 k0 k1 hsz hBW;go_wp2_with fail;rw[<-hW];clear hW MK LK;go_loopw[8,10] (λo t wr=>∃(ov:aC) (out:aJ) (td:List Nat) (tg tc:Nat),ov=o/\t=Tc tg td.length tc/\td.length<=tc/\J (XQ w1 wr nk l name ov out td tg tc none)) (λo t _=>Uw t+2*(nk - Uw o));exact⟨_,[],[i0],_,1,rfl,rfl,bG _,Y ⟨RI.start HMO,bG _,lJ _ _ _ _,HTI,⟨λ_=>false,HRT,λi=>by simp⟩,iO⟩⟩
  obtain⟨o,out,td,tg,tc,rfl,rfl,htc,HR⟩:=hrel;have GR:=Y (up HB1 HR.wB);have HOL:J (out.length<=nk):=Y (by rw[LW];exact HR.ri.len);have HLO:J (Uw o=out.length):=Y HR.out.own.Uw;by_cases htd:td=[]
  ·subst htd;rcases Own.shape HR.own with⟨rfl,hz⟩|⟨g,cp,rfl,hc,hg⟩;·subst hz;have eP:=Y HR.out.ri.all;simp only[Ef]at *;go_wp2_with fail;refine(Cm _ _ _).mono ?_;rintro e w9 ⟨rfl,hw9⟩;subst hw9;go_wp2;go_ret;exact⟨_,rfl,Y ⟨[],⟨List.Pairwise.nil,eP⟩,Og _ _,GR⟩⟩
   ·obtain⟨hrow,hgb,-⟩:=af0 HR.own;obtain⟨HSO,HZ,HGB⟩:=fE (TW wr g out.length cp out hrow rfl (by have:=HOL.out;omega)) (HR.ri.size HMS) hgb;obtain⟨no,hno⟩:=aV out.length;have HNO:=Y hno;rw[<-hno]at HSO ⊢;simp only[Ef]at *;clear hrow hgb hno hc hg;go_wp2_with fail;refine HSO.mono ?_;rintro e w9 ⟨rfl,hrow,XR⟩;obtain⟨sU,aa1⟩:=bV hrow XR;clear hrow XR;go_wp2;go_ret;refine⟨_,rfl,Y ⟨jZ out,⟨(Et out).and ((NY out).nodup_iff.2 HR.ri.nd),λb=>(vT _ _).trans (HR.ri.all b)⟩,?_,?_⟩⟩
    ·have hlen:(jZ out).length=no:=by rw[(NY out).length_eq,HNO]
     have h1:pJ w9 0 (Tc g (jZ out).length cp) (jZ out):=aQ ⟨g,cp,rfl,bN _,sU⟩;rw[hlen]at h1;exact h1.strs (λu hu=>HZ u ((vT _ _).1 hu)) (by rw[hlen];have:=HOL.out;have:=HNO.out;omega)
    ·exact GR.trans (aa1.below (bE HB1.out.size HGB) GR.size)
  ·obtain⟨td0,c,rfl⟩:∃a b,td=a++[b]:=⟨td.dropLast,td.getLast htd,(List.dropLast_concat_getLast htd).symm⟩;obtain⟨n1,hn1⟩:=aV ((td0++[c]).length);obtain⟨n0,hn0⟩:=aV td0.length;have h10:n1=n0+1:=by rw[hn1,hn0,bg];rfl
   have arn:J (gQ wr w1.heap.size (Tc tg n0 tc) (td0.map λn:Nat=>(n:Int))):=Y (by have h1:=HR.owi;rw[Gm,bg,iI]at h1;have h2:=gQ.pop (l:=td0.map λn:Nat=>(n:Int)) (by rw[dV];exact h1);rw[dV]at h2;rw[hn0];exact h2);have aon:bJ wr tg n0=some (O (c:Nat)):=HR.owi.aol cK (by rw[Gm,kL (by rw[dV,<-hn0];exact bG _),dV,<-hn0,mW];rfl);have HRI:=Y HR.out.ri.pop;obtain⟨nmc,hmc,aro⟩:=HR.ri.tdo c (bX.2 (aQ (dh.2 rfl)));have HMC:=Y hmc;have atz:c<nk:=by rw[LW];exact Ck.rJ hmc
   obtain⟨y,hy,hyn⟩:=iT hmc;have HY:=Y hy;obtain⟨yi,yv,yf,g0,g1,g2,g3,LX⟩:=j5 c y hy;obtain rfl:=H0 bC;obtain⟨hyI,hyV,hyF⟩:=LX.split;have HIL:J (y.imports.length<=1048576):=Y (by have a1:=zL y.imports;have hw:=MF y (dG hy);unfold xH at hw;omega);obtain⟨ia,ib,io,ic,rfl,hia,-,hiz,hic⟩:=hyI;obtain⟨a2,b2,o2,c2,rfl,-⟩:=hyV;obtain⟨a3,b3,o3,c3,rfl,-⟩:=hyF;obtain⟨HIA,HIZ,HIC⟩:=fE hia hiz hic;obtain⟨ni,hni⟩:=aV y.imports.length;have IW:=Y hni;rw[<-hni]at g1 HIA HIC HIL;generalize y.vars.length=n2 at *;generalize y.bq.length=n3 at *;replace g0:=aG g0 GR;replace g1:=aG g1 GR;replace g2:=aG g2 GR;replace g3:=aG g3 GR;have hc0:(0:Int)<=(c:Int):=by omega
   have hc1:(c:Int)<(nk:Int):=by omega
   have hsub:wrap64 ((n1:Int) - 1)=(n0:Int):=by
    have h1:((n1:Int) - 1)=(n0:Int):=by omega
    obtain⟨h2,h3⟩:=eY HR.len HOL.out;rw[<-hn1]at h2;rw[h1];unfold wrap64;omega
   rw[<-hn1]at htc ⊢;have hpos:(n1:Int) > 0:=by omega
   have hlt1:(n0:Int)<(n1:Int):=by omega
   have aoo:n0<=tc:=by omega
   have hz0:(0:Int)<=(n0:Int):=by omega
   have jP:J (n0<=out.length):=Y (by have h2:=HR.len;rw[<-hn1]at h2;omega);obtain⟨II,H10,arp⟩:=fE hn0 h10 aoo;clear hy hyn LX hia hiz hic hni hmc aro htd hn0 h10 hn1;go_upto_region 11 with fail;obtain⟨qO,HKB⟩:=sO wr (aY #[A y.name,X ia ni ic,X a2 n2 c2,X a3 n3 c3] 47);have arq:J (XQ w1 (wr.alloc (aY #[A y.name,X ia ni ic,X a2 n2 c2,X a3 n3 c3] 47)) nk l name o out td0 tg tc (some (c,0))):=Y (XQ.below ⟨HRI,by have:=jP.out;have:=II.out;omega,HR.own,by rw[<-II];exact arn,HR.rb,HR.wB⟩ qO);generalize wr.alloc (aY #[A y.name,X ia ni ic,X a2 n2 c2,X a3 n3 c3] 47)=W5 at *;generalize wr.heap.size=MK at *;obtain⟨-,q1⟩:=jv HKB;clear g0 g1 g2 g3 aon hsub hpos hlt1 hz0 hc0 hc1 htc aoo;go_wp2_with fail;clear q1;rw[II];go_loopw[8,10,51] (λo t i wx=>∃(ov:aC) (j d:Nat) (agB:aJ) (adq:List Nat) (tg2 tc2:Nat),ov=o/\j<=ni/\i=O j/\t=Tc tg2 adq.length tc2/\adq.length<=tc2/\J (XQ w1 wx nk l name ov agB adq tg2 tc2 (some (c,j))/\agB.length=out.length+d/\adq.length=n0+d)) (λ_ _ i _=>ni - (intOf i).toNat);exact⟨_,0,0,out,td0,tg,tc,rfl,bN _,rfl,rfl,by rw[<-II];exact arp,Y ⟨arq,rfl,II.symm⟩⟩
   obtain⟨o2,j,d,agB,adq,tg2,tc2,rfl,hj,rfl,rfl,aiS,HR2⟩:=hrel;have GR:=Y (up HB1 HR2.1.wB);have atA:=HIL.out;have alH:J (agB.length<=nk):=Y (by rw[LW];exact HR2.1.ri.len);by_cases hjl:j<ni
   ·obtain⟨bi,hbi⟩:∃y',y.imports[j]?=some y':=⟨_,aZ (by rw[<-IW];exact hjl)⟩;have HBI:=Y hbi;have g:=aG (HIC j hjl) GR;rw[List.getD,hbi,gD]at g;obtain rfl:=HIA bC;have HBZ:=Y (HIZ bi (dG hbi));have LK:=((Cv.below HR2.1.wB).caM).sS underlying58 Dq HBZ;clear hbi;cases hmb:dQ l bi with
    | none=>
     have e1:Ck.fi l bi=none:=by unfold Ck.fi;rw[hmb];rfl
     rw[e1]at LK;simp only[lK,nE]at LK;have WE:=Y (HR2.1.ri.skip HY HBI (λh=>by rw[hmb]at h;cases h));clear hmb e1;go_wp2;go_roundw;exact⟨_,j+1,d,agB,adq,tg2,tc2,rfl,by omega,by go_num,rfl,aiS,Y ⟨⟨WE,HR2.1.len,HR2.1.own,HR2.1.owi,HR2.1.rb,HR2.1.wB⟩,HR2.2.1,HR2.2.2⟩⟩;exact gV
    | some i=>
     have e1:Ck.fi l bi=some (O (i:Nat)):=by unfold Ck.fi;rw[hmb];rfl
     rw[e1]at LK;simp only[gD,nD]at LK;have HMB:=Y hmb;have hik:i<nk:=by rw[LW];exact Ck.rJ hmb
     obtain⟨rb,hrt,hrk⟩:=HR2.1.rb;obtain⟨aiT,HRK⟩:=bV hrt hrk;have rc:=hrt.cell hik;have hi0:(0:Int)<=(i:Int):=by omega
     have hi1:(i:Int)<(nk:Int):=by omega
     clear hmb e1 hrt hrk;cases hrb:rb i
     ·rw[hrb]at rc;have ars:=Y (HRK.new HMB hrb);obtain⟨afl,HRP⟩:=bV (HR2.1.ri.push HY HBI HMB ars) (HRK.put HMB);have z0:=aF aiT i;clear hrb;go_upto_region 17 with fail;have aru:=Y (aiT.put i);have yP:J (But w1.heap.size wr (wr.setCell (aN w1.heap.size i) (.bool true))):=Y ((But.refl w1.heap.size wr).set (a:=(aN w1.heap.size i)) (aO rfl) (.bool true));have xJ:J (Own (wr.setCell (aN w1.heap.size i) (.bool true)) w1.heap.size o2 agB):=Y (Ox (l:=agB) HR2.1.own aiT bM yP);have Y5:J (gQ (wr.setCell (aN w1.heap.size i) (.bool true)) w1.heap.size (Tc tg2 adq.length tc2) (adq.map λn:Nat=>(n:Int))):=Y (Ox (l:=adq.map λn:Nat=>(n:Int)) HR2.1.owi aiT bM yP);have fD:J (bK w1 (wr.setCell (aN w1.heap.size i) (.bool true))):=Y (HR2.1.wB.setCell (p:=(aN w1.heap.size i)) (bG _) _);generalize wr.setCell (aN w1.heap.size i) (.bool true)=W6 at *;obtain⟨OW,HC6⟩:=bV (aH W6 (aY #[A bi] 9)) ((aj (bF W6 (aY #[A bi] 9)) 0).trans rfl);obtain⟨n2',alI⟩:∃n,n=adq.length:=⟨_,rfl⟩;have xg:=Y alI;rw[<-alI]at Y5 aiS ⊢;clear rc z0 LK hi0 hi1 alI
      go_upto_region 18 with(first
       | (at_builtin;refine lg rfl _ _ rfl w1.heap.size o2 agB rfl (fM xJ OW) W6.heap.size bi rfl HC6 (by have:=alH.out;omega) (bE fD.out.size OW.size) ?_;intro o7 w7 gF dI;have EP:=Y gF;have HI7:J (gQ w7 w1.heap.size (Tc tg2 n2' tc2) (adq.map λn:Nat=>(n:Int))):=Y (gQ.kept Y5 xJ dI);have kG:J (bK w1 w7):=Y (Below.grown (up fD OW) dI (up fD OW).size (λk e=>(Fp xJ k e).1));have arv:J (CP w7 w1.heap.size nk (λk=>if k=i then true else rb k)):=Y (CP.st (bH aru OW) (mV.grown dI (ZE (fM xJ OW))) bM);clear gF dI)
       | fail)
      go_wp2_with (first
       | (at_builtin;have ahO:=aH w7 (aY #[O (i:Nat)] 3);refine nW rfl _ _ rfl w1.heap.size (Tc tg2 n2' tc2) (adq.map λn:Nat=>(n:Int)) rfl (fM HI7 ahO) w7.heap.size (i:Int) rfl ((aj (bF w7 (aY #[O (i:Nat)] 3)) 0).trans rfl) (by rw[dV];have h3:=HR2.1.len;have:=alH.out;omega) (bE kG.out.size ahO.size) ?_;intro t9 w9 rE jm;have HT9:=Y rE;have HO9:J (Own w9 w1.heap.size o7 (agB++[bi])):=Y (Own.kept EP HI7 jm);have Ac:J (bK w1 w9):=Y (Below.grown (up kG ahO) jm (up kG ahO).size (λk e=>(Fp HI7 k e).1));have arw:J (CP w9 w1.heap.size nk (λk=>if k=i then true else rb k)):=Y (CP.st (bH arv ahO) (mV.grown jm (ZE (fM HI7 ahO))) bM);clear rE jm ahO)
       | fail)
      obtain⟨tg9,tc9,rfl,arx⟩:=gQ.aom HT9 (n:=adq.length+1) cK (Nat.succ_pos _);go_roundw;exact⟨_,j+1,d+1,agB++[bi],adq++[i],tg9,tc9,rfl,by omega,by go_num,by rw[bg];rfl,by rw[bg];exact arx,Y ⟨⟨afl,by rw[bg,bg];have:=HR2.1.len;simp only[iI];omega,HO9,by rw[Gm,bg];exact HT9,⟨_,arw,HRP⟩,Ac⟩,by rw[bg,iI,HR2.2.1];omega,by rw[bg,iI,HR2.2.2];omega⟩⟩;exact gV
     ·rw[hrb]at rc;have WE:=Y (HR2.1.ri.skip HY HBI (λ_=>HRK.old HMB hrb));clear hrb;go_wp2;go_roundw;exact⟨_,j+1,d,agB,adq,tg2,tc2,rfl,by omega,by go_num,rfl,aiS,Y ⟨⟨WE,HR2.1.len,HR2.1.own,HR2.1.owi,HR2.1.rb,HR2.1.wB⟩,HR2.2.1,HR2.2.2⟩⟩;exact gV
   ·obtain rfl:j=ni:=by omega
    have HDN:=Y (RI.done (by rw[<-IW];exact HR2.1.ri) HY);go_wp2;go_roundw;case rel=>exact⟨_,agB,adq,tg2,tc2,rfl,rfl,aiS,Y ⟨HDN,HR2.1.len,HR2.1.own,HR2.1.owi,HR2.1.rb,HR2.1.wB⟩⟩
    case measure =>have h1:=HR2.1.own.Uw;obtain⟨h2,h3,h4,h5⟩:=rY HLO.out HR2.2.1 HR2.2.2 alH.out;have h6:=H10.out;rw[h1,h2];simp only[Uw];omega
