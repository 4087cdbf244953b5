/- part -/
import Derived.Test.YtbgkpehhdibaoaaGreatDoorMZBN
set_option maxHeartbeats 0
set_option maxRecDepth 99999
namespace Go.Proofs.YtbgkpehhdibaoaaGreatDoor
open Ck bO aO Rn Sm
open Go.Proofs.Tryz
open Go.RowKit Go.Maps Go.WideMaps
namespace Sm
open Fl
structure UOk(U ss:List ByteArray)(x:Mo)(bJ:List (List Sc)):Prop where
 eB:∀l∈bJ,∀y∈l,∀t∈y.gU,t∈U
 var:∀v∈x.vars,deed ⟨#[114,58]⟩ x.name v.name∈U/\deed ⟨#[119,58]⟩ x.name v.name∈U
 nE:∀s∈ss,(⟨#[112,58]⟩++s:ByteArray)∈U
 len:U.length<=1048576
 size:∀t∈U,t.size<=maxLen
def Wi(U:List ByteArray)(y:Sc):Prop:=(∀t∈y.gU,t∈U)/\y.gU.length<=U.length
section
variable {c : Env} {U : List ByteArray}
theorem Wj(h1:∀s,∀t∈(c.eB s).gU,t∈U)(h2:∀s n,c.nE s=some n->deed ⟨#[114,58]⟩ c.md s∈U/\deed ⟨#[119,58]⟩ c.md s∈U):∀(m:Nat) (x:Ex) (t:aZ),t∈c.Bg m x->t∈U
 | 0,_,_,ht=>by simp[Env.Bg]at ht
 | m+1,x,t,ht=>by
  simp only[Env.Bg,bV,iF]at ht;rcases ht with ht|⟨y,_,ht⟩
  ·split at ht
   ·unfold Env.XU at ht;split at ht;·rename_i n hn;rw[dG]at ht;subst ht;exact(h2 _ _ hn).1
    ·cases ht
   ·split at ht;·exact h1 _ _ ht
    ·cases ht
  ·exact Wj h1 h2 m y t ht
theorem Wm(h1:∀s,∀t∈(c.eB s).gU,t∈U)(h2:∀s n,c.nE s=some n->deed ⟨#[114,58]⟩ c.md s∈U/\deed ⟨#[119,58]⟩ c.md s∈U)(h3:∀s,0<=c.pl s->(⟨#[112,58]⟩++s:aZ)∈U):∀(m:Nat) (l:List St),c.yA m l->∀t∈c.RN m l,t∈U
 | 0,_,hx,_,_=>iG hx
 | m+1,l,hx,t,ht=>by
  simp only[Env.RN,bV,iF]at ht;obtain⟨s,hs,ht⟩:=ht;obtain⟨_,_,_,h4,h5,h6⟩:=hx s hs;rcases ht with((ht|ht)|ht)|ht;·exact Wj h1 h2 m s.e t ht
  ·unfold Env.RL at ht;split at ht
   ·unfold Env.XU at ht;split at ht;·rename_i n hn;rw[dG]at ht;subst ht;exact(h2 _ _ hn).2
    ·cases ht
   ·split at ht;·rename_i hk;rw[dG]at ht;subst ht;exact h3 _ (h4 hk)
    ·cases ht
  ·exact Wm h1 h2 h3 m s.a h5 t ht
  ·exact Wm h1 h2 h3 m s.b h6 t ht
theorem Wn:∀{m:Nat} {x:Ex} {v:aZ},c.yx m x->v∈c.nO m x->v.size<=17
 | 0,_,_,hx,_=>iG hx
 | m+1,x,v,hx,hv=>by
  obtain⟨h1,_,_,hr⟩:=hx;simp only[Env.nO,bV,iF]at hv;rcases hv with hv|⟨y,hy,hv⟩
  ·split at hv
   ·unfold Env.Ll at hv;split at hv;·simp at hv
    ·rw[dG]at hv;subst hv;exact h1
   ·simp at hv
  ·exact Wn (hr y hy) hv
theorem Wo:∀{m:Nat} {l:List St} {v:aZ},c.yA m l->v∈c.xB m l->v.size<=17
 | 0,_,_,_,hv=>by simp[Env.xB]at hv
 | m+1,l,v,hl,hv=>by
  simp only[Env.xB,iF,bV]at hv;obtain⟨s,hs,hv⟩:=hv;obtain⟨h1,h2,_,_,h5,h6⟩:=hl s hs;rcases hv with((hv|hv)|hv)|hv;·exact Wn h2 hv
  ·unfold Env.F4 Env.Ll at hv;split at hv
   ·split at hv;·simp at hv
    ·rw[dG]at hv;subst hv;omega
   ·simp at hv
  ·exact Wo h5 hv
  ·exact Wo h6 hv
end
theorem cpt_nodup(l:List aZ):(jC (oL l)).Nodup:=(JZ _ (Dp l)).imp λh=>h.2
theorem eff_mem{l:List aZ}{t:aZ}:t∈jC (oL l)↔t∈l:=by rw[CS,yg]
section
variable {ss : List ByteArray} {G : Nat} {L : Nat → Nat} {Z : Nat → Nat → Bool} {m : Nat} {x : Mo} {known : List Mo} {bJ : List (List Sc)} {own : List Sc} {U : List ByteArray}
theorem schOf_in{k:Nat}(hU:UOk U ss x bJ)(ho:∀y∈own,∀t∈y.gU,t∈U)(s:aZ):∀t∈(oh x k known bJ own s).gU,t∈U:=by
 intro t ht;unfold oh at ht;split at ht;·simp[LC]at ht
 split at ht
 ·rw[wP]at ht;cases h:own[(aO.gq x k s known).2.1.toNat]? with
  | none=>rw[h]at ht;simp[LC]at ht
  | some y=>rw[h]at ht;exact ho y (dN h) t ht
 ·rw[wP,wP]at ht;cases h:bJ[(aO.gq x k s known).1.toNat]? with
  | none=>rw[h]at ht;simp[LC]at ht
  | some l=>
   rw[h]at ht;simp only[iK]at ht;cases h':l[(aO.gq x k s known).2.1.toNat]? with
   | none=>rw[h']at ht;simp[LC]at ht
   | some y=>rw[h']at ht;exact hU.eB l (dN h) y (dN h') t ht
theorem levV_in{ps:List aZ}{vs:List Va}{s:aZ}{n:Nat}(h:uq ss ps vs s=some n):∃v∈vs,v.name=s:=by
 unfold uq at h;split at h;·cases h
 ·obtain⟨v,hv,_⟩:=xJ.1 h;exact⟨v,by simpa using LJ hv,eO.1 (Qp (p:=λv:Va=>dD v.name s) hv)⟩
structure RdOk(ss:List ByteArray)(G:Nat)(L:Nat->Nat)(Z:Nat->Nat->Bool)(m:Nat)(x:Mo)(c:Env)(f:Fu):Prop where
 chk:dh ss G L Z=0
 moe:oM m x=0
 st:c.yA m f.body
 ex:c.yx m f.result
 env:c.Ok
 par:f.params.length<=4
 bq:x.bq.length<=8
 pb:VY ss.length (c.jq m f)
 nm:(c.jq m f).names.length<=40
 cn:(c.jq m f).cons.length<=1000
theorem zB(h1:oM m x=0):x.bq.length<=8/\∀f∈x.bq,f.params.length<=4:=by
 unfold oM at h1;by_cases h2:8<x.imports.length\/8<x.vars.length\/8<x.bq.length;·rw[aL h2]at h1;omega
 ·rw[aJ h2]at h1;refine⟨by omega,λf hf=>?_⟩;by_cases h3:((fU x.name&&x.imports.all fU)&&x.vars.all KP)=false;·rw[aL h3]at h1;omega
  ·rw[aJ h3]at h1;by_cases h4:uj m x.bq≠0;·rw[aL h4]at h1;exact aN h1 h4
   ·have h5:=Dk (Classical.not_not.1 h4) f hf;unfold Jr at h5;by_cases h6:4<f.params.length;·rw[aL h6]at h5;omega
    ·omega
theorem Wp{E:Int}(hE:yK E m x known=0):E=0/\oM m x=0:=by
 unfold yK at hE;by_cases h0:E=0
 ·rw[aL h0]at hE;by_cases h1:oM m x=0;·exact⟨h0,h1⟩
  ·rw[aJ h1]at hE;exact aN hE h1
 ·rw[aJ h0]at hE;exact aN hE h0
theorem Hy{k:Nat}{f:Fu}(hf:x.bq[k]?=some f)(h:Qn ss G L Z m x k known bJ own 40 1000=0):RdOk ss G L Z m x (fP ss Z x k known bJ own f) f:=by
 have hw:MZ ss G L Z m x k known bJ own=0:=by
  by_cases h0:MZ ss G L Z m x k known bJ own=0;·exact h0
  ·unfold Qn at h;rw[aL h0]at h;exact aN h h0
 have hl:Ke (fP ss Z x k known bJ own f) m f 40 1000=false:=by
  unfold Qn at h;rw[aJ (by simp[hw])]at h;simp only[Ct,hf]at h;cases hb:Ke (fP ss Z x k known bJ own f) m f 40 1000 with
  | false=>rfl
  | true=>simp[hb]at h
 obtain⟨hE,hD,kn,f',hk,hf',hfs,hfo⟩:=wiE_ok hw;have hkn:kn=k:=by omega
 subst hkn;rw[hf]at hf';cases hf';obtain⟨e1,e2⟩:=Wp hE;have hnm:=Yk hD;obtain⟨hfn,hen,hp⟩:=lQ (Yn (Z:=Z) hnm e2 hf hfs hfo) (SI e1 hnm kn bJ own f) (zB e2);have hp4:=hp.2 f (dN hf);unfold Ke at hl;simp only[Bool.or_eq_false_iff,decide_eq_false_iff_not]at hl;refine⟨e1,e2,hfn.st,hfn.ex,hen,hp4,hp.1,prob_ok hen (λs=>?_) hfn.st hfn.ex hp4,?_,?_⟩
 ·rcases J7 ss s with h9|h9;·exact h9
  ·exfalso;have:=hen.low;simp only[fP,h9,F5]at this;omega
 ·have:=hl.1;simp only[Env.jq];omega
 ·rw[LD];have:=hl.2;omega
theorem RdOk.sinks{c:Env}{f:Fu}(h:RdOk ss G L Z m x c f)(hf:f∈x.bq)(hw:qx m x<=1048576):(c.jq m f).sinks.length<=2097148:=by have h0:=fun_le (m:=m) hf;obtain⟨s1,s2⟩:=eD (Hw c m f.body ([],c.low) h.st) (Hu c m f.result ([],c.low) h.ex);simp only[Env.jq,dR,aW];omega
theorem yS{k:Nat}{f:Fu}(hf:x.bq[k]?=some f):inf ss Z m x known bJ (k+1)=((inf ss Z m x known bJ k).1++[eB Z ss.length (least Z ss.length ((fP ss Z x k known bJ (inf ss Z m x known bJ k).1 f).jq m f).names.length ((fP ss Z x k known bJ (inf ss Z m x known bJ k).1 f).jq m f).cons) ((fP ss Z x k known bJ (inf ss Z m x known bJ k).1 f).jq m f) f],(inf ss Z m x known bJ k).2++Gf Z ss.length (least Z ss.length ((fP ss Z x k known bJ (inf ss Z m x known bJ k).1 f).jq m f).names.length ((fP ss Z x k known bJ (inf ss Z m x known bJ k).1 f).jq m f).cons) ((fP ss Z x k known bJ (inf ss Z m x known bJ k).1 f).jq m f) f.name):=by
 rw[inf];split;·rename_i h;rw[hf]at h;cases h
 ·rename_i g h;rw[hf]at h;cases h;rfl
theorem M6{k:Nat}(h:qm ss G L Z m x known bJ (k+1)=0):qm ss G L Z m x known bJ k=0/\Qn ss G L Z m x k known bJ (inf ss Z m x known bJ k).1 40 1000=0:=by
 rw[qm]at h;by_cases h0:qm ss G L Z m x known bJ k=0;·rw[aJ (by simp[h0])]at h;exact⟨h0,h⟩
 ·rw[aL h0]at h;exact aN h h0
theorem M7{k:Nat}(h0:qm ss G L Z m x known bJ k≠0):∀d,qm ss G L Z m x known bJ (k+d)=qm ss G L Z m x known bJ k
 | 0=>rfl
 | d+1=>by have h1:=M7 h0 d;rw[<-Nat.add_assoc,qm,h1,aL h0]
theorem M8{k:Nat}(h0:qm ss G L Z m x known bJ k=0):qm ss G L Z m x known bJ (k+1)=Qn ss G L Z m x k known bJ (inf ss Z m x known bJ k).1 40 1000:=by rw[qm,aJ (by simp[h0])]
theorem PV:∀{k:Nat},k<=x.bq.length->(inf ss Z m x known bJ k).1.length=k
 | 0,_=>rfl
 | k+1,h=>by rw[yS (bg (show k<x.bq.length by omega))];simp only[aW,iT,PV (show k<=x.bq.length by omega)]
theorem Tm{k:Nat}{f:Fu}(hU:UOk U ss x bJ)(ho:∀y∈own,∀t∈y.gU,t∈U)(hr:RdOk ss G L Z m x (fP ss Z x k known bJ own f) f):(∀t∈((fP ss Z x k known bJ own f).jq m f).gU,t∈U)/\((fP ss Z x k known bJ own f).jq m f).gU.length<=U.length:=by
 have hin:∀t∈jC (oL ((fP ss Z x k known bJ own f).gU m f)),t∈U:=λt ht=>by
  have ht':=eff_mem.1 ht;unfold Env.gU at ht';have h1:=schOf_in (known:=known) (k:=k) hU ho;have h2:∀s n,(fP ss Z x k known bJ own f).nE s=some n->deed ⟨#[114,58]⟩ x.name s∈U/\deed ⟨#[119,58]⟩ x.name s∈U:=λs n hs=>by obtain⟨v,hv,rfl⟩:=levV_in hs;exact hU.var v hv
  rcases bV.1 ht' with ht'|ht';·exact Wm h1 h2 (λs hs=>hU.nE s (oV.1 hs)) m _ hr.st t ht'
  ·exact Wj h1 h2 m _ t ht'
 exact⟨hin,EL (cpt_nodup _) hin⟩
theorem PX(hU:UOk U ss x bJ):∀{k:Nat},k<=x.bq.length->qm ss G L Z m x known bJ k=0->∀y∈(inf ss Z m x known bJ k).1,Wi U y
 | 0,_,_,_,hy=>by cases hy
 | k+1,h,hE,y,hy=>by
  obtain⟨h0,hw⟩:=M6 hE;obtain⟨hf,ih⟩:=eD (bg (show k<x.bq.length by omega)) (PX hU (show k<=x.bq.length by omega) h0);rw[yS hf]at hy;rcases bV.1 hy with hy|hy;·exact ih y hy
  ·rw[dG]at hy;subst hy;exact Tm hU (λy hy=>(ih y hy).1) (Hy hf hw)
theorem Yv(hw:qx m x<=1048576):∀{k:Nat},k<=x.bq.length->qm ss G L Z m x known bJ k=0->(inf ss Z m x known bJ k).2.length<=2097148*k
 | 0,_,_=>by simp[inf]
 | k+1,h,hE=>by
  obtain⟨h0,hx⟩:=M6 hE;obtain⟨hf,ih⟩:=eD (bg (show k<x.bq.length by omega)) (Yv hw (show k<=x.bq.length by omega) h0);have hr:=(Hy hf hx).sinks (dN hf) hw;rw[yS hf];simp only[aW];have h2:∀V,(Gf Z ss.length V ((fP ss Z x k known bJ (inf ss Z m x known bJ k).1 (x.bq[k])).jq m (x.bq[k])) (x.bq[k]).name).length<=2097148:=λV=>by unfold Gf;rw[dR];exact bH (Ju _ _) hr
  have h3:=h2 (least Z ss.length ((fP ss Z x k known bJ (inf ss Z m x known bJ k).1 (x.bq[k])).jq m (x.bq[k])).names.length ((fP ss Z x k known bJ (inf ss Z m x known bJ k).1 (x.bq[k])).jq m (x.bq[k])).cons);omega
noncomputable def ans(ss:List ByteArray)(G:Nat)(L:Nat->Nat)(Z:Nat->Nat->Bool)(m:Nat)(x:Mo)(known:List Mo)(bJ:List (List Sc)):List Sc × List Dg × Int:=
 if yK (dh ss G L Z) m x known≠0 then ([],[],yK (dh ss G L Z) m x known)
 else if aO.once (aO.Aj ss x known m)≠[]then ([],aO.once (aO.Aj ss x known m),0)
 else if qm ss G L Z m x known bJ x.bq.length≠0 then ([],[],qm ss G L Z m x known bJ x.bq.length)
 else if (inf ss Z m x known bJ x.bq.length).2≠[]then ([],aO.once (inf ss Z m x known bJ x.bq.length).2,0)
 else ((inf ss Z m x known bJ x.bq.length).1,[],0)
theorem Yw{ss:List aZ}{G:Nat}{L:Nat->Nat}{Z:Nat->Nat->Bool}{m:Nat}{x:Mo}{known:List Mo}{bJ:List (List Sc)}{U:List aZ}(hU:UOk U ss x bJ):∀y∈(ans ss G L Z m x known bJ).1,Wi U y:=by
 intro y hy;unfold ans at hy;split at hy;·cases hy
 ·split at hy;·cases hy
  ·split at hy;·cases hy
   ·rename_i h3;split at hy;·cases hy
    ·exact PX hU (bF _) (Classical.not_not.1 h3) y hy
end
end Sm
variable{l:List Mo}{t:TypeId}{w w' w1 wr:World}{n m G B i g cap base e k nk tg tc:Nat}{dZ vc vs vf ve v o:Value}{ss U:List ByteArray}{x:Int}{c xs:List Value}{y:Sc}{P:Pb}{s a b name:aZ}{rb:Nat->Bool}
theorem xu.ofRd{L:Nat->Nat}{Z:Nat->Nat->Bool}{x:Mo}{c:Fl.Env}{f:Fu}(h:RdOk ss G L Z m x c f)(hf:f∈x.bq)(hw:qx m x<=1048576)(hpar:∀u∈f.params,u.size<=maxLen)(h1:∀t∈(c.jq m f).gU,t∈U)(h2:(c.jq m f).gU.length<=U.length)(h3:U.length<=1048576)(h4:∀t∈U,t.size<=maxLen)(hp:xu w n dZ vc vs vf ve (c.jq m f)):PbV w dZ vc vs vf ve (c.jq m f):=by
 refine⟨Own.strs hp.names (λu hu=>?_) (by have:=h.nm;omega),coL_of hp.cons (by have:=h.cn;omega),siL_of hp.sinks (by have:=h.sinks hf hw;omega),hp.fr.ints,hp.gU.strs (λu hu=>h4 u (h1 u hu)) aV⟩;have hu':u∈Fl.adds f.params (c.xB m f.body++c.nO m f.result):=hu;rcases Fl.sw.1 hu' with h'|h';·exact hpar u h'
 ·rcases bV.1 h' with h'|h';·exact bH (Wo h.st h') bP
  ·exact bH (Wn h.ex h') bP
section
variable {α : Type} {At : World → List Value → α → Prop} {w : World} {ops : Array Oper} {rest : List Oper} {o : Oper} {a : Act} {Q : Exit → Act → World → Prop}
theorem mq(hgd:o.guard=none)(s x:Operand)(t e k bytes:Nat)(z:Value)(ho:o.op=.call { callee:=.builtin .append,args:=#[s,x],argTypes:=#[t,t] })(ht:prog.underlying t=some (.slice e))(hinfo:(prog.info? e).map (λi=>(i.zero,i.size,i.bytes))=some (some z,k,bytes))(hzs:z.cells.size=k)(hk:0<k)(hby:bytes<=1024)(n:Nat)(v:Value)(l:List α)(hs:a.eval s=v)(hown:d9 At w n e k v l)(B:Nat)(c:List Value)(y:α)(hx:a.eval x=Y (some (X B 0)) 1 1)(hc:∀(j:Nat) u,c[j]?=some u->w.cell? (X B j)=some u)(hck:c.length=k)(h1:∀u∈c,u.oneCell'=true)(hy:At w c y)(hl:l.length<=16777216)(hbase:n<=w.heap.size)(hat:∀w' c y,w.grownBy w' v.ownBlock->At w c y->At w' c y)(h:∀g cap w',d9 At w' n e k (Y (some (X g 0)) (l.length+1) cap) (l++[y])->w.grownBy w' v.ownBlock->wpList prog ops Q rest (a.put o.dst (Y (some (X g 0)) (l.length+1) cap)) w'):wpList prog ops Q (o::rest) a w:=by
 obtain⟨iS,BN,hz0,hz1,hz2⟩:=info_parts hinfo;obtain⟨cs,hr,k1,k2,k3⟩:=hown;refine wpList_append_lies w hgd s x t ho n e iS z k bytes ht BN hz0 hz1 hz2 hzs hk v l.length cs.flatten hs hr (X B 0) 1 1 c hx (by rw[hck,vJ]) (λj u hu=>by rw[Addr.add_lit,eu];exact hc j u hu) h1 bP (by unfold maxLen;omega) (bH (Az (show l.length+1<=16777217 by omega) hby) bP) hbase w.heap.size rfl ?_;intro g cap w' h1' h2 h3 _;refine h g cap w' ⟨cs++[c],by rw[aW,Fj];simpa using h1',by simp[k1],λd hd=>?_,λi d z hd hz=>?_⟩ h2
 ·rcases bV.1 hd with hd|hd;·exact k2 d hd
  ·rw[dG]at hd;subst hd;exact hck
 ·by_cases hi:i<l.length;·rw[qJ aV]at hd;rw[qJ hi]at hz;exact hat w' d z h2 (k3 i d z hd hz)
  ·have hi':i=l.length:=by have:=(dz.1 hz).1;rw[aW,iT]at this;omega
   subst hi';rw[pR aV,k1,mZ]at hd;rw[pR (bF _),mZ]at hz;simp at hd hz;subst hd hz;exact hat w' _ _ h2 hy
end
def mD(t:TypeId)(w w':World):Prop:=∀(j:Nat) (cs:Array Value) (u:TypeId),w.heap[j]?=some (.cells cs u (0,0))->u≠t->w'.heap[j]?=some (.cells cs u (0,0))
section
variable {w w' : World} {t : TypeId}
theorem mD.grown{r:Option Nat}(hg:w.grownBy w' r)(hr:∀k,r=some k->∃cur,w.heap[k]?=some (.cells cur t (0,0))):mD t w w':=λj cs u hj hu=>by
 rw[hg.block j (bE hj) (λe'=>?_)];·exact hj
 ·obtain⟨cur,h1⟩:=hr j e'.symm;rw[hj]at h1;simp at h1;exact hu h1.2
theorem mD.below(hb:bG w w'):mD t w w':=λ_ _ _ hj _=>aU hj hb
theorem og.st{B:Nat}{v:Value}{l:List aZ}(h:og w B v l)(hs:mD t w w')(ht:9≠t):og w' B v l:=by
 rcases h with h|⟨g,cap,e,hB,cur,hc,r1⟩;·exact aR h
 ·exact aT ⟨g,cap,e,hB,cur,hs g _ _ hc ht,r1⟩
theorem cK.st{v:Value}{l:List Int}(h:cK w v l)(hs:mD t w w')(ht:3≠t):cK w' v l:=by
 rcases h with h|⟨g,cap,e,hl,cur,hc,r⟩;·exact aR h
 ·exact aT ⟨g,cap,e,hl,cur,hs g _ _ hc ht,r⟩
end
def EU(w:World)(c:List Value)(y:Sc):Prop:=∃vb ve,c=[.string y.fn,.int .i64 y.mask,.int .i64 y.level,vb,.int .i64 y.pc,ve]/\cK w vb y.bounds/\og w 0 ve y.gU
theorem EU.st(h:EU w c y)(hs:mD t w w')(h1:9≠t)(h2:3≠t):EU w' c y:=by obtain⟨vb,ve,e,k1,k2⟩:=h;exact⟨vb,ve,e,k1.st hs h2,k2.st hs h1⟩
theorem EU.below(h:EU w c y)(hb:bG w w'):EU w' c y:=h.st (t:=35) (mD.below hb) bP bP
theorem xu.st(h:xu w n dZ vc vs vf ve P)(hs:mD 35 w w'):xu w' n dZ vc vs vf ve P:=
 ⟨h.names.keep λ_ _ _ hj=>hs _ _ _ hj bP,h.cons.keep (λ_ _ _ hj=>hs _ _ _ hj bP) λc y hc=>hc.mono λv l hi=>hi.st hs bP,h.sinks.keep (λ_ _ _ hj=>hs _ _ _ hj bP) λc y hc=>hc.mono λv l hi=>hi.st hs bP,h.fr.st hs bP,h.gU.st hs bP⟩
theorem xu.Kk(h:xu w n dZ vc vs vf ve P)(hb:bG w w'):xu w' n dZ vc vs vf ve P:=h.st (mD.below hb)
theorem lZ.grown0{l:List (Int × Int)}{r:Option Nat}(h:lZ w v l)(hv:La0 v)(hg:w.grownBy w' r)(hr:∀k,r=some k->∃s,w.cell? (X k 0)=some (A s)):lZ w' v l:=by
 obtain⟨a,b,off,cap,e,h0,hl,h1⟩:=h;refine⟨a,b,off,cap,e,h0,hl,λi x hx=>?_⟩;have hpos:0<l.length:=by have:=(dz.1 hx).1;omega
 obtain⟨b',hb'⟩:=hv (X b off) _ _ (by rw[e,h0 hpos]);injection hb' with hb1 hb2;subst hb2;obtain⟨k0,k1⟩:=h1 i x hx;have hlt:b<w.heap.size:=eZ _ _ k0;have hne:some b≠r:=λer=>by obtain⟨s,hs⟩:=hr b er.symm;have h2:=(h1 0 _ (bg hpos)).1;rw[Nat.zero_mul,hs]at h2;simp at h2
 have hk:=hg.block b hlt hne;exact⟨(jL hk).trans k0,(jL hk).trans k1⟩
theorem Kl{l:List Sc}(h:d9 EU w n 35 6 v l)(hl:l.length<=9223372036854775807)(hz:∀y∈l,∀u∈y.gU,u.size<=maxLen)(he:∀y∈l,y.gU.length<=1048576):sF w v l:=by
 cases l with
 | nil =>obtain⟨a,c,e⟩:=h.form;exact⟨a,0,0,c,e,λh0=>aN h0 cZ,hl,λi y hy=>aN hy cZ⟩
 | cons y0 r =>obtain⟨g,cap,e,_⟩:=h.get (i:=0) (y:=y0) rfl;refine⟨_,g,0,cap,e,λ_=>rfl,hl,λi y hy=>?_⟩;obtain⟨g',cap',e',c,_,hcl,vb,ve,hc,hb,hf⟩:=h.get hy;rw[e]at e';injection e' with e1 e2 e3;injection e1 with e1;injection e1 with e1;subst e1;have q:=λj hj=>hcl j hj;rw[hc]at q;have hm:=dN hy;rw[eu];exact⟨vb,ve,q 0 bP,q 1 bP,q 2 bP,q 3 bP,q 4 bP,q 5 bP,hb.ints,hf.strs (hz y hm) (by have:=he y hm;omega)⟩
theorem ownSc_str{l:List Sc}(h:d9 EU w n 35 6 v l)(h0:l=[]->v=J):∀k,v.ownBlock=some k->∃s,w.cell? (X k 0)=some (A s):=by
 intro k hk;cases l with
 | nil=>rw[h0 rfl]at hk;cases hk
 | cons y r =>obtain⟨g,cap,e,c,_,hc,vb,ve,he,_⟩:=h.get (i:=0) (y:=y) rfl;rw[e]at hk;injection hk with hk;subst hk;have h1:=hc 0 bP;rw[he]at h1;exact⟨y.fn,h1⟩
def Ck.un(f:Fu):Sc:=⟨f.name,0,0,List.replicate f.params.length 0,0,[]⟩
theorem infoSc:(prog.info? 35).map (λi=>(i.zero,i.size,i.bytes))=some (some (.agg #[A ⟨#[]⟩,O 0,O 0,J,O 0,J]),6,88):=by kernel_rfl
theorem qo.RP{l:List Int}(h:qo w B l)(hl:l.length<=9223372036854775807):cK w (Y (some (X B 0)) l.length l.length) l:=
 aT ⟨B,_,rfl,hl,_,h,by simp,λi d hd=>by simp[hd]⟩
namespace Ck
def imp(l:List Mo)(a b:ByteArray):Prop:=∃i x,aO.dw l a=some i/\l[i]?=some x/\b∈x.imports/\(aO.dw l b).isSome=true
inductive qG (l:List Mo) (a:ByteArray):ByteArray->Prop
 | one {b:ByteArray} (h:imp l a b):qG l a b
 | more {b c:ByteArray} (h:qG l a b) (k:imp l b c):qG l a c
def RcOk(l:List Mo)(name:ByteArray)(R:List ByteArray):Prop:=R.Pairwise ltS/\∀b,b∈R↔qG l name b
theorem gD(h:aO.dw l s=some i):∃x,l[i]?=some x/\x.name=s:=by
 unfold aO.dw at h;have h1:=Qp h;cases hx:l[i]? with
 | none=>rw[hx]at h1;cases h1
 | some x =>rw[hx]at h1;exact⟨x,rfl,eO.1 h1⟩
theorem vV(h:aO.dw l s=some i):i<l.length:=by obtain⟨x,hx,_⟩:=gD h;exact(dz.1 hx).1
theorem moAt_inj{t:aZ}(h:aO.dw l s=some i)(h':aO.dw l t=some i):s=t:=by obtain⟨x,hx,e⟩:=gD h;obtain⟨y,hy,e'⟩:=gD h';rw[hx]at hy;cases hy;rw[<-e,e']
theorem Wq(h:qG l a b):(aO.dw l b).isSome=true:=by
 cases h with
 | one h=>obtain⟨_,_,_,_,_,h⟩:=h;exact h
 | more _ h=>obtain⟨_,_,_,_,_,h⟩:=h;exact h
theorem rch_src(h:qG l a b):(aO.dw l a).isSome=true:=by
 induction h with
 | one h=>obtain⟨i,_,h,_⟩:=h;rw[h];rfl
 | more _ _ ih=>exact ih
def Full(l:List Mo)(out:List ByteArray)(i j:Nat):Prop:=∀x,l[i]?=some x->∀b∈x.imports.take j,(aO.dw l b).isSome=true->b∈out
structure RI(l:List Mo)(name:ByteArray)(out:List ByteArray)(td:List Nat)(cu:Option (Nat × Nat)):Prop where
 rch:∀b∈out,qG l name b
 nd:out.Nodup
 tdo:∀t∈td,∃nm,aO.dw l nm=some t/\(nm=name\/nm∈out)
 cur:∀c j,cu=some (c,j)->∃nm,aO.dw l nm=some c/\(nm=name\/nm∈out)
 clo:∀nm i,(nm=name\/nm∈out)->aO.dw l nm=some i->i∈td\/(∀x,l[i]?=some x->Full l out i x.imports.length)\/∃j,cu=some (i,j)/\Full l out i j
def Tn(l:List Mo)(out:List ByteArray)(rb:Nat->Bool):Prop:=∀i,rb i=true↔∃b∈out,aO.dw l b=some i
section
variable {l : List Mo} {name : ByteArray} {out : List ByteArray} {td : List Nat}
theorem RI.start{i:Nat}(h:aO.dw l name=some i):RI l name [] [i] none where
 rch:=λb hb=>by cases hb
 nd:=List.nodup_nil
 tdo:=λt ht=>by rw[dG]at ht;subst ht;exact⟨name,h,aR rfl⟩
 cur:=λc j h=>by cases h
 clo:=λnm k h1 h2=>by
  rcases h1 with rfl|h1
  ·rw[h]at h2;cases h2;exact aR (dG.2 rfl)
  ·cases h1
theorem RI.len{cu:Option (Nat × Nat)}(h:RI l name out td cu):out.length<=l.length:=by
 have h1:=EL (r:=l.map (·.name)) h.nd λb hb=>by obtain⟨i,hi⟩:=xM.1 (Wq (h.rch b hb));obtain⟨x,hx,e⟩:=gD hi;exact jU.2 ⟨x,dN hx,e⟩
 rwa[dR]at h1
theorem RI.pop{c:Nat}(h:RI l name out (td++[c]) none):RI l name out td (some (c,0)) where
 rch:=h.rch
 nd:=h.nd
 tdo:=λt ht=>h.tdo t (bV.2 (aR ht))
 cur:=λc' j e=>by cases e;exact h.tdo c (bV.2 (aT (dG.2 rfl)))
 clo:=λnm i h1 h2=>by
  rcases h.clo nm i h1 h2 with h3|h3|⟨j,h3,_⟩
  ·rcases bV.1 h3 with h3|h3
   ·exact aR h3
   ·rw[dG]at h3
    subst h3
    exact aT (aT ⟨0,rfl,λx _ b hb=>by simp at hb⟩)
  ·exact aT (aR h3)
  ·cases h3
theorem RI.skip{c j:Nat}{x:Mo}{b:aZ}(h:RI l name out td (some (c,j)))(hx:l[c]?=some x)(hb:x.imports[j]?=some b)(hin:(aO.dw l b).isSome=true->b∈out):RI l name out td (some (c,j+1)) where
 rch:=h.rch
 nd:=h.nd
 tdo:=h.tdo
 cur:=λc' j' e=>by cases e;exact h.cur c j rfl
 clo:=λnm i h1 h2=>by
  rcases h.clo nm i h1 h2 with h3|h3|⟨j',h3,h4⟩
  ·exact aR h3
  ·exact aT (aR h3)
  ·cases h3
   refine aT (aT ⟨j+1,rfl,λy hy b' hb' hs=>?_⟩)
   rw[hx]at hy
   cases hy
   rw[gH,hb,lM]at hb'
   rcases bV.1 hb' with hb'|hb'
   ·exact h4 x hx b' hb' hs
   ·rw[dG]at hb'
    subst hb'
    exact hin hs
theorem RI.push{c j i:Nat}{x:Mo}{b:aZ}(h:RI l name out td (some (c,j)))(hx:l[c]?=some x)(hb:x.imports[j]?=some b)(hi:aO.dw l b=some i)(hn:b∉out):RI l name (out++[b]) (td++[i]) (some (c,j+1)):=by
 obtain⟨nc,hc1,hc2⟩:=h.cur c j rfl;have himp:imp l nc b:=⟨c,x,hc1,hx,dN hb,by rw[hi];rfl⟩;have hrb:qG l name b:=by
  rcases hc2 with rfl|hc2;·exact qG.one himp
  ·exact qG.more (h.rch nc hc2) himp
 have up:∀nm,(nm=name\/nm∈out)->(nm=name\/nm∈out++[b]):=λnm h=>h.imp id λh=>bV.2 (aR h);have fup:∀k j,Full l out k j->Full l (out++[b]) k j:=λk j h y hy b' hb' hs=>bV.2 (aR (h y hy b' hb' hs));refine⟨λb' hb'=>?_,?_,λt ht=>?_,λc' j' e=>?_,λnm k h1 h2=>?_⟩
 ·rcases bV.1 hb' with hb'|hb';·exact h.rch b' hb'
  ·rw[dG]at hb';subst hb';exact hrb
 ·rw[List.nodup_append];refine⟨h.nd,List.nodup_cons.2 ⟨by simp,List.nodup_nil⟩,λa ha b' hb' e=>?_⟩;rw[dG]at hb';subst hb' e;exact hn ha
 ·rcases bV.1 ht with ht|ht;·obtain⟨nm,q1,q2⟩:=h.tdo t ht;exact⟨nm,q1,up nm q2⟩
  ·rw[dG]at ht;subst ht;exact⟨b,hi,aT (bV.2 (aT (dG.2 rfl)))⟩
 ·cases e;exact⟨nc,hc1,up nc hc2⟩
 ·by_cases hnb:nm=b;·subst hnb;rw[hi]at h2;cases h2;exact aR (bV.2 (aT (dG.2 rfl)))
  ·have h1':nm=name\/nm∈out:=by
    rcases h1 with h1|h1;·exact aR h1
    ·rcases bV.1 h1 with h1|h1;·exact aT h1
     ·exact aN (dG.1 h1) hnb
   rcases h.clo nm k h1' h2 with h3|h3|⟨j',h3,h4⟩;·exact aR (bV.2 (aR h3))
   ·exact aT (aR λy hy=>fup _ _ (h3 y hy))
   ·cases h3;refine aT (aT ⟨j+1,rfl,λy hy b' hb' hs=>?_⟩);rw[hx]at hy;cases hy;rw[gH,hb,lM]at hb';rcases bV.1 hb' with hb'|hb';·exact fup _ _ h4 x hx b' hb' hs
    ·exact bV.2 (aT hb')
theorem RI.done{c:Nat}{x:Mo}(h:RI l name out td (some (c,x.imports.length)))(hx:l[c]?=some x):RI l name out td none where
 rch:=h.rch
 nd:=h.nd
 tdo:=h.tdo
 cur:=λ_ _ e=>by cases e
 clo:=λnm i h1 h2=>by
  rcases h.clo nm i h1 h2 with h3|h3|⟨j,h3,h4⟩
  ·exact aR h3
  ·exact aT (aR h3)
  ·cases h3
   exact aT (aR λy hy=>by rw[hx]at hy;cases hy;exact h4)
theorem RI.all(h:RI l name out [] none):∀b,b∈out↔qG l name b:=by
 intro b;refine⟨h.rch b,λhb=>?_⟩;have key:∀nm c,(nm=name\/nm∈out)->imp l nm c->c∈out:=λnm c h1 ⟨i,x,k1,k2,k3,k4⟩=>by
  rcases h.clo nm i h1 k1 with h3|h3|⟨j,h3,_⟩;·cases h3
  ·exact h3 x k2 x k2 c (by rw[iL];exact k3) k4
  ·cases h3
 induction hb with
 | one hi=>exact key name _ (aR rfl) hi
 | more _ hi ih=>exact key _ _ (aT ih) hi
theorem Tn.old{rb:Nat->Bool}(h:Tn l out rb){b:aZ}{i:Nat}(hi:aO.dw l b=some i)(hr:rb i=true):b∈out:=by obtain⟨b',hb',e⟩:=(h i).1 hr;rw[moAt_inj hi e];exact hb'
theorem Tn.new{rb:Nat->Bool}(h:Tn l out rb){b:aZ}{i:Nat}(hi:aO.dw l b=some i)(hr:rb i=false):b∉out:=λhb=>by rw[(h i).2 ⟨b,hb,hi⟩]at hr;cases hr
theorem Tn.put{rb:Nat->Bool}(h:Tn l out rb){b:aZ}{i:Nat}(hi:aO.dw l b=some i):Tn l (out++[b]) (λk=>if k=i then true else rb k):=λk=>by
 by_cases hk:k=i;·subst hk;simp only[if_true,true_iff];exact⟨b,bV.2 (aT (dG.2 rfl)),hi⟩
 ·simp only[aJ hk];rw[h k];constructor;·rintro⟨b',h1,h2⟩;exact⟨b',bV.2 (aR h1),h2⟩
  ·rintro⟨b',h1,h2⟩;rcases bV.1 h1 with h1|h1;·exact⟨b',h1,h2⟩
   ·rw[dG]at h1;subst h1;rw[hi]at h2;cases h2;exact aN rfl hk
theorem RI.size{m:Nat}{w:World}{v:Value}{cu:Option (Nat × Nat)}(h:RI l name out td cu)(hm:nC w m v l):∀b∈out,b.size<=maxLen:=λb hb=>by obtain⟨i,hi⟩:=xM.1 (Wq (h.rch b hb));obtain⟨x,hx,e⟩:=gD hi;obtain⟨_,_,_,_,_,_,_,hel⟩:=hm;obtain⟨_,_,_,_,_,_,_,hmo⟩:=hel i x hx;rw[<-e];exact Pf hmo
end
end Ck
def BK(w:World)(B n:Nat)(rb:Nat->Bool):Prop:=w.heap[B]?=some (.cells ((List.range n).map λi=>Value.bool (rb i)).toArray 4 (0,0))
theorem BK.cell(h:BK w B n rb)(hi:i<n):w.cell? (X B i)=some (.bool (rb i)):=by rw[aj h];simp[hi]
theorem BK.put(h:BK w B n rb)(i:Nat):BK (w.setCell (X B i) (.bool true)) B n (λk=>if k=i then true else rb k):=by
 unfold BK;rw[aP h i (.bool true)];congr 2;apply Array.ext;·simp
 ·intro k h1 h2;by_cases hk:i=k;·subst hk;simp
  ·simp[hk];exact λe=>aN e.symm hk
theorem infoBo:(prog.info? 4).map (λi=>(i.zero,i.size,i.bytes))=some (some (.bool false),1,1):=by kernel_rfl
theorem make_bos(n:Nat)(hn:n<=1048576)(w:World):(Instr.makeSlice 49 (O (n:Int)) (O (n:Int))).run prog w=.ok (Y (some (X w.heap.size 0)) n n) (w.alloc (.cells (madeCells #[.bool false] n) 4)):=by obtain⟨i,hi,hzz⟩:=xJ.1 infoBo;simp only[qC]at hzz;obtain⟨hz,hs,hb⟩:=hzz;have hr:=run_make (P:=prog) w 49 4 i _ underlying49 hi hz .i64 .i64 n n aV (Int.le_refl _) (by rw[hb];omega) aV;rw[hs,show(Value.bool false).cells=#[.bool false]from rfl]at hr;simpa using hr
theorem made_bos(n:Nat):madeCells #[Value.bool false] n=((List.range n).map λ_=>Value.bool false).toArray:=by
 apply Array.ext;·simp[madeCells]
 ·intro i h1 h2;simp[madeCells,Nat.mod_one]
theorem gB.pop{l:List Int}(h:gB w B (Y (some (X g 0)) (l.length+1) cap) (l++[x])):gB w B (Y (some (X g 0)) l.length cap) l:=by
 obtain⟨h0,h1⟩:=h;rcases h1 with⟨h1,_⟩|⟨g',cap',cur,e,hb,hh,hc,hm,hs,ht⟩;·injection h1 with h1;cases h1
 ·injection e with e1 e2 e3;injection e1 with e1;injection e1 with e1;subst e1 e3;rw[aW,iT]at hc ht;refine⟨by simp,aT ⟨g,cap,cur,rfl,hb,hh,by omega,hm,hs,?_⟩⟩;have h2:=congrArg (List.take l.length) ht;rw[List.take_take,fH,List.take_left' cZ]at h2;rw[<-h2];congr 1;omega
theorem gB.cellI{l:List Int}(h:gB w B (Y (some (X g 0)) n cap) l)(hn:n=l.length)(hx:l[i]?=some x):w.cell? (X g i)=some (O x):=by subst hn;have h1:=xG h i (by rw[Nat.mul_one];exact(dz.1 hx).1);rw[h1,pY,hx];rfl
def Tp:Value->Nat
 | .slice _ n _=>n
 | _=>0
theorem Own.Tp{l:List aZ}(h:Own w B v l):Go.Proofs.YtbgkpehhdibaoaaGreatDoor.Tp v=l.length:=by
 rcases h.2 with⟨h1,h2⟩|⟨g,cap,cur,h1,_⟩;·rw[h1,h2];rfl
 ·rw[h1];rfl
theorem gB.someI{l:List Int}(h:gB w B v l)(hn:l.length=n)(hp:0<n):∃g cap,v=Y (some (X g 0)) n cap/\n<=cap:=by
 rcases h.2 with⟨h1,h2⟩|⟨g,cap,cur,h1,_,_,h2,_⟩;·omega
 ·exact⟨g,cap,by rw[h1,hn],by omega⟩
theorem own_rowW{l:List aZ}(h:Own w B (Y (some (X g 0)) n cap) l):mJ w g l/\B<=g/\n=l.length:=by
 rcases h.2 with⟨h1,_⟩|⟨g',cap',cur,h1,hb,hh,hc,_,hs,ht⟩;·injection h1 with h1;cases h1
 ·injection h1 with e1 e2 e3;injection e1 with e1;injection e1 with e1;subst e1 e3;refine⟨⟨cur,hh,by rw[hs,Nat.mul_one];exact hc,λi d hd=>?_⟩,hb,e2⟩;have hi:i<l.length:=(dz.1 hd).1;have h3:=congrArg (λt=>t[i]?) ht;simp only[pY,hd,Nat.mul_one]at h3;rw[rZ hi]at h3;rw[<-Array.getElem?_toList];exact h3
theorem M9(w:World)(c:Nat):Strs w (Y none 0 c) []:=⟨none,0,0,c,rfl,λh=>aN h cZ,by simp,λu hu=>aN hu cZ,λi hi=>aN hi cZ⟩
theorem EW(l:List Nat)(x:Nat):((l++[x]).map λn:Nat=>(n:Int))=(l.map λn:Nat=>(n:Int))++[(x:Int)]:=by simp
theorem Yx(h:w.ownsRow base e k v n xs):∀j,v.ownBlock=some j->∃cur,w.heap[j]?=some (.cells cur e (0,0)):=by
 intro j hj;rcases h.2 with⟨h1,_⟩|⟨g,cap,cur,h1,_,hh,_⟩;·rw[h1]at hj;cases hj
 ·rw[h1]at hj;injection hj with hj;subst hj;exact⟨cur,hh⟩
theorem BK.st(h:BK w B n rb)(hs:mD t w w')(ht:4≠t):BK w' B n rb:=hs _ _ _ h ht
structure Ws(w1 wr:World)(nk:Nat)(l:List Mo)(name:ByteArray)(o:Value)(out:List ByteArray)(td:List Nat)(tg tc:Nat)(cu:Option (Nat × Nat)):Prop where
 ri:RI l name out td cu
 len:td.length<=out.length+1
 own:Own wr w1.heap.size o out
 owi:gB wr w1.heap.size (.slice (some ⟨tg,0,none⟩) td.length tc) (td.map λn:Nat=>(n:Int))
 rb:∃rb,BK wr w1.heap.size nk rb/\Tn l out rb
 Qo:Below w1.heap.size w1 wr
theorem Ws.below{out:List aZ}{td:List Nat}{cu:Option (Nat × Nat)}(h:Ws w1 wr nk l name o out td tg tc cu)(hb:bG wr w'):Ws w1 w' nk l name o out td tg tc cu:=
 ⟨h.ri,h.len,fC h.own hb,fC h.owi hb,by obtain⟨rb,h1,h2⟩:=h.rb;exact⟨rb,aU h1 hb,h2⟩,up h.Qo hb⟩
theorem Na(m:Nat)(w:World)(v:Value)(l:List Mo)(name:ByteArray)(h:nC w m v l)(hl:l.length<=1048575)(hn:name.size<=maxLen)(hsm:∀x∈l,qx m x<=1048576):Calls prog 20 #[v,A name] w λe w'=>∃u,e=cO u/\Hid (∃R,RcOk l name R/\Strs w' u R/\bG w w'):=by
 obtain⟨HMS,U7,MV⟩:=fq h hsm (BA m w v l h aV);obtain⟨a,b,off,cap,rfl,h0,-,hel⟩:=h;obtain⟨H0,kg⟩:=bT h0 hel;obtain⟨nk,hnk⟩:=bC l.length;have KH:=I hnk;rw[<-hnk]at hl H0 MV ⊢;clear h0 hel hnk hsm;go_enter func20,ntmps20;go_wp2_with fail;refine MV.mono ?_;rintro e w1 ⟨b1,rfl,Jq⟩;obtain⟨hm1,-,hb1⟩:=Jq.out;obtain⟨Qm,HB1⟩:=bT hm1 hb1;have LK:=hm1.caM.uh underlying95 Cu hn;clear Jq hm1 hb1 hn;cases hmo:aO.dw l name with
 | none=>
  have e1:Ck.fi l name=none:=by unfold Ck.fi;rw[hmo];rfl
  rw[e1]at LK;simp only[nG,oP]at LK;have HMO:=I hmo;clear hmo e1;go_wp2_with fail;go_ret;exact⟨_,rfl,I ⟨[],⟨List.Pairwise.nil,λb=>⟨λh=>(by cases h),λh=>(by have h1:=rch_src h;rw[HMO]at h1;cases h1)⟩⟩,M9 _ _,HB1⟩⟩
 | some i0=>
  have e1:Ck.fi l name=some (O (i0:Nat)):=by unfold Ck.fi;rw[hmo];rfl
  rw[e1]at LK;simp only[iK,oO]at LK;have HMO:=I hmo;have MK:=make_bos nk aV;obtain⟨W,hW,k0,k1,hsz,hBW⟩:=wG w1 (.cells (madeCells #[.bool false] nk) 4) (aY #[O (i0:Nat)] 3);rw[made_bos]at k0;have HRT:Hid (BK W w1.heap.size nk (λ_=>false)):=I k0;have HTI:Hid (gB W w1.heap.size (Y (some (X (w1.heap.size+1) 0)) 1 1) [(i0:Int)]):=I ⟨by simp,aT ⟨w1.heap.size+1,1,_,rfl,dJ _,k1,by simp,by unfold maxLen;omega,rfl,rfl⟩⟩;have iN:=I hBW;clear hmo e1 k0 k1 hsz hBW;go_wp2_with fail;rw[<-hW];clear hW MK LK;go_loopw[8,10] (λo t wr=>∃(ov:Value) (out:List ByteArray) (td:List Nat) (tg tc:Nat),ov=o/\t=Y (some (X tg 0)) td.length tc/\td.length<=tc/\Hid (Ws w1 wr nk l name ov out td tg tc none)) (λo t _=>Tp t+2*(nk - Tp o));case atStart=>exact⟨_,[],[i0],_,1,rfl,rfl,bF _,I ⟨RI.start HMO,bF _,kS _ _ _ _,HTI,⟨λ_=>false,HRT,λi=>by simp⟩,iN⟩⟩
  case round=>
   obtain⟨o,out,td,tg,tc,rfl,rfl,htc,HR⟩:=hrel;have BQ:=I (up HB1 HR.Qo);have HOL:Hid (out.length<=nk):=I (by rw[KH];exact HR.ri.len);have HLO:Hid (Tp o=out.length):=I HR.out.own.Tp;by_cases htd:td=[]
   ·subst htd;rcases Own.shape HR.own with⟨rfl,hz⟩|⟨g,cp,rfl,hc,hg⟩;·subst hz;have dU:=I HR.out.ri.all;simp only[F5]at *;go_wp2_with fail;refine(JO _ _ _).mono ?_;rintro e w9 ⟨rfl,hw9⟩;subst hw9;go_wp2_with fail;go_ret;exact⟨_,rfl,I ⟨[],⟨List.Pairwise.nil,dU⟩,M9 _ _,BQ⟩⟩
    ·obtain⟨hrow,hgb,-⟩:=own_rowW HR.own;obtain⟨HSO,HZ,HGB⟩:=fq (JY wr g out.length cp out hrow rfl (by have:=HOL.out;omega)) (HR.ri.size HMS) hgb;obtain⟨no,hno⟩:=bC out.length;have HNO:=I hno;rw[<-hno]at HSO ⊢;simp only[F5]at *;clear hrow hgb hno hc hg;go_wp2_with fail;refine HSO.mono ?_;rintro e w9 ⟨rfl,hrow,hbut⟩;obtain⟨wD,aae⟩:=bT hrow hbut;clear hrow hbut;go_wp2_with fail;go_ret;refine⟨_,rfl,I ⟨oL out,⟨(Dp out).and ((MR out).nodup_iff.2 HR.ri.nd),λb=>(yg _ _).trans (HR.ri.all b)⟩,?_,?_⟩⟩
     ·have hlen:(oL out).length=no:=by rw[(MR out).length_eq,HNO]
      have h1:og w9 0 (Y (some (X g 0)) (oL out).length cp) (oL out):=aT ⟨g,cp,rfl,bI _,wD⟩;rw[hlen]at h1;exact h1.strs (λu hu=>HZ u ((yg _ _).1 hu)) (by rw[hlen];have:=HOL.out;have:=HNO.out;omega)
     ·exact BQ.trans (aae.below (bH HB1.out.size HGB) BQ.size)
   ·obtain⟨td0,c,rfl⟩:∃a b,td=a++[b]:=⟨td.dropLast,td.getLast htd,(List.dropLast_concat_getLast htd).symm⟩;obtain⟨n1,hn1⟩:=bC ((td0++[c]).length);obtain⟨n0,hn0⟩:=bC td0.length;have h10:n1=n0+1:=by rw[hn1,hn0,aW];rfl
    have HPOP:Hid (gB wr w1.heap.size (Y (some (X tg 0)) n0 tc) (td0.map λn:Nat=>(n:Int))):=I (by have h1:=HR.owi;rw[EW,aW,iT]at h1;have h2:=gB.pop (l:=td0.map λn:Nat=>(n:Int)) (by rw[dR];exact h1);rw[dR]at h2;rw[hn0];exact h2);have tcell:wr.cell? (X tg n0)=some (O (c:Nat)):=HR.owi.cellI cZ (by rw[EW,pR (by rw[dR,<-hn0];exact bF _),dR,<-hn0,mZ];rfl);have HRI:=I HR.out.ri.pop;obtain⟨nmc,hmc,hmc'⟩:=HR.ri.tdo c (bV.2 (aT (dG.2 rfl)));have HMC:=I hmc;have hclt:c<nk:=by rw[KH];exact Ck.vV hmc
    obtain⟨y,hy,hyn⟩:=gD hmc;have HY:=I hy;obtain⟨yi,yv,yf,g0,g1,g2,g3,KI⟩:=kg c y hy;obtain rfl:=H0 aV;obtain⟨hyI,hyV,hyF⟩:=KI.split;have HIL:Hid (y.imports.length<=1048576):=I (by have a1:=yO y.imports;have hw:=U7 y (dN hy);unfold qx at hw;omega);obtain⟨ia,ib,io,ic,rfl,hia,-,hiz,hic⟩:=hyI;obtain⟨a2,b2,o2,c2,rfl,-⟩:=hyV;obtain⟨a3,b3,o3,c3,rfl,-⟩:=hyF;obtain⟨HIA,HIZ,HIC⟩:=fq hia hiz hic;obtain⟨ni,hni⟩:=bC y.imports.length;have DR:=I hni;rw[<-hni]at g1 HIA HIC HIL;generalize y.vars.length=n2 at *;generalize y.bq.length=n3 at *;replace g0:=aC g0 BQ;replace g1:=aC g1 BQ;replace g2:=aC g2 BQ;replace g3:=aC g3 BQ;have hc0:(0:Int)<=(c:Int):=by omega
    have hc1:(c:Int)<(nk:Int):=by omega
    have hsub:wrap64 ((n1:Int) - 1)=(n0:Int):=by
     have h1:((n1:Int) - 1)=(n0:Int):=by omega
     obtain⟨h2,h3⟩:=eD HR.len HOL.out;rw[<-hn1]at h2;rw[h1];unfold wrap64;omega
    rw[<-hn1]at htc ⊢;have hpos:(n1:Int) > 0:=by omega
    have hlt1:(n0:Int)<(n1:Int):=by omega
    have hn0c:n0<=tc:=by omega
    have hz0:(0:Int)<=(n0:Int):=by omega
    have jR:Hid (n0<=out.length):=I (by have h2:=HR.len;rw[<-hn1]at h2;omega);obtain⟨GJ,H10,HHTC⟩:=fq hn0 h10 hn0c;clear hy hyn KI hia hiz hic hni hmc hmc' htd hn0 h10 hn1;go_upto_region 11 with fail;obtain⟨oD,HKB⟩:=sS wr (aY #[A y.name,Y ia ni ic,Y a2 n2 c2,Y a3 n3 c3] 58);have HRI5:Hid (Ws w1 (wr.alloc (aY #[A y.name,Y ia ni ic,Y a2 n2 c2,Y a3 n3 c3] 58)) nk l name o out td0 tg tc (some (c,0))):=I (Ws.below ⟨HRI,by have:=jR.out;have:=GJ.out;omega,HR.own,by rw[<-GJ];exact HPOP,HR.rb,HR.Qo⟩ oD);generalize wr.alloc (aY #[A y.name,Y ia ni ic,Y a2 n2 c2,Y a3 n3 c3] 58)=W5 at *;generalize wr.heap.size=MK at *;obtain⟨-,q1⟩:=jm HKB;clear g0 g1 g2 g3 tcell hsub hpos hlt1 hz0 hc0 hc1 htc hn0c;go_wp2_with fail;clear q1;rw[GJ];go_loopw[8,10,51] (λo t i wx=>∃(ov:Value) (j d:Nat) (GK:List ByteArray) (Ui:List Nat) (tg2 tc2:Nat),ov=o/\j<=ni/\i=O j/\t=Y (some (X tg2 0)) Ui.length tc2/\Ui.length<=tc2/\Hid (Ws w1 wx nk l name ov GK Ui tg2 tc2 (some (c,j))/\GK.length=out.length+d/\Ui.length=n0+d)) (λ_ _ i _=>ni - (intOf i).toNat);case atStart=>exact⟨_,0,0,out,td0,tg,tc,rfl,bI _,rfl,rfl,by rw[<-GJ];exact HHTC,I ⟨HRI5,rfl,GJ.symm⟩⟩
    case round=>
     obtain⟨o2,j,d,GK,Ui,tg2,tc2,rfl,hj,rfl,rfl,htc2,HR2⟩:=hrel;have BQ:=I (up HB1 HR2.1.Qo);have hnib:=HIL.out;have HOL2:Hid (GK.length<=nk):=I (by rw[KH];exact HR2.1.ri.len);by_cases hjl:j<ni
     ·obtain⟨bi,hbi⟩:∃y',y.imports[j]?=some y':=⟨_,bg (by rw[<-DR];exact hjl)⟩;have HBI:=I hbi;have g:=aC (HIC j hjl) BQ;rw[List.getD,hbi,iK]at g;obtain rfl:=HIA aV;have HBZ:=I (HIZ bi (dN hbi));have LK:=((Qm.below HR2.1.Qo).caM).uh underlying95 Cu HBZ;clear hbi;cases hmb:aO.dw l bi with
      | none=>
       have e1:Ck.fi l bi=none:=by unfold Ck.fi;rw[hmb];rfl
       rw[e1]at LK;simp only[nG,oP]at LK;have Vn:=I (HR2.1.ri.skip HY HBI (λh=>by rw[hmb]at h;cases h));clear hmb e1;go_wp2_with fail;go_roundw;case rel=>exact⟨_,j+1,d,GK,Ui,tg2,tc2,rfl,by omega,by go_num,rfl,htc2,I ⟨⟨Vn,HR2.1.len,HR2.1.own,HR2.1.owi,HR2.1.rb,HR2.1.Qo⟩,HR2.2.1,HR2.2.2⟩⟩
       case measure=>simp[intOf];omega
      | some i=>
       have e1:Ck.fi l bi=some (O (i:Nat)):=by unfold Ck.fi;rw[hmb];rfl
       rw[e1]at LK;simp only[iK,oO]at LK;have HMB:=I hmb;have hik:i<nk:=by rw[KH];exact Ck.vV hmb
       obtain⟨rb,hrt,hrk⟩:=HR2.1.rb;obtain⟨HRTT,HRK⟩:=bT hrt hrk;have rc:=hrt.cell hik;have hi0:(0:Int)<=(i:Int):=by omega
       have hi1:(i:Int)<(nk:Int):=by omega
       clear hmb e1 hrt hrk;cases hrb:rb i
       ·rw[hrb]at rc;have HNEW:=I (HRK.new HMB hrb);obtain⟨HPU,HRP⟩:=bT (HR2.1.ri.push HY HBI HMB HNEW) (HRK.put HMB);have z0:=aG HRTT i;clear hrb;go_upto_region 17 with fail;have HRT6:=I (HRTT.put i);have vY:Hid (But w1.heap.size wr (wr.setCell (X w1.heap.size i) (.bool true))):=I ((But.refl w1.heap.size wr).set (a:=(X w1.heap.size i)) (aR rfl) (.bool true));have BO:Hid (Own (wr.setCell (X w1.heap.size i) (.bool true)) w1.heap.size o2 GK):=I (Nt (l:=GK) HR2.1.own HRTT bP vY);have HI6:Hid (gB (wr.setCell (X w1.heap.size i) (.bool true)) w1.heap.size (Y (some (X tg2 0)) Ui.length tc2) (Ui.map λn:Nat=>(n:Int))):=I (Nt (l:=Ui.map λn:Nat=>(n:Int)) HR2.1.owi HRTT bP vY);have eF:Hid (bG w1 (wr.setCell (X w1.heap.size i) (.bool true))):=I (HR2.1.Qo.setCell (p:=(X w1.heap.size i)) (bF _) _);generalize wr.setCell (X w1.heap.size i) (.bool true)=W6 at *;obtain⟨NY,HC6⟩:=bT (aH W6 (aY #[A bi] 9)) ((aj (bD W6 (aY #[A bi] 9)) 0).trans rfl);obtain⟨n2',hn2'⟩:∃n,n=Ui.length:=⟨_,rfl⟩;have BU:=I hn2';rw[<-hn2']at HI6 htc2 ⊢;clear rc z0 LK hi0 hi1 hn2'
        go_upto_region 18 with(first
         | (at_builtin;refine kL rfl _ _ rfl w1.heap.size o2 GK rfl (fC BO NY) W6.heap.size bi rfl HC6 (by have:=HOL2.out;omega) (bH eF.out.size NY.size) ?_;intro o7 w7 iY dK;have BP:=I iY;have HI7:Hid (gB w7 w1.heap.size (Y (some (X tg2 0)) n2' tc2) (Ui.map λn:Nat=>(n:Int))):=I (gB.kept HI6 BO dK);have jB:Hid (bG w1 w7):=I (Below.grown (up eF NY) dK (up eF NY).size (λk e=>(D9 BO k e).1));have HRT7:Hid (BK w7 w1.heap.size nk (λk=>if k=i then true else rb k)):=I (BK.st (aU HRT6 NY) (mD.grown dK (Yx (fC BO NY))) bP);clear iY dK)
         | fail)
        go_wp2_with (first
         | (at_builtin;have Wt:=aH w7 (aY #[O (i:Nat)] 3);refine ng rfl _ _ rfl w1.heap.size (Y (some (X tg2 0)) n2' tc2) (Ui.map λn:Nat=>(n:Int)) rfl (fC HI7 Wt) w7.heap.size (i:Int) rfl ((aj (bD w7 (aY #[O (i:Nat)] 3)) 0).trans rfl) (by rw[dR];have h3:=HR2.1.len;have:=HOL2.out;omega) (bH jB.out.size Wt.size) ?_;intro t9 w9 qN iX;have HT9:=I qN;have HO9:Hid (Own w9 w1.heap.size o7 (GK++[bi])):=I (Own.kept BP HI7 iX);have xk:Hid (bG w1 w9):=I (Below.grown (up jB Wt) iX (up jB Wt).size (λk e=>(D9 HI7 k e).1));have HRT9:Hid (BK w9 w1.heap.size nk (λk=>if k=i then true else rb k)):=I (BK.st (aU HRT7 Wt) (mD.grown iX (Yx (fC HI7 Wt))) bP);clear qN iX Wt)
         | fail)
        obtain⟨tg9,tc9,rfl,htc9⟩:=gB.someI HT9 (n:=Ui.length+1) cZ (Nat.succ_pos _);go_roundw;case rel=>exact⟨_,j+1,d+1,GK++[bi],Ui++[i],tg9,tc9,rfl,by omega,by go_num,by rw[aW];rfl,by rw[aW];exact htc9,I ⟨⟨HPU,by rw[aW,aW];have:=HR2.1.len;simp only[iT];omega,HO9,by rw[EW,aW];exact HT9,⟨_,HRT9,HRP⟩,xk⟩,by rw[aW,iT,HR2.2.1];omega,by rw[aW,iT,HR2.2.2];omega⟩⟩
        case measure=>simp[intOf];omega
       ·rw[hrb]at rc;have Vn:=I (HR2.1.ri.skip HY HBI (λ_=>HRK.old HMB hrb));clear hrb;go_wp2_with fail;go_roundw;case rel=>exact⟨_,j+1,d,GK,Ui,tg2,tc2,rfl,by omega,by go_num,rfl,htc2,I ⟨⟨Vn,HR2.1.len,HR2.1.own,HR2.1.owi,HR2.1.rb,HR2.1.Qo⟩,HR2.2.1,HR2.2.2⟩⟩
        case measure=>simp[intOf];omega
     ·obtain rfl:j=ni:=by omega
      have HDN:=I (RI.done (by rw[<-DR];exact HR2.1.ri) HY);go_wp2_with fail;go_roundw;case rel=>exact⟨_,GK,Ui,tg2,tc2,rfl,rfl,htc2,I ⟨HDN,HR2.1.len,HR2.1.own,HR2.1.owi,HR2.1.rb,HR2.1.Qo⟩⟩
      case measure =>have h1:=HR2.1.own.Tp;obtain⟨h2,h3,h4,h5⟩:=rG HLO.out HR2.2.1 HR2.2.2 HOL2.out;have h6:=H10.out;rw[h1,h2];simp only[Tp];omega
end Go.Proofs.YtbgkpehhdibaoaaGreatDoor
