/- part -/
import Derived.Test.YtbgkpehhdibaoaaGreatDoorBZBN
set_option maxHeartbeats 0
set_option maxRecDepth 99999
namespace Go.Proofs.YtbgkpehhdibaoaaGreatDoor
open Ck bN bJ Rn Sm
open Go.Proofs.Tryz
open Go.RowKit Go.Maps Go.WideMaps
namespace Sm
open Fl
structure UOk(U ss:List ByteArray)(x:Mo)(bK:List (List Sc)):Prop where
 dW:∀l∈bK,∀y∈l,∀t∈y.gY,t∈U
 var:∀v∈x.vars,deed ⟨#[114,58]⟩ x.name v.name∈U/\deed ⟨#[119,58]⟩ x.name v.name∈U
 mX:∀s∈ss,(⟨#[112,58]⟩++s:ByteArray)∈U
 len:U.length<=1048576
 size:∀t∈U,t.size<=maxLen
def TT(U:List ByteArray)(y:Sc):Prop:=(∀t∈y.gY,t∈U)/\y.gY.length<=U.length
section
variable {c : Env} {U : List ByteArray}
theorem TU(h1:∀s,∀t∈(c.dW s).gY,t∈U)(h2:∀s n,c.mX s=some n->deed ⟨#[114,58]⟩ c.md s∈U/\deed ⟨#[119,58]⟩ c.md s∈U):∀(m:Nat) (x:Ex) (t:aY),t∈c.zP m x->t∈U
 | 0,_,_,ht=>by simp[Env.zP]at ht
 | m+1,x,t,ht=>by
  simp only[Env.zP,bZ,iC]at ht;rcases ht with ht|⟨y,_,ht⟩
  ·split at ht
   ·unfold Env.Vh at ht;split at ht;·rename_i n hn;rw[dD]at ht;subst ht;exact(h2 _ _ hn).1
    ·cases ht
   ·split at ht;·exact h1 _ _ ht
    ·cases ht
  ·exact TU h1 h2 m y t ht
theorem TV(h1:∀s,∀t∈(c.dW s).gY,t∈U)(h2:∀s n,c.mX s=some n->deed ⟨#[114,58]⟩ c.md s∈U/\deed ⟨#[119,58]⟩ c.md s∈U)(h3:∀s,0<=c.pl s->(⟨#[112,58]⟩++s:aY)∈U):∀(m:Nat) (l:List St),c.wU m l->∀t∈c.Pm m l,t∈U
 | 0,_,hx,_,_=>iW hx
 | m+1,l,hx,t,ht=>by
  simp only[Env.Pm,bZ,iC]at ht;obtain⟨s,hs,ht⟩:=ht;obtain⟨_,_,_,h4,h5,h6⟩:=hx s hs;rcases ht with((ht|ht)|ht)|ht;·exact TU h1 h2 m s.e t ht
  ·unfold Env.Pk at ht;split at ht
   ·unfold Env.Vh at ht;split at ht;·rename_i n hn;rw[dD]at ht;subst ht;exact(h2 _ _ hn).2
    ·cases ht
   ·split at ht;·rename_i hk;rw[dD]at ht;subst ht;exact h3 _ (h4 hk)
    ·cases ht
  ·exact TV h1 h2 h3 m s.a h5 t ht
  ·exact TV h1 h2 h3 m s.b h6 t ht
theorem TW:∀{m:Nat} {x:Ex} {v:aY},c.wT m x->v∈c.mW m x->v.size<=17
 | 0,_,_,hx,_=>iW hx
 | m+1,x,v,hx,hv=>by
  obtain⟨h1,_,_,hr⟩:=hx;simp only[Env.mW,bZ,iC]at hv;rcases hv with hv|⟨y,hy,hv⟩
  ·split at hv
   ·unfold Env.JA at hv;split at hv;·simp at hv
    ·rw[dD]at hv;subst hv;exact h1
   ·simp at hv
  ·exact TW (hr y hy) hv
theorem TY:∀{m:Nat} {l:List St} {v:aY},c.wU m l->v∈c.vS m l->v.size<=17
 | 0,_,_,_,hv=>by simp[Env.vS]at hv
 | m+1,l,v,hl,hv=>by
  simp only[Env.vS,iC,bZ]at hv;obtain⟨s,hs,hv⟩:=hv;obtain⟨h1,h2,_,_,h5,h6⟩:=hl s hs;rcases hv with((hv|hv)|hv)|hv;·exact TW h2 hv
  ·unfold Env.Eh Env.JA at hv;split at hv
   ·split at hv;·simp at hv
    ·rw[dD]at hv;subst hv;omega
   ·simp at hv
  ·exact TY h5 hv
  ·exact TY h6 hv
end
theorem YD(l:List aY):(ji (nN l)).Nodup:=(Ik _ (BJ l)).imp λh=>h.2
theorem eff_mem{l:List aY}{t:aY}:t∈ji (nN l)↔t∈l:=by rw[Bf,wM]
section
variable {ss : List ByteArray} {G : Nat} {L : Nat → Nat} {Z : Nat → Nat → Bool} {m : Nat} {x : Mo} {known : List Mo} {bK : List (List Sc)} {own : List Sc} {U : List ByteArray}
theorem schOf_in{k:Nat}(hU:UOk U ss x bK)(ho:∀y∈own,∀t∈y.gY,t∈U)(s:aY):∀t∈(tO x k known bK own s).gY,t∈U:=by
 intro t ht;unfold tO at ht;split at ht;·simp[JK]at ht
 split at ht
 ·rw[DV]at ht;cases h:own[(iQ x k s known).2.1.toNat]? with
  | none=>rw[h]at ht;simp[JK]at ht
  | some y=>rw[h]at ht;exact ho y (eT h) t ht
 ·rw[DV,DV]at ht;cases h:bK[(iQ x k s known).1.toNat]? with
  | none=>rw[h]at ht;simp[JK]at ht
  | some l=>
   rw[h]at ht;simp only[iw]at ht;cases h':l[(iQ x k s known).2.1.toNat]? with
   | none=>rw[h']at ht;simp[JK]at ht
   | some y=>rw[h']at ht;exact hU.dW l (eT h) y (eT h') t ht
theorem levV_in{ps:List aY}{vs:List Va}{s:aY}{n:Nat}(h:sG ss ps vs s=some n):∃v∈vs,v.name=s:=by
 unfold sG at h;split at h;·cases h
 ·obtain⟨v,hv,_⟩:=vX.1 h;exact⟨v,by simpa using JQ hv,eu.1 (NZ (p:=λv:Va=>dA v.name s) hv)⟩
structure RdOk(ss:List ByteArray)(G:Nat)(L:Nat->Nat)(Z:Nat->Nat->Bool)(m:Nat)(x:Mo)(c:Env)(f:Fu):Prop where
 chk:bX ss G L Z=0
 moe:sI m x=0
 st:c.wU m f.body
 ex:c.wT m f.result
 env:c.Ok
 par:f.params.length<=4
 bg:x.bg.length<=8
 pb:TH ss.length (c.jq m f)
 nm:(c.jq m f).names.length<=40
 cn:(c.jq m f).cons.length<=1000
theorem yc(h1:sI m x=0):x.bg.length<=8/\∀f∈x.bg,f.params.length<=4:=by
 unfold sI at h1;by_cases h2:8<x.imports.length\/8<x.vars.length\/8<x.bg.length;·rw[aL h2]at h1;omega
 ·rw[aJ h2]at h1;refine⟨by omega,λf hf=>?_⟩;by_cases h3:((oK x.name&&x.imports.all oK)&&x.vars.all XB)=false;·rw[aL h3]at h1;omega
  ·rw[aJ h3]at h1;by_cases h4:uP m x.bg≠0;·rw[aL h4]at h1;exact aM h1 h4
   ·have h5:=BD (Classical.not_not.1 h4) f hf;unfold Q8 at h5;by_cases h6:4<f.params.length;·rw[aL h6]at h5;omega
    ·omega
theorem T9{E:Int}(hE:yZ E m x known=0):E=0/\sI m x=0:=by
 unfold yZ at hE;by_cases h0:E=0
 ·rw[aL h0]at hE;by_cases h1:sI m x=0;·exact⟨h0,h1⟩
  ·rw[aJ h1]at hE;exact aM hE h1
 ·rw[aJ h0]at hE;exact aM hE h0
theorem FR{k:Nat}{f:Fu}(hf:x.bg[k]?=some f)(h:TF ss G L Z m x k known bK own 40 1000=0):RdOk ss G L Z m x (gH ss Z x k known bK own f) f:=by
 have hw:Np ss G L Z m x k known bK own=0:=by
  by_cases h0:Np ss G L Z m x k known bK own=0;·exact h0
  ·unfold TF at h;rw[aL h0]at h;exact aM h h0
 have hl:Iy (gH ss Z x k known bK own f) m f 40 1000=false:=by
  unfold TF at h;rw[aJ (by simp[hw])]at h;simp only[DX,hf]at h;cases hb:Iy (gH ss Z x k known bK own f) m f 40 1000 with
  | false=>rfl
  | true=>simp[hb]at h
 obtain⟨hE,hD,kn,f',hk,hf',hfs,hfo⟩:=wiE_ok hw;have hkn:kn=k:=by omega
 subst hkn;rw[hf]at hf';cases hf';obtain⟨e1,e2⟩:=T9 hE;have hnm:=VJ hD;obtain⟨hfn,hen,hp⟩:=l9 (VN (Z:=Z) hnm e2 hf hfs hfo) (Qd e1 hnm kn bK own f) (yc e2);have hp4:=hp.2 f (eT hf);unfold Iy at hl;simp only[Bool.or_eq_false_iff,decide_eq_false_iff_not]at hl;refine⟨e1,e2,hfn.st,hfn.ex,hen,hp4,hp.1,prob_ok hen (λs=>?_) hfn.st hfn.ex hp4,?_,?_⟩
 ·rcases Qb ss s with h9|h9;·exact h9
  ·exfalso;have:=hen.low;simp only[gH,h9,Em]at this;omega
 ·have:=hl.1;simp only[Env.jq];omega
 ·rw[JL];have:=hl.2;omega
theorem RdOk.sinks{c:Env}{f:Fu}(h:RdOk ss G L Z m x c f)(hf:f∈x.bg)(hw:vF m x<=1048576):(c.jq m f).sinks.length<=2097148:=by have h0:=fun_le (m:=m) hf;obtain⟨s1,s2⟩:=eY (FQ c m f.body ([],c.low) h.st) (FP c m f.result ([],c.low) h.ex);simp only[Env.jq,dO,aT];omega
theorem xH{k:Nat}{f:Fu}(hf:x.bg[k]?=some f):inf ss Z m x known bK (k+1)=((inf ss Z m x known bK k).1++[dW Z ss.length (least Z ss.length ((gH ss Z x k known bK (inf ss Z m x known bK k).1 f).jq m f).names.length ((gH ss Z x k known bK (inf ss Z m x known bK k).1 f).jq m f).cons) ((gH ss Z x k known bK (inf ss Z m x known bK k).1 f).jq m f) f],(inf ss Z m x known bK k).2++F6 Z ss.length (least Z ss.length ((gH ss Z x k known bK (inf ss Z m x known bK k).1 f).jq m f).names.length ((gH ss Z x k known bK (inf ss Z m x known bK k).1 f).jq m f).cons) ((gH ss Z x k known bK (inf ss Z m x known bK k).1 f).jq m f) f.name):=by
 rw[inf];split;·rename_i h;rw[hf]at h;cases h
 ·rename_i g h;rw[hf]at h;cases h;rfl
theorem KT{k:Nat}(h:rA ss G L Z m x known bK (k+1)=0):rA ss G L Z m x known bK k=0/\TF ss G L Z m x k known bK (inf ss Z m x known bK k).1 40 1000=0:=by
 rw[rA]at h;by_cases h0:rA ss G L Z m x known bK k=0;·rw[aJ (by simp[h0])]at h;exact⟨h0,h⟩
 ·rw[aL h0]at h;exact aM h h0
theorem KU{k:Nat}(h0:rA ss G L Z m x known bK k≠0):∀d,rA ss G L Z m x known bK (k+d)=rA ss G L Z m x known bK k
 | 0=>rfl
 | d+1=>by have h1:=KU h0 d;rw[<-Nat.add_assoc,rA,h1,aL h0]
theorem KV{k:Nat}(h0:rA ss G L Z m x known bK k=0):rA ss G L Z m x known bK (k+1)=TF ss G L Z m x k known bK (inf ss Z m x known bK k).1 40 1000:=by rw[rA,aJ (by simp[h0])]
theorem Nz:∀{k:Nat},k<=x.bg.length->(inf ss Z m x known bK k).1.length=k
 | 0,_=>rfl
 | k+1,h=>by rw[xH (bD (show k<x.bg.length by omega))];simp only[aT,iF,Nz (show k<=x.bg.length by omega)]
theorem Qv{k:Nat}{f:Fu}(hU:UOk U ss x bK)(ho:∀y∈own,∀t∈y.gY,t∈U)(hr:RdOk ss G L Z m x (gH ss Z x k known bK own f) f):(∀t∈((gH ss Z x k known bK own f).jq m f).gY,t∈U)/\((gH ss Z x k known bK own f).jq m f).gY.length<=U.length:=by
 have hin:∀t∈ji (nN ((gH ss Z x k known bK own f).gY m f)),t∈U:=λt ht=>by
  have ht':=eff_mem.1 ht;unfold Env.gY at ht';have h1:=schOf_in (known:=known) (k:=k) hU ho;have h2:∀s n,(gH ss Z x k known bK own f).mX s=some n->deed ⟨#[114,58]⟩ x.name s∈U/\deed ⟨#[119,58]⟩ x.name s∈U:=λs n hs=>by obtain⟨v,hv,rfl⟩:=levV_in hs;exact hU.var v hv
  rcases bZ.1 ht' with ht'|ht';·exact TV h1 h2 (λs hs=>hU.mX s (tN.1 hs)) m _ hr.st t ht'
  ·exact TU h1 h2 m _ t ht'
 exact⟨hin,Dm (YD _) hin⟩
theorem NA(hU:UOk U ss x bK):∀{k:Nat},k<=x.bg.length->rA ss G L Z m x known bK k=0->∀y∈(inf ss Z m x known bK k).1,TT U y
 | 0,_,_,_,hy=>by cases hy
 | k+1,h,hE,y,hy=>by
  obtain⟨h0,hw⟩:=KT hE;obtain⟨hf,ih⟩:=eY (bD (show k<x.bg.length by omega)) (NA hU (show k<=x.bg.length by omega) h0);rw[xH hf]at hy;rcases bZ.1 hy with hy|hy;·exact ih y hy
  ·rw[dD]at hy;subst hy;exact Qv hU (λy hy=>(ih y hy).1) (FR hf hw)
theorem VW(hw:vF m x<=1048576):∀{k:Nat},k<=x.bg.length->rA ss G L Z m x known bK k=0->(inf ss Z m x known bK k).2.length<=2097148*k
 | 0,_,_=>by simp[inf]
 | k+1,h,hE=>by
  obtain⟨h0,hx⟩:=KT hE;obtain⟨hf,ih⟩:=eY (bD (show k<x.bg.length by omega)) (VW hw (show k<=x.bg.length by omega) h0);have hr:=(FR hf hx).sinks (eT hf) hw;rw[xH hf];simp only[aT];have h2:∀V,(F6 Z ss.length V ((gH ss Z x k known bK (inf ss Z m x known bK k).1 (x.bg[k])).jq m (x.bg[k])) (x.bg[k]).name).length<=2097148:=λV=>by unfold F6;rw[dO];exact bF (GZ _ _) hr
  have h3:=h2 (least Z ss.length ((gH ss Z x k known bK (inf ss Z m x known bK k).1 (x.bg[k])).jq m (x.bg[k])).names.length ((gH ss Z x k known bK (inf ss Z m x known bK k).1 (x.bg[k])).jq m (x.bg[k])).cons);omega
noncomputable def ans(ss:List ByteArray)(G:Nat)(L:Nat->Nat)(Z:Nat->Nat->Bool)(m:Nat)(x:Mo)(known:List Mo)(bK:List (List Sc)):List Sc × List Dg × Int:=
 if yZ (bX ss G L Z) m x known≠0 then ([],[],yZ (bX ss G L Z) m x known)
 else if bJ.once (Ei ss x known m)≠[]then ([],bJ.once (Ei ss x known m),0)
 else if rA ss G L Z m x known bK x.bg.length≠0 then ([],[],rA ss G L Z m x known bK x.bg.length)
 else if (inf ss Z m x known bK x.bg.length).2≠[]then ([],bJ.once (inf ss Z m x known bK x.bg.length).2,0)
 else ((inf ss Z m x known bK x.bg.length).1,[],0)
theorem ans_efs{ss:List aY}{G:Nat}{L:Nat->Nat}{Z:Nat->Nat->Bool}{m:Nat}{x:Mo}{known:List Mo}{bK:List (List Sc)}{U:List aY}(hU:UOk U ss x bK):∀y∈(ans ss G L Z m x known bK).1,TT U y:=by
 intro y hy;unfold ans at hy;split at hy;·cases hy
 ·split at hy;·cases hy
  ·split at hy;·cases hy
   ·rename_i h3;split at hy;·cases hy
    ·exact NA hU (bE _) (Classical.not_not.1 h3) y hy
end
end Sm
variable{l:List Mo}{t:TypeId}{w w' w1 wr:World}{n m G B i g cap base e k nk tg tc:Nat}{dS vc vs vf ve v o:Value}{ss U:List ByteArray}{x:Int}{c xs:List Value}{y:Sc}{P:Pb}{s a b name:aY}{rb:Nat->Bool}
theorem vN.ofRd{L:Nat->Nat}{Z:Nat->Nat->Bool}{x:Mo}{c:Fl.Env}{f:Fu}(h:RdOk ss G L Z m x c f)(hf:f∈x.bg)(hw:vF m x<=1048576)(hpar:∀u∈f.params,u.size<=maxLen)(h1:∀t∈(c.jq m f).gY,t∈U)(h2:(c.jq m f).gY.length<=U.length)(h3:U.length<=1048576)(h4:∀t∈U,t.size<=maxLen)(hp:vN w n dS vc vs vf ve (c.jq m f)):PbV w dS vc vs vf ve (c.jq m f):=by
 refine⟨Own.strs hp.names (λu hu=>?_) (by have:=h.nm;omega),coL_of hp.cons (by have:=h.cn;omega),siL_of hp.sinks (by have:=h.sinks hf hw;omega),hp.fr.ints,hp.gY.strs (λu hu=>h4 u (h1 u hu)) aX⟩;have hu':u∈Fl.adds f.params (c.vS m f.body++c.mW m f.result):=hu;rcases Fl.qN.1 hu' with h'|h';·exact hpar u h'
 ·rcases bZ.1 h' with h'|h';·exact bF (TY h.st h') bO
  ·exact bF (TW h.ex h') bO
section
variable {α : Type} {At : World → List Value → α → Prop} {w : World} {ops : Array Oper} {rest : List Oper} {o : Oper} {a : Act} {Q : Exit → Act → World → Prop}
theorem lI(hgd:o.guard=none)(s x:Operand)(t e k bytes:Nat)(z:Value)(ho:o.op=.call { callee:=.builtin .append,args:=#[s,x],argTypes:=#[t,t] })(ht:prog.underlying t=some (.slice e))(hinfo:(prog.info? e).map (λi=>(i.zero,i.size,i.bytes))=some (some z,k,bytes))(hzs:z.cells.size=k)(hk:0<k)(hby:bytes<=1024)(n:Nat)(v:Value)(l:List α)(hs:a.eval s=v)(hown:dV At w n e k v l)(B:Nat)(c:List Value)(y:α)(hx:a.eval x=Y (some (X B 0)) 1 1)(hc:∀(j:Nat) u,c[j]?=some u->w.cell? (X B j)=some u)(hck:c.length=k)(h1:∀u∈c,u.oneCell'=true)(hy:At w c y)(hl:l.length<=16777216)(hbase:n<=w.heap.size)(hat:∀w' c y,w.grownBy w' v.ownBlock->At w c y->At w' c y)(h:∀g cap w',dV At w' n e k (Y (some (X g 0)) (l.length+1) cap) (l++[y])->w.grownBy w' v.ownBlock->wpList prog ops Q rest (a.put o.dst (Y (some (X g 0)) (l.length+1) cap)) w'):wpList prog ops Q (o::rest) a w:=by
 obtain⟨iS,Ak,hz0,hz1,hz2⟩:=info_parts hinfo;obtain⟨cs,hr,k1,k2,k3⟩:=hown;refine wpList_append_lies w hgd s x t ho n e iS z k bytes ht Ak hz0 hz1 hz2 hzs hk v l.length cs.flatten hs hr (X B 0) 1 1 c hx (by rw[hck,uq]) (λj u hu=>by rw[Addr.add_lit,eD];exact hc j u hu) h1 bO (by unfold maxLen;omega) (bF (zA (show l.length+1<=16777217 by omega) hby) bO) hbase w.heap.size rfl ?_;intro g cap w' h1' h2 h3 _;refine h g cap w' ⟨cs++[c],by rw[aT,DJ];simpa using h1',by simp[k1],λd hd=>?_,λi d z hd hz=>?_⟩ h2
 ·rcases bZ.1 hd with hd|hd;·exact k2 d hd
  ·rw[dD]at hd;subst hd;exact hck
 ·by_cases hi:i<l.length;·rw[pQ aX]at hd;rw[pQ hi]at hz;exact hat w' d z h2 (k3 i d z hd hz)
  ·have hi':i=l.length:=by have:=(dK.1 hz).1;rw[aT,iF]at this;omega
   subst hi';rw[oq aX,k1,mE]at hd;rw[oq (bE _),mE]at hz;simp at hd hz;subst hd hz;exact hat w' _ _ h2 hy
end
def lJ(t:TypeId)(w w':World):Prop:=∀(j:Nat) (cs:Array Value) (u:TypeId),w.heap[j]?=some (.cells cs u (0,0))->u≠t->w'.heap[j]?=some (.cells cs u (0,0))
section
variable {w w' : World} {t : TypeId}
theorem lJ.grown{r:Option Nat}(hg:w.grownBy w' r)(hr:∀k,r=some k->∃cur,w.heap[k]?=some (.cells cur t (0,0))):lJ t w w':=λj cs u hj hu=>by
 rw[hg.block j (bq hj) (λe'=>?_)];·exact hj
 ·obtain⟨cur,h1⟩:=hr j e'.symm;rw[hj]at h1;simp at h1;exact hu h1.2
theorem lJ.below(hb:bG w w'):lJ t w w':=λ_ _ _ hj _=>aU hj hb
theorem nH.st{B:Nat}{v:Value}{l:List aY}(h:nH w B v l)(hs:lJ t w w')(ht:9≠t):nH w' B v l:=by
 rcases h with h|⟨g,cap,e,hB,cur,hc,r1⟩;·exact aR h
 ·exact aV ⟨g,cap,e,hB,cur,hs g _ _ hc ht,r1⟩
theorem cO.st{v:Value}{l:List Int}(h:cO w v l)(hs:lJ t w w')(ht:3≠t):cO w' v l:=by
 rcases h with h|⟨g,cap,e,hl,cur,hc,r⟩;·exact aR h
 ·exact aV ⟨g,cap,e,hl,cur,hs g _ _ hc ht,r⟩
end
def Er(w:World)(c:List Value)(y:Sc):Prop:=∃vb ve,c=[.string y.fn,.int .i64 y.mask,.int .i64 y.level,vb,.int .i64 y.pc,ve]/\cO w vb y.bounds/\nH w 0 ve y.gY
theorem Er.st(h:Er w c y)(hs:lJ t w w')(h1:9≠t)(h2:3≠t):Er w' c y:=by obtain⟨vb,ve,e,k1,k2⟩:=h;exact⟨vb,ve,e,k1.st hs h2,k2.st hs h1⟩
theorem Er.below(h:Er w c y)(hb:bG w w'):Er w' c y:=h.st (t:=35) (lJ.below hb) bO bO
theorem vN.st(h:vN w n dS vc vs vf ve P)(hs:lJ 35 w w'):vN w' n dS vc vs vf ve P:=
 ⟨h.names.keep λ_ _ _ hj=>hs _ _ _ hj bO,h.cons.keep (λ_ _ _ hj=>hs _ _ _ hj bO) λc y hc=>hc.mono λv l hi=>hi.st hs bO,h.sinks.keep (λ_ _ _ hj=>hs _ _ _ hj bO) λc y hc=>hc.mono λv l hi=>hi.st hs bO,h.fr.st hs bO,h.gY.st hs bO⟩
theorem vN.IG(h:vN w n dS vc vs vf ve P)(hb:bG w w'):vN w' n dS vc vs vf ve P:=h.st (lJ.below hb)
theorem lD.grown0{l:List (Int × Int)}{r:Option Nat}(h:lD w v l)(hv:La0 v)(hg:w.grownBy w' r)(hr:∀k,r=some k->∃s,w.cell? (X k 0)=some (A s)):lD w' v l:=by
 obtain⟨a,b,off,cap,e,h0,hl,h1⟩:=h;refine⟨a,b,off,cap,e,h0,hl,λi x hx=>?_⟩;have hpos:0<l.length:=by have:=(dK.1 hx).1;omega
 obtain⟨b',hb'⟩:=hv (X b off) _ _ (by rw[e,h0 hpos]);injection hb' with hb1 hb2;subst hb2;obtain⟨k0,k1⟩:=h1 i x hx;have hlt:b<w.heap.size:=eX _ _ k0;have hne:some b≠r:=λer=>by obtain⟨s,hs⟩:=hr b er.symm;have h2:=(h1 0 _ (bD hpos)).1;rw[Nat.zero_mul,hs]at h2;simp at h2
 have hk:=hg.block b hlt hne;exact⟨(jJ hk).trans k0,(jJ hk).trans k1⟩
theorem NC{l:List Sc}(h:dV Er w n 35 6 v l)(hl:l.length<=9223372036854775807)(hz:∀y∈l,∀u∈y.gY,u.size<=maxLen)(he:∀y∈l,y.gY.length<=1048576):yX w v l:=by
 cases l with
 | nil =>obtain⟨a,c,e⟩:=h.form;exact⟨a,0,0,c,e,λh0=>aM h0 dx,hl,λi y hy=>aM hy dx⟩
 | cons y0 r =>obtain⟨g,cap,e,_⟩:=h.get (i:=0) (y:=y0) rfl;refine⟨_,g,0,cap,e,λ_=>rfl,hl,λi y hy=>?_⟩;obtain⟨g',cap',e',c,_,hcl,vb,ve,hc,hb,hf⟩:=h.get hy;rw[e]at e';injection e' with e1 e2 e3;injection e1 with e1;injection e1 with e1;subst e1;have q:=λj hj=>hcl j hj;rw[hc]at q;have hm:=eT hy;rw[eD];exact⟨vb,ve,q 0 bO,q 1 bO,q 2 bO,q 3 bO,q 4 bO,q 5 bO,hb.ints,hf.strs (hz y hm) (by have:=he y hm;omega)⟩
theorem YE{l:List Sc}(h:dV Er w n 35 6 v l)(h0:l=[]->v=J):∀k,v.ownBlock=some k->∃s,w.cell? (X k 0)=some (A s):=by
 intro k hk;cases l with
 | nil=>rw[h0 rfl]at hk;cases hk
 | cons y r =>obtain⟨g,cap,e,c,_,hc,vb,ve,he,_⟩:=h.get (i:=0) (y:=y) rfl;rw[e]at hk;injection hk with hk;subst hk;have h1:=hc 0 bO;rw[he]at h1;exact⟨y.fn,h1⟩
def Ck.un(f:Fu):Sc:=⟨f.name,0,0,List.replicate f.params.length 0,0,[]⟩
theorem infoSc:(prog.info? 35).map (λi=>(i.zero,i.size,i.bytes))=some (some (.agg #[A ⟨#[]⟩,O 0,O 0,J,O 0,J]),6,88):=by kernel_rfl
theorem oM.Pn{l:List Int}(h:oM w B l)(hl:l.length<=9223372036854775807):cO w (Y (some (X B 0)) l.length l.length) l:=
 aV ⟨B,_,rfl,hl,_,h,by simp,λi d hd=>by simp[hd]⟩
namespace Ck
def imp(l:List Mo)(a b:ByteArray):Prop:=∃i x,dI l a=some i/\l[i]?=some x/\b∈x.imports/\(dI l b).isSome=true
inductive sH (l:List Mo) (a:ByteArray):ByteArray->Prop
 | one {b:ByteArray} (h:imp l a b):sH l a b
 | more {b c:ByteArray} (h:sH l a b) (k:imp l b c):sH l a c
def RcOk(l:List Mo)(name:ByteArray)(R:List ByteArray):Prop:=R.Pairwise ltS/\∀b,b∈R↔sH l name b
theorem iM(h:dI l s=some i):∃x,l[i]?=some x/\x.name=s:=by
 unfold dI at h;have h1:=NZ h;cases hx:l[i]? with
 | none=>rw[hx]at h1;cases h1
 | some x =>rw[hx]at h1;exact⟨x,rfl,eu.1 h1⟩
theorem uH(h:dI l s=some i):i<l.length:=by obtain⟨x,hx,_⟩:=iM h;exact(dK.1 hx).1
theorem moAt_inj{t:aY}(h:dI l s=some i)(h':dI l t=some i):s=t:=by obtain⟨x,hx,e⟩:=iM h;obtain⟨y,hy,e'⟩:=iM h';rw[hx]at hy;cases hy;rw[<-e,e']
theorem ND(h:sH l a b):(dI l b).isSome=true:=by
 cases h with
 | one h=>obtain⟨_,_,_,_,_,h⟩:=h;exact h
 | more _ h=>obtain⟨_,_,_,_,_,h⟩:=h;exact h
theorem rch_src(h:sH l a b):(dI l a).isSome=true:=by
 induction h with
 | one h=>obtain⟨i,_,h,_⟩:=h;rw[h];rfl
 | more _ _ ih=>exact ih
def Full(l:List Mo)(out:List ByteArray)(i j:Nat):Prop:=∀x,l[i]?=some x->∀b∈x.imports.take j,(dI l b).isSome=true->b∈out
structure RI(l:List Mo)(name:ByteArray)(out:List ByteArray)(td:List Nat)(cu:Option (Nat × Nat)):Prop where
 rch:∀b∈out,sH l name b
 nd:out.Nodup
 tdo:∀t∈td,∃nm,dI l nm=some t/\(nm=name\/nm∈out)
 cur:∀c j,cu=some (c,j)->∃nm,dI l nm=some c/\(nm=name\/nm∈out)
 clo:∀nm i,(nm=name\/nm∈out)->dI l nm=some i->i∈td\/(∀x,l[i]?=some x->Full l out i x.imports.length)\/∃j,cu=some (i,j)/\Full l out i j
def Qw(l:List Mo)(out:List ByteArray)(rb:Nat->Bool):Prop:=∀i,rb i=true↔∃b∈out,dI l b=some i
section
variable {l : List Mo} {name : ByteArray} {out : List ByteArray} {td : List Nat}
theorem RI.start{i:Nat}(h:dI l name=some i):RI l name [] [i] none where
 rch:=λb hb=>by cases hb
 nd:=List.nodup_nil
 tdo:=λt ht=>by rw[dD]at ht;subst ht;exact⟨name,h,aR rfl⟩
 cur:=λc j h=>by cases h
 clo:=λnm k h1 h2=>by
  rcases h1 with rfl|h1
  ·rw[h]at h2;cases h2;exact aR (dD.2 rfl)
  ·cases h1
theorem RI.len{cu:Option (Nat × Nat)}(h:RI l name out td cu):out.length<=l.length:=by
 have h1:=Dm (r:=l.map (·.name)) h.nd λb hb=>by obtain⟨i,hi⟩:=rR.1 (ND (h.rch b hb));obtain⟨x,hx,e⟩:=iM hi;exact jP.2 ⟨x,eT hx,e⟩
 rwa[dO]at h1
theorem RI.pop{c:Nat}(h:RI l name out (td++[c]) none):RI l name out td (some (c,0)) where
 rch:=h.rch
 nd:=h.nd
 tdo:=λt ht=>h.tdo t (bZ.2 (aR ht))
 cur:=λc' j e=>by cases e;exact h.tdo c (bZ.2 (aV (dD.2 rfl)))
 clo:=λnm i h1 h2=>by
  rcases h.clo nm i h1 h2 with h3|h3|⟨j,h3,_⟩
  ·rcases bZ.1 h3 with h3|h3
   ·exact aR h3
   ·rw[dD]at h3
    subst h3
    exact aV (aV ⟨0,rfl,λx _ b hb=>by simp at hb⟩)
  ·exact aV (aR h3)
  ·cases h3
theorem RI.skip{c j:Nat}{x:Mo}{b:aY}(h:RI l name out td (some (c,j)))(hx:l[c]?=some x)(hb:x.imports[j]?=some b)(hin:(dI l b).isSome=true->b∈out):RI l name out td (some (c,j+1)) where
 rch:=h.rch
 nd:=h.nd
 tdo:=h.tdo
 cur:=λc' j' e=>by cases e;exact h.cur c j rfl
 clo:=λnm i h1 h2=>by
  rcases h.clo nm i h1 h2 with h3|h3|⟨j',h3,h4⟩
  ·exact aR h3
  ·exact aV (aR h3)
  ·cases h3
   refine aV (aV ⟨j+1,rfl,λy hy b' hb' hs=>?_⟩)
   rw[hx]at hy
   cases hy
   rw[gy,hb,kU]at hb'
   rcases bZ.1 hb' with hb'|hb'
   ·exact h4 x hx b' hb' hs
   ·rw[dD]at hb'
    subst hb'
    exact hin hs
theorem RI.push{c j i:Nat}{x:Mo}{b:aY}(h:RI l name out td (some (c,j)))(hx:l[c]?=some x)(hb:x.imports[j]?=some b)(hi:dI l b=some i)(hn:b∉out):RI l name (out++[b]) (td++[i]) (some (c,j+1)):=by
 obtain⟨nc,hc1,hc2⟩:=h.cur c j rfl;have himp:imp l nc b:=⟨c,x,hc1,hx,eT hb,by rw[hi];rfl⟩;have hrb:sH l name b:=by
  rcases hc2 with rfl|hc2;·exact sH.one himp
  ·exact sH.more (h.rch nc hc2) himp
 have up:∀nm,(nm=name\/nm∈out)->(nm=name\/nm∈out++[b]):=λnm h=>h.imp id λh=>bZ.2 (aR h);have fup:∀k j,Full l out k j->Full l (out++[b]) k j:=λk j h y hy b' hb' hs=>bZ.2 (aR (h y hy b' hb' hs));refine⟨λb' hb'=>?_,?_,λt ht=>?_,λc' j' e=>?_,λnm k h1 h2=>?_⟩
 ·rcases bZ.1 hb' with hb'|hb';·exact h.rch b' hb'
  ·rw[dD]at hb';subst hb';exact hrb
 ·rw[List.nodup_append];refine⟨h.nd,List.nodup_cons.2 ⟨by simp,List.nodup_nil⟩,λa ha b' hb' e=>?_⟩;rw[dD]at hb';subst hb' e;exact hn ha
 ·rcases bZ.1 ht with ht|ht;·obtain⟨nm,q1,q2⟩:=h.tdo t ht;exact⟨nm,q1,up nm q2⟩
  ·rw[dD]at ht;subst ht;exact⟨b,hi,aV (bZ.2 (aV (dD.2 rfl)))⟩
 ·cases e;exact⟨nc,hc1,up nc hc2⟩
 ·by_cases hnb:nm=b;·subst hnb;rw[hi]at h2;cases h2;exact aR (bZ.2 (aV (dD.2 rfl)))
  ·have h1':nm=name\/nm∈out:=by
    rcases h1 with h1|h1;·exact aR h1
    ·rcases bZ.1 h1 with h1|h1;·exact aV h1
     ·exact aM (dD.1 h1) hnb
   rcases h.clo nm k h1' h2 with h3|h3|⟨j',h3,h4⟩;·exact aR (bZ.2 (aR h3))
   ·exact aV (aR λy hy=>fup _ _ (h3 y hy))
   ·cases h3;refine aV (aV ⟨j+1,rfl,λy hy b' hb' hs=>?_⟩);rw[hx]at hy;cases hy;rw[gy,hb,kU]at hb';rcases bZ.1 hb' with hb'|hb';·exact fup _ _ h4 x hx b' hb' hs
    ·exact bZ.2 (aV hb')
theorem RI.done{c:Nat}{x:Mo}(h:RI l name out td (some (c,x.imports.length)))(hx:l[c]?=some x):RI l name out td none where
 rch:=h.rch
 nd:=h.nd
 tdo:=h.tdo
 cur:=λ_ _ e=>by cases e
 clo:=λnm i h1 h2=>by
  rcases h.clo nm i h1 h2 with h3|h3|⟨j,h3,h4⟩
  ·exact aR h3
  ·exact aV (aR h3)
  ·cases h3
   exact aV (aR λy hy=>by rw[hx]at hy;cases hy;exact h4)
theorem RI.all(h:RI l name out [] none):∀b,b∈out↔sH l name b:=by
 intro b;refine⟨h.rch b,λhb=>?_⟩;have key:∀nm c,(nm=name\/nm∈out)->imp l nm c->c∈out:=λnm c h1 ⟨i,x,k1,k2,k3,k4⟩=>by
  rcases h.clo nm i h1 k1 with h3|h3|⟨j,h3,_⟩;·cases h3
  ·exact h3 x k2 x k2 c (by rw[jC];exact k3) k4
  ·cases h3
 induction hb with
 | one hi=>exact key name _ (aR rfl) hi
 | more _ hi ih=>exact key _ _ (aV ih) hi
theorem Qw.old{rb:Nat->Bool}(h:Qw l out rb){b:aY}{i:Nat}(hi:dI l b=some i)(hr:rb i=true):b∈out:=by obtain⟨b',hb',e⟩:=(h i).1 hr;rw[moAt_inj hi e];exact hb'
theorem Qw.new{rb:Nat->Bool}(h:Qw l out rb){b:aY}{i:Nat}(hi:dI l b=some i)(hr:rb i=false):b∉out:=λhb=>by rw[(h i).2 ⟨b,hb,hi⟩]at hr;cases hr
theorem Qw.put{rb:Nat->Bool}(h:Qw l out rb){b:aY}{i:Nat}(hi:dI l b=some i):Qw l (out++[b]) (λk=>if k=i then true else rb k):=λk=>by
 by_cases hk:k=i;·subst hk;simp only[if_true,true_iff];exact⟨b,bZ.2 (aV (dD.2 rfl)),hi⟩
 ·simp only[aJ hk];rw[h k];constructor;·rintro⟨b',h1,h2⟩;exact⟨b',bZ.2 (aR h1),h2⟩
  ·rintro⟨b',h1,h2⟩;rcases bZ.1 h1 with h1|h1;·exact⟨b',h1,h2⟩
   ·rw[dD]at h1;subst h1;rw[hi]at h2;cases h2;exact aM rfl hk
theorem RI.size{m:Nat}{w:World}{v:Value}{cu:Option (Nat × Nat)}(h:RI l name out td cu)(hm:nD w m v l):∀b∈out,b.size<=maxLen:=λb hb=>by obtain⟨i,hi⟩:=rR.1 (ND (h.rch b hb));obtain⟨x,hx,e⟩:=iM hi;obtain⟨_,_,_,_,_,_,_,hel⟩:=hm;obtain⟨_,_,_,_,_,_,_,hmo⟩:=hel i x hx;rw[<-e];exact M4 hmo
end
end Ck
def Ah(w:World)(B n:Nat)(rb:Nat->Bool):Prop:=w.heap[B]?=some (.cells ((List.range n).map λi=>Value.bool (rb i)).toArray 4 (0,0))
theorem Ah.cell(h:Ah w B n rb)(hi:i<n):w.cell? (X B i)=some (.bool (rb i)):=by rw[aj h];simp[hi]
theorem Ah.put(h:Ah w B n rb)(i:Nat):Ah (w.setCell (X B i) (.bool true)) B n (λk=>if k=i then true else rb k):=by
 unfold Ah;rw[aO h i (.bool true)];congr 2;apply Array.ext;·simp
 ·intro k h1 h2;by_cases hk:i=k;·subst hk;simp
  ·simp[hk];exact λe=>aM e.symm hk
theorem infoBo:(prog.info? 4).map (λi=>(i.zero,i.size,i.bytes))=some (some (.bool false),1,1):=by kernel_rfl
theorem make_bos(n:Nat)(hn:n<=1048576)(w:World):(Instr.makeSlice 49 (O (n:Int)) (O (n:Int))).run prog w=.ok (Y (some (X w.heap.size 0)) n n) (w.alloc (.cells (madeCells #[.bool false] n) 4)):=by obtain⟨i,hi,hzz⟩:=vX.1 infoBo;simp only[pq]at hzz;obtain⟨hz,hs,hb⟩:=hzz;have hr:=run_make (P:=prog) w 49 4 i _ underlying49 hi hz .i64 .i64 n n aX (Int.le_refl _) (by rw[hb];omega) aX;rw[hs,show(Value.bool false).cells=#[.bool false]from rfl]at hr;simpa using hr
theorem made_bos(n:Nat):madeCells #[Value.bool false] n=((List.range n).map λ_=>Value.bool false).toArray:=by
 apply Array.ext;·simp[madeCells]
 ·intro i h1 h2;simp[madeCells,Nat.mod_one]
theorem fM.pop{l:List Int}(h:fM w B (Y (some (X g 0)) (l.length+1) cap) (l++[x])):fM w B (Y (some (X g 0)) l.length cap) l:=by
 obtain⟨h0,h1⟩:=h;rcases h1 with⟨h1,_⟩|⟨g',cap',cur,e,hb,hh,hc,hm,hs,ht⟩;·injection h1 with h1;cases h1
 ·injection e with e1 e2 e3;injection e1 with e1;injection e1 with e1;subst e1 e3;rw[aT,iF]at hc ht;refine⟨by simp,aV ⟨g,cap,cur,rfl,hb,hh,by omega,hm,hs,?_⟩⟩;have h2:=congrArg (List.take l.length) ht;rw[List.take_take,fQ,List.take_left' dx]at h2;rw[<-h2];congr 1;omega
theorem fM.cellI{l:List Int}(h:fM w B (Y (some (X g 0)) n cap) l)(hn:n=l.length)(hx:l[i]?=some x):w.cell? (X g i)=some (O x):=by subst hn;have h1:=vV h i (by rw[Nat.mul_one];exact(dK.1 hx).1);rw[h1,qA,hx];rfl
def Qx:Value->Nat
 | .slice _ n _=>n
 | _=>0
theorem Own.Qx{l:List aY}(h:Own w B v l):Go.Proofs.YtbgkpehhdibaoaaGreatDoor.Qx v=l.length:=by
 rcases h.2 with⟨h1,h2⟩|⟨g,cap,cur,h1,_⟩;·rw[h1,h2];rfl
 ·rw[h1];rfl
theorem fM.someI{l:List Int}(h:fM w B v l)(hn:l.length=n)(hp:0<n):∃g cap,v=Y (some (X g 0)) n cap/\n<=cap:=by
 rcases h.2 with⟨h1,h2⟩|⟨g,cap,cur,h1,_,_,h2,_⟩;·omega
 ·exact⟨g,cap,by rw[h1,hn],by omega⟩
theorem own_rowW{l:List aY}(h:Own w B (Y (some (X g 0)) n cap) l):lS w g l/\B<=g/\n=l.length:=by
 rcases h.2 with⟨h1,_⟩|⟨g',cap',cur,h1,hb,hh,hc,_,hs,ht⟩;·injection h1 with h1;cases h1
 ·injection h1 with e1 e2 e3;injection e1 with e1;injection e1 with e1;subst e1 e3;refine⟨⟨cur,hh,by rw[hs,Nat.mul_one];exact hc,λi d hd=>?_⟩,hb,e2⟩;have hi:i<l.length:=(dK.1 hd).1;have h3:=congrArg (λt=>t[i]?) ht;simp only[qA,hd,Nat.mul_one]at h3;rw[qL hi]at h3;rw[<-Array.getElem?_toList];exact h3
theorem KW(w:World)(c:Nat):Strs w (Y none 0 c) []:=⟨none,0,0,c,rfl,λh=>aM h dx,by simp,λu hu=>aM hu dx,λi hi=>aM hi dx⟩
theorem Dx(l:List Nat)(x:Nat):((l++[x]).map λn:Nat=>(n:Int))=(l.map λn:Nat=>(n:Int))++[(x:Int)]:=by simp
theorem VX(h:w.ownsRow base e k v n xs):∀j,v.ownBlock=some j->∃cur,w.heap[j]?=some (.cells cur e (0,0)):=by
 intro j hj;rcases h.2 with⟨h1,_⟩|⟨g,cap,cur,h1,_,hh,_⟩;·rw[h1]at hj;cases hj
 ·rw[h1]at hj;injection hj with hj;subst hj;exact⟨cur,hh⟩
theorem Ah.st(h:Ah w B n rb)(hs:lJ t w w')(ht:4≠t):Ah w' B n rb:=hs _ _ _ h ht
structure Ua(w1 wr:World)(nk:Nat)(l:List Mo)(name:ByteArray)(o:Value)(out:List ByteArray)(td:List Nat)(tg tc:Nat)(cu:Option (Nat × Nat)):Prop where
 ri:RI l name out td cu
 len:td.length<=out.length+1
 own:Own wr w1.heap.size o out
 owi:fM wr w1.heap.size (.slice (some ⟨tg,0,none⟩) td.length tc) (td.map λn:Nat=>(n:Int))
 rb:∃rb,Ah wr w1.heap.size nk rb/\Qw l out rb
 YF:Below w1.heap.size w1 wr
theorem Ua.below{out:List aY}{td:List Nat}{cu:Option (Nat × Nat)}(h:Ua w1 wr nk l name o out td tg tc cu)(hb:bG wr w'):Ua w1 w' nk l name o out td tg tc cu:=
 ⟨h.ri,h.len,eZ h.own hb,eZ h.owi hb,by obtain⟨rb,h1,h2⟩:=h.rb;exact⟨rb,aU h1 hb,h2⟩,up h.YF hb⟩
theorem KX(m:Nat)(w:World)(v:Value)(l:List Mo)(name:ByteArray)(h:nD w m v l)(hl:l.length<=1048575)(hn:name.size<=maxLen)(hsm:∀x∈l,vF m x<=1048576):Calls prog 20 #[v,A name] w λe w'=>∃u,e=dz u/\Hid (∃R,RcOk l name R/\Strs w' u R/\bG w w'):=by
 obtain⟨HMS,Sd,KM⟩:=fD h hsm (Aa m w v l h aX);obtain⟨a,b,off,cap,rfl,h0,-,hel⟩:=h;obtain⟨H0,lK⟩:=bU h0 hel;obtain⟨nk,hnk⟩:=bC l.length;have I5:=I hnk;rw[<-hnk]at hl H0 KM ⊢;clear h0 hel hnk hsm;go_enter func20,ntmps20;go_wp2_with fail;refine KM.mono ?_;rintro e w1 ⟨b1,rfl,Kr⟩;obtain⟨hm1,-,hb1⟩:=Kr.out;obtain⟨JG,HB1⟩:=bU hm1 hb1;have LK:=hm1.caM.sw underlying95 AP hn;clear Kr hm1 hb1 hn;cases hmo:dI l name with
 | none=>
  have e1:Ck.fi l name=none:=by unfold Ck.fi;rw[hmo];rfl
  rw[e1]at LK;simp only[mJ,nQ]at LK;have HMO:=I hmo;clear hmo e1;go_wp2_with fail;go_ret;exact⟨_,rfl,I ⟨[],⟨List.Pairwise.nil,λb=>⟨λh=>(by cases h),λh=>(by have h1:=rch_src h;rw[HMO]at h1;cases h1)⟩⟩,KW _ _,HB1⟩⟩
 | some i0=>
  have e1:Ck.fi l name=some (O (i0:Nat)):=by unfold Ck.fi;rw[hmo];rfl
  rw[e1]at LK;simp only[iw,nP]at LK;have HMO:=I hmo;have MK:=make_bos nk aX;obtain⟨W,hW,k0,k1,hsz,hBW⟩:=wX w1 (.cells (madeCells #[.bool false] nk) 4) (aW #[O (i0:Nat)] 3);rw[made_bos]at k0;have HRT:Hid (Ah W w1.heap.size nk (λ_=>false)):=I k0;have HTI:Hid (fM W w1.heap.size (Y (some (X (w1.heap.size+1) 0)) 1 1) [(i0:Int)]):=I ⟨by simp,aV ⟨w1.heap.size+1,1,_,rfl,dF _,k1,by simp,by unfold maxLen;omega,rfl,rfl⟩⟩;have iA:=I hBW;clear hmo e1 k0 k1 hsz hBW;go_wp2_with fail;rw[<-hW];clear hW MK LK;go_loopw[8,10] (λo t wr=>∃(ov:Value) (out:List ByteArray) (td:List Nat) (tg tc:Nat),ov=o/\t=Y (some (X tg 0)) td.length tc/\td.length<=tc/\Hid (Ua w1 wr nk l name ov out td tg tc none)) (λo t _=>Qx t+2*(nk - Qx o));case atStart=>exact⟨_,[],[i0],_,1,rfl,rfl,bE _,I ⟨RI.start HMO,bE _,kg _ _ _ _,HTI,⟨λ_=>false,HRT,λi=>by simp⟩,iA⟩⟩
  case round=>
   obtain⟨o,out,td,tg,tc,rfl,rfl,htc,HR⟩:=hrel;have AU:=I (up HB1 HR.YF);have HOL:Hid (out.length<=nk):=I (by rw[I5];exact HR.ri.len);have HLO:Hid (Qx o=out.length):=I HR.out.own.Qx;by_cases htd:td=[]
   ·subst htd;rcases Own.shape HR.own with⟨rfl,hz⟩|⟨g,cp,rfl,hc,hg⟩;·subst hz;have fF:=I HR.out.ri.all;simp only[Em]at *;go_wp2_with fail;refine(Ia _ _ _).mono ?_;rintro e w9 ⟨rfl,hw9⟩;subst hw9;go_wp2_with fail;go_ret;exact⟨_,rfl,I ⟨[],⟨List.Pairwise.nil,fF⟩,KW _ _,AU⟩⟩
    ·obtain⟨hrow,hgb,-⟩:=own_rowW HR.own;obtain⟨HSO,HZ,HGB⟩:=fD (Ij wr g out.length cp out hrow rfl (by have:=HOL.out;omega)) (HR.ri.size HMS) hgb;obtain⟨no,hno⟩:=bC out.length;have Zi:=I hno;rw[<-hno]at HSO ⊢;simp only[Em]at *;clear hrow hgb hno hc hg;go_wp2_with fail;refine HSO.mono ?_;rintro e w9 ⟨rfl,hrow,hbut⟩;obtain⟨uO,XY⟩:=bU hrow hbut;clear hrow hbut;go_wp2_with fail;go_ret;refine⟨_,rfl,I ⟨nN out,⟨(BJ out).and ((KI out).nodup_iff.2 HR.ri.nd),λb=>(wM _ _).trans (HR.ri.all b)⟩,?_,?_⟩⟩
     ·have hlen:(nN out).length=no:=by rw[(KI out).length_eq,Zi]
      have h1:nH w9 0 (Y (some (X g 0)) (nN out).length cp) (nN out):=aV ⟨g,cp,rfl,bL _,uO⟩;rw[hlen]at h1;exact h1.strs (λu hu=>HZ u ((wM _ _).1 hu)) (by rw[hlen];have:=HOL.out;have:=Zi.out;omega)
     ·exact AU.trans (XY.below (bF HB1.out.size HGB) AU.size)
   ·obtain⟨td0,c,rfl⟩:∃a b,td=a++[b]:=⟨td.dropLast,td.getLast htd,(List.dropLast_concat_getLast htd).symm⟩;obtain⟨n1,hn1⟩:=bC ((td0++[c]).length);obtain⟨n0,hn0⟩:=bC td0.length;have h10:n1=n0+1:=by rw[hn1,hn0,aT];rfl
    have HPOP:Hid (fM wr w1.heap.size (Y (some (X tg 0)) n0 tc) (td0.map λn:Nat=>(n:Int))):=I (by have h1:=HR.owi;rw[Dx,aT,iF]at h1;have h2:=fM.pop (l:=td0.map λn:Nat=>(n:Int)) (by rw[dO];exact h1);rw[dO]at h2;rw[hn0];exact h2);have tcell:wr.cell? (X tg n0)=some (O (c:Nat)):=HR.owi.cellI dx (by rw[Dx,oq (by rw[dO,<-hn0];exact bE _),dO,<-hn0,mE];rfl);have HRI:=I HR.out.ri.pop;obtain⟨nmc,hmc,hmc'⟩:=HR.ri.tdo c (bZ.2 (aV (dD.2 rfl)));have Y7:=I hmc;have hclt:c<nk:=by rw[I5];exact Ck.uH hmc
    obtain⟨y,hy,hyn⟩:=iM hmc;have HY:=I hy;obtain⟨yi,yv,yf,g0,g1,g2,g3,I6⟩:=lK c y hy;obtain rfl:=H0 aX;obtain⟨hyI,hyV,Y3⟩:=I6.split;have HIL:Hid (y.imports.length<=1048576):=I (by have a1:=xC y.imports;have hw:=Sd y (eT hy);unfold vF at hw;omega);obtain⟨ia,ib,io,ic,rfl,hia,-,hiz,hic⟩:=hyI;obtain⟨a2,b2,o2,c2,rfl,-⟩:=hyV;obtain⟨a3,b3,o3,c3,rfl,-⟩:=Y3;obtain⟨HIA,HIZ,HIC⟩:=fD hia hiz hic;obtain⟨ni,hni⟩:=bC y.imports.length;have I4:=I hni;rw[<-hni]at g1 HIA HIC HIL;generalize y.vars.length=n2 at *;generalize y.bg.length=n3 at *;replace g0:=aD g0 AU;replace g1:=aD g1 AU;replace g2:=aD g2 AU;replace g3:=aD g3 AU;have hc0:(0:Int)<=(c:Int):=by omega
    have hc1:(c:Int)<(nk:Int):=by omega
    have hsub:wrap64 ((n1:Int) - 1)=(n0:Int):=by
     have h1:((n1:Int) - 1)=(n0:Int):=by omega
     obtain⟨h2,h3⟩:=eY HR.len HOL.out;rw[<-hn1]at h2;rw[h1];unfold wrap64;omega
    rw[<-hn1]at htc ⊢;have hpos:(n1:Int) > 0:=by omega
    have hlt1:(n0:Int)<(n1:Int):=by omega
    have hn0c:n0<=tc:=by omega
    have hz0:(0:Int)<=(n0:Int):=by omega
    have jH:Hid (n0<=out.length):=I (by have h2:=HR.len;rw[<-hn1]at h2;omega);obtain⟨EZ,H10,HHTC⟩:=fD hn0 h10 hn0c;clear hy hyn I6 hia hiz hic hni hmc hmc' htd hn0 h10 hn1;go_upto_region 11 with fail;obtain⟨oP,HKB⟩:=rZ wr (aW #[A y.name,Y ia ni ic,Y a2 n2 c2,Y a3 n3 c3] 58);have HRI5:Hid (Ua w1 (wr.alloc (aW #[A y.name,Y ia ni ic,Y a2 n2 c2,Y a3 n3 c3] 58)) nk l name o out td0 tg tc (some (c,0))):=I (Ua.below ⟨HRI,by have:=jH.out;have:=EZ.out;omega,HR.own,by rw[<-EZ];exact HPOP,HR.rb,HR.YF⟩ oP);generalize wr.alloc (aW #[A y.name,Y ia ni ic,Y a2 n2 c2,Y a3 n3 c3] 58)=W5 at *;generalize wr.heap.size=MK at *;obtain⟨-,q1⟩:=iV HKB;clear g0 g1 g2 g3 tcell hsub hpos hlt1 hz0 hc0 hc1 htc hn0c;go_wp2_with fail;clear q1;rw[EZ];go_loopw[8,10,51] (λo t i wx=>∃(ov:Value) (j d:Nat) (Fb:List ByteArray) (Rf:List Nat) (tg2 tc2:Nat),ov=o/\j<=ni/\i=O j/\t=Y (some (X tg2 0)) Rf.length tc2/\Rf.length<=tc2/\Hid (Ua w1 wx nk l name ov Fb Rf tg2 tc2 (some (c,j))/\Fb.length=out.length+d/\Rf.length=n0+d)) (λ_ _ i _=>ni - (intOf i).toNat);case atStart=>exact⟨_,0,0,out,td0,tg,tc,rfl,bL _,rfl,rfl,by rw[<-EZ];exact HHTC,I ⟨HRI5,rfl,EZ.symm⟩⟩
    case round=>
     obtain⟨o2,j,d,Fb,Rf,tg2,tc2,rfl,hj,rfl,rfl,htc2,HR2⟩:=hrel;have AU:=I (up HB1 HR2.1.YF);have hnib:=HIL.out;have HOL2:Hid (Fb.length<=nk):=I (by rw[I5];exact HR2.1.ri.len);by_cases hjl:j<ni
     ·obtain⟨bi,hbi⟩:∃y',y.imports[j]?=some y':=⟨_,bD (by rw[<-I4];exact hjl)⟩;have HBI:=I hbi;have g:=aD (HIC j hjl) AU;rw[List.getD,hbi,iw]at g;obtain rfl:=HIA aX;have HBZ:=I (HIZ bi (eT hbi));have LK:=((JG.below HR2.1.YF).caM).sw underlying95 AP HBZ;clear hbi;cases hmb:dI l bi with
      | none=>
       have e1:Ck.fi l bi=none:=by unfold Ck.fi;rw[hmb];rfl
       rw[e1]at LK;simp only[mJ,nQ]at LK;have SG:=I (HR2.1.ri.skip HY HBI (λh=>by rw[hmb]at h;cases h));clear hmb e1;go_wp2_with fail;go_roundw;case rel=>exact⟨_,j+1,d,Fb,Rf,tg2,tc2,rfl,by omega,by go_num,rfl,htc2,I ⟨⟨SG,HR2.1.len,HR2.1.own,HR2.1.owi,HR2.1.rb,HR2.1.YF⟩,HR2.2.1,HR2.2.2⟩⟩
       case measure=>simp[intOf];omega
      | some i=>
       have e1:Ck.fi l bi=some (O (i:Nat)):=by unfold Ck.fi;rw[hmb];rfl
       rw[e1]at LK;simp only[iw,nP]at LK;have HMB:=I hmb;have hik:i<nk:=by rw[I5];exact Ck.uH hmb
       obtain⟨rb,hrt,hrk⟩:=HR2.1.rb;obtain⟨HRTT,HRK⟩:=bU hrt hrk;have rc:=hrt.cell hik;have hi0:(0:Int)<=(i:Int):=by omega
       have hi1:(i:Int)<(nk:Int):=by omega
       clear hmb e1 hrt hrk;cases hrb:rb i
       ·rw[hrb]at rc;have HNEW:=I (HRK.new HMB hrb);obtain⟨HPU,HRP⟩:=bU (HR2.1.ri.push HY HBI HMB HNEW) (HRK.put HMB);have z0:=aG HRTT i;clear hrb;go_upto_region 17 with fail;have HRT6:=I (HRTT.put i);have wE:Hid (But w1.heap.size wr (wr.setCell (X w1.heap.size i) (.bool true))):=I ((But.refl w1.heap.size wr).set (a:=(X w1.heap.size i)) (aR rfl) (.bool true));have Al:Hid (Own (wr.setCell (X w1.heap.size i) (.bool true)) w1.heap.size o2 Fb):=I (Lb (l:=Fb) HR2.1.own HRTT bO wE);have Zd:Hid (fM (wr.setCell (X w1.heap.size i) (.bool true)) w1.heap.size (Y (some (X tg2 0)) Rf.length tc2) (Rf.map λn:Nat=>(n:Int))):=I (Lb (l:=Rf.map λn:Nat=>(n:Int)) HR2.1.owi HRTT bO wE);have dX:Hid (bG w1 (wr.setCell (X w1.heap.size i) (.bool true))):=I (HR2.1.YF.setCell (p:=(X w1.heap.size i)) (bE _) _);generalize wr.setCell (X w1.heap.size i) (.bool true)=W6 at *;obtain⟨LD,HC6⟩:=bU (aH W6 (aW #[A bi] 9)) ((aj (aZ W6 (aW #[A bi] 9)) 0).trans rfl);obtain⟨n2',hn2'⟩:∃n,n=Rf.length:=⟨_,rfl⟩;have Ao:=I hn2';rw[<-hn2']at Zd htc2 ⊢;clear rc z0 LK hi0 hi1 hn2'
        go_upto_region 18 with(first
         | (at_builtin;refine j4 rfl _ _ rfl w1.heap.size o2 Fb rfl (eZ Al LD) W6.heap.size bi rfl HC6 (by have:=HOL2.out;omega) (bF dX.out.size LD.size) ?_;intro o7 w7 jg dL;have Ca:=I jg;have HI7:Hid (fM w7 w1.heap.size (Y (some (X tg2 0)) n2' tc2) (Rf.map λn:Nat=>(n:Int))):=I (fM.kept Zd Al dL);have jG:Hid (bG w1 w7):=I (Below.grown (up dX LD) dL (up dX LD).size (λk e=>(Cy Al k e).1));have HRT7:Hid (Ah w7 w1.heap.size nk (λk=>if k=i then true else rb k)):=I (Ah.st (aU HRT6 LD) (lJ.grown dL (VX (eZ Al LD))) bO);clear jg dL)
         | fail)
        go_wp2_with (first
         | (at_builtin;have Ub:=aH w7 (aW #[O (i:Nat)] 3);refine mF rfl _ _ rfl w1.heap.size (Y (some (X tg2 0)) n2' tc2) (Rf.map λn:Nat=>(n:Int)) rfl (eZ HI7 Ub) w7.heap.size (i:Int) rfl ((aj (aZ w7 (aW #[O (i:Nat)] 3)) 0).trans rfl) (by rw[dO];have h3:=HR2.1.len;have:=HOL2.out;omega) (bF jG.out.size Ub.size) ?_;intro t9 w9 pY iJ;have HT9:=I pY;have HO9:Hid (Own w9 w1.heap.size o7 (Fb++[bi])):=I (Own.kept Ca HI7 iJ);have xX:Hid (bG w1 w9):=I (Below.grown (up jG Ub) iJ (up jG Ub).size (λk e=>(Cy HI7 k e).1));have HRT9:Hid (Ah w9 w1.heap.size nk (λk=>if k=i then true else rb k)):=I (Ah.st (aU HRT7 Ub) (lJ.grown iJ (VX (eZ HI7 Ub))) bO);clear pY iJ Ub)
         | fail)
        obtain⟨tg9,tc9,rfl,htc9⟩:=fM.someI HT9 (n:=Rf.length+1) dx (Nat.succ_pos _);go_roundw;case rel=>exact⟨_,j+1,d+1,Fb++[bi],Rf++[i],tg9,tc9,rfl,by omega,by go_num,by rw[aT];rfl,by rw[aT];exact htc9,I ⟨⟨HPU,by rw[aT,aT];have:=HR2.1.len;simp only[iF];omega,HO9,by rw[Dx,aT];exact HT9,⟨_,HRT9,HRP⟩,xX⟩,by rw[aT,iF,HR2.2.1];omega,by rw[aT,iF,HR2.2.2];omega⟩⟩
        case measure=>simp[intOf];omega
       ·rw[hrb]at rc;have SG:=I (HR2.1.ri.skip HY HBI (λ_=>HRK.old HMB hrb));clear hrb;go_wp2_with fail;go_roundw;case rel=>exact⟨_,j+1,d,Fb,Rf,tg2,tc2,rfl,by omega,by go_num,rfl,htc2,I ⟨⟨SG,HR2.1.len,HR2.1.own,HR2.1.owi,HR2.1.rb,HR2.1.YF⟩,HR2.2.1,HR2.2.2⟩⟩
        case measure=>simp[intOf];omega
     ·obtain rfl:j=ni:=by omega
      have HDN:=I (RI.done (by rw[<-I4];exact HR2.1.ri) HY);go_wp2_with fail;go_roundw;case rel=>exact⟨_,Fb,Rf,tg2,tc2,rfl,rfl,htc2,I ⟨HDN,HR2.1.len,HR2.1.own,HR2.1.owi,HR2.1.rb,HR2.1.YF⟩⟩
      case measure =>have h1:=HR2.1.own.Qx;obtain⟨h2,h3,h4,h5⟩:=tZ HLO.out HR2.2.1 HR2.2.2 HOL2.out;have h6:=H10.out;rw[h1,h2];simp only[Qx];omega
end Go.Proofs.YtbgkpehhdibaoaaGreatDoor
