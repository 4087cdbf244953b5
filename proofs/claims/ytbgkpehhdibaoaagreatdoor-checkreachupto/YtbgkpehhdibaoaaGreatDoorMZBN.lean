/- part -/
import Derived.Test.YtbgkpehhdibaoaaGreatDoorMZBJ
import Derived.Test.YtbgkpehhdibaoaaGreatDoorMZSO
import Derived.Test.YtbgkpehhdibaoaaGreatDoorMZPA
set_option maxHeartbeats 0
set_option maxRecDepth 99999
namespace Go.Proofs.YtbgkpehhdibaoaaGreatDoor
open Fl bO aO Sv
open Go.Proofs.Tryz
open Go.RowKit Go.Maps Go.WideMaps
namespace Fl
def Qn(ss:List ByteArray)(G:Nat)(L:Nat->Nat)(Z:Nat->Nat->Bool)(m:Nat)(x:Mo)(k:Int)(known:List Mo)(bJ:List (List Sc))(own:List Sc)(mn mc:Int):Int:=
 if MZ ss G L Z m x k known bJ own≠0 then MZ ss G L Z m x k known bJ own else match x.bq[k.toNat]? with
  | some f=>if Ke (fP ss Z x k.toNat known bJ own f) m f mn mc then 2 else 0
  | none=>0
theorem wiE_ok{ss:List aZ}{G:Nat}{L:Nat->Nat}{Z:Nat->Nat->Bool}{m:Nat}{x:Mo}{k:Int}{known:List Mo}{bJ:List (List Sc)}{own:List Sc}(h:MZ ss G L Z m x k known bJ own=0):yK (dh ss G L Z) m x known=0/\aO.once (aO.Aj ss x known m)=[]/\∃(kn:Nat) (f:Fu),k=kn/\x.bq[kn]?=some f/\iw ss.length known bJ=true/\nT ss.length (x.bq.take kn) own=true:=by
 unfold MZ at h;by_cases h1:yK (dh ss G L Z) m x known≠0;·rw[aL h1]at h;exact aN h h1
 ·rw[aJ h1]at h;by_cases h2:aO.once (aO.Aj ss x known m)≠[];·rw[aL h2]at h;omega
  ·rw[aJ h2]at h;by_cases h3:k<0\/k>=x.bq.length\/iw ss.length known bJ=false\/nT ss.length (x.bq.take k.toNat) own=false;·rw[aL h3]at h;omega
   ·have a1:¬k<0:=λh=>h3 (aR h);have a2:¬k>=x.bq.length:=λh=>h3 (aT (aR h));have a3:¬iw ss.length known bJ=false:=λh=>h3 (aT (aT (aR h)));have a4:¬nT ss.length (x.bq.take k.toNat) own=false:=λh=>h3 (aT (aT (aT h)));have hlt:k.toNat<x.bq.length:=by omega
    exact⟨Classical.not_not.1 h1,Classical.not_not.1 h2,k.toNat,x.bq[k.toNat],by omega,bg hlt,by simpa using a3,by simpa using a4⟩
end Fl
theorem VX(m:Nat)(w:World)(vn vl vi vv vf vk vs vo:Value)(ss:List aZ)(G:Nat)(L:Nat->Nat)(Z:Nat->Nat->Bool)(x:Mo)(known:List Mo)(bJ:List (List Sc))(own:List Sc)(k mn mc:Int)(hP:l9 w m vn vl vi vv vf vk vs vo ss G L Z x known bJ own):Calls prog 54 #[.agg #[vn,vl],.agg #[A x.name,vi,vv,vf],O k,vk,vs,vo,O mn,O mc] w λe w'=>Hid ((Fl.Qn ss G L Z m x k known bJ own mn mc≠0/\e=cO (.tuple #[.agg #[J,J,J,J,O 0,O 0,J],O (Fl.Qn ss G L Z m x k known bJ own mn mc)])/\bG w w')\/(Fl.Qn ss G L Z m x k known bJ own mn mc=0/\∃(kn:Nat) (f:Fu),k=kn/\x.bq[kn]?=some f/\∃dZ vc vs vf ve,e=cO (.tuple #[.agg #[dZ,vc,vs,vf,O 0,O ((Fl.fP ss Z x kn known bJ own f).jq m f).level,ve],O 0])/\xu w' w.heap.size dZ vc vs vf ve ((Fl.fP ss Z x kn known bJ own f).jq m f)/\bG w w')):=by
 by_cases hz:Fl.MZ ss G L Z m x k known bJ own=0
 ·obtain⟨h1,h2,kn,f,hkk,hf,h3,h4⟩:=Fl.wiE_ok hz;have hx:Fl.Qn ss G L Z m x k known bJ own mn mc=if Fl.Ke (Fl.fP ss Z x kn known bJ own f) m f mn mc then 2 else 0:=by
   unfold Fl.Qn;rw[aJ (by simp[hz])];have e:k.toNat=kn:=by omega
   rw[e,hf]
  refine(within_ok m w vn vl vi vv vf vk vs vo ss G L Z x known bJ own k mn mc hP h1 h2 kn f hkk hf h3 h4).mono ?_;intro e w' h;rcases h with⟨a,b,c⟩|⟨a,b⟩;·rw[hx,a];exact I (aR ⟨by decide,b,c⟩)
  ·rw[hx,a];exact I (aT ⟨rfl,kn,f,hkk,hf,b⟩)
 ·have hx:Fl.Qn ss G L Z m x k known bJ own mn mc=Fl.MZ ss G L Z m x k known bJ own:=by unfold Fl.Qn;rw[aL hz]
  rw[hx];have fine:∀{E:Int},Fl.MZ ss G L Z m x k known bJ own=E->(Calls prog 54 #[.agg #[vn,vl],.agg #[A x.name,vi,vv,vf],O k,vk,vs,vo,O mn,O mc] w λe w'=>e=cO (.tuple #[.agg #[J,J,J,J,O 0,O 0,J],O E])/\bG w w')->Calls prog 54 #[.agg #[vn,vl],.agg #[A x.name,vi,vv,vf],O k,vk,vs,vo,O mn,O mc] w λe w'=>Hid ((Fl.MZ ss G L Z m x k known bJ own≠0/\e=cO (.tuple #[.agg #[J,J,J,J,O 0,O 0,J],O (Fl.MZ ss G L Z m x k known bJ own)])/\bG w w')\/(Fl.MZ ss G L Z m x k known bJ own=0/\∃(kn:Nat) (f:Fu),k=kn/\x.bq[kn]?=some f/\∃dZ vc vs vf ve,e=cO (.tuple #[.agg #[dZ,vc,vs,vf,O 0,O ((Fl.fP ss Z x kn known bJ own f).jq m f).level,ve],O 0])/\xu w' w.heap.size dZ vc vs vf ve ((Fl.fP ss Z x kn known bJ own f).jq m f)/\bG w w')):=λhe h=>h.mono λe w' hh=>I (aR ⟨hz,by rw[he];exact hh.1,hh.2⟩);by_cases h1:yK (dh ss G L Z) m x known=0
  ·by_cases h2:aO.once (aO.Aj ss x known m)=[]
   ·have he:Fl.MZ ss G L Z m x k known bJ own=1:=by
     unfold Fl.MZ at hz ⊢;rw[aJ (by simp[h1]),aJ (by simp[h2])]at hz ⊢;split at hz;·rename_i h;rw[aL h]
     ·exact aN rfl hz
    by_cases k1:k<0;·exact fine he (SQ m w vn vl vi vv vf vk vs vo ss G L Z x known bJ own k mn mc hP h1 h2 k1)
    ·by_cases k2:k>=x.bq.length;·exact fine he (SS m w vn vl vi vv vf vk vs vo ss G L Z x known bJ own k mn mc hP h1 h2 k1 k2)
     ·have hkk:k=k.toNat:=by omega
      have hkl:k.toNat<x.bq.length:=by omega
      cases h3:Fl.iw ss.length known bJ with
      | false=>exact fine he (SV m w vn vl vi vv vf vk vs vo ss G L Z x known bJ own k mn mc hP h1 h2 k.toNat hkk hkl h3)
      | true=>
       cases h4:nT ss.length (x.bq.take k.toNat) own with
       | false=>exact fine he (SX m w vn vl vi vv vf vk vs vo ss G L Z x known bJ own k mn mc hP h1 h2 k.toNat hkk hkl h3 h4)
       | true=>
        exfalso;apply hz;unfold Fl.MZ;rw[aJ (by simp[h1]),aJ (by simp[h2]),aJ];rintro(h|h|h|h);·exact k1 h
        ·exact k2 h
        ·rw[h3]at h;cases h
        ·rw[h4]at h;cases h
   ·have he:Fl.MZ ss G L Z m x k known bJ own=5:=by unfold Fl.MZ;rw[aJ (by simp[h1]),aL h2]
    exact fine he (SN m w vn vl vi vv vf vk vs vo ss G L Z x known bJ own k mn mc hP h1 h2)
  ·have he:Fl.MZ ss G L Z m x k known bJ own=yK (dh ss G L Z) m x known:=by unfold Fl.MZ;rw[aL h1]
   exact fine he (SL m w vn vl vi vv vf vk vs vo ss G L Z x known bJ own k mn mc hP h1)
namespace Sm
open Fl
section
variable (Z : Nat → Nat → Bool) (N : Nat)
def tell(V:Nat->Nat × Nat)(fr:List Int)(a:Nat × Nat):Nat × Nat:=fr.foldl (λx v=>Sv.join Z N x (V v.toNat)) a
def lab(mask level:Int):Nat × Nat:=(mask.toNat,level.toNat)
def met(a b:Nat):Nat:=mW (bO.tr Z) N a b
def top:Nat:=wU (bO.tr Z) N
noncomputable def least(n:Nat)(cs:List Co):Nat->Nat × Nat:=Classical.epsilon λV=>Ac Z N n cs V
def PI(V:Nat->Nat × Nat)(s:Si):Nat × Nat:=tell Z N V s.fr (lab s.mask s.level)
def bdW(V:Nat->Nat × Nat)(i:Nat)(b:Nat)(s:Si):Nat:=if (PI Z N V s).1.testBit i then met Z N b s.lv.toNat else b
def bd(V:Nat->Nat × Nat)(sinks:List Si)(i:Nat):Nat:=sinks.foldl (bdW Z N V i) (top Z N)
def pcW(b:Nat)(s:Si):Nat:=if s.gU then met Z N b s.lv.toNat else b
def pc(sinks:List Si):Nat:=sinks.foldl (pcW Z N) (top Z N)
def bds(V:Nat->Nat × Nat)(sinks:List Si)(n:Nat):List Int:=(List.range n).map λi=>(bd Z N V sinks i:Int)
def eB(V:Nat->Nat × Nat)(P:Pb)(f:Fu):Sc:=⟨f.name,(tell Z N V P.fr (lab P.mask P.level)).1,(tell Z N V P.fr (lab P.mask P.level)).2,bds Z N V P.sinks f.params.length,pc Z N P.sinks,P.gU⟩
def bad(V:Nat->Nat × Nat)(s:Si):Bool:=!Z (PI Z N V s).2 s.lv.toNat
def Gf(V:Nat->Nat × Nat)(P:Pb)(fn:ByteArray):List Dg:=(P.sinks.filter (bad Z N V)).map λs=>⟨6,fn,s.name⟩
end
section
variable {Z : Nat → Nat → Bool} {N n : Nat} {V U : Nat → Nat × Nat}
theorem Tc(aak:bO.Joins Z N){cs:List Co}(h:Ac Z N n cs V):∀v,v<n->V v=least Z N n cs v:=h.unique aak (Classical.epsilon_spec (p:=λV=>Ac Z N n cs V) ⟨V,h⟩)
theorem PL(aak:bO.Joins Z N)(hV:xW N n V):∀{fr:List Int} {a:Nat × Nat},(∀v∈fr,sZ n v=true)->Sv.Ok N a->Sv.Ok N (tell Z N V fr a)
 | [],_,_,ha=>ha
 | v::fr,_,hf,ha=>PL aak hV (fr:=fr) (λu hu=>hf u (nW _ hu)) (Xu aak ha (hV _ (lg (hf v List.mem_cons_self)).2.1))
theorem EP(h:∀v,v<n->V v=U v):∀{fr:List Int} {a:Nat × Nat},(∀v∈fr,sZ n v=true)->tell Z N V fr a=tell Z N U fr a
 | [],_,_=>rfl
 | v::fr,a,hf=>by have h1:=h _ (lg (hf v List.mem_cons_self)).2.1;show tell Z N V fr (Sv.join Z N a (V v.toNat))=tell Z N U fr (Sv.join Z N a (U v.toNat));rw[h1];exact EP h (λu hu=>hf u (nW _ hu))
theorem tell_snoc(fr:List Int)(v:Int)(a:Nat × Nat):tell Z N V (fr++[v]) a=Sv.join Z N (tell Z N V fr a) (V v.toNat):=by unfold tell;rw[IC];rfl
theorem met_le(K:bO.Joins (bO.tr Z) N){a b:Nat}(ha:a<N)(hb:b<N)(h:Z a b=true):met Z N a b=a:=by unfold met;rw[K.comm ha hb];exact K.of_le hb ha h
theorem met_lt(K:bO.Joins (bO.tr Z) N){a b:Nat}(ha:a<N)(hb:b<N):met Z N a b<N:=K.lt ha hb
structure ER(N n:Nat)(s:Si):Prop where
 fr:∀v∈s.fr,sZ n v=true
 lab:wZ N s.mask s.level=true
 lv:0<=s.lv/\s.lv<N
theorem ER.lvN{s:Si}(h:ER N n s):s.lv.toNat<N/\s.lv=(s.lv.toNat:Int):=by have:=h.lv;omega
theorem siL_ok(aak:bO.Joins Z N)(hV:xW N n V){s:Si}(h:ER N n s):Sv.Ok N (PI Z N V s):=PL aak hV h.fr (wh h.lab).1
theorem Td(h:∀v,v<n->V v=U v){s:Si}(hs:ER N n s):PI Z N V s=PI Z N U s:=EP h hs.fr
theorem bdW_lt(K:bO.Joins (bO.tr Z) N){i b:Nat}{s:Si}(hb:b<N)(hs:ER N n s):bdW Z N V i b s<N:=by
 unfold bdW;split;·exact met_lt K hb hs.lvN.1
 ·exact hb
theorem pcW_lt(K:bO.Joins (bO.tr Z) N){b:Nat}{s:Si}(hb:b<N)(hs:ER N n s):pcW Z N b s<N:=by
 unfold pcW;split;·exact met_lt K hb hs.lvN.1
 ·exact hb
theorem PN{g:Nat->Si->Nat}(hg:∀b s,b<N->ER N n s->g b s<N):∀{l:List Si} {b:Nat},(∀s∈l,ER N n s)->b<N->l.foldl g b<N
 | [],_,_,hb=>hb
 | s::l,b,hs,hb=>PN hg (l:=l) (λt ht=>hs t (nW _ ht)) (hg b s hb (hs s List.mem_cons_self))
theorem M0{α β:Type}{g h:β->α->β}:∀{l:List α} {b:β},(∀s∈l,∀b,g b s=h b s)->l.foldl g b=l.foldl h b
 | [],_,_=>rfl
 | s::l,b,hs=>by rw[rQ,rQ,hs s List.mem_cons_self];exact M0 λt ht=>hs t (nW _ ht)
theorem bd_cong(h:∀v,v<n->V v=U v){l:List Si}(hs:∀s∈l,ER N n s)(i:Nat):bd Z N V l i=bd Z N U l i:=
 M0 λs hs' b=>by unfold bdW;rw[Td h (hs s hs')]
theorem Yp(l:List Si)(k:Nat):(bds Z N V l k).length=k:=by unfold bds;rw[dR,tK]
theorem bds_cong(h:∀v,v<n->V v=U v){l:List Si}(hs:∀s∈l,ER N n s)(k:Nat):bds Z N V l k=bds Z N U l k:=
 LW λi _=>by rw[bd_cong h hs]
structure VY(N:Nat)(P:Pb):Prop where
 cons:∀c∈P.cons,La N P.names.length c=true
 sinks:∀s∈P.sinks,ER N P.names.length s
 fr:∀v∈P.fr,sZ P.names.length v=true
 lab:wZ N P.mask P.level=true
theorem Te{P:Pb}(hP:VY N P)(h:∀v,v<P.names.length->V v=U v)(f:Fu):eB Z N V P f=eB Z N U P f:=by unfold eB;rw[EP h hP.fr,bds_cong h hP.sinks]
theorem Tf{P:Pb}(hP:VY N P)(h:∀v,v<P.names.length->V v=U v)(fn:aZ):Gf Z N V P fn=Gf Z N U P fn:=by unfold Gf;congr 1;refine List.filter_congr λs hs=>?_;unfold bad;rw[Td h (hP.sinks s hs)]
end
section
variable {c : Env}
theorem VZ(hc:c.Ok):∀{m:Nat} {x:Ex} {pc:Hg} {s:Sk},c.yx m x->pc.2<c.N->s∈c.Ai m x pc->s.lab<c.N/\0<=s.lv/\s.lv<c.N
 | 0,_,_,_,hx,_,_=>iG hx
 | m+1,x,pc,s,hx,hp,hs=>by
  simp only[Env.Ai,bV,iF]at hs;rcases hs with⟨y,hy,hs⟩|hs;·exact VZ hc (hx.2.2.2 y hy) hp hs
  ·split at hs
   ·rename_i h4;obtain⟨_,ho⟩:=hx.2.2.1 h4;simp only[bV,dG,Env.ZV,jU,jG]at hs;rcases hs with⟨i,hi,rfl⟩|rfl
    ·refine⟨Env.yB hc (hx.2.2.2 _ (Jy hi)),?_⟩;have hb:i<(c.eB x.name).bounds.length:=by rw[ho.bounds];exact hi
     show 0<=(c.eB x.name).bounds.getD i 0/\(c.eB x.name).bounds.getD i 0<c.N;rw[List.getD,bg hb,iK];exact ho.BR _ (jS hb)
    ·exact⟨hp,ho.pc⟩
   ·simp at hs
theorem Yq(hc:c.Ok){m:Nat}{pc:Hg}{s:St}(hp:pc.2<c.N)(he:c.yx m s.e):(c.here m pc s).2<c.N:=Env.OI hc hp (Env.yB hc he)
theorem V3(hc:c.Ok)(hpl:∀s,c.pl s<c.N):∀{m:Nat} {l:List St} {pc:Hg} {s:Sk},c.yA m l->pc.2<c.N->s∈c.KS m l pc->s.lab<c.N/\0<=s.lv/\s.lv<c.N
 | 0,_,_,_,hx,_,_=>iG hx
 | m+1,l,pc,s,hx,hp,hs=>by
  simp only[Env.KS,bV,iF]at hs;obtain⟨t,ht,hs⟩:=hs;obtain⟨_,h2,_,h4,h5,h6⟩:=hx t ht;have hh:=Yq hc hp h2;rcases hs with((hs|hs)|hs)|hs
  ·refine VZ hc h2 ?_ hs;unfold Env.at;split;·exact hh
   ·exact hp
  ·unfold Env.XW Env.skN at hs;split at hs
   ·split at hs;·rename_i n hn;rw[dG]at hs;subst hs;have h1:=hc.nE _ n hn;exact⟨hh,Int.natCast_nonneg n,by show(n:Int)<(c.N:Int);omega⟩
    ·simp at hs
   ·split at hs;·rename_i hk;rw[dG]at hs;subst hs;exact⟨hh,h4 hk,hpl _⟩
    ·simp at hs
  ·exact V3 hc hpl h5 hh hs
  ·exact V3 hc hpl h6 hh hs
theorem V4(hc:c.Ok):∀{m:Nat} {l:List St} {pc:Hg} {s:Cn},c.yA m l->pc.2<c.N->s∈c.Jw m l pc->s.lab<c.N/\s.to∈c.xB m l
 | 0,_,_,_,hx,_,_=>iG hx
 | m+1,l,pc,s,hx,hp,hs=>by
  simp only[Env.Jw,bV,iF]at hs;obtain⟨t,ht,hs⟩:=hs;obtain⟨_,h2,_,h4,h5,h6⟩:=hx t ht;have hh:=Yq hc hp h2;simp only[Env.xB,bV,iF];rcases hs with(hs|hs)|hs
  ·unfold Env.ZW Env.cnN at hs;split at hs
   ·rename_i hk;split at hs;·simp at hs
    ·rename_i hn;rw[dG]at hs;subst hs;refine⟨hh,t,ht,aR (aR (aT ?_))⟩;unfold Env.F4 Env.Ll;rw[aL hk,hn];exact dG.2 rfl
   ·simp at hs
  ·obtain⟨a,b⟩:=V4 hc h5 hh hs;exact⟨a,t,ht,aR (aT b)⟩
  ·obtain⟨a,b⟩:=V4 hc h6 hh hs;exact⟨a,t,ht,aT b⟩
theorem Kg{nl vs:List aZ}:∀v∈nums nl vs,sZ nl.length v=true:=λv hv=>by have:=nums_bd hv;unfold sZ;simp only[dS,iA];exact this
theorem Dv{N a b:Nat}(ha:a<=15)(hb:b<N):wZ N (a:Int) (b:Int)=true:=by unfold wZ;simp only[dS,iA];omega
theorem prob_ok(hc:c.Ok)(hpl:∀s,c.pl s<c.N){m:Nat}{f:Fu}(h1:c.yA m f.body)(h2:c.yx m f.result)(h4:f.params.length<=4):VY c.N (c.jq m f):=by
 have hlow:(([],c.low):Hg).2<c.N:=hc.low;have hpar:f.params.length<=(c.names m f).length:=by unfold Env.names;obtain⟨t,ht⟩:=adds_pre (c.xB m f.body++c.nO m f.result) f.params;rw[ht,aW];omega
 refine⟨λk hk=>?_,λs hs=>?_,Kg,Dv (bI _) (Env.yB hc h2)⟩
 ·simp only[Env.jq,bV,jU,jG]at hk;rcases hk with⟨i,hi,rfl⟩|⟨s,hs,rfl⟩
  ·have h15:2 ^ i<=15:=by
    have:i<=3:=by omega
    calc 2 ^ i<=2 ^ 3:=Nat.pow_le_pow_right bP this
     _<=15:=by decide
   have e:=Dv (N:=c.N) h15 hc.low;unfold La CZ;simp only[List.all_nil,lV,dS];refine⟨?_,e⟩;unfold sZ;simp only[dS,iA];show(0:Int)<=(i:Int)/\(i:Int)<((c.names m f).length:Int);omega
  ·obtain⟨a,b⟩:=V4 hc h1 hlow hs;have hin:s.to∈c.names m f:=by unfold Env.names;exact sw.2 (aT (bV.2 (aR b)))
   obtain⟨i,hi⟩:=wF hin;have hlt:i<(c.names m f).length:=by have:=uQ hi;exact(dz.1 this).1
   have e:=Dv (N:=c.N) (bI 15) a;unfold La Bh;simp only[dS,gY];refine⟨Kg,?_,e⟩;rw[hi,iK];unfold sZ;simp only[dS,iA];show(0:Int)<=(i:Int)/\(i:Int)<((c.names m f).length:Int);omega
 ·simp only[Env.jq,jU]at hs;obtain⟨s',hs',rfl⟩:=hs;have hk:s'.lab<c.N/\0<=s'.lv/\s'.lv<c.N:=by
   rcases bV.1 hs' with h|h;·exact V3 hc hpl h1 hlow h
   ·exact VZ hc h2 hlow h
  exact⟨Kg,Dv (bI _) hk.1,hk.2⟩
theorem LD(m:Nat)(f:Fu):(c.jq m f).cons.length=f.params.length+c.uR m f.body:=by simp only[Env.jq,aW,dR,tK,VU]
end
noncomputable def inf(ss:List ByteArray)(Z:Nat->Nat->Bool)(m:Nat)(x:Mo)(known:List Mo)(bJ:List (List Sc)):Nat->List Sc × List Dg
 | 0=>([],[])
 | k+1=>match x.bq[k]? with
  | none=>inf ss Z m x known bJ k
  | some f=>
   let r:=inf ss Z m x known bJ k
   let P:=(fP ss Z x k known bJ r.1 f).jq m f
   let V:=least Z ss.length P.names.length P.cons
   (r.1++[eB Z ss.length V P f],r.2++Gf Z ss.length V P f.name)
noncomputable def qm(ss:List ByteArray)(G:Nat)(L:Nat->Nat)(Z:Nat->Nat->Bool)(m:Nat)(x:Mo)(known:List Mo)(bJ:List (List Sc)):Nat->Int
 | 0=>0
 | k+1=>if qm ss G L Z m x known bJ k≠0 then qm ss G L Z m x known bJ k else Qn ss G L Z m x k known bJ (inf ss Z m x known bJ k).1 40 1000
end Sm
open Sm
theorem og.strs{w:World}{B:Nat}{v:Value}{l:List aZ}(h:og w B v l)(hz:∀u∈l,u.size<=maxLen)(hl:l.length<=9223372036854775807):Strs w v l:=by
 rcases h with⟨rfl,rfl⟩|⟨g,cap,rfl,_,hr⟩;·exact⟨none,0,0,0,rfl,λh=>aN h cZ,by simp,hz,λi hi=>aN hi cZ⟩
 ·refine⟨_,g,0,cap,rfl,λ_=>rfl,hl,hz,λi hi=>?_⟩;rw[eu,hr.cell (bg hi),List.getD,bg hi];rfl
def CoL(w:World)(v:Value)(l:List Co):Prop:=
 ∃(a:Option Addr) (b off cap:Nat),v=.slice a l.length cap/\(0<l.length->a=some ⟨b,off,none⟩)/\l.length<=9223372036854775807/\
  ∀(i:Nat) y,l[i]?=some y->∃vf,w.cell? ⟨b,off+i*4,none⟩=some (.int .i64 y.to)/\w.cell? ⟨b,off+i*4+1,none⟩=some vf/\w.cell? ⟨b,off+i*4+2,none⟩=some (.int .i64 y.mask)/\w.cell? ⟨b,off+i*4+3,none⟩=some (.int .i64 y.level)/\Ints w vf y.fr
def SiL(w:World)(v:Value)(l:List Si):Prop:=
 ∃(a:Option Addr) (b off cap:Nat),v=.slice a l.length cap/\(0<l.length->a=some ⟨b,off,none⟩)/\l.length<=9223372036854775807/\
  ∀(i:Nat) y,l[i]?=some y->∃vf,w.cell? ⟨b,off+i*6,none⟩=some vf/\w.cell? ⟨b,off+i*6+1,none⟩=some (.int .i64 y.mask)/\w.cell? ⟨b,off+i*6+2,none⟩=some (.int .i64 y.level)/\w.cell? ⟨b,off+i*6+3,none⟩=some (.int .i64 y.lv)/\w.cell? ⟨b,off+i*6+4,none⟩=some (.string y.name)/\w.cell? ⟨b,off+i*6+5,none⟩=some (.bool y.gU)/\Ints w vf y.fr
theorem CoL.below{w w':World}{v:Value}{l:List Co}(h:CoL w v l)(hb:bG w w'):CoL w' v l:=by obtain⟨a,b,off,cap,e,h0,hl,h1⟩:=h;refine⟨a,b,off,cap,e,h0,hl,λi y hy=>?_⟩;obtain⟨vf,g0,g1,g2,g3,k⟩:=h1 i y hy;exact⟨vf,aC g0 hb,aC g1 hb,aC g2 hb,aC g3 hb,k.below hb⟩
theorem SiL.below{w w':World}{v:Value}{l:List Si}(h:SiL w v l)(hb:bG w w'):SiL w' v l:=by obtain⟨a,b,off,cap,e,h0,hl,h1⟩:=h;refine⟨a,b,off,cap,e,h0,hl,λi y hy=>?_⟩;obtain⟨vf,g0,g1,g2,g3,g4,g5,k⟩:=h1 i y hy;exact⟨vf,aC g0 hb,aC g1 hb,aC g2 hb,aC g3 hb,aC g4 hb,aC g5 hb,k.below hb⟩
theorem coL_of{w:World}{n:Nat}{v:Value}{l:List Co}(h:d9 CoT w n 261 4 v l)(hl:l.length<=9223372036854775807):CoL w v l:=by
 by_cases h0:l=[];·subst h0;obtain⟨a,c,rfl⟩:=h.form;exact⟨a,0,0,c,rfl,λh=>aN h cZ,by simp,λi y hy=>aN hy cZ⟩
 ·obtain⟨y0,hy0⟩:∃y,l[0]?=some y:=by
   cases l with
   | nil=>exact aN rfl h0
   | cons y l=>exact⟨y,rfl⟩
  obtain⟨g,cap,hv,-⟩:=h.get hy0;refine⟨_,g,0,cap,hv,λ_=>rfl,hl,λi y hy=>?_⟩;obtain⟨g',cap',hv',c,hc4,Dw,hat⟩:=h.get hy;obtain rfl:g'=g:=by rw[hv]at hv';injection hv' with hv';injection hv' with hv';injection hv' with hv';exact hv'.symm
  obtain⟨vf,hi,rfl⟩:=hat;obtain⟨k0,k1,k2,k3⟩:=rG (Dw 0 aV) (Dw 1 aV) (Dw 2 aV) (Dw 3 aV);rw[eu];exact⟨vf,k0,k1,k2,k3,hi.ints⟩
theorem siL_of{w:World}{n:Nat}{v:Value}{l:List Si}(h:d9 SiC w n 209 6 v l)(hl:l.length<=9223372036854775807):SiL w v l:=by
 by_cases h0:l=[];·subst h0;obtain⟨a,c,rfl⟩:=h.form;exact⟨a,0,0,c,rfl,λh=>aN h cZ,by simp,λi y hy=>aN hy cZ⟩
 ·obtain⟨y0,hy0⟩:∃y,l[0]?=some y:=by
   cases l with
   | nil=>exact aN rfl h0
   | cons y l=>exact⟨y,rfl⟩
  obtain⟨g,cap,hv,-⟩:=h.get hy0;refine⟨_,g,0,cap,hv,λ_=>rfl,hl,λi y hy=>?_⟩;obtain⟨g',cap',hv',c,hc4,Dw,hat⟩:=h.get hy;obtain rfl:g'=g:=by rw[hv]at hv';injection hv' with hv';injection hv' with hv';injection hv' with hv';exact hv'.symm
  obtain⟨vf,hi,rfl⟩:=hat;obtain⟨k0,k1,k2,k3⟩:=rG (Dw 0 aV) (Dw 1 aV) (Dw 2 aV) (Dw 3 aV);obtain⟨k4,k5⟩:=eD (Dw 4 aV) (Dw 5 aV);rw[eu];exact⟨vf,k0,k1,k2,k3,k4,k5,hi.ints⟩
theorem Ints.Dx{w:World}{v:Value}{l:List Int}(h:Ints w v l):∃a c,v=Y a l.length c:=by obtain⟨a,b,off,cap,e,-⟩:=h;exact⟨a,cap,e⟩
structure PbV(w:World)(dZ vc vs vf ve:Value)(P:Pb):Prop where
 names:Strs w dZ P.names
 cons:CoL w vc P.cons
 sinks:SiL w vs P.sinks
 fr:Ints w vf P.fr
 gU:Strs w ve P.gU
theorem PbV.below{w w':World}{dZ vc vs vf ve:Value}{P:Pb}(h:PbV w dZ vc vs vf ve P)(hb:bG w w'):PbV w' dZ vc vs vf ve P:=⟨h.names.below hb,h.cons.below hb,h.sinks.below hb,h.fr.below hb,h.gU.below hb⟩
theorem iD{w:World}{v:Value}{l:List aZ}(h:Strs w v l):∃a c,v=Y a l.length c:=by obtain⟨a,b,off,cap,e,-⟩:=h;exact⟨a,cap,e⟩
theorem CoL.form{w:World}{v:Value}{l:List Co}(h:CoL w v l):∃a c,v=Y a l.length c:=by obtain⟨a,b,off,cap,e,-⟩:=h;exact⟨a,cap,e⟩
theorem SiL.form{w:World}{v:Value}{l:List Si}(h:SiL w v l):∃a c,v=Y a l.length c:=by obtain⟨a,b,off,cap,e,-⟩:=h;exact⟨a,cap,e⟩
structure So where
 vn:Value
 vl:Value
 v0:Value
 v1:Value
 v2:Value
 v3:Value
 ma:Int
 lv:Int
 v4:Value
 vL:Value
 vK:Value
def So.cs(s:So):Array Value:=#[s.vn,s.vl,s.v0,s.v1,s.v2,s.v3,.int .i64 s.ma,.int .i64 s.lv,s.v4,s.vL,s.vK]
def So.Form(s:So):Prop:=(∃a n c,s.vn=.slice a n c)/\(∃a n c,s.vl=.slice a n c)/\(∃a n c,s.v0=.slice a n c)/\(∃a n c,s.v1=.slice a n c)/\(∃a n c,s.v2=.slice a n c)/\(∃a n c,s.v3=.slice a n c)/\(∃a n c,s.v4=.slice a n c)/\(∃a n c,s.vL=.slice a n c)/\∃a n c,s.vK=.slice a n c
def Dy(l:List (Nat × Nat)):List (Int × Int):=l.map λx=>((x.1:Int),(x.2:Int))
theorem ES{l:List (Nat × Nat)}{i:Nat}{x:Nat × Nat}(h:l[i]?=some x):(Dy l)[i]?=some ((x.1:Int),(x.2:Int)):=by unfold Dy;rw[pY,h];rfl
theorem uV(l:List (Nat × Nat)):(Dy l).length=l.length:=dR ..
theorem PO(s:So)(h:s.Form):∃a0 n0 c0 a1 n1 c1 a2 n2 c2 a3 n3 c3 a4 n4 c4 a5 n5 c5 a6 n6 c6 a7 n7 c7 a8 n8 c8,s=⟨Y a0 n0 c0,Y a1 n1 c1,Y a2 n2 c2,Y a3 n3 c3,Y a4 n4 c4,Y a5 n5 c5,s.ma,s.lv,Y a6 n6 c6,Y a7 n7 c7,Y a8 n8 c8⟩:=by obtain⟨vn,vl,v0,v1,v2,v3,mk,lv,v4,vL,vK⟩:=s;obtain⟨⟨a0,n0,c0,rfl⟩,⟨a1,n1,c1,rfl⟩,⟨a2,n2,c2,rfl⟩,⟨a3,n3,c3,rfl⟩,⟨a4,n4,c4,rfl⟩,⟨a5,n5,c5,rfl⟩,⟨a6,n6,c6,rfl⟩,⟨a7,n7,c7,rfl⟩,⟨a8,n8,c8,rfl⟩⟩:=h;exact⟨_,_,_,_,_,_,_,_,_,_,_,_,_,_,_,_,_,_,_,_,_,_,_,_,_,_,_,rfl⟩
theorem mK.forms{w:World}{vn vl:Value}{ss:List aZ}{G:Nat}{L:Nat->Nat}{Z:Nat->Nat->Bool}(h:mK w vn vl ss G L Z):(∃a c,vn=Y a ss.length c)/\∃a n c,vl=Y a n c:=by refine⟨iD h.strs,?_⟩;obtain⟨gb,go,gc,RB,RO,C,e,-⟩:=h.grid;exact⟨_,_,_,e⟩
theorem pairE_ok{w:World}{vn vl:Value}{ss:List aZ}{G:Nat}{L:Nat->Nat}{Z:Nat->Nat->Bool}(h:mK w vn vl ss G L Z){a b:Nat}(ha:a<ss.length)(hb:b<ss.length):Ae ss G L Z a b=0:=by unfold Ae;rw[aL h.ok];refine aL ?_;unfold bO.BR;simp only[dS,iA];omega
theorem Yr(w:World)(s:So)(ss:List aZ)(G:Nat)(L:Nat->Nat)(Z:Nat->Nat->Bool)(a b:Nat)(hF:s.Form)(hL:mK w s.vn s.vl ss G L Z)(ha:a<ss.length)(hb:b<ss.length):Calls prog 113 #[.agg s.cs,O a,O b] w λe w'=>e=cO (O (Sm.met Z ss.length a b:Nat))/\bG w w':=by
 obtain⟨a0,n0,c0,a1,n1,c1,a2,n2,c2,a3,n3,c3,a4,n4,c4,a5,n5,c5,a6,n6,c6,a7,n7,c7,a8,n8,c8,hs⟩:=PO s hF;generalize s.ma=mk at hs;generalize s.lv=lv at hs;subst hs;simp only[So.cs]at hL ⊢;obtain⟨W,hW⟩:=bC (w.alloc (aY #[Y a0 n0 c0,Y a1 n1 c1,Y a2 n2 c2,Y a3 n3 c3,Y a4 n4 c4,Y a5 n5 c5,O mk,O lv,Y a6 n6 c6,Y a7 n7 c7,Y a8 n8 c8] 133));have dO:Hid (bG w W):=I (by rw[hW];exact aH _ _);have lD:Hid (W.heap[w.heap.size]?=some (aY #[Y a0 n0 c0,Y a1 n1 c1,Y a2 n2 c2,Y a3 n3 c3,Y a4 n4 c4,Y a5 n5 c5,O mk,O lv,Y a6 n6 c6,Y a7 n7 c7,Y a8 n8 c8] 133)):=I (by rw[hW];exact bD _ _);have HME:=I (meet_ok W (Y a0 n0 c0) (Y a1 n1 c1) ss G L Z a b (hL.strs.below dO) (hL.Qg.below dO) (pairE_ok hL ha hb));have HMM:Hid (Z a b=true->Sm.met Z ss.length a b=a):=I (λh=>met_le hL.meets ha hb h);have HM2:Hid (mW (bO.tr Z) ss.length a b=Sm.met Z ss.length a b):=I rfl;rw[HM2]at HME;obtain⟨gb,go,gc,RB,RO,C,e1,h1,h2⟩:=(hL.below dO).grid;obtain⟨r1,r2⟩:=eD (h1 a ha) (h2 a b ha hb);injection e1 with ea en ec;subst ea en ec;have hi1:(a:Int)<(ss.length:Int):=by omega
 have hi2:(b:Int)<(ss.length:Int):=by omega
 generalize ss.length=N at *;generalize Sm.met Z N a b=mt at *;generalize LM (bO.tr Z) N a b=je at *;obtain⟨x0,x1⟩:=jm lD;clear h1 h2 hL ha hb;cases hz:Z a b with
 | true =>rw[hz]at r2;have HMT:=I (HMM hz);clear hz;go_enter func113,ntmps113;go_upto_region 1 with fail;rw[<-hW];clear hW;go_wp2_with fail;go_ret;exact⟨by rw[HMT];rfl,dO⟩
 | false =>rw[hz]at r2;clear hz;go_enter func113,ntmps113;go_upto_region 1 with fail;rw[<-hW];clear hW;go_wp2_with fail;refine HME.mono ?_;rintro e w5 ⟨rfl,hb5⟩;have dW:=I (up dO hb5);clear hb5;go_wp2_with fail;go_ret;exact⟨rfl,dW⟩
theorem Tg(w:World)(s:So)(ss:List aZ)(G:Nat)(L:Nat->Nat)(Z:Nat->Nat->Bool)(n:Nat)(V:Nat->Nat × Nat)(vf:Value)(fr:List Int)(a:Nat × Nat)(hF:s.Form)(hL:mK w s.vn s.vl ss G L Z)(hV:lZ w s.vL (Sv.list n V))(hO:xW ss.length n V)(hI:Ints w vf fr)(hf:∀v∈fr,sZ n v=true)(ha:Sv.Ok ss.length a):Calls prog 110 #[.agg s.cs,vf,.agg #[O (a.1:Nat),O (a.2:Nat)]] w λe w'=>e=cO (.agg #[O ((Sm.tell Z ss.length V fr a).1:Nat),O ((Sm.tell Z ss.length V fr a).2:Nat)])/\bG w w':=by
 obtain⟨a0,n0,c0,a1,n1,c1,a2,n2,c2,a3,n3,c3,a4,n4,c4,a5,n5,c5,a6,n6,c6,a7,n7,c7,a8,n8,c8,hs⟩:=PO s hF;generalize s.ma=mk at hs;generalize s.lv=lv at hs;subst hs;simp only[So.cs]at hL hV ⊢;obtain⟨W,hW,k0,k1,k2,hsz,hBW⟩:=al3 w (aY #[Y a0 n0 c0,Y a1 n1 c1,Y a2 n2 c2,Y a3 n3 c3,Y a4 n4 c4,Y a5 n5 c5,O mk,O lv,Y a6 n6 c6,Y a7 n7 c7,Y a8 n8 c8] 133) (aY #[O (a.1:Nat),O (a.2:Nat)] 33) (aY #[O 0,O 0] 33);obtain⟨iN,lD,jl,Kc⟩:=mg hBW k0 k1 k2;have HN01:Hid (w.heap.size≠w.heap.size+1/\w.heap.size+1+1≠w.heap.size+1):=I ⟨by omega,by omega⟩;obtain⟨fa,fb,fo,fc,rfl,hfa,hfl,yI⟩:=hI;obtain⟨nf,hnf⟩:=bC fr.length;have uH:=I hnf;rw[<-hnf]at hfa hfl ⊢;obtain⟨PE,uO,Cg⟩:=fq hfa yI hL;obtain⟨la,lb,lo,lc,hle,hla,hll,hlel⟩:=hV;rw[Dt]at hle hla hll;injection hle with e1 e2 e3;subst e1 e2 e3;obtain⟨HLA0,jR,HJ,HO⟩:=mg hla hlel (hL.joins) hO;have HF':=I hf;have HA:=I ha;have hn40:n7<=9223372036854775807:=hll;clear hnf hfa yI hla hlel k0 k1 k2 hBW hsz hL hO hf ha hll;go_enter func110,ntmps110;go_upto_region 1 with fail;rw[<-hW];clear hW;go_wp2_with fail;go_loopw[11] (λi wr=>∃j:Nat,j<=nf/\i=O j/\Hid (wr.heap[w.heap.size+1]?=some (aY #[O ((Sm.tell Z ss.length V (fr.take j) a).1:Nat),O ((Sm.tell Z ss.length V (fr.take j) a).2:Nat)] 33)/\But (w.heap.size+1) W wr)) (λi _=>nf - (intOf i).toNat);case atStart=>exact⟨0,bI _,rfl,I ⟨jl,But.refl _ _⟩⟩
 case round=>
  obtain⟨j,hj,rfl,HR⟩:=hrel;have Eb:=I (HR.2.below (B:=w.heap.size+1) (bF _) (by have:=bE jl;omega));have HBW':Hid (bG w wr):=I (iN.trans (HR.2.below (dJ _) iN.size));obtain⟨HK0R,HK2R⟩:=bT (HR.2.at HN01.1 lD) (HR.2.at HN01.2 Kc);obtain⟨y,hy⟩:=bC (Sm.tell Z ss.length V (fr.take j) a);have HYK:Hid (Sv.Ok ss.length y):=I (by rw[hy];exact PL HJ HO (λv hv=>HF'.out v (Sy hv)) HA);have HKY:Hid (wr.heap[w.heap.size+1]?=some (aY #[O (y.1:Nat),O (y.2:Nat)] 33)):=I (by rw[hy];exact HR.1);have HY:=I hy;clear hy;by_cases hjl:j<nf
  ·obtain⟨v,hv⟩:∃v,fr[j]?=some v:=⟨_,bg (by rw[<-uH];exact hjl)⟩;obtain⟨hv0,hvn,hve⟩:=lg (HF'.out v (dN hv));obtain⟨k,hk⟩:=bC v.toNat;rw[<-hk]at hvn hve;have dM:Hid (Sm.tell Z ss.length V (fr.take (j+1)) a=Sv.join Z ss.length y (V k)):=I (by rw[gH,hv,lM,tell_snoc,<-HY,<-hk]);obtain rfl:=PE aV;have gv:=aC (uO j v hv) HBW'.out;rw[hve]at gv;obtain rfl:=HLA0 aV;obtain⟨g0,g1⟩:=jR k _ (Sw V hvn);replace g0:=aX (aC g0 HBW'.out);replace g1:=aX (aC g1 HBW'.out);have HJC:Hid (∀q os,Calls prog 175 #[.agg #[Y a0 n0 c0,Y a1 n1 c1],.agg #[O (y.1:Nat),O (y.2:Nat)],.agg #[O ((V k).1:Nat),O ((V k).2:Nat)]] (gn wr q os) λe w'=>e=cO (.agg #[O ((Sv.join Z ss.length y (V k)).1:Nat),O ((Sv.join Z ss.length y (V k)).2:Nat)])/\Below (gn wr q os).heap.size (gn wr q os) w'):=I λq os =>FV (gn wr q os) _ _ ss G L Z y (V k) (Cg.below (up HBW'.out (bR wr q os))) HYK (HO k hvn);obtain⟨x0,x1,x9,y0⟩:=rG (aX ((aj HK0R 0).trans rfl)) (aX ((aj HK0R 1).trans rfl)) (aX ((aj HK0R 9).trans rfl)) (aX ((aj HKY 0).trans rfl));have y1:=aX ((aj HKY 1).trans rfl);have hk0:(0:Int)<=(k:Int):=by omega
   have hkn:(k:Int)<(n7:Int):=by omega
   have HKN:Hid (k<n7):=I hvn;generalize Sv.join Z ss.length y (V k)=jn at *;generalize (V k).1=vk1 at *;generalize (V k).2=vk2 at *;clear hv hv0 hvn hve hk;go_wp2_with fail;refine fI 9 bU bU ?_;dsimp only[List.take,List.drop];repeat(quiet_step ((exact Calls.pX (HJC.out _ _))))
   refine wpQuiet_nil ?_;intro w6 hw';obtain⟨⟨nq,osq⟩,hw''⟩:=hw';have eF:Hid (bG wr w6):=I (by rw[hw''];exact bR wr nq osq);have Vm:=I (aU HKY.out eF.out);obtain⟨r0,r1⟩:=jm Vm.out;obtain⟨z0,z1⟩:=eD (aG Vm.out 0) (aG Vm.out 1);clear hw'' g0 g1 x0 x1 x9 y0 y1 gv;go_wp2_with fail;go_roundw;case rel=>exact⟨j+1,by omega,by go_num,I ⟨by rw[dM.out];exact wT Vm.out _ _,((HR.out.2.trans (But.of_below eF.out)).set (aR rfl) _).set (aR rfl) _⟩⟩
   case measure=>simp[intOf];omega
  ·obtain rfl:j=nf:=by omega
   have Nr:Hid (Sm.tell Z ss.length V fr a=y):=I (by rw[HY,uH,iL]);obtain⟨y0,y1⟩:=jm HKY;obtain⟨r0,r1⟩:=jm HK2R;obtain⟨z0,z1⟩:=eD (aG HK2R 0) (aG HK2R 1);go_wp2_with fail;have hs:=wT HK2R (O (y.1:Nat)) (O (y.2:Nat));obtain⟨f0,f1⟩:=jm hs;refine bW (v:=.agg #[O (y.1:Nat),O (y.2:Nat)]) (by simp[results,results110,go_sem,f0,f1]) rfl ⟨by rw[Nr],?_⟩;exact jD HBW'.out (bH (dJ _) (dJ _)) _ _
theorem set11{W:World}{B:Nat}{t:TypeId}{q0 q1 q2 q3 q4 q5 q6 q7 q8 q9 q10:Value}(h:W.heap[B]?=some (.cells #[q0,q1,q2,q3,q4,q5,q6,q7,q8,q9,q10] t (0,0)))(r0 r1 r2 r3 r4 r5 r6 r7 r8 r9 Yt:Value):(((((((((((W.setCell (X B 0) r0).setCell (X B 1) r1).setCell (X B 2) r2).setCell (X B 3) r3).setCell (X B 4) r4).setCell (X B 5) r5).setCell (X B 6) r6).setCell (X B 7) r7).setCell (X B 8) r8).setCell (X B 9) r9).setCell (X B 10) Yt).heap[B]?=some (.cells #[r0,r1,r2,r3,r4,r5,r6,r7,r8,r9,Yt] t (0,0)):=by have t0:(W.setCell (X B 0) r0).heap[B]?=some (.cells #[r0,q1,q2,q3,q4,q5,q6,q7,q8,q9,q10] t (0,0)):=aP h 0 r0;have t1:=aP t0 1 r1;have t2:=aP t1 2 r2;have t3:=aP t2 3 r3;have t4:=aP t3 4 r4;have t5:=aP t4 5 r5;have t6:=aP t5 6 r6;have t7:=aP t6 7 r7;have t8:=aP t7 8 r8;have t9:=aP t8 9 r9;have t10:=aP t9 10 Yt;simpa using t10
theorem but_set11{w W:World}{B:Nat}(h:But B w W)(r0 r1 r2 r3 r4 r5 r6 r7 r8 r9 Yt:Value):But B w (((((((((((W.setCell (X B 0) r0).setCell (X B 1) r1).setCell (X B 2) r2).setCell (X B 3) r3).setCell (X B 4) r4).setCell (X B 5) r5).setCell (X B 6) r6).setCell (X B 7) r7).setCell (X B 8) r8).setCell (X B 9) r9).setCell (X B 10) Yt):=
 ((((((((((h.set (aR rfl) _).set (aR rfl) _).set (aR rfl) _).set (aR rfl) _).set (aR rfl) _).set (aR rfl) _).set (aR rfl) _).set (aR rfl) _).set (aR rfl) _).set (aR rfl) _).set (aR rfl) _
def LbT(_:World)(c:List Value)(x:Nat × Nat):Prop:=c=[.int .i64 (x.1:Nat),.int .i64 (x.2:Nat)]
theorem infoLbA:(prog.info? 33).map (λi=>(i.zero,i.size,i.bytes))=some (some (.agg #[O 0,O 0]),2,16):=by kernel_rfl
theorem lbT_las{w:World}{n:Nat}{v:Value}{l:List (Nat × Nat)}(h:d9 LbT w n 33 2 v l)(hl:l.length<=9223372036854775807):lZ w v (Dy l):=by
 by_cases h0:l=[];·subst h0;obtain⟨a,c,rfl⟩:=h.form;exact⟨a,0,0,c,rfl,λh=>aN h (by simp[Dy]),by simp[Dy],λi y hy=>aN hy (by simp[Dy])⟩
 ·obtain⟨y0,hy0⟩:∃y,l[0]?=some y:=by
   cases l with
   | nil=>exact aN rfl h0
   | cons y l=>exact⟨y,rfl⟩
  obtain⟨g,cap,hv,-⟩:=h.get hy0;refine⟨_,g,0,cap,by rw[uV];exact hv,λ_=>rfl,by rw[uV];exact hl,λi y hy=>?_⟩;have hi:i<l.length:=by have:=(dz.1 hy).1;rwa[uV]at this
  rw[ES (bg hi)]at hy;cases hy;obtain⟨g',cap',hv',c,hc4,Dw,hat⟩:=h.get (bg hi);obtain rfl:g'=g:=by rw[hv]at hv';injection hv' with hv';injection hv' with hv';injection hv' with hv';exact hv'.symm
  unfold LbT at hat;subst hat;rw[eu];exact⟨Dw 0 aV,Dw 1 aV⟩
theorem CoL.cos{w:World}{v:Value}{l:List Co}(h:CoL w v l):Mv w v l:=by obtain⟨a,b,off,cap,e,h0,hl,h1⟩:=h;refine⟨a,b,off,cap,e,h0,hl,λi x hx=>?_⟩;obtain⟨vf,g0,g1,g2,g3,k⟩:=h1 i x hx;exact⟨vf,k,g0,g1,g2,g3⟩
structure Bn(n B:Nat)(w w':World):Prop where
 os:w'.os=w.os
 tape:w'.tape=w.tape
 output:w'.output=w.output
 size:w.heap.size<=w'.heap.size
 block:∀k,k<n->k≠B->w'.heap[k]?=w.heap[k]?
theorem Bn.refl(n B:Nat)(w:World):Bn n B w w:=⟨rfl,rfl,rfl,bF _,λ_ _ _=>rfl⟩
theorem Bn.trans{n B:Nat}{w w' w'':World}(h:Bn n B w w')(k:Bn n B w' w''):Bn n B w w'':=⟨k.os.trans h.os,k.tape.trans h.tape,k.output.trans h.output,bH h.size k.size,λi hi hB=>(k.block i hi hB).trans (h.block i hi hB)⟩
theorem Bn.of_below{n B:Nat}{w w':World}(h:bG w w')(hn:n<=w.heap.size):Bn n B w w':=⟨h.os,h.tape,h.output,h.size,λk hk _=>h.block k aV⟩
theorem Bn.set{n B:Nat}{w w':World}(h:Bn n B w w')(i:Nat)(v:Value):Bn n B w (w'.setCell (X B i) v):=⟨h.os,h.tape,h.output,by simp only[World.setCell,DY];exact h.size,λk hk hB=>(uE _ _ _ _ hB).trans (h.block k hk hB)⟩
theorem Bn.grown{n B:Nat}{w w' w2:World}(h:Bn n B w w'){r:Option Nat}(hg:w'.grownBy w2 r)(hr:∀k,r=some k->n<=k)(hn:n<=w'.heap.size):Bn n B w w2:=⟨hg.os.trans h.os,hg.tape.trans h.tape,hg.output.trans h.output,bH h.size hg.size,λk hk hB=>(hg.block k aV (λe=>by have:=hr k e.symm;omega)).trans (h.block k hk hB)⟩
theorem Bn.below{n m B:Nat}{w w':World}(h:Bn n B w w')(hm:m<=n)(hB:m<=B):Below m w w':=⟨h.os,h.tape,h.output,h.size,λk hk=>h.block k aV aV⟩
def La0(v:Value):Prop:=∀a n c,v=.slice (some a) n c->∃b,a=⟨b,0,none⟩
theorem d9.la0{α:Type}{At:World->List Value->α->Prop}{w:World}{n e k:Nat}{v:Value}{l:List α}(h:d9 At w n e k v l):La0 v:=by
 obtain⟨_,h,_⟩:=h;rcases h.2 with⟨h1,h2⟩|⟨g,cap,cur,h1,_⟩;·intro a n c h;rw[h1]at h;injection h with h;cases h
 ·intro a n c h;rw[h1]at h;injection h with h;injection h with h;exact⟨g,h.symm⟩
theorem lZ.bn{w w':World}{n B g m c:Nat}{l:List (Int × Int)}(h:lZ w (Y (some (X g 0)) m c) l)(hb:Bn n B w w')(hg:l≠[]->g<n/\g≠B):lZ w' (Y (some (X g 0)) m c) l:=by
 obtain⟨a,b,off,cap,e,h0,hl,h1⟩:=h;refine⟨a,b,off,cap,e,h0,hl,λi x hx=>?_⟩;have hne:l≠[]:=λh=>by rw[h]at hx;simp at hx
 injection e with e1 e2 e3;have hb':=h0 (uF.2 hne);rw[<-e1]at hb';injection hb' with hb';injection hb' with hb1 hb2;obtain⟨k0,k1⟩:=h1 i x hx;have hk:=hb.block g (hg hne).1 (hg hne).2;rw[hb1]at hk;exact⟨(jL hk).trans k0,(jL hk).trans k1⟩
theorem M4{w:World}{g m c B:Nat}{l:List (Int × Int)}(h:lZ w (Y (some (X g 0)) m c) l){a:Option Addr}{n k:Nat}(hB:w.cell? (X B 0)=some (Y a n k))(hne:l≠[]):g<w.heap.size/\g≠B:=by
 obtain⟨a',b,off,cap,e,h0,hl,h1⟩:=h;obtain⟨x,hx⟩:∃x,l[0]?=some x:=by
  cases l with
  | nil=>exact aN rfl hne
  | cons x l=>exact⟨x,rfl⟩
 injection e with e1 e2 e3;have hb':=h0 (uF.2 hne);rw[<-e1]at hb';injection hb' with hb';injection hb' with hb1 hb2;obtain⟨k0,_⟩:=h1 0 x hx;rw[<-hb1,<-hb2]at k0;refine⟨eZ _ _ k0,λe'=>?_⟩;subst e';have k0':w.cell? (X g 0)=some (O x.1):=k0;rw[hB]at k0';cases k0'
theorem bn_set11{n B:Nat}{w W:World}(h:Bn n B w W)(r0 r1 r2 r3 r4 r5 r6 r7 r8 r9 Yt:Value):Bn n B w (((((((((((W.setCell (X B 0) r0).setCell (X B 1) r1).setCell (X B 2) r2).setCell (X B 3) r3).setCell (X B 4) r4).setCell (X B 5) r5).setCell (X B 6) r6).setCell (X B 7) r7).setCell (X B 8) r8).setCell (X B 9) r9).setCell (X B 10) Yt):=
 ((((((((((h.set 0 _).set 1 _).set 2 _).set 3 _).set 4 _).set 5 _).set 6 _).set 7 _).set 8 _).set 9 _).set 10 _
theorem Ti{n B:Nat}{w W:World}(h:Below n w W)(hB:n<=B)(r0 r1 r2 r3 r4 r5 r6 r7 r8 r9 Yt:Value):Below n w (((((((((((W.setCell (X B 0) r0).setCell (X B 1) r1).setCell (X B 2) r2).setCell (X B 3) r3).setCell (X B 4) r4).setCell (X B 5) r5).setCell (X B 6) r6).setCell (X B 7) r7).setCell (X B 8) r8).setCell (X B 9) r9).setCell (X B 10) Yt):=by have t0:=h.setCell (p:=(X B 0)) hB r0;have t1:=t0.setCell (p:=(X B 1)) hB r1;have t2:=t1.setCell (p:=(X B 2)) hB r2;have t3:=t2.setCell (p:=(X B 3)) hB r3;have t4:=t3.setCell (p:=(X B 4)) hB r4;have t5:=t4.setCell (p:=(X B 5)) hB r5;have t6:=t5.setCell (p:=(X B 6)) hB r6;have t7:=t6.setCell (p:=(X B 7)) hB r7;have t8:=t7.setCell (p:=(X B 8)) hB r8;have t9:=t8.setCell (p:=(X B 9)) hB r9;have t10:=t9.setCell (p:=(X B 10)) hB Yt;exact t10
theorem d9.set11{M B:Nat}{W:World}{v:Value}{l:List (Nat × Nat)}{cs:Array Value}{t:TypeId}(h:d9 LbT W M 33 2 v l)(hB:W.heap[B]?=some (.cells cs t (0,0)))(ht:t≠33)(r0 r1 r2 r3 r4 r5 r6 r7 r8 r9 Yt:Value):d9 LbT (((((((((((W.setCell (X B 0) r0).setCell (X B 1) r1).setCell (X B 2) r2).setCell (X B 3) r3).setCell (X B 4) r4).setCell (X B 5) r5).setCell (X B 6) r6).setCell (X B 7) r7).setCell (X B 8) r8).setCell (X B 9) r9).setCell (X B 10) Yt) M 33 2 v l:=by
 have hb:=but_set11 (But.refl B W) r0 r1 r2 r3 r4 r5 r6 r7 r8 r9 Yt;generalize ((((((((((W.setCell (X B 0) r0).setCell (X B 1) r1).setCell (X B 2) r2).setCell (X B 3) r3).setCell (X B 4) r4).setCell (X B 5) r5).setCell (X B 6) r6).setCell (X B 7) r7).setCell (X B 8) r8).setCell (X B 9) r9).setCell (X B 10) Yt=W' at *;refine h.keep (λi cur _ hi=>?_) (λc y hc=>?_)
 ·have hne:i≠B:=λe=>by rw[e,hB]at hi;simp at hi;exact ht hi.2
  exact hb.at hne hi
 ·unfold LbT at hc ⊢;exact hc
theorem V5(w:World)(vn vl v0 v1 v2 v3 v4:Value)(mk lv:Int)(ss:List aZ)(G:Nat)(L:Nat->Nat)(Z:Nat->Nat->Bool)(P:Pb)(hL:mK w vn vl ss G L Z)(hP:PbV w v0 v1 v2 v3 v4 P)(hO:VY ss.length P)(hn:P.names.length<=40)(hc:P.cons.length<=1000)(hs:P.sinks.length<=16777216):Calls prog 55 #[.agg #[vn,vl],.agg #[v0,v1,v2,v3,O mk,O lv,v4]] w λe w'=>∃V vL vK,e=cO (.agg (So.cs ⟨vn,vl,v0,v1,v2,v3,mk,lv,v4,vL,vK⟩))/\Hid (lZ w' vL (Sv.list P.names.length V)/\Ac Z ss.length P.names.length P.cons V/\lZ w' vK (Dy (P.sinks.map (PI Z ss.length V)))/\bG w w'/\La0 vL/\La0 vK):=by
 obtain⟨HP,Cg,HPO⟩:=fq hP hL hO;obtain⟨⟨a0,c0,e0⟩,⟨a1,n1,c1,e1⟩⟩:=hL.forms;obtain⟨a2,c2,e2⟩:=iD hP.names;obtain⟨a3,c3,e3⟩:=hP.cons.form;obtain⟨a4,b4,o4,c4,e4,h40,h4l,h4e⟩:=hP.sinks;obtain⟨a5,c5,e5⟩:=hP.fr.Dx;obtain⟨a6,c6,e6⟩:=iD hP.gU;have jR:Hid (Jt ss.length (P.names.length:Nat) P.cons=0):=I (by unfold Jt;rw[aJ aV,aJ aV,aJ aV,aL (gY.2 λc hc'=>by rw[Ct];exact hO.cons c hc')]);obtain⟨n0,hn0⟩:=bC ss.length;obtain⟨n2,hn2⟩:=bC P.names.length;obtain⟨n3,hn3⟩:=bC P.cons.length;obtain⟨n4,tZ⟩:=bC P.sinks.length;obtain⟨n5,G5⟩:=bC P.fr.length;obtain⟨n6,MH⟩:=bC P.gU.length;rw[<-hn0]at e0;rw[<-hn2]at e2 hn;rw[<-hn3]at e3;rw[<-tZ]at e4 h40 h4l hs;rw[<-G5]at e5;rw[<-MH]at e6;subst e0 e1 e2 e3 e4 e5 e6;obtain⟨BU,zQ,GJ,H40,H4E⟩:=tq hn2 tZ hn0 h40 h4e;have HLC:=I (λwx (hx:bG w wx)=>least_ok wx (Y a0 n0 c0) (Y a1 n1 c1) (Y a3 n3 c3) ss G L Z P.names.length P.cons (hL.below hx) (hP.cons.below hx).cos jR);rw[<-hn2]at HLC;rw[<-hn2];obtain⟨W3,hW3,k0,k1,k2,hsz,hBW⟩:=al3 w (aY #[Y a0 n0 c0,Y a1 n1 c1] 25) (aY #[Y a2 n2 c2,Y a3 n3 c3,Y a4 n4 c4,Y a5 n5 c5,O mk,O lv,Y a6 n6 c6] 128) (aY #[J,J,J,J,J,J,O 0,O 0,J,J,J] 133);obtain⟨x0,x1⟩:=jm k0;obtain⟨y0,y1,y2,y3,y4,y5,y6⟩:=BX k1;obtain⟨lD,jl,Kc,iN,zh⟩:=tq k0 k1 k2 hBW hsz;clear hP hL hO h4e h40 k0 k1 k2 hsz hBW hn0 hn2 hn3 tZ G5 MH hc;go_enter func55,ntmps55;go_upto_region 1 with fail;rw[<-hW3];clear hW3;go_upto_region 2 with fail;obtain⟨HBS,HKS⟩:=sS W3 (aY #[Y a0 n0 c0,Y a1 n1 c1,Y a2 n2 c2,Y a3 n3 c3,Y a4 n4 c4,Y a5 n5 c5,O mk,O lv,Y a6 n6 c6,J,J] 133);generalize W3.alloc (aY #[Y a0 n0 c0,Y a1 n1 c1,Y a2 n2 c2,Y a3 n3 c3,Y a4 n4 c4,Y a5 n5 c5,O mk,O lv,Y a6 n6 c6,J,J] 133)=W4 at *;obtain⟨HK04,HK14,HK24,HUP⟩:=mg (aU lD HBS) (aU jl HBS) (aU Kc HBS) (up iN HBS);have HB0:Hid (w.heap.size+1+1+1=W3.heap.size):=I zh.out.symm;generalize W3.heap.size=B at *;clear x0 x1 y0 y1 y2 y3 y4 y5 y6;obtain⟨x0,x1⟩:=jm HK04;obtain⟨y0,y1⟩:=jm HK14;have HC:=I (HLC W4 HUP);go_wp2_with fail;refine HC.mono ?_;rintro e w5 ⟨V,lb,rfl,hlas,hlst,hb5⟩;obtain⟨HLST,dW,HKS5,HLAS⟩:=mg hlst hb5 (aU HKS hb5) hlas;have u9:=aj HKS5 9;have z9:=aG HKS5 9;clear hlas hlst hb5 x0 x1 y0 y1;go_upto_region 3 with fail;have Vm:Hid ((w5.setCell (X B 9) (Y (some (X lb 0)) n2 n2)).heap[B]?=some (aY #[Y a0 n0 c0,Y a1 n1 c1,Y a2 n2 c2,Y a3 n3 c3,Y a4 n4 c4,Y a5 n5 c5,O mk,O lv,Y a6 n6 c6,Y (some (X lb 0)) n2 n2,J] 133)):=I ((aP HKS5 9 _).trans rfl);have HBN:Hid (Bn w5.heap.size B w5 (w5.setCell (X B 9) (Y (some (X lb 0)) n2 n2))):=I ((Bn.refl _ _ _).set 9 _);have Mt:Hid (Sv.list n2 V≠[]->lb<w5.heap.size/\lb≠B):=I (λh=>M4 HLAS (B:=B) ((aj HKS5 0).trans rfl) h);have HLB6:Hid (lZ (w5.setCell (X B 9) (Y (some (X lb 0)) n2 n2)) (Y (some (X lb 0)) n2 n2) (Sv.list n2 V)):=I (HLAS.bn HBN Mt);have HBge:Hid (w.heap.size<=B):=I (by have:=HB0.out;omega);have HBlt:Hid (B<w5.heap.size):=I (bE HKS5);have HWW:Hid (bG w w5):=I (up HUP dW);have HSZ5:Hid (w.heap.size<=w5.heap.size):=I HWW.out.size;have HW6:Hid (bG w (w5.setCell (X B 9) (Y (some (X lb 0)) n2 n2))):=I (HWW.setCell (p:=(X B 9)) HBge _);have HK16:Hid ((w5.setCell (X B 9) (Y (some (X lb 0)) n2 n2)).heap[w.heap.size+1]?=some (aY #[Y a2 n2 c2,Y a3 n3 c3,Y a4 n4 c4,Y a5 n5 c5,O mk,O lv,Y a6 n6 c6] 128)):=I (bL (aU HK14 dW) (by have:=HB0.out;show w.heap.size+1≠B;omega) _);have HK26:Hid ((w5.setCell (X B 9) (Y (some (X lb 0)) n2 n2)).heap[w.heap.size+1+1]?=some (aY #[J,J,J,J,J,J,O 0,O 0,J,J,J] 133)):=I (bL (aU HK24 dW) (by have:=HB0.out;show w.heap.size+1+1≠B;omega) _);have wX:Hid ((w5.setCell (X B 9) (Y (some (X lb 0)) n2 n2)).heap.size=w5.heap.size):=I (by simp only[World.setCell,DY]);generalize w5.setCell (X B 9) (Y (some (X lb 0)) n2 n2)=W6 at *;clear z9 u9;generalize w5.heap.size=M at *;have y2:=aj HK16 2;go_wp2_with fail;clear y2;go_loopw[25] (λi wr=>∃(j:Nat) (ka:Option Addr) (kc:Nat),j<=n4/\i=O j/\Hid (wr.heap[B]?=some (aY #[Y a0 n0 c0,Y a1 n1 c1,Y a2 n2 c2,Y a3 n3 c3,Y a4 n4 c4,Y a5 n5 c5,O mk,O lv,Y a6 n6 c6,Y (some (X lb 0)) n2 n2,Y ka j kc] 133)/\d9 LbT wr M 33 2 (Y ka j kc) ((P.sinks.take j).map (PI Z ss.length V))/\Bn M B W6 wr)) (λi _=>n4 - (intOf i).toNat);case atStart=>exact⟨0,none,0,bI _,rfl,I ⟨Vm,d9.nil _ _ _ _,Bn.refl _ _ _⟩⟩
 case round=>
  obtain⟨j,ka,kc,hj,rfl,HR⟩:=hrel;have nR:Hid (bG w wr):=I (HW6.trans (HR.2.2.below HSZ5 HBge));have HMS:Hid (M<=wr.heap.size):=I (by have h1:=HR.2.2.size;have h2:=wX.out;omega);have HLR:Hid (lZ wr (Y (some (X lb 0)) n2 n2) (Sv.list n2 V)):=I (HLB6.bn HR.2.2 Mt);by_cases hjl:j<n4
  ·obtain⟨y,hy⟩:∃y,P.sinks[j]?=some y:=⟨_,bg (by rw[<-zQ];exact hjl)⟩;have HYO:=I (HPO.sinks y (dN hy));obtain⟨hlo,hm1,hl1⟩:=wh HYO.lab;obtain⟨mb,hmb⟩:=bC y.mask.toNat;obtain⟨lb',YZ⟩:∃z,z=y.level.toNat:=⟨_,rfl⟩;rw[<-hmb]at hm1 hlo;rw[<-YZ]at hl1 hlo;obtain rfl:=H40 aV;obtain⟨vf,g0,g1,g2,g3,g4,g5,hfi⟩:=H4E j y hy;obtain⟨fa,fc,hvf⟩:=hfi.Dx;obtain⟨nf,hnf⟩:=bC y.fr.length;rw[<-hnf]at hvf;subst hvf;rw[hm1]at g1;rw[hl1]at g2;replace g0:=aC g0 nR;replace g1:=aC g1 nR;replace g2:=aC g2 nR;replace g3:=aC g3 nR;replace g4:=aC g4 nR;replace g5:=aC g5 nR;obtain⟨tl,htl⟩:=bC (PI Z ss.length V y);have FC:Hid ((P.sinks.take (j+1)).map (PI Z ss.length V)=(P.sinks.take j).map (PI Z ss.length V)++[tl]):=I (by rw[gH,hy,lM,fH,htl];rfl);have KO:Hid (∀wx,bG wr wx->Calls prog 110 #[.agg #[Y a0 n0 c0,Y a1 n1 c1,Y a2 n2 c2,Y a3 n3 c3,Y (some (X b4 o4)) n4 c4,Y a5 n5 c5,O mk,O lv,Y a6 n6 c6,Y (some (X lb 0)) n2 n2,Y ka j kc],Y fa nf fc,.agg #[O (mb:Nat),O (lb':Nat)]] wx λe w'=>e=cO (.agg #[O (tl.1:Nat),O (tl.2:Nat)])/\bG wx w'):=I λwx hx=>by
    have h:=Tg wx ⟨Y a0 n0 c0,Y a1 n1 c1,Y a2 n2 c2,Y a3 n3 c3,Y (some (X b4 o4)) n4 c4,Y a5 n5 c5,mk,lv,Y a6 n6 c6,Y (some (X lb 0)) n2 n2,Y ka j kc⟩ ss G L Z n2 V (Y fa nf fc) y.fr (mb,lb') ⟨⟨_,_,_,rfl⟩,⟨_,_,_,rfl⟩,⟨_,_,_,rfl⟩,⟨_,_,_,rfl⟩,⟨_,_,_,rfl⟩,⟨_,_,_,rfl⟩,⟨_,_,_,rfl⟩,⟨_,_,_,rfl⟩,⟨_,_,_,rfl⟩⟩ (Cg.below (up nR hx)) (HLR.below hx) HLST.ok (hfi.below (up nR hx)) (by rw[BU];exact HYO.fr) hlo;have e:Sm.tell Z ss.length V y.fr (mb,lb')=tl:=by rw[htl,hmb,YZ];rfl
    rw[e]at h;exact h
   clear hlo hm1 hl1 hmb YZ hy hnf htl;go_upto_region 6 with fail;obtain⟨oD,HKK⟩:=sS wr (aY #[Y fa nf fc,O (mb:Nat),O (lb':Nat),O y.lv,A y.name,.bool y.gU] 209);generalize wr.alloc (aY #[Y fa nf fc,O (mb:Nat),O (lb':Nat),O y.lv,A y.name,.bool y.gU] 209)=W7 at *;have HKB7:=I (aU HR.1 oD);have LA:Hid (d9 LbT W7 M 33 2 (Y ka j kc) ((P.sinks.take j).map (PI Z ss.length V))):=I (HR.2.1.below oD λ_ _ hc=>hc);have HBN7:=I (HR.2.2.trans (Bn.of_below oD HMS));replace KO:=I (λwx (hx:bG W7 wx)=>KO wx (up oD hx));generalize wr.heap.size=SK at *;have Vn:Hid (M<=W7.heap.size):=I (by have h1:=HBN7.size;have h2:=wX.out;omega);clear g0 g1 g2 g3 g4 g5 hfi;have HF:Hid (∀wx,bG W7 wx->wx.cell? (X B 0)=some (Y a0 n0 c0)/\wx.cell? (X B 1)=some (Y a1 n1 c1)/\wx.cell? (X B 2)=some (Y a2 n2 c2)/\wx.cell? (X B 3)=some (Y a3 n3 c3)/\wx.cell? (X B 4)=some (Y (some (X b4 o4)) n4 c4)/\wx.cell? (X B 5)=some (Y a5 n5 c5)/\wx.cell? (X B 6)=some (O mk)/\wx.cell? (X B 7)=some (O lv)/\wx.cell? (X B 8)=some (Y a6 n6 c6)/\wx.cell? (X B 9)=some (Y (some (X lb 0)) n2 n2)/\wx.cell? (X B 10)=some (Y ka j kc)/\wx.cell? (X SK 0)=some (Y fa nf fc)/\wx.cell? (X SK 1)=some (O (mb:Nat))/\wx.cell? (X SK 2)=some (O (lb':Nat))):=I λwx hx=>by have h1:=aU HKB7 hx;have h2:=aU HKK hx;exact⟨(aj h1 0).trans rfl,(aj h1 1).trans rfl,(aj h1 2).trans rfl,(aj h1 3).trans rfl,(aj h1 4).trans rfl,(aj h1 5).trans rfl,(aj h1 6).trans rfl,(aj h1 7).trans rfl,(aj h1 8).trans rfl,(aj h1 9).trans rfl,(aj h1 10).trans rfl,(aj h2 0).trans rfl,(aj h2 1).trans rfl,(aj h2 2).trans rfl⟩
   refine bX [some false,some true,some true,some false,some true,some false,some true,none,none,none,none,none] 10 (λw'=>w'.cell? (X B 0)=some (Y a0 n0 c0)/\w'.cell? (X B 1)=some (Y a1 n1 c1)/\w'.cell? (X B 2)=some (Y a2 n2 c2)/\w'.cell? (X B 3)=some (Y a3 n3 c3)/\w'.cell? (X B 4)=some (Y (some (X b4 o4)) n4 c4)/\w'.cell? (X B 5)=some (Y a5 n5 c5)/\w'.cell? (X B 6)=some (O mk)/\w'.cell? (X B 7)=some (O lv)/\w'.cell? (X B 8)=some (Y a6 n6 c6)/\w'.cell? (X B 9)=some (Y (some (X lb 0)) n2 n2)/\w'.cell? (X B 10)=some (Y ka j kc)/\w'.cell? (X SK 0)=some (Y fa nf fc)/\w'.cell? (X SK 1)=some (O (mb:Nat))/\w'.cell? (X SK 2)=some (O (lb':Nat))) 5 bU bU (λ_ _ d _ _ h=>(by cases d<;>exact h)) (HF _ (bK (bN _ _))) ?_;dsimp only[fT];repeat(first|(refine fE (v:=?_) dH ?_ ?_;rotate_left 1;(focus(intro w;go_simp;try(with_reducible rfl)));simp only[Act.put,dL,dX,eH])|(refine fF (v:=?_) dH ?_ ?_;rotate_left 1;(focus(intro w hSw;go_simp;try(with_reducible rfl)));simp only[Act.put,dL,dX,eH]))
   refine dP ?_;refine aQ (i:=7) bU dH (λK hK=>?_);go_simp;go_at_call 110;refine(KO _ (bK (bN _ _))).mono ?_;rintro e w8 ⟨rfl,oH⟩;have vE:=I (up (bK (bN W7.heap.size W7)) oH);clear oH;dsimp only;refine hK _ _ (λ_=>HF _ vE) ?_;clear hK K;refine aQ (i:=8) bU dH (λK hK=>?_);go_simp;refine hK _ _ (λ_=>HF _ (up vE (aH _ _))) ?_;clear hK K;obtain⟨HBX8,HXB8⟩:=sS w8 (aY #[O (tl.1:Nat),O (tl.2:Nat)] 33);have HB78:=I (up vE HBX8);have SC:Hid (d9 LbT (w8.alloc (aY #[O (tl.1:Nat),O (tl.2:Nat)] 33)) M 33 2 (Y ka j kc) ((P.sinks.take j).map (PI Z ss.length V))):=I (LA.below HB78 λ_ _ hc=>hc);obtain⟨HKB8,HKK8,HBN8⟩:=fq (aU HKB7 HB78) (aU HKK HB78) (HBN7.trans (Bn.of_below HB78 Vn));have HS8':Hid (M<=(w8.alloc (aY #[O (tl.1:Nat),O (tl.2:Nat)] 33)).heap.size):=I (bH Vn.out HB78.size);generalize w8.alloc (aY #[O (tl.1:Nat),O (tl.2:Nat)] 33)=W8 at *;refine aQ (i:=9) bU dH (λK hK=>?_);refine l8 (At:=LbT) dH _ _ 131 33 2 16 _ dH underlying131 infoLbA bP bP bP M _ ((P.sinks.take j).map (PI Z ss.length V)) dH SC w8.heap.size [O (tl.1:Nat),O (tl.2:Nat)] tl dH (λi u hu=>(aj HXB8 i).trans (by simpa using hu)) rfl (by simp[Value.oneCell']) rfl (by rw[dR,jO];omega) HS8'.out (λwy c y hg hc=>hc) ?_;intro g9 JF w9 qN iX R4;rw[dR,jO,Nat.min_eq_left (by rw[<-zQ];omega)]at qN ⊢;have ET:w9.heap[B]?=some (aY #[Y a0 n0 c0,Y a1 n1 c1,Y a2 n2 c2,Y a3 n3 c3,Y (some (X b4 o4)) n4 c4,Y a5 n5 c5,O mk,O lv,Y a6 n6 c6,Y (some (X lb 0)) n2 n2,Y ka j kc] 133):=(iX.block B (bE HKB8) (λe=>by obtain⟨cur,hcur⟩:=SC.typ B e.symm;rw[HKB8]at hcur;simp at hcur)).trans HKB8;have hkk9:w9.heap[SK]?=some (aY #[Y fa nf fc,O (mb:Nat),O (lb':Nat),O y.lv,A y.name,.bool y.gU] 209):=(iX.block SK (bE HKK8) (λe=>by obtain⟨cur,hcur⟩:=SC.typ SK e.symm;rw[HKK8]at hcur;simp at hcur)).trans HKK8;have HBB9:=I ET;have HS9:Hid (w9.cell? (X B 0)=some (Y a0 n0 c0)/\w9.cell? (X B 1)=some (Y a1 n1 c1)/\w9.cell? (X B 2)=some (Y a2 n2 c2)/\w9.cell? (X B 3)=some (Y a3 n3 c3)/\w9.cell? (X B 4)=some (Y (some (X b4 o4)) n4 c4)/\w9.cell? (X B 5)=some (Y a5 n5 c5)/\w9.cell? (X B 6)=some (O mk)/\w9.cell? (X B 7)=some (O lv)/\w9.cell? (X B 8)=some (Y a6 n6 c6)/\w9.cell? (X B 9)=some (Y (some (X lb 0)) n2 n2)/\w9.cell? (X B 10)=some (Y ka j kc)/\w9.cell? (X SK 0)=some (Y fa nf fc)/\w9.cell? (X SK 1)=some (O (mb:Nat))/\w9.cell? (X SK 2)=some (O (lb':Nat))):=I ⟨(aj ET 0).trans rfl,(aj ET 1).trans rfl,(aj ET 2).trans rfl,(aj ET 3).trans rfl,(aj ET 4).trans rfl,(aj ET 5).trans rfl,(aj ET 6).trans rfl,(aj ET 7).trans rfl,(aj ET 8).trans rfl,(aj ET 9).trans rfl,(aj ET 10).trans rfl,(aj hkk9 0).trans rfl,(aj hkk9 1).trans rfl,(aj hkk9 2).trans rfl⟩;obtain⟨HO9,HG9⟩:=bT qN (HBN8.grown iX (λk e=>(SC.lt k e).1) HS8'.out);clear qN iX R4 ET hkk9;refine hK _ _ (λ_=>HS9) ?_;clear hK K;simp only[Act.put,dL];have u10:=aj HBB9 10;have z10:=aG HBB9 10;refine aQ (i:=10) bU dH (λK hK=>?_);go_simp;refine hK _ _ (λh=>aN (h.symm.trans bU) gZ) ?_;clear hK K;refine aQ (i:=11) bU dH (λK hK=>?_);go_simp;refine hK _ _ (λh=>aN (h.symm.trans bU) gZ) ?_;clear hK K;refine dI bU ?_ _;have HK9:Hid ((w9.setCell (X B 10) (Y (some (X g9 0)) (j+1) JF)).heap[B]?=some (aY #[Y a0 n0 c0,Y a1 n1 c1,Y a2 n2 c2,Y a3 n3 c3,Y (some (X b4 o4)) n4 c4,Y a5 n5 c5,O mk,O lv,Y a6 n6 c6,Y (some (X lb 0)) n2 n2,Y (some (X g9 0)) (j+1) JF] 133)):=I ((aP HBB9 10 _).trans rfl);have HBN9:=I (HG9.set 10 (Y (some (X g9 0)) (j+1) JF));have HOW9:Hid (d9 LbT (w9.setCell (X B 10) (Y (some (X g9 0)) (j+1) JF)) M 33 2 (Y (some (X g9 0)) (j+1) JF) ((P.sinks.take j).map (PI Z ss.length V)++[tl])):=I (HO9.keep (λi cur _ hi=>bL hi (λe=>by rw[e,HBB9]at hi;simp at hi) _) λ_ _ hc=>hc);clear u10 z10;go_wp2_with fail;go_roundw;case rel=>exact⟨j+1,_,_,by omega,by go_num,I ⟨HK9,by rw[FC];exact HOW9,HBN9⟩⟩
   case measure=>simp[intOf];omega
  ·obtain rfl:j=n4:=by omega
   have HOL:=I HR.out.2.1;have Gq:Hid ((P.sinks.take j).map (PI Z ss.length V)=P.sinks.map (PI Z ss.length V)):=I (by rw[zQ,iL]);have HKK:Hid (wr.heap[w.heap.size+1+1]?=some (aY #[J,J,J,J,J,J,O 0,O 0,J,J,J] 133)):=I ((HR.2.2.block _ (by have:=HB0.out;have:=HBlt.out;omega) (by have:=HB0.out;omega)).trans HK26);have t0:wr.cell? (X B 0)=some (Y a0 n0 c0):=(aj HR.1 0).trans rfl;have t1:wr.cell? (X B 1)=some (Y a1 n1 c1):=(aj HR.1 1).trans rfl;have t2:wr.cell? (X B 2)=some (Y a2 n2 c2):=(aj HR.1 2).trans rfl;have t3:wr.cell? (X B 3)=some (Y a3 n3 c3):=(aj HR.1 3).trans rfl;have t4:wr.cell? (X B 4)=some (Y a4 j c4):=(aj HR.1 4).trans rfl;have t5:wr.cell? (X B 5)=some (Y a5 n5 c5):=(aj HR.1 5).trans rfl;have t6:wr.cell? (X B 6)=some (O mk):=(aj HR.1 6).trans rfl;have t7:wr.cell? (X B 7)=some (O lv):=(aj HR.1 7).trans rfl;have t8:wr.cell? (X B 8)=some (Y a6 n6 c6):=(aj HR.1 8).trans rfl;have t9:wr.cell? (X B 9)=some (Y (some (X lb 0)) n2 n2):=(aj HR.1 9).trans rfl;have t10:wr.cell? (X B 10)=some (Y ka j kc):=(aj HR.1 10).trans rfl;obtain⟨q0,q1,q2,q3,q4,q5,q6,q7,q8,q9,q10⟩:=ZC11 HKK;obtain⟨z0,z1,z2,z3,z4,z5,z6⟩:=Iz (aG HKK 0) (aG HKK 1) (aG HKK 2) (aG HKK 3) (aG HKK 4) (aG HKK 5) (aG HKK 6);obtain⟨z7,z8,z9,z10⟩:=rG (aG HKK 7) (aG HKK 8) (aG HKK 9) (aG HKK 10);go_wp2_with fail;have hs':=set11 HKK (Y a0 n0 c0) (Y a1 n1 c1) (Y a2 n2 c2) (Y a3 n3 c3) (Y a4 j c4) (Y a5 n5 c5) (O mk) (O lv) (Y a6 n6 c6) (Y (some (X lb 0)) n2 n2) (Y ka j kc);obtain⟨f0,f1,f2,f3,f4,f5,f6⟩:=Iz ((aj hs' 0).trans rfl) ((aj hs' 1).trans rfl) ((aj hs' 2).trans rfl) ((aj hs' 3).trans rfl) ((aj hs' 4).trans rfl) ((aj hs' 5).trans rfl) ((aj hs' 6).trans rfl);obtain⟨f7,f8,f9,f10⟩:=rG ((aj hs' 7).trans rfl) ((aj hs' 8).trans rfl) ((aj hs' 9).trans rfl) ((aj hs' 10).trans rfl);have HRB:Hid (wr.heap[w.heap.size+1+1]?=some (aY #[J,J,J,J,J,J,O 0,O 0,J,J,J] 133)):=HKK;refine bW (v:=.agg #[Y a0 n0 c0,Y a1 n1 c1,Y a2 n2 c2,Y a3 n3 c3,Y a4 j c4,Y a5 n5 c5,O mk,O lv,Y a6 n6 c6,Y (some (X lb 0)) n2 n2,Y ka j kc]) (by simp[results,results55,go_sem,f0,f1,f2,f3,f4,f5,f6,f7,f8,f9,f10]) rfl ⟨V,Y (some (X lb 0)) n2 n2,Y ka j kc,rfl,I ⟨?_,HLST,?_,?_,λa n c h=>(by injection h with h;injection h with h;exact⟨lb,h.symm⟩),HOL.la0⟩⟩;·exact HLR.bn (n:=M) (B:=w.heap.size+1+1) (bn_set11 (Bn.refl M (w.heap.size+1+1) wr) _ _ _ _ _ _ _ _ _ _ _) (λh=>⟨(Mt h).1,(M4 HLR (B:=w.heap.size+1+1) (a:=none) (n:=0) (k:=0) ((aj HKK 0).trans rfl) h).2⟩)
   ·rw[<-Gq];exact lbT_las (n:=M) (d9.set11 HOL HKK bP _ _ _ _ _ _ _ _ _ _ _) (by rw[dR,jO];omega)
   ·exact Ti nR (bH (dJ _) (dJ _)) _ _ _ _ _ _ _ _ _ _ _
structure PS(w:World)(s:So)(ss:List ByteArray)(G:Nat)(L:Nat->Nat)(Z:Nat->Nat->Bool)(P:Pb)(V:Nat->Nat × Nat):Prop where
 la:mK w s.vn s.vl ss G L Z
 pb:PbV w s.v0 s.v1 s.v2 s.v3 s.v4 P
 ok:VY ss.length P
 las:lZ w s.vL (Sv.list P.names.length V)
 oks:xW ss.length P.names.length V
 snk:lZ w s.vK (Dy (P.sinks.map (PI Z ss.length V)))
theorem PS.below{w w':World}{s:So}{ss:List aZ}{G:Nat}{L:Nat->Nat}{Z:Nat->Nat->Bool}{P:Pb}{V:Nat->Nat × Nat}(h:PS w s ss G L Z P V)(hb:bG w w'):PS w' s ss G L Z P V:=⟨h.la.below hb,h.pb.below hb,h.ok,h.las.below hb,h.oks,h.snk.below hb⟩
theorem Dz{w:World}{v:Value}{l:List (Int × Int)}(h:lZ w v l):∃a n c,v=Y a n c:=by obtain⟨a,b,off,cap,e,-⟩:=h;exact⟨_,_,_,e⟩
theorem PS.form{w:World}{s:So}{ss:List aZ}{G:Nat}{L:Nat->Nat}{Z:Nat->Nat->Bool}{P:Pb}{V:Nat->Nat × Nat}(h:PS w s ss G L Z P V):s.Form:=by obtain⟨⟨a0,c0,e0⟩,h1⟩:=h.la.forms;obtain⟨a2,c2,e2⟩:=iD h.pb.names;obtain⟨a3,c3,e3⟩:=h.pb.cons.form;obtain⟨a4,c4,e4⟩:=h.pb.sinks.form;obtain⟨a5,c5,e5⟩:=h.pb.fr.Dx;obtain⟨a6,c6,e6⟩:=iD h.pb.gU;exact⟨⟨_,_,_,e0⟩,h1,⟨_,_,_,e2⟩,⟨_,_,_,e3⟩,⟨_,_,_,e4⟩,⟨_,_,_,e5⟩,⟨_,_,_,e6⟩,Dz h.las,Dz h.snk⟩
namespace Sm
theorem filt_snoc{Z:Nat->Nat->Bool}{N:Nat}{V:Nat->Nat × Nat}{l:List Si}{j:Nat}{y:Si}(hy:l[j]?=some y)(fn:aZ):((l.take (j+1)).filter (bad Z N V)).map (λs=>(⟨6,fn,s.name⟩:Dg))=((l.take j).filter (bad Z N V)).map (λs=>(⟨6,fn,s.name⟩:Dg))++if bad Z N V y then [⟨6,fn,y.name⟩]else []:=by rw[gH,hy,lM,List.filter_append,fH];congr 1;rw[List.filter_cons];cases bad Z N V y<;>rfl
theorem filt_len{Z:Nat->Nat->Bool}{N:Nat}{V:Nat->Nat × Nat}(l:List Si)(j:Nat)(fn:aZ):(((l.take j).filter (bad Z N V)).map (λs=>(⟨6,fn,s.name⟩:Dg))).length<=l.length:=by rw[dR];exact bH (Ju _ _) (by rw[jO];omega)
end Sm
theorem V6(w:World)(s:So)(ss:List aZ)(G:Nat)(L:Nat->Nat)(Z:Nat->Nat->Bool)(P:Pb)(V:Nat->Nat × Nat)(fn:aZ)(hS:PS w s ss G L Z P V)(hl:P.sinks.length<=16777215):Calls prog 57 #[.agg s.cs,A fn] w λe w'=>∃u,e=cO u/\Hid (eT qz w' w.heap.size 80 3 u (Sm.Gf Z ss.length V P fn)/\bG w w'):=by
 have HS:=I hS;obtain⟨a0,n0,c0,a1,n1,c1,a2,n2,c2,a3,n3,c3,a4,n4,c4,a5,n5,c5,a6,n6,c6,a7,n7,c7,a8,n8,c8,hs⟩:=PO s hS.form;generalize s.ma=mk at hs;generalize s.lv=lv at hs;subst hs;simp only[So.cs];obtain⟨W,hW⟩:=bC (w.alloc (aY #[Y a0 n0 c0,Y a1 n1 c1,Y a2 n2 c2,Y a3 n3 c3,Y a4 n4 c4,Y a5 n5 c5,O mk,O lv,Y a6 n6 c6,Y a7 n7 c7,Y a8 n8 c8] 133));have dO:Hid (bG w W):=I (by rw[hW];exact aH _ _);have lD:Hid (W.heap[w.heap.size]?=some (aY #[Y a0 n0 c0,Y a1 n1 c1,Y a2 n2 c2,Y a3 n3 c3,Y a4 n4 c4,Y a5 n5 c5,O mk,O lv,Y a6 n6 c6,Y a7 n7 c7,Y a8 n8 c8] 133)):=I (by rw[hW];exact bD _ _);obtain⟨ax,b4,o4,cx,e4,h40,h4l,h4e⟩:=hS.pb.sinks;simp only at e4;injection e4 with e41 e42 e43;subst e41 e43;have zQ:=I e42;rw[<-e42]at h40 h4l hl;obtain⟨ay,b8,o8,cy,e8,h80,h8l,h8e⟩:=hS.snk;rw[uV,dR]at e8 h80;simp only at e8;injection e8 with e81 e82 e83;subst e81 e83;have KT:Hid (n8=n4):=I (by rw[e82,e42]);rw[<-e82]at h80;obtain⟨gb,go,gc,RB,RO,C,e1,h1,h2⟩:=hS.la.grid;simp only at e1;injection e1 with e11 e12 e13;subst e11 e13;have x4:=aj lD 4;obtain⟨IY,H40,H4E,H80,H8E,HG1⟩:=vC e12 h40 h4e h80 h8e h1;obtain⟨HG2,HJ⟩:=bT h2 hS.la.joins;clear hS h40 h4e h80 h8e h1 h2 e42 e82 e12 h8l;obtain⟨F,hF⟩:∃F:Nat->List Dg,F=λj=>((P.sinks.take j).filter (Sm.bad Z ss.length V)).map (λs=>(⟨6,fn,s.name⟩:Dg)):=⟨_,rfl⟩;have vD:Hid (F 0=[]):=I (by rw[hF];rfl);have HFN:Hid (F n4=Sm.Gf Z ss.length V P fn):=I (by rw[hF,zQ];simp only;rw[iL];rfl);have HFS:Hid (∀j y,P.sinks[j]?=some y->F (j+1)=F j++if Sm.bad Z ss.length V y then [⟨6,fn,y.name⟩]else []):=I (λj y hy=>by rw[hF];exact filt_snoc hy fn);have A8:Hid (∀j,(F j).length<=n4):=I (λj=>by rw[hF,zQ];exact filt_len P.sinks j fn);clear hF;go_enter func57,ntmps57;go_upto_region 1 with fail;rw[<-hW];clear hW;go_wp2_with fail;clear x4;go_loopw[5,12] (λo i wr=>∃j:Nat,j<=n4/\i=O j/\Hid (eT qz wr W.heap.size 80 3 o (F j)/\bG W wr)) (λ_ i _=>n4 - (intOf i).toNat);case atStart=>exact⟨0,bI _,rfl,I ⟨by rw[vD];exact eT.nil _ _ _ _,bN _ _⟩⟩
 case round=>
  rename_i o;obtain⟨j,hj,rfl,HR⟩:=hrel;have nR:=I (up dO HR.2);by_cases hjl:j<n4
  ·obtain⟨y,hy⟩:∃y,P.sinks[j]?=some y:=⟨_,bg (by rw[<-zQ];exact hjl)⟩;have HYO:=I (HS.ok.sinks y (dN hy));obtain⟨tl,htl⟩:=bC (PI Z ss.length V y);have GZ:Hid (tl.2<ss.length):=I (by rw[htl];exact(siL_ok HJ HS.oks HYO).2);obtain⟨hyl,hye⟩:=HYO.lvN;obtain⟨yl,Tj⟩:∃z,z=y.lv.toNat:=⟨_,rfl⟩;rw[<-Tj]at hyl hye;have hz:Sm.bad Z ss.length V y=!Z tl.2 yl:=by unfold Sm.bad;rw[htl,Tj]
   have HFS':Hid (F (j+1)=F j++if !Z tl.2 yl then [⟨6,fn,y.name⟩]else []):=I (by rw[HFS j y hy,hz]);obtain rfl:=H40 aV;obtain⟨vf,g0,g1,g2,g3,g4,g5,hfi⟩:=H4E j y hy;obtain⟨fa,fc,hvf⟩:=hfi.Dx;obtain⟨nf,hnf⟩:=bC y.fr.length;rw[<-hnf]at hvf;subst hvf;rw[hye]at g3;replace g0:=aC g0 nR;replace g1:=aC g1 nR;replace g2:=aC g2 nR;replace g3:=aC g3 nR;replace g4:=aC g4 nR;replace g5:=aC g5 nR;obtain rfl:=H80 (by have:=KT.out;omega);obtain⟨k8,k1,k2⟩:=lQ ((H8E j _ (ES (x:=tl) (by rw[pY,hy,htl];rfl))).2) (HG1 tl.2 GZ) (HG2 tl.2 yl GZ hyl);rw[<-IY]at k1;have ht1:(tl.2:Int)<(n1:Int):=by have:=GZ.out;have:=IY.out;omega
   have ht2:(yl:Int)<(n1:Int):=by have:=IY.out;omega
   have hj8:(j:Int)<(n8:Int):=by have:=KT.out;omega
   generalize tl.2=t2 at *;clear hz hy hnf hfi Tj htl hye hyl;go_upto_region 5 with fail;obtain⟨oD,HKK⟩:=sS wr (aY #[Y fa nf fc,O y.mask,O y.level,O (yl:Nat),A y.name,.bool y.gU] 209);generalize wr.alloc (aY #[Y fa nf fc,O y.mask,O y.level,O (yl:Nat),A y.name,.bool y.gU] 209)=W7 at *;obtain⟨Uf,BP,jB⟩:=fq (up nR oD) (HR.1.below oD) (up HR.2 oD);have HK7:=I (aU lD jB);generalize wr.heap.size=SK at *;clear g0 g1 g2 g3 g4 g5;obtain⟨q1,q10,s3⟩:=lQ (aX ((aj HK7 1).trans rfl)) (aX ((aj HK7 10).trans rfl)) (aX ((aj HKK 3).trans rfl));replace k8:=aX (aC k8 Uf);replace k1:=aX (aC k1 Uf);replace k2:=aX (aC k2 Uf);refine bS bU bU ?_;repeat(quiet_step (fail))
   refine wpQuiet_nil ?_;intro w6 hw';obtain⟨⟨nq,osq⟩,hw''⟩:=hw';have eF:Hid (bG W7 w6):=I (by rw[hw''];exact bR W7 nq osq);obtain⟨Vm,BO,HB06⟩:=fq (aU HKK.out eF.out) (BP.out.below eF.out) (up jB.out eF.out);clear hw'' q1 q10 s3 k8 k1 k2;have s4:=aj Vm.out 4;have HLF:=I (A8.out j);cases hzz:Z t2 yl with
   | true=>
    have uO:Hid (F (j+1)=F j):=I (by rw[HFS'.out,hzz];simp);clear hzz;go_wp2_with fail;go_roundw;case rel=>exact⟨j+1,by omega,by go_num,I ⟨by rw[uO];exact BO,HB06⟩⟩
    case measure=>simp[intOf];omega
   | false=>
    have uO:Hid (F (j+1)=F j++[⟨6,fn,y.name⟩]):=I (by rw[HFS'.out,hzz];simp);clear hzz
    go_wp2_with (first
     | (at_builtin;refine gG (At:=qz) rfl _ _ 59 80 3 40 _ rfl underlying59 qA bP bP bP W.heap.size _ _ rfl (BO.below (aH _ _)) _ _ [⟨6,fn,y.name⟩] rfl (eT.one _ _ rfl (qz.one (d:=⟨6,fn,y.name⟩) rfl) rfl) (by have:=HLF.out;simp only[iT];omega) (bH HB06.out.size (aH _ _).size) ?_;intro v9 w9 qN iX;have HOW9:=I qN;have HN9:=I (jT (up HB06 (aH _ _)) iX (λj hj=>(BO.lt j hj).1));clear qN iX)
     | fail)
    go_roundw;case rel=>exact⟨j+1,by omega,by go_num,I ⟨by rw[uO];exact HOW9,HN9⟩⟩
    case measure=>simp[intOf];omega
  ·obtain rfl:j=n4:=by omega
   rw[HFN]at HR;go_wp2_with fail;go_ret;exact⟨_,rfl,I ⟨HR.1.old dO.size,nR⟩⟩
theorem mul64_any(w:World)(k:Fin 5):Calls prog 225 #[.int .u64 1,.int .u64 ((k:Nat):Int)] w λe w'=>e=cO (.tuple #[.int .u64 0,.int .u64 ((k:Nat):Int)])/\w'=w:=by
 have h:k=0\/k=1\/k=2\/k=3\/k=4:=by omega
 rcases h with rfl|rfl|rfl|rfl|rfl;all_goals go_enter func225,ntmps225;go_wp2_with fail;go_ret2;exact⟨by kernel_rfl,rfl⟩
theorem mul_any(w:World)(k:Fin 5):Calls prog 177 #[.int .u64 1,.int .u64 ((k:Nat):Int)] w λe w'=>e=cO (.tuple #[.int .u64 0,.int .u64 ((k:Nat):Int)])/\w'=w:=by have HM:=I (mul64_any w k);generalize ((k:Nat):Int)=kk at *;go_enter func177,ntmps177;go_wp2_with fail;refine HM.mono ?_;rintro e w' ⟨rfl,rfl⟩;go_wp2_with fail;go_ret2;exact⟨rfl,rfl⟩
section
variable {w : World} {ops : Array Oper} {rest : List Oper} {o : Oper} {a : Act} {Q : Exit → Act → World → Prop}
theorem Tk{K:Act->World->Prop}(d s:Operand)(dT sT elem:TypeId)(ho:o.op=.call { callee:=.builtin .copy,args:=#[d,s],argTypes:=#[dT,sT] })(hu:prog.underlying dT=some (.slice elem))(hs:(prog.info? elem).map (·.size)=some 1)(g off dLen dCap:Nat)(ad:Addr)(sLen sCap:Nat)(hd:a.eval d=Y (some (X g off)) dLen dCap)(hx:a.eval s=Y (some ad) sLen sCap)(cur:List Value)(t:TypeId)(hg:w.heap[g]?=some (.cells cur.toArray t (0,0)))(cs:List Value)(hn:cs.length=Nat.min sLen dLen)(hsrc:∀j v,cs[j]?=some v->w.cell? (ad.add j)=some v)(hfit:off+cs.length<=cur.length)(h1:∀v∈cs,v.oneCell'=true)(h:∀w',Hid (w'.heap[g]?=some (.cells (splice cur off cs).toArray t (0,0)))->Hid (But g w w')->K (a.put o.dst (O (cs.length:Nat))) w'):o.wp prog a w K Q:=by have hrun:=Y2 (P:=prog) w dT sT o.type elem 1 g off dLen dCap ad sLen sCap cur.toArray t cs hu hs hg (by rw[hn,Nat.mul_one]) hsrc (by simpa using hfit) h1;unfold Oper.wp execOp;simp only[ho,resolve,invoke,builtin,Sem.run_bind,Sem.run_pure,Result.andThen_ok,List.map_toArray,fD,jN,hd,hx,hrun];rw[<-hn];exact h _ (I (by rw[setRow_heap w g _ _ t _ hg];simp[splice])) (I (But.setRow w _))
theorem PU(hgd:o.guard=none)(d s:Operand)(dT sT elem:TypeId)
  (ho:o.op=.call { callee:=.builtin .copy,args:=#[d,s],argTypes:=#[dT,sT] })(hu:prog.underlying dT=some (.slice elem))(hs:(prog.info? elem).map (·.size)=some 1)
  (g off dLen dCap:Nat)(ad:Addr)(sLen sCap:Nat)(hd:a.eval d=Y (some (X g off)) dLen dCap)(hx:a.eval s=Y (some ad) sLen sCap)
  (cur:List Value)(t:TypeId)(hg:w.heap[g]?=some (.cells cur.toArray t (0,0)))(cs:List Value)(hn:cs.length=Nat.min sLen dLen)
  (hsrc:∀j v,cs[j]?=some v->w.cell? (ad.add j)=some v)(hfit:off+cs.length<=cur.length)(h1:∀v∈cs,v.oneCell'=true)
  (h:∀w',Hid (w'.heap[g]?=some (.cells (splice cur off cs).toArray t (0,0)))->Hid (But g w w')->wpList prog ops Q rest (a.put o.dst (O (cs.length:Nat))) w'):wpList prog ops Q (o::rest) a w:=
 wpList_plain hgd λ_ hK=>Tk d s dT sT elem ho hu hs g off dLen dCap ad sLen sCap hd hx cur t hg cs hn hsrc hfit h1 λw' h2 h3=>hK _ _ (h w' h2 h3)
theorem V7{K:Act->World->Prop}{E:Prop}(hgd:o.guard=none)(d s:Operand)(dT sT elem:TypeId)(ho:o.op=.call { callee:=.builtin .copy,args:=#[d,s],argTypes:=#[dT,sT] })(hu:prog.underlying dT=some (.slice elem))(hs:(prog.info? elem).map (·.size)=some 1)(g off dLen dCap:Nat)(ad:Addr)(sLen sCap:Nat)(hd:a.eval d=Y (some (X g off)) dLen dCap)(hx:a.eval s=Y (some ad) sLen sCap)(cur:List Value)(t:TypeId)(hg:w.heap[g]?=some (.cells cur.toArray t (0,0)))(cs:List Value)(hn:cs.length=Nat.min sLen dLen)(hsrc:∀j v,cs[j]?=some v->w.cell? (ad.add j)=some v)(hfit:off+cs.length<=cur.length)(h1:∀v∈cs,v.oneCell'=true)(h:∀w',Hid (w'.heap[g]?=some (.cells (splice cur off cs).toArray t (0,0)))->Hid (But g w w')->K (a.put o.dst (O (cs.length:Nat))) w'):if Region.wanted o (yielded ops a.tmps)=true then Oper.wp prog o a w K Q else E:=by
 have hw:Region.wanted o (yielded ops a.tmps)=true:=by simp[Region.wanted,hgd]
 rw[aL hw];exact Tk d s dT sT elem ho hu hs g off dLen dCap ad sLen sCap hd hx cur t hg cs hn hsrc hfit h1 h
end
def rep(x:Int)(n k:Nat):List Value:=List.replicate n (.int .i64 x)++List.replicate (k - n) (.int .i64 0)
theorem rep_len(x:Int){n k:Nat}(h:n<=k):(rep x n k).length=k:=by unfold rep;rw[aW,yR,yR];omega
theorem Kh(x:Int){n k c:Nat}(h:n+c<=k):splice (rep x n k) n (List.replicate c (O x))=rep x (n+c) k:=by unfold splice rep;rw[List.take_append,fJ cZ,yR,mZ,List.take_zero,gK,yR,List.drop_append,List.drop_of_length_le cZ,rX,yR,List.drop_replicate,<-iM,List.replicate_append_replicate];congr 2;omega
theorem rep_at(x:Int){n k j:Nat}(h:j<n):(rep x n k)[j]?=some (O x):=by unfold rep;rw[qJ (by simpa using h),List.getElem?_replicate,aL h]
theorem Yu:(prog.info? 3).map (·.size)=some 1:=by kernel_rfl
theorem infoIntM:(prog.info? 3).map (λi=>(i.zero,i.size,i.bytes))=some (some (O 0),1,8):=by kernel_rfl
theorem made_rep(x:Int)(k:Nat):madeCells #[O 0] k=(rep x 0 k).toArray:=by
 apply Array.ext';apply List.ext_getElem?;intro i;unfold rep;simp only[List.replicate_zero,rX,Nat.sub_zero,List.getElem?_replicate];by_cases hi:i<k;·rw[aL hi];have:=made1 (O 0) k i hi;simpa using this
 ·rw[aJ hi];have:(madeCells #[O 0] k).size=k:=by simp[madeCells]
  rw[Array.getElem?_toList,Ut aV]
theorem V8(w:World)(b c:Nat)(x:Int)(k:Nat)(hk:k<=4)(hx:w.cell? (X b 0)=some (O x)):
  Calls prog 112 #[Y (some (X b 0)) 1 c,O k] w λe w'=>∃B,e=cO (Y (some (X B 0)) k k)/\Hid (w.heap.size<=B/\w'.heap[B]?=some (.cells (List.replicate k (O x)).toArray 3 (0,0))/\bG w w'):=by
 have HM:=I (mul_any w ⟨k,by omega⟩)
 have hmk:=run_make_row' (P:=prog) 27 3 (O 0) 8 underlying27 infoIntM rfl .i64 .i64 k aV aV
 rw[made_rep x]at hmk
 have HX:=I hx
 have HK:=I hk
 have HB0:=I (aH w (.cells (rep x 0 k).toArray 3))
 have GJ:=I (bD w (.cells (rep x 0 k).toArray 3))
 obtain⟨c0,hc0⟩:=bC (Nat.min 1 k)
 have hck:c0<=k/\(0<k->0<c0):=by rw[hc0];simp only[Nat.min_def];split<;>omega
 have vW:=I hck
 have Zm:=I hc0
 have kY:Hid (splice (rep x 0 k) 0 (List.replicate c0 (O x))=rep x c0 k):=I (by have:=Kh x (n:=0) (k:=k) (c:=c0) aV;rwa[eu]at this)
 have HRL:=I (λ(n:Nat) (h:n<=k)=>rep_len x h)
 have HO1:Hid (∀n:Nat,∀v∈List.replicate n (O x),v.oneCell'=true):=I (λn v hv=>by rw[List.eq_of_mem_replicate hv];rfl)
 have h1:((k:Int)<0)=False:=by simp
 have h2:((9223372036854775807:Int)<(k:Int))=False:=by simp;omega
 have h3:IntKind.u64.wrap (k:Int)=(k:Int):=by rw[IntKind.wrap_u64];omega
 have h4:wrap64 (k:Int)=(k:Int):=by simp[wrap64];omega
 have h5:IntKind.i64.wrap (k:Int)=(k:Int):=by rw[IntKind.wrap_i64];omega
 clear hx hc0 hck
 go_enter func112,ntmps112
 go_wp2_with fail
 refine HM.mono ?_
 rintro e w' ⟨rfl,e⟩
 subst e
 go_wp2_with (refine PU rfl (.tmp 31) (.tmp 32) 27 27 3 rfl underlying27 Yu _ 0 k k (X b 0) 1 c rfl rfl (rep x 0 k) 3 GJ (List.replicate c0 (O x)) (by rw[yR];exact Zm) (λj v hj=>by
                       rw[List.getElem?_replicate]at hj
                       split at hj
                       ·rename_i hjc
                        have:j=0:=by have:=Zm.out;simp only[Nat.min_def]at this;split at this<;>omega
                        subst this
                        cases hj
                        rw[Addr.add_lit]
                        exact aC HX HB0
                       ·cases hj) (by rw[yR,HRL 0 (bI _)];have:=vW.out;omega) (HO1 _) ?_;intro w5 HG5 dW)
 rw[kY]at HG5
 generalize w'.alloc (.cells (rep x 0 k).toArray 3)=W at *
 go_loopw[8] (λi wr=>∃j:Nat,i=O j/\j<=k/\(0<k->0<j)/\Hid (wr.heap[w'.heap.size]?=some (.cells (rep x j k).toArray 3 (0,0))/\But w'.heap.size W wr)) (λi _=>k - (intOf i).toNat)
 case atStart=>exact⟨c0,by simp,vW.1,vW.2,I ⟨HG5,dW⟩⟩
 case round=>
  obtain⟨j,rfl,hj,hj0,HR⟩:=hrel
  by_cases hjl:j<k
  ·obtain⟨c9,hc9⟩:=bC (Nat.min j (k - j))
   have HC9:=I hc9
   have hc9':0<c9/\j+c9<=k/\c9<=j:=by rw[hc9];simp only[Nat.min_def];have:=hj0 aV;split<;>omega
   have HC9':=I hc9'
   have HRG:=I HR.out.1
   have hb1:(j:Int)<=(k:Int):=by omega
   have hb2:(0:Int)<=(j:Int):=by omega
   have hb3:j<=k:=hj
   have hb4:¬(k=j):=by omega
   obtain⟨n9,hn9⟩:=bC (j+c9)
   have HN9:=I hn9
   have hw1:IntKind.i64.wrap ((j:Int)+(c9:Int))=(n9:Int):=by rw[IntKind.wrap_i64];omega
   have hw2:wrap64 ((j:Int)+(c9:Int))=(n9:Int):=by simp[wrap64];omega
   clear hc9 hc9' hj0 hn9
   go_wp2_with fail
   go_region_law (refine V7 rfl _ _ 27 27 3 rfl underlying27 Yu w'.heap.size j (k - j) (k - j) (X w'.heap.size 0) j k (by simp[Act.eval,Act.put]) (by simp[Act.eval,Act.put]) (rep x j k) 3 HRG (List.replicate c9 (O x)) (by rw[yR];exact HC9) (λt v ht=>by
                                   rw[List.getElem?_replicate]at ht
                                   split at ht
                                   ·cases ht
                                    rw[Addr.add_lit,eu]
                                    exact(aj HRG t).trans (by rw[xP];exact rep_at x (by have:=HC9'.out;omega))
                                   ·cases ht) (by rw[yR,HRL j hj];have:=HC9'.out;omega) (HO1 _) ?_;intro w6 HG6 eF)
   have wX:Hid (splice (rep x j k) j (List.replicate c9 (O x))=rep x (j+c9) k):=I (Kh x HC9'.out.2.1)
   rw[wX,<-HN9]at HG6
   have jB:Hid (But w'.heap.size W w6):=I (HR.2.trans ⟨eF.os,eF.tape,eF.output,eF.size,eF.block⟩)
   clear eF HRG
   go_simp
   go_wp2_with fail
   go_roundw
   case rel=>exact⟨n9,rfl,by have:=HC9'.out;have:=HN9.out;omega,λ_=>by have:=HC9'.out;have:=HN9.out;omega,I ⟨HG6,jB⟩⟩
   case measure=>have:=HC9'.out;have:=HN9.out;simp[intOf];omega
  ·obtain rfl:j=k:=by omega
   have HRR:Hid (rep x j j=List.replicate j (O x)):=I (by unfold rep;rw[mZ];simp)
   have HGF:=I HR.out.1
   rw[HRR]at HGF
   have HBF:=I (HB0.trans (HR.2.below (bF _) HB0.size))
   go_wp2_with fail
   go_ret
   exact⟨_,rfl,I ⟨bF _,HGF,HBF⟩⟩
namespace Sm
section
variable {Z : Nat → Nat → Bool} {N n : Nat} {V : Nat → Nat × Nat} {l : List Si} {j : Nat} {y : Si}
def wK(Z:Nat->Nat->Bool)(N:Nat)(l:List Si)(j:Nat):Nat:=(l.take j).foldl (pcW Z N) (top Z N)
def jH(Z:Nat->Nat->Bool)(N:Nat)(V:Nat->Nat × Nat)(l:List Si)(j i:Nat):Nat:=(l.take j).foldl (bdW Z N V i) (top Z N)
def mQ(Z:Nat->Nat->Bool)(N:Nat)(V:Nat->Nat × Nat)(l:List Si)(k j i:Nat):List Int:=(List.range k).map λt=>if t<i then (jH Z N V l (j+1) t:Int)else (jH Z N V l j t:Int)
theorem pcTo_succ(hy:l[j]?=some y):wK Z N l (j+1)=pcW Z N (wK Z N l j) y:=by unfold wK;rw[gH,hy,lM,IC];rfl
theorem uJ(hy:l[j]?=some y)(i:Nat):jH Z N V l (j+1) i=bdW Z N V i (jH Z N V l j i) y:=by unfold jH;rw[gH,hy,lM,IC];rfl
theorem pcTo_lt(K:bO.Joins (bO.tr Z) N)(hs:∀s∈l,ER N n s)(ht:top Z N<N)(j:Nat):wK Z N l j<N:=PN (λ_ _ hb hs=>pcW_lt K hb hs) (λs h=>hs s (Sy h)) ht
theorem bdTo_lt(K:bO.Joins (bO.tr Z) N)(hs:∀s∈l,ER N n s)(ht:top Z N<N)(j i:Nat):jH Z N V l j i<N:=PN (λ_ _ hb hs=>bdW_lt K hb hs) (λs h=>hs s (Sy h)) ht
theorem bdRow_len(k j i:Nat):(mQ Z N V l k j i).length=k:=by unfold mQ;rw[dR,tK]
theorem Ki{k i:Nat}(hi:i<k)(j:Nat):(mQ Z N V l k j i)[i]?=some (jH Z N V l j i:Int):=by unfold mQ;rw[pY,List.getElem?_range hi,jP,aJ (Nat.lt_irrefl _)]
theorem M5{k i:Nat}(hi:i<k)(j:Nat):(mQ Z N V l k j i).set i (jH Z N V l (j+1) i:Int)=mQ Z N V l k j (i+1):=by
 apply List.ext_getElem?;intro t;rw[List.getElem?_set];unfold mQ;simp only[pY,dR,tK];by_cases htk:t<k
 ·rw[List.getElem?_range htk,jP];by_cases e:i=t;·subst e;rw[aL rfl,aL hi,jP,aL (Nat.lt_succ_self _)]
  ·rw[aJ e,jP];by_cases h:t<i;·rw[aL h,aL aV]
   ·rw[aJ h,aJ aV]
 ·rw[L6 (by rw[tK];omega)];rw[aJ aV];rfl
theorem V9{k i:Nat}(hi:i<k)(j:Nat)(h:jH Z N V l (j+1) i=jH Z N V l j i):mQ Z N V l k j i=mQ Z N V l k j (i+1):=by
 rw[<-M5 hi,h];apply List.ext_getElem?;intro t;rw[List.getElem?_set];split;·rename_i e;subst e;rw[aL (by rw[bdRow_len];exact hi)];exact Ki hi j
 ·rfl
theorem Wd(k j:Nat):mQ Z N V l k j k=mQ Z N V l k (j+1) 0:=by unfold mQ;refine LW λt ht=>?_;rw[aL (jG.1 ht),aJ (fK _)]
theorem Wh(k:Nat):mQ Z N V l k 0 0=List.replicate k (top Z N:Int):=by
 unfold mQ;apply List.ext_getElem?;intro t;rw[pY,List.getElem?_replicate];by_cases h:t<k;·rw[List.getElem?_range h,jP,aJ (fK _),aL h];rfl
 ·rw[L6 (by rw[tK];omega),aJ h];rfl
theorem bdRow_all(k:Nat):mQ Z N V l k l.length 0=bds Z N V l k:=by unfold mQ bds bd jH;refine LW λt _=>?_;rw[aJ (fK _),iL]
theorem pcTo_all:wK Z N l l.length=pc Z N l:=by unfold wK pc;rw[iL]
end
end Sm
def qo(w:World)(B:Nat)(l:List Int):Prop:=w.heap[B]?=some (.cells (l.map (Value.int .i64)).toArray 3 (0,0))
theorem qo.cell{w:World}{B:Nat}{l:List Int}(h:qo w B l){i:Nat}{x:Int}(hx:l[i]?=some x):w.cell? (X B i)=some (O x):=(aj h i).trans (by simp[hx])
theorem qo.set{w:World}{B:Nat}{l:List Int}(h:qo w B l)(i:Nat)(x:Int):qo (w.setCell (X B i) (O x)) B (l.set i x):=by have:=aP h i (O x);unfold qo;rw[this];simp[List.map_set]
theorem Kj{n B:Nat}{w W:World}(h:Below n w W)(hB:n<=B)(r0 r1 r2 r3 r4 r5:Value):Below n w ((((((W.setCell (X B 0) r0).setCell (X B 1) r1).setCell (X B 2) r2).setCell (X B 3) r3).setCell (X B 4) r4).setCell (X B 5) r5):=
 (((((h.setCell (p:=(X B 0)) hB r0).setCell (p:=(X B 1)) hB r1).setCell (p:=(X B 2)) hB r2).setCell (p:=(X B 3)) hB r3).setCell (p:=(X B 4)) hB r4).setCell (p:=(X B 5)) hB r5
end Go.Proofs.YtbgkpehhdibaoaaGreatDoor
