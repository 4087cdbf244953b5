/- part -/
import Derived.Test.YtbgkpehhdibaoaaGreatDoorBZBJ
import Derived.Test.YtbgkpehhdibaoaaGreatDoorBZSO
import Derived.Test.YtbgkpehhdibaoaaGreatDoorBZPA
set_option maxHeartbeats 0
set_option maxRecDepth 99999
namespace Go.Proofs.YtbgkpehhdibaoaaGreatDoor
open Fl bN bJ Sv
open Go.Proofs.Tryz
open Go.RowKit Go.Maps Go.WideMaps
namespace Fl
def TF(ss:List ByteArray)(G:Nat)(L:Nat->Nat)(Z:Nat->Nat->Bool)(m:Nat)(x:Mo)(k:Int)(known:List Mo)(bK:List (List Sc))(own:List Sc)(mn mc:Int):Int:=
 if Np ss G L Z m x k known bK own≠0 then Np ss G L Z m x k known bK own else match x.bg[k.toNat]? with
  | some f=>if Iy (gH ss Z x k.toNat known bK own f) m f mn mc then 2 else 0
  | none=>0
theorem wiE_ok{ss:List aY}{G:Nat}{L:Nat->Nat}{Z:Nat->Nat->Bool}{m:Nat}{x:Mo}{k:Int}{known:List Mo}{bK:List (List Sc)}{own:List Sc}(h:Np ss G L Z m x k known bK own=0):yZ (bX ss G L Z) m x known=0/\bJ.once (Ei ss x known m)=[]/\∃(kn:Nat) (f:Fu),k=kn/\x.bg[kn]?=some f/\iN ss.length known bK=true/\sD ss.length (x.bg.take kn) own=true:=by
 unfold Np at h;by_cases h1:yZ (bX ss G L Z) m x known≠0;·rw[aL h1]at h;exact aM h h1
 ·rw[aJ h1]at h;by_cases h2:bJ.once (Ei ss x known m)≠[];·rw[aL h2]at h;omega
  ·rw[aJ h2]at h;by_cases h3:k<0\/k>=x.bg.length\/iN ss.length known bK=false\/sD ss.length (x.bg.take k.toNat) own=false;·rw[aL h3]at h;omega
   ·have a1:¬k<0:=λh=>h3 (aR h);have a2:¬k>=x.bg.length:=λh=>h3 (aV (aR h));have a3:¬iN ss.length known bK=false:=λh=>h3 (aV (aV (aR h)));have a4:¬sD ss.length (x.bg.take k.toNat) own=false:=λh=>h3 (aV (aV (aV h)));have hlt:k.toNat<x.bg.length:=by omega
    exact⟨Classical.not_not.1 h1,Classical.not_not.1 h2,k.toNat,x.bg[k.toNat],by omega,bD hlt,by simpa using a3,by simpa using a4⟩
end Fl
theorem TG(m:Nat)(w:World)(vn vl vi vv vf vk vs vo:Value)(ss:List aY)(G:Nat)(L:Nat->Nat)(Z:Nat->Nat->Bool)(x:Mo)(known:List Mo)(bK:List (List Sc))(own:List Sc)(k mn mc:Int)(hP:lZ w m vn vl vi vv vf vk vs vo ss G L Z x known bK own):Calls prog 54 #[.agg #[vn,vl],.agg #[A x.name,vi,vv,vf],O k,vk,vs,vo,O mn,O mc] w λe w'=>Hid ((Fl.TF ss G L Z m x k known bK own mn mc≠0/\e=dz (.tuple #[.agg #[J,J,J,J,O 0,O 0,J],O (Fl.TF ss G L Z m x k known bK own mn mc)])/\bG w w')\/(Fl.TF ss G L Z m x k known bK own mn mc=0/\∃(kn:Nat) (f:Fu),k=kn/\x.bg[kn]?=some f/\∃dS vc vs vf ve,e=dz (.tuple #[.agg #[dS,vc,vs,vf,O 0,O ((Fl.gH ss Z x kn known bK own f).jq m f).level,ve],O 0])/\vN w' w.heap.size dS vc vs vf ve ((Fl.gH ss Z x kn known bK own f).jq m f)/\bG w w')):=by
 by_cases hz:Fl.Np ss G L Z m x k known bK own=0
 ·obtain⟨h1,h2,kn,f,hkk,hf,h3,h4⟩:=Fl.wiE_ok hz;have hx:Fl.TF ss G L Z m x k known bK own mn mc=if Fl.Iy (Fl.gH ss Z x kn known bK own f) m f mn mc then 2 else 0:=by
   unfold Fl.TF;rw[aJ (by simp[hz])];have e:k.toNat=kn:=by omega
   rw[e,hf]
  refine(Yo m w vn vl vi vv vf vk vs vo ss G L Z x known bK own k mn mc hP h1 h2 kn f hkk hf h3 h4).mono ?_;intro e w' h;rcases h with⟨a,b,c⟩|⟨a,b⟩;·rw[hx,a];exact I (aR ⟨by decide,b,c⟩)
  ·rw[hx,a];exact I (aV ⟨rfl,kn,f,hkk,hf,b⟩)
 ·have hx:Fl.TF ss G L Z m x k known bK own mn mc=Fl.Np ss G L Z m x k known bK own:=by unfold Fl.TF;rw[aL hz]
  rw[hx];have fine:∀{E:Int},Fl.Np ss G L Z m x k known bK own=E->(Calls prog 54 #[.agg #[vn,vl],.agg #[A x.name,vi,vv,vf],O k,vk,vs,vo,O mn,O mc] w λe w'=>e=dz (.tuple #[.agg #[J,J,J,J,O 0,O 0,J],O E])/\bG w w')->Calls prog 54 #[.agg #[vn,vl],.agg #[A x.name,vi,vv,vf],O k,vk,vs,vo,O mn,O mc] w λe w'=>Hid ((Fl.Np ss G L Z m x k known bK own≠0/\e=dz (.tuple #[.agg #[J,J,J,J,O 0,O 0,J],O (Fl.Np ss G L Z m x k known bK own)])/\bG w w')\/(Fl.Np ss G L Z m x k known bK own=0/\∃(kn:Nat) (f:Fu),k=kn/\x.bg[kn]?=some f/\∃dS vc vs vf ve,e=dz (.tuple #[.agg #[dS,vc,vs,vf,O 0,O ((Fl.gH ss Z x kn known bK own f).jq m f).level,ve],O 0])/\vN w' w.heap.size dS vc vs vf ve ((Fl.gH ss Z x kn known bK own f).jq m f)/\bG w w')):=λhe h=>h.mono λe w' hh=>I (aR ⟨hz,by rw[he];exact hh.1,hh.2⟩);by_cases h1:yZ (bX ss G L Z) m x known=0
  ·by_cases h2:bJ.once (Ei ss x known m)=[]
   ·have he:Fl.Np ss G L Z m x k known bK own=1:=by
     unfold Fl.Np at hz ⊢;rw[aJ (by simp[h1]),aJ (by simp[h2])]at hz ⊢;split at hz;·rename_i h;rw[aL h]
     ·exact aM rfl hz
    by_cases k1:k<0;·exact fine he (Qg m w vn vl vi vv vf vk vs vo ss G L Z x known bK own k mn mc hP h1 h2 k1)
    ·by_cases k2:k>=x.bg.length;·exact fine he (Qh m w vn vl vi vv vf vk vs vo ss G L Z x known bK own k mn mc hP h1 h2 k1 k2)
     ·have hkk:k=k.toNat:=by omega
      have hkl:k.toNat<x.bg.length:=by omega
      cases h3:Fl.iN ss.length known bK with
      | false=>exact fine he (Qi m w vn vl vi vv vf vk vs vo ss G L Z x known bK own k mn mc hP h1 h2 k.toNat hkk hkl h3)
      | true=>
       cases h4:sD ss.length (x.bg.take k.toNat) own with
       | false=>exact fine he (Qj m w vn vl vi vv vf vk vs vo ss G L Z x known bK own k mn mc hP h1 h2 k.toNat hkk hkl h3 h4)
       | true=>
        exfalso;apply hz;unfold Fl.Np;rw[aJ (by simp[h1]),aJ (by simp[h2]),aJ];rintro(h|h|h|h);·exact k1 h
        ·exact k2 h
        ·rw[h3]at h;cases h
        ·rw[h4]at h;cases h
   ·have he:Fl.Np ss G L Z m x k known bK own=5:=by unfold Fl.Np;rw[aJ (by simp[h1]),aL h2]
    exact fine he (Qf m w vn vl vi vv vf vk vs vo ss G L Z x known bK own k mn mc hP h1 h2)
  ·have he:Fl.Np ss G L Z m x k known bK own=yZ (bX ss G L Z) m x known:=by unfold Fl.Np;rw[aL h1]
   exact fine he (Qe m w vn vl vi vv vf vk vs vo ss G L Z x known bK own k mn mc hP h1)
namespace Sm
open Fl
section
variable (Z : Nat → Nat → Bool) (N : Nat)
def tell(V:Nat->Nat × Nat)(fr:List Int)(a:Nat × Nat):Nat × Nat:=fr.foldl (λx v=>Sv.join Z N x (V v.toNat)) a
def lab(mask level:Int):Nat × Nat:=(mask.toNat,level.toNat)
def met(a b:Nat):Nat:=mh (bN.tr Z) N a b
def top:Nat:=vE (bN.tr Z) N
noncomputable def least(n:Nat)(cs:List Co):Nat->Nat × Nat:=Classical.epsilon λV=>yQ Z N n cs V
def Ns(V:Nat->Nat × Nat)(s:Si):Nat × Nat:=tell Z N V s.fr (lab s.mask s.level)
def bdW(V:Nat->Nat × Nat)(i:Nat)(b:Nat)(s:Si):Nat:=if (Ns Z N V s).1.testBit i then met Z N b s.lv.toNat else b
def bd(V:Nat->Nat × Nat)(sinks:List Si)(i:Nat):Nat:=sinks.foldl (bdW Z N V i) (top Z N)
def pcW(b:Nat)(s:Si):Nat:=if s.gY then met Z N b s.lv.toNat else b
def pc(sinks:List Si):Nat:=sinks.foldl (pcW Z N) (top Z N)
def bds(V:Nat->Nat × Nat)(sinks:List Si)(n:Nat):List Int:=(List.range n).map λi=>(bd Z N V sinks i:Int)
def dW(V:Nat->Nat × Nat)(P:Pb)(f:Fu):Sc:=⟨f.name,(tell Z N V P.fr (lab P.mask P.level)).1,(tell Z N V P.fr (lab P.mask P.level)).2,bds Z N V P.sinks f.params.length,pc Z N P.sinks,P.gY⟩
def bad(V:Nat->Nat × Nat)(s:Si):Bool:=!Z (Ns Z N V s).2 s.lv.toNat
def F6(V:Nat->Nat × Nat)(P:Pb)(fn:ByteArray):List Dg:=(P.sinks.filter (bad Z N V)).map λs=>⟨6,fn,s.name⟩
end
section
variable {Z : Nat → Nat → Bool} {N n : Nat} {V U : Nat → Nat × Nat}
theorem Qn(aah:bN.Joins Z N){cs:List Co}(h:yQ Z N n cs V):∀v,v<n->V v=least Z N n cs v:=h.unique aah (Classical.epsilon_spec (p:=λV=>yQ Z N n cs V) ⟨V,h⟩)
theorem Nt(aah:bN.Joins Z N)(hV:wI N n V):∀{fr:List Int} {a:Nat × Nat},(∀v∈fr,rz n v=true)->Sv.Ok N a->Sv.Ok N (tell Z N V fr a)
 | [],_,_,ha=>ha
 | v::fr,_,hf,ha=>Nt aah hV (fr:=fr) (λu hu=>hf u (pR _ hu)) (UQ aah ha (hV _ (kH (hf v List.mem_cons_self)).2.1))
theorem Dt(h:∀v,v<n->V v=U v):∀{fr:List Int} {a:Nat × Nat},(∀v∈fr,rz n v=true)->tell Z N V fr a=tell Z N U fr a
 | [],_,_=>rfl
 | v::fr,a,hf=>by have h1:=h _ (kH (hf v List.mem_cons_self)).2.1;show tell Z N V fr (Sv.join Z N a (V v.toNat))=tell Z N U fr (Sv.join Z N a (U v.toNat));rw[h1];exact Dt h (λu hu=>hf u (pR _ hu))
theorem Yr(fr:List Int)(v:Int)(a:Nat × Nat):tell Z N V (fr++[v]) a=Sv.join Z N (tell Z N V fr a) (V v.toNat):=by unfold tell;rw[OQ];rfl
theorem met_le(K:bN.Joins (bN.tr Z) N){a b:Nat}(ha:a<N)(hb:b<N)(h:Z a b=true):met Z N a b=a:=by unfold met;rw[K.comm ha hb];exact K.of_le hb ha h
theorem met_lt(K:bN.Joins (bN.tr Z) N){a b:Nat}(ha:a<N)(hb:b<N):met Z N a b<N:=K.lt ha hb
structure Du(N n:Nat)(s:Si):Prop where
 fr:∀v∈s.fr,rz n v=true
 lab:yw N s.mask s.level=true
 lv:0<=s.lv/\s.lv<N
theorem Du.lvN{s:Si}(h:Du N n s):s.lv.toNat<N/\s.lv=(s.lv.toNat:Int):=by have:=h.lv;omega
theorem siL_ok(aah:bN.Joins Z N)(hV:wI N n V){s:Si}(h:Du N n s):Sv.Ok N (Ns Z N V s):=Nt aah hV h.fr (uK h.lab).1
theorem Qo(h:∀v,v<n->V v=U v){s:Si}(hs:Du N n s):Ns Z N V s=Ns Z N U s:=Dt h hs.fr
theorem bdW_lt(K:bN.Joins (bN.tr Z) N){i b:Nat}{s:Si}(hb:b<N)(hs:Du N n s):bdW Z N V i b s<N:=by
 unfold bdW;split;·exact met_lt K hb hs.lvN.1
 ·exact hb
theorem pcW_lt(K:bN.Joins (bN.tr Z) N){b:Nat}{s:Si}(hb:b<N)(hs:Du N n s):pcW Z N b s<N:=by
 unfold pcW;split;·exact met_lt K hb hs.lvN.1
 ·exact hb
theorem Nu{g:Nat->Si->Nat}(hg:∀b s,b<N->Du N n s->g b s<N):∀{l:List Si} {b:Nat},(∀s∈l,Du N n s)->b<N->l.foldl g b<N
 | [],_,_,hb=>hb
 | s::l,b,hs,hb=>Nu hg (l:=l) (λt ht=>hs t (pR _ ht)) (hg b s hb (hs s List.mem_cons_self))
theorem KP{α β:Type}{g h:β->α->β}:∀{l:List α} {b:β},(∀s∈l,∀b,g b s=h b s)->l.foldl g b=l.foldl h b
 | [],_,_=>rfl
 | s::l,b,hs=>by rw[rF,rF,hs s List.mem_cons_self];exact KP λt ht=>hs t (pR _ ht)
theorem bd_cong(h:∀v,v<n->V v=U v){l:List Si}(hs:∀s∈l,Du N n s)(i:Nat):bd Z N V l i=bd Z N U l i:=
 KP λs hs' b=>by unfold bdW;rw[Qo h (hs s hs')]
theorem VP(l:List Si)(k:Nat):(bds Z N V l k).length=k:=by unfold bds;rw[dO,rM]
theorem bds_cong(h:∀v,v<n->V v=U v){l:List Si}(hs:∀s∈l,Du N n s)(k:Nat):bds Z N V l k=bds Z N U l k:=
 JY λi _=>by rw[bd_cong h hs]
structure TH(N:Nat)(P:Pb):Prop where
 cons:∀c∈P.cons,Jq N P.names.length c=true
 sinks:∀s∈P.sinks,Du N P.names.length s
 fr:∀v∈P.fr,rz P.names.length v=true
 lab:yw N P.mask P.level=true
theorem Qp{P:Pb}(hP:TH N P)(h:∀v,v<P.names.length->V v=U v)(f:Fu):dW Z N V P f=dW Z N U P f:=by unfold dW;rw[Dt h hP.fr,bds_cong h hP.sinks]
theorem Qq{P:Pb}(hP:TH N P)(h:∀v,v<P.names.length->V v=U v)(fn:aY):F6 Z N V P fn=F6 Z N U P fn:=by unfold F6;congr 1;refine List.filter_congr λs hs=>?_;unfold bad;rw[Qo h (hP.sinks s hs)]
end
section
variable {c : Env}
theorem TI(hc:c.Ok):∀{m:Nat} {x:Ex} {pc:Hg} {s:Sk},c.wT m x->pc.2<c.N->s∈c.yV m x pc->s.lab<c.N/\0<=s.lv/\s.lv<c.N
 | 0,_,_,_,hx,_,_=>iW hx
 | m+1,x,pc,s,hx,hp,hs=>by
  simp only[Env.yV,bZ,iC]at hs;rcases hs with⟨y,hy,hs⟩|hs;·exact TI hc (hx.2.2.2 y hy) hp hs
  ·split at hs
   ·rename_i h4;obtain⟨_,ho⟩:=hx.2.2.1 h4;simp only[bZ,dD,Env.XI,jP,jr]at hs;rcases hs with⟨i,hi,rfl⟩|rfl
    ·refine⟨Env.wV hc (hx.2.2.2 _ (G7 hi)),?_⟩;have hb:i<(c.dW x.name).bounds.length:=by rw[ho.bounds];exact hi
     show 0<=(c.dW x.name).bounds.getD i 0/\(c.dW x.name).bounds.getD i 0<c.N;rw[List.getD,bD hb,iw];exact ho.Ce _ (kP hb)
    ·exact⟨hp,ho.pc⟩
   ·simp at hs
theorem VQ(hc:c.Ok){m:Nat}{pc:Hg}{s:St}(hp:pc.2<c.N)(he:c.wT m s.e):(c.here m pc s).2<c.N:=Env.Mv hc hp (Env.wV hc he)
theorem TJ(hc:c.Ok)(hpl:∀s,c.pl s<c.N):∀{m:Nat} {l:List St} {pc:Hg} {s:Sk},c.wU m l->pc.2<c.N->s∈c.Jd m l pc->s.lab<c.N/\0<=s.lv/\s.lv<c.N
 | 0,_,_,_,hx,_,_=>iW hx
 | m+1,l,pc,s,hx,hp,hs=>by
  simp only[Env.Jd,bZ,iC]at hs;obtain⟨t,ht,hs⟩:=hs;obtain⟨_,h2,_,h4,h5,h6⟩:=hx t ht;have hh:=VQ hc hp h2;rcases hs with((hs|hs)|hs)|hs
  ·refine TI hc h2 ?_ hs;unfold Env.at;split;·exact hh
   ·exact hp
  ·unfold Env.Vi Env.skN at hs;split at hs
   ·split at hs;·rename_i n hn;rw[dD]at hs;subst hs;have h1:=hc.mX _ n hn;exact⟨hh,Int.natCast_nonneg n,by show(n:Int)<(c.N:Int);omega⟩
    ·simp at hs
   ·split at hs;·rename_i hk;rw[dD]at hs;subst hs;exact⟨hh,h4 hk,hpl _⟩
    ·simp at hs
  ·exact TJ hc hpl h5 hh hs
  ·exact TJ hc hpl h6 hh hs
theorem TK(hc:c.Ok):∀{m:Nat} {l:List St} {pc:Hg} {s:Cn},c.wU m l->pc.2<c.N->s∈c.G6 m l pc->s.lab<c.N/\s.to∈c.vS m l
 | 0,_,_,_,hx,_,_=>iW hx
 | m+1,l,pc,s,hx,hp,hs=>by
  simp only[Env.G6,bZ,iC]at hs;obtain⟨t,ht,hs⟩:=hs;obtain⟨_,h2,_,h4,h5,h6⟩:=hx t ht;have hh:=VQ hc hp h2;simp only[Env.vS,bZ,iC];rcases hs with(hs|hs)|hs
  ·unfold Env.XJ Env.cnN at hs;split at hs
   ·rename_i hk;split at hs;·simp at hs
    ·rename_i hn;rw[dD]at hs;subst hs;refine⟨hh,t,ht,aR (aR (aV ?_))⟩;unfold Env.Eh Env.JA;rw[aL hk,hn];exact dD.2 rfl
   ·simp at hs
  ·obtain⟨a,b⟩:=TK hc h5 hh hs;exact⟨a,t,ht,aR (aV b)⟩
  ·obtain⟨a,b⟩:=TK hc h6 hh hs;exact⟨a,t,ht,aV b⟩
theorem Iz{nl vs:List aY}:∀v∈nums nl vs,rz nl.length v=true:=λv hv=>by have:=nums_bd hv;unfold rz;simp only[dJ,gP];exact this
theorem BP{N a b:Nat}(ha:a<=15)(hb:b<N):yw N (a:Int) (b:Int)=true:=by unfold yw;simp only[dJ,gP];omega
theorem prob_ok(hc:c.Ok)(hpl:∀s,c.pl s<c.N){m:Nat}{f:Fu}(h1:c.wU m f.body)(h2:c.wT m f.result)(h4:f.params.length<=4):TH c.N (c.jq m f):=by
 have hlow:(([],c.low):Hg).2<c.N:=hc.low;have hpar:f.params.length<=(c.names m f).length:=by unfold Env.names;obtain⟨t,ht⟩:=adds_pre (c.vS m f.body++c.mW m f.result) f.params;rw[ht,aT];omega
 refine⟨λk hk=>?_,λs hs=>?_,Iz,BP (bL _) (Env.wV hc h2)⟩
 ·simp only[Env.jq,bZ,jP,jr]at hk;rcases hk with⟨i,hi,rfl⟩|⟨s,hs,rfl⟩
  ·have h15:2 ^ i<=15:=by
    have:i<=3:=by omega
    calc 2 ^ i<=2 ^ 3:=Nat.pow_le_pow_right bO this
     _<=15:=by decide
   have e:=BP (N:=c.N) h15 hc.low;unfold Jq Bo;simp only[List.all_nil,mH,dJ];refine⟨?_,e⟩;unfold rz;simp only[dJ,gP];show(0:Int)<=(i:Int)/\(i:Int)<((c.names m f).length:Int);omega
  ·obtain⟨a,b⟩:=TK hc h1 hlow hs;have hin:s.to∈c.names m f:=by unfold Env.names;exact qN.2 (aV (bZ.2 (aR b)))
   obtain⟨i,hi⟩:=uR hin;have hlt:i<(c.names m f).length:=by have:=tF hi;exact(dK.1 this).1
   have e:=BP (N:=c.N) (bL 15) a;unfold Jq zQ;simp only[dJ,iB];refine⟨Iz,?_,e⟩;rw[hi,iw];unfold rz;simp only[dJ,gP];show(0:Int)<=(i:Int)/\(i:Int)<((c.names m f).length:Int);omega
 ·simp only[Env.jq,jP]at hs;obtain⟨s',hs',rfl⟩:=hs;have hk:s'.lab<c.N/\0<=s'.lv/\s'.lv<c.N:=by
   rcases bZ.1 hs' with h|h;·exact TJ hc hpl h1 hlow h
   ·exact TI hc h2 hlow h
  exact⟨Iz,BP (bL _) hk.1,hk.2⟩
theorem JL(m:Nat)(f:Fu):(c.jq m f).cons.length=f.params.length+c.tH m f.body:=by simp only[Env.jq,aT,dO,rM,TB]
end
noncomputable def inf(ss:List ByteArray)(Z:Nat->Nat->Bool)(m:Nat)(x:Mo)(known:List Mo)(bK:List (List Sc)):Nat->List Sc × List Dg
 | 0=>([],[])
 | k+1=>match x.bg[k]? with
  | none=>inf ss Z m x known bK k
  | some f=>
   let r:=inf ss Z m x known bK k
   let P:=(gH ss Z x k known bK r.1 f).jq m f
   let V:=least Z ss.length P.names.length P.cons
   (r.1++[dW Z ss.length V P f],r.2++F6 Z ss.length V P f.name)
noncomputable def rA(ss:List ByteArray)(G:Nat)(L:Nat->Nat)(Z:Nat->Nat->Bool)(m:Nat)(x:Mo)(known:List Mo)(bK:List (List Sc)):Nat->Int
 | 0=>0
 | k+1=>if rA ss G L Z m x known bK k≠0 then rA ss G L Z m x known bK k else TF ss G L Z m x k known bK (inf ss Z m x known bK k).1 40 1000
end Sm
open Sm
theorem nH.strs{w:World}{B:Nat}{v:Value}{l:List aY}(h:nH w B v l)(hz:∀u∈l,u.size<=maxLen)(hl:l.length<=9223372036854775807):Strs w v l:=by
 rcases h with⟨rfl,rfl⟩|⟨g,cap,rfl,_,hr⟩;·exact⟨none,0,0,0,rfl,λh=>aM h dx,by simp,hz,λi hi=>aM hi dx⟩
 ·refine⟨_,g,0,cap,rfl,λ_=>rfl,hl,hz,λi hi=>?_⟩;rw[eD,hr.cell (bD hi),List.getD,bD hi];rfl
def CoL(w:World)(v:Value)(l:List Co):Prop:=
 ∃(a:Option Addr) (b off cap:Nat),v=.slice a l.length cap/\(0<l.length->a=some ⟨b,off,none⟩)/\l.length<=9223372036854775807/\
  ∀(i:Nat) y,l[i]?=some y->∃vf,w.cell? ⟨b,off+i*4,none⟩=some (.int .i64 y.to)/\w.cell? ⟨b,off+i*4+1,none⟩=some vf/\w.cell? ⟨b,off+i*4+2,none⟩=some (.int .i64 y.mask)/\w.cell? ⟨b,off+i*4+3,none⟩=some (.int .i64 y.level)/\Ints w vf y.fr
def SiL(w:World)(v:Value)(l:List Si):Prop:=
 ∃(a:Option Addr) (b off cap:Nat),v=.slice a l.length cap/\(0<l.length->a=some ⟨b,off,none⟩)/\l.length<=9223372036854775807/\
  ∀(i:Nat) y,l[i]?=some y->∃vf,w.cell? ⟨b,off+i*6,none⟩=some vf/\w.cell? ⟨b,off+i*6+1,none⟩=some (.int .i64 y.mask)/\w.cell? ⟨b,off+i*6+2,none⟩=some (.int .i64 y.level)/\w.cell? ⟨b,off+i*6+3,none⟩=some (.int .i64 y.lv)/\w.cell? ⟨b,off+i*6+4,none⟩=some (.string y.name)/\w.cell? ⟨b,off+i*6+5,none⟩=some (.bool y.gY)/\Ints w vf y.fr
theorem CoL.below{w w':World}{v:Value}{l:List Co}(h:CoL w v l)(hb:bG w w'):CoL w' v l:=by obtain⟨a,b,off,cap,e,h0,hl,h1⟩:=h;refine⟨a,b,off,cap,e,h0,hl,λi y hy=>?_⟩;obtain⟨vf,g0,g1,g2,g3,k⟩:=h1 i y hy;exact⟨vf,aD g0 hb,aD g1 hb,aD g2 hb,aD g3 hb,k.below hb⟩
theorem SiL.below{w w':World}{v:Value}{l:List Si}(h:SiL w v l)(hb:bG w w'):SiL w' v l:=by obtain⟨a,b,off,cap,e,h0,hl,h1⟩:=h;refine⟨a,b,off,cap,e,h0,hl,λi y hy=>?_⟩;obtain⟨vf,g0,g1,g2,g3,g4,g5,k⟩:=h1 i y hy;exact⟨vf,aD g0 hb,aD g1 hb,aD g2 hb,aD g3 hb,aD g4 hb,aD g5 hb,k.below hb⟩
theorem coL_of{w:World}{n:Nat}{v:Value}{l:List Co}(h:dV CoT w n 261 4 v l)(hl:l.length<=9223372036854775807):CoL w v l:=by
 by_cases h0:l=[];·subst h0;obtain⟨a,c,rfl⟩:=h.form;exact⟨a,0,0,c,rfl,λh=>aM h dx,by simp,λi y hy=>aM hy dx⟩
 ·obtain⟨y0,hy0⟩:∃y,l[0]?=some y:=by
   cases l with
   | nil=>exact aM rfl h0
   | cons y l=>exact⟨y,rfl⟩
  obtain⟨g,cap,hv,-⟩:=h.get hy0;refine⟨_,g,0,cap,hv,λ_=>rfl,hl,λi y hy=>?_⟩;obtain⟨g',cap',hv',c,hc4,BQ,hat⟩:=h.get hy;obtain rfl:g'=g:=by rw[hv]at hv';injection hv' with hv';injection hv' with hv';injection hv' with hv';exact hv'.symm
  obtain⟨vf,hi,rfl⟩:=hat;obtain⟨k0,k1,k2,k3⟩:=tZ (BQ 0 aX) (BQ 1 aX) (BQ 2 aX) (BQ 3 aX);rw[eD];exact⟨vf,k0,k1,k2,k3,hi.ints⟩
theorem siL_of{w:World}{n:Nat}{v:Value}{l:List Si}(h:dV SiC w n 209 6 v l)(hl:l.length<=9223372036854775807):SiL w v l:=by
 by_cases h0:l=[];·subst h0;obtain⟨a,c,rfl⟩:=h.form;exact⟨a,0,0,c,rfl,λh=>aM h dx,by simp,λi y hy=>aM hy dx⟩
 ·obtain⟨y0,hy0⟩:∃y,l[0]?=some y:=by
   cases l with
   | nil=>exact aM rfl h0
   | cons y l=>exact⟨y,rfl⟩
  obtain⟨g,cap,hv,-⟩:=h.get hy0;refine⟨_,g,0,cap,hv,λ_=>rfl,hl,λi y hy=>?_⟩;obtain⟨g',cap',hv',c,hc4,BQ,hat⟩:=h.get hy;obtain rfl:g'=g:=by rw[hv]at hv';injection hv' with hv';injection hv' with hv';injection hv' with hv';exact hv'.symm
  obtain⟨vf,hi,rfl⟩:=hat;obtain⟨k0,k1,k2,k3⟩:=tZ (BQ 0 aX) (BQ 1 aX) (BQ 2 aX) (BQ 3 aX);obtain⟨k4,k5⟩:=eY (BQ 4 aX) (BQ 5 aX);rw[eD];exact⟨vf,k0,k1,k2,k3,k4,k5,hi.ints⟩
theorem Ints.IB{w:World}{v:Value}{l:List Int}(h:Ints w v l):∃a c,v=Y a l.length c:=by obtain⟨a,b,off,cap,e,-⟩:=h;exact⟨a,cap,e⟩
structure PbV(w:World)(dS vc vs vf ve:Value)(P:Pb):Prop where
 names:Strs w dS P.names
 cons:CoL w vc P.cons
 sinks:SiL w vs P.sinks
 fr:Ints w vf P.fr
 gY:Strs w ve P.gY
theorem PbV.below{w w':World}{dS vc vs vf ve:Value}{P:Pb}(h:PbV w dS vc vs vf ve P)(hb:bG w w'):PbV w' dS vc vs vf ve P:=⟨h.names.below hb,h.cons.below hb,h.sinks.below hb,h.fr.below hb,h.gY.below hb⟩
theorem jF{w:World}{v:Value}{l:List aY}(h:Strs w v l):∃a c,v=Y a l.length c:=by obtain⟨a,b,off,cap,e,-⟩:=h;exact⟨a,cap,e⟩
theorem CoL.form{w:World}{v:Value}{l:List Co}(h:CoL w v l):∃a c,v=Y a l.length c:=by obtain⟨a,b,off,cap,e,-⟩:=h;exact⟨a,cap,e⟩
theorem SiL.form{w:World}{v:Value}{l:List Si}(h:SiL w v l):∃a c,v=Y a l.length c:=by obtain⟨a,b,off,cap,e,-⟩:=h;exact⟨a,cap,e⟩
structure So where
 vn:Value
 vl:Value
 v0:Value
 v1:Value
 v2:Value
 v3:Value
 ma:Int
 lv:Int
 v4:Value
 vL:Value
 vK:Value
def So.cs(s:So):Array Value:=#[s.vn,s.vl,s.v0,s.v1,s.v2,s.v3,.int .i64 s.ma,.int .i64 s.lv,s.v4,s.vL,s.vK]
def So.Form(s:So):Prop:=(∃a n c,s.vn=.slice a n c)/\(∃a n c,s.vl=.slice a n c)/\(∃a n c,s.v0=.slice a n c)/\(∃a n c,s.v1=.slice a n c)/\(∃a n c,s.v2=.slice a n c)/\(∃a n c,s.v3=.slice a n c)/\(∃a n c,s.v4=.slice a n c)/\(∃a n c,s.vL=.slice a n c)/\∃a n c,s.vK=.slice a n c
def BR(l:List (Nat × Nat)):List (Int × Int):=l.map λx=>((x.1:Int),(x.2:Int))
theorem Dv{l:List (Nat × Nat)}{i:Nat}{x:Nat × Nat}(h:l[i]?=some x):(BR l)[i]?=some ((x.1:Int),(x.2:Int)):=by unfold BR;rw[qA,h];rfl
theorem tQ(l:List (Nat × Nat)):(BR l).length=l.length:=dO ..
theorem Nv(s:So)(h:s.Form):∃a0 n0 c0 a1 n1 c1 a2 n2 c2 a3 n3 c3 a4 n4 c4 a5 n5 c5 a6 n6 c6 a7 n7 c7 a8 n8 c8,s=⟨Y a0 n0 c0,Y a1 n1 c1,Y a2 n2 c2,Y a3 n3 c3,Y a4 n4 c4,Y a5 n5 c5,s.ma,s.lv,Y a6 n6 c6,Y a7 n7 c7,Y a8 n8 c8⟩:=by obtain⟨vn,vl,v0,v1,v2,v3,mk,lv,v4,vL,vK⟩:=s;obtain⟨⟨a0,n0,c0,rfl⟩,⟨a1,n1,c1,rfl⟩,⟨a2,n2,c2,rfl⟩,⟨a3,n3,c3,rfl⟩,⟨a4,n4,c4,rfl⟩,⟨a5,n5,c5,rfl⟩,⟨a6,n6,c6,rfl⟩,⟨a7,n7,c7,rfl⟩,⟨a8,n8,c8,rfl⟩⟩:=h;exact⟨_,_,_,_,_,_,_,_,_,_,_,_,_,_,_,_,_,_,_,_,_,_,_,_,_,_,_,rfl⟩
theorem lT.forms{w:World}{vn vl:Value}{ss:List aY}{G:Nat}{L:Nat->Nat}{Z:Nat->Nat->Bool}(h:lT w vn vl ss G L Z):(∃a c,vn=Y a ss.length c)/\∃a n c,vl=Y a n c:=by refine⟨jF h.strs,?_⟩;obtain⟨gb,go,gc,RB,RO,C,e,-⟩:=h.grid;exact⟨_,_,_,e⟩
theorem pairE_ok{w:World}{vn vl:Value}{ss:List aY}{G:Nat}{L:Nat->Nat}{Z:Nat->Nat->Bool}(h:lT w vn vl ss G L Z){a b:Nat}(ha:a<ss.length)(hb:b<ss.length):yT ss G L Z a b=0:=by unfold yT;rw[aL h.ok];refine aL ?_;unfold bN.Ce;simp only[dJ,gP];omega
theorem VR(w:World)(s:So)(ss:List aY)(G:Nat)(L:Nat->Nat)(Z:Nat->Nat->Bool)(a b:Nat)(hF:s.Form)(hL:lT w s.vn s.vl ss G L Z)(ha:a<ss.length)(hb:b<ss.length):Calls prog 113 #[.agg s.cs,O a,O b] w λe w'=>e=dz (O (Sm.met Z ss.length a b:Nat))/\bG w w':=by
 obtain⟨a0,n0,c0,a1,n1,c1,a2,n2,c2,a3,n3,c3,a4,n4,c4,a5,n5,c5,a6,n6,c6,a7,n7,c7,a8,n8,c8,hs⟩:=Nv s hF;generalize s.ma=mk at hs;generalize s.lv=lv at hs;subst hs;simp only[So.cs]at hL ⊢;obtain⟨W,hW⟩:=bC (w.alloc (aW #[Y a0 n0 c0,Y a1 n1 c1,Y a2 n2 c2,Y a3 n3 c3,Y a4 n4 c4,Y a5 n5 c5,O mk,O lv,Y a6 n6 c6,Y a7 n7 c7,Y a8 n8 c8] 133));have dQ:Hid (bG w W):=I (by rw[hW];exact aH _ _);have lF:Hid (W.heap[w.heap.size]?=some (aW #[Y a0 n0 c0,Y a1 n1 c1,Y a2 n2 c2,Y a3 n3 c3,Y a4 n4 c4,Y a5 n5 c5,O mk,O lv,Y a6 n6 c6,Y a7 n7 c7,Y a8 n8 c8] 133)):=I (by rw[hW];exact aZ _ _);have HME:=I (meet_ok W (Y a0 n0 c0) (Y a1 n1 c1) ss G L Z a b (hL.strs.below dQ) (hL.NS.below dQ) (pairE_ok hL ha hb));have HMM:Hid (Z a b=true->Sm.met Z ss.length a b=a):=I (λh=>met_le hL.meets ha hb h);have HM2:Hid (mh (bN.tr Z) ss.length a b=Sm.met Z ss.length a b):=I rfl;rw[HM2]at HME;obtain⟨gb,go,gc,RB,RO,C,e1,h1,h2⟩:=(hL.below dQ).grid;obtain⟨r1,r2⟩:=eY (h1 a ha) (h2 a b ha hb);injection e1 with ea en ec;subst ea en ec;have hi1:(a:Int)<(ss.length:Int):=by omega
 have hi2:(b:Int)<(ss.length:Int):=by omega
 generalize ss.length=N at *;generalize Sm.met Z N a b=mt at *;generalize JR (bN.tr Z) N a b=je at *;obtain⟨x0,x1⟩:=iV lF;clear h1 h2 hL ha hb;cases hz:Z a b with
 | true =>rw[hz]at r2;have HMT:=I (HMM hz);clear hz;go_enter func113,ntmps113;go_upto_region 1 with fail;rw[<-hW];clear hW;go_wp2_with fail;go_ret;exact⟨by rw[HMT];rfl,dQ⟩
 | false =>rw[hz]at r2;clear hz;go_enter func113,ntmps113;go_upto_region 1 with fail;rw[<-hW];clear hW;go_wp2_with fail;refine HME.mono ?_;rintro e w5 ⟨rfl,hb5⟩;have d9:=I (up dQ hb5);clear hb5;go_wp2_with fail;go_ret;exact⟨rfl,d9⟩
theorem Qr(w:World)(s:So)(ss:List aY)(G:Nat)(L:Nat->Nat)(Z:Nat->Nat->Bool)(n:Nat)(V:Nat->Nat × Nat)(vf:Value)(fr:List Int)(a:Nat × Nat)(hF:s.Form)(hL:lT w s.vn s.vl ss G L Z)(hV:lD w s.vL (Sv.list n V))(hO:wI ss.length n V)(hI:Ints w vf fr)(hf:∀v∈fr,rz n v=true)(ha:Sv.Ok ss.length a):Calls prog 110 #[.agg s.cs,vf,.agg #[O (a.1:Nat),O (a.2:Nat)]] w λe w'=>e=dz (.agg #[O ((Sm.tell Z ss.length V fr a).1:Nat),O ((Sm.tell Z ss.length V fr a).2:Nat)])/\bG w w':=by
 obtain⟨a0,n0,c0,a1,n1,c1,a2,n2,c2,a3,n3,c3,a4,n4,c4,a5,n5,c5,a6,n6,c6,a7,n7,c7,a8,n8,c8,hs⟩:=Nv s hF;generalize s.ma=mk at hs;generalize s.lv=lv at hs;subst hs;simp only[So.cs]at hL hV ⊢;obtain⟨W,hW,k0,k1,k2,hsz,hBW⟩:=Za w (aW #[Y a0 n0 c0,Y a1 n1 c1,Y a2 n2 c2,Y a3 n3 c3,Y a4 n4 c4,Y a5 n5 c5,O mk,O lv,Y a6 n6 c6,Y a7 n7 c7,Y a8 n8 c8] 133) (aW #[O (a.1:Nat),O (a.2:Nat)] 33) (aW #[O 0,O 0] 33);obtain⟨iA,lF,jh,Fa⟩:=lY hBW k0 k1 k2;have HN01:Hid (w.heap.size≠w.heap.size+1/\w.heap.size+1+1≠w.heap.size+1):=I ⟨by omega,by omega⟩;obtain⟨fa,fb,fo,fc,rfl,hfa,hfl,xu⟩:=hI;obtain⟨nf,hnf⟩:=bC fr.length;have wB:=I hnf;rw[<-hnf]at hfa hfl ⊢;obtain⟨Nq,zO,Fy⟩:=fD hfa xu hL;obtain⟨la,lb,lo,lc,hle,hla,hll,hlel⟩:=hV;rw[BN]at hle hla hll;injection hle with e1 e2 e3;subst e1 e2 e3;obtain⟨HLA0,jH,HJ,HO⟩:=lY hla hlel (hL.joins) hO;have HF':=I hf;have HA:=I ha;have hn40:n7<=9223372036854775807:=hll;clear hnf hfa xu hla hlel k0 k1 k2 hBW hsz hL hO hf ha hll;go_enter func110,ntmps110;go_upto_region 1 with fail;rw[<-hW];clear hW;go_wp2_with fail;go_loopw[11] (λi wr=>∃j:Nat,j<=nf/\i=O j/\Hid (wr.heap[w.heap.size+1]?=some (aW #[O ((Sm.tell Z ss.length V (fr.take j) a).1:Nat),O ((Sm.tell Z ss.length V (fr.take j) a).2:Nat)] 33)/\But (w.heap.size+1) W wr)) (λi _=>nf - (intOf i).toNat);case atStart=>exact⟨0,bL _,rfl,I ⟨jh,But.refl _ _⟩⟩
 case round=>
  obtain⟨j,hj,rfl,HR⟩:=hrel;have Fv:=I (HR.2.below (B:=w.heap.size+1) (bE _) (by have:=bq jh;omega));have HBW':Hid (bG w wr):=I (iA.trans (HR.2.below (dF _) iA.size));obtain⟨HK0R,HK2R⟩:=bU (HR.2.at HN01.1 lF) (HR.2.at HN01.2 Fa);obtain⟨y,hy⟩:=bC (Sm.tell Z ss.length V (fr.take j) a);have HYK:Hid (Sv.Ok ss.length y):=I (by rw[hy];exact Nt HJ HO (λv hv=>HF'.out v (PZ hv)) HA);have HKY:Hid (wr.heap[w.heap.size+1]?=some (aW #[O (y.1:Nat),O (y.2:Nat)] 33)):=I (by rw[hy];exact HR.1);have HY:=I hy;clear hy;by_cases hjl:j<nf
  ·obtain⟨v,hv⟩:∃v,fr[j]?=some v:=⟨_,bD (by rw[<-wB];exact hjl)⟩;obtain⟨hv0,XZ,Zg⟩:=kH (HF'.out v (eT hv));obtain⟨k,hk⟩:=bC v.toNat;rw[<-hk]at XZ Zg;have fO:Hid (Sm.tell Z ss.length V (fr.take (j+1)) a=Sv.join Z ss.length y (V k)):=I (by rw[gy,hv,kU,Yr,<-HY,<-hk]);obtain rfl:=Nq aX;have gv:=aD (zO j v hv) HBW'.out;rw[Zg]at gv;obtain rfl:=HLA0 aX;obtain⟨g0,g1⟩:=jH k _ (PY V XZ);replace g0:=aS (aD g0 HBW'.out);replace g1:=aS (aD g1 HBW'.out);have HJC:Hid (∀q os,Calls prog 175 #[.agg #[Y a0 n0 c0,Y a1 n1 c1],.agg #[O (y.1:Nat),O (y.2:Nat)],.agg #[O ((V k).1:Nat),O ((V k).2:Nat)]] (gn wr q os) λe w'=>e=dz (.agg #[O ((Sv.join Z ss.length y (V k)).1:Nat),O ((Sv.join Z ss.length y (V k)).2:Nat)])/\Below (gn wr q os).heap.size (gn wr q os) w'):=I λq os =>Ed (gn wr q os) _ _ ss G L Z y (V k) (Fy.below (up HBW'.out (bQ wr q os))) HYK (HO k XZ);obtain⟨x0,x1,x9,y0⟩:=tZ (aS ((aj HK0R 0).trans rfl)) (aS ((aj HK0R 1).trans rfl)) (aS ((aj HK0R 9).trans rfl)) (aS ((aj HKY 0).trans rfl));have y1:=aS ((aj HKY 1).trans rfl);have hk0:(0:Int)<=(k:Int):=by omega
   have hkn:(k:Int)<(n7:Int):=by omega
   have HKN:Hid (k<n7):=I XZ;generalize Sv.join Z ss.length y (V k)=jn at *;generalize (V k).1=vk1 at *;generalize (V k).2=vk2 at *;clear hv hv0 XZ Zg hk;go_wp2_with fail;refine eU 9 bR bR ?_;dsimp only[List.take,List.drop];repeat(quiet_step ((exact Calls.nE (HJC.out _ _))))
   refine wpQuiet_nil ?_;intro w6 hw';obtain⟨⟨nq,osq⟩,hw''⟩:=hw';have dX:Hid (bG wr w6):=I (by rw[hw''];exact bQ wr nq osq);have FH:=I (aU HKY.out dX.out);obtain⟨r0,r1⟩:=iV FH.out;obtain⟨z0,z1⟩:=eY (aG FH.out 0) (aG FH.out 1);clear hw'' g0 g1 x0 x1 x9 y0 y1 gv;go_wp2_with fail;go_roundw;case rel=>exact⟨j+1,by omega,by go_num,I ⟨by rw[fO.out];exact vw FH.out _ _,((HR.out.2.trans (But.of_below dX.out)).set (aR rfl) _).set (aR rfl) _⟩⟩
   case measure=>simp[intOf];omega
  ·obtain rfl:j=nf:=by omega
   have HYE:Hid (Sm.tell Z ss.length V fr a=y):=I (by rw[HY,wB,jC]);obtain⟨y0,y1⟩:=iV HKY;obtain⟨r0,r1⟩:=iV HK2R;obtain⟨z0,z1⟩:=eY (aG HK2R 0) (aG HK2R 1);go_wp2_with fail;have hs:=vw HK2R (O (y.1:Nat)) (O (y.2:Nat));obtain⟨f0,f1⟩:=iV hs;refine bV (v:=.agg #[O (y.1:Nat),O (y.2:Nat)]) (by simp[results,results110,go_sem,f0,f1]) rfl ⟨by rw[HYE],?_⟩;exact jl HBW'.out (bF (dF _) (dF _)) _ _
theorem set11{W:World}{B:Nat}{t:TypeId}{q0 q1 q2 q3 q4 q5 q6 q7 q8 q9 q10:Value}(h:W.heap[B]?=some (.cells #[q0,q1,q2,q3,q4,q5,q6,q7,q8,q9,q10] t (0,0)))(r0 r1 r2 r3 r4 r5 r6 r7 r8 r9 VT:Value):(((((((((((W.setCell (X B 0) r0).setCell (X B 1) r1).setCell (X B 2) r2).setCell (X B 3) r3).setCell (X B 4) r4).setCell (X B 5) r5).setCell (X B 6) r6).setCell (X B 7) r7).setCell (X B 8) r8).setCell (X B 9) r9).setCell (X B 10) VT).heap[B]?=some (.cells #[r0,r1,r2,r3,r4,r5,r6,r7,r8,r9,VT] t (0,0)):=by have t0:(W.setCell (X B 0) r0).heap[B]?=some (.cells #[r0,q1,q2,q3,q4,q5,q6,q7,q8,q9,q10] t (0,0)):=aO h 0 r0;have t1:=aO t0 1 r1;have t2:=aO t1 2 r2;have t3:=aO t2 3 r3;have t4:=aO t3 4 r4;have t5:=aO t4 5 r5;have t6:=aO t5 6 r6;have t7:=aO t6 7 r7;have t8:=aO t7 8 r8;have t9:=aO t8 9 r9;have t10:=aO t9 10 VT;simpa using t10
theorem Yt{w W:World}{B:Nat}(h:But B w W)(r0 r1 r2 r3 r4 r5 r6 r7 r8 r9 VT:Value):But B w (((((((((((W.setCell (X B 0) r0).setCell (X B 1) r1).setCell (X B 2) r2).setCell (X B 3) r3).setCell (X B 4) r4).setCell (X B 5) r5).setCell (X B 6) r6).setCell (X B 7) r7).setCell (X B 8) r8).setCell (X B 9) r9).setCell (X B 10) VT):=
 ((((((((((h.set (aR rfl) _).set (aR rfl) _).set (aR rfl) _).set (aR rfl) _).set (aR rfl) _).set (aR rfl) _).set (aR rfl) _).set (aR rfl) _).set (aR rfl) _).set (aR rfl) _).set (aR rfl) _
def LbT(_:World)(c:List Value)(x:Nat × Nat):Prop:=c=[.int .i64 (x.1:Nat),.int .i64 (x.2:Nat)]
theorem infoLbA:(prog.info? 33).map (λi=>(i.zero,i.size,i.bytes))=some (some (.agg #[O 0,O 0]),2,16):=by kernel_rfl
theorem lbT_las{w:World}{n:Nat}{v:Value}{l:List (Nat × Nat)}(h:dV LbT w n 33 2 v l)(hl:l.length<=9223372036854775807):lD w v (BR l):=by
 by_cases h0:l=[];·subst h0;obtain⟨a,c,rfl⟩:=h.form;exact⟨a,0,0,c,rfl,λh=>aM h (by simp[BR]),by simp[BR],λi y hy=>aM hy (by simp[BR])⟩
 ·obtain⟨y0,hy0⟩:∃y,l[0]?=some y:=by
   cases l with
   | nil=>exact aM rfl h0
   | cons y l=>exact⟨y,rfl⟩
  obtain⟨g,cap,hv,-⟩:=h.get hy0;refine⟨_,g,0,cap,by rw[tQ];exact hv,λ_=>rfl,by rw[tQ];exact hl,λi y hy=>?_⟩;have hi:i<l.length:=by have:=(dK.1 hy).1;rwa[tQ]at this
  rw[Dv (bD hi)]at hy;cases hy;obtain⟨g',cap',hv',c,hc4,BQ,hat⟩:=h.get (bD hi);obtain rfl:g'=g:=by rw[hv]at hv';injection hv' with hv';injection hv' with hv';injection hv' with hv';exact hv'.symm
  unfold LbT at hat;subst hat;rw[eD];exact⟨BQ 0 aX,BQ 1 aX⟩
theorem CoL.cos{w:World}{v:Value}{l:List Co}(h:CoL w v l):Ko w v l:=by obtain⟨a,b,off,cap,e,h0,hl,h1⟩:=h;refine⟨a,b,off,cap,e,h0,hl,λi x hx=>?_⟩;obtain⟨vf,g0,g1,g2,g3,k⟩:=h1 i x hx;exact⟨vf,k,g0,g1,g2,g3⟩
structure Bn(n B:Nat)(w w':World):Prop where
 os:w'.os=w.os
 tape:w'.tape=w.tape
 output:w'.output=w.output
 size:w.heap.size<=w'.heap.size
 block:∀k,k<n->k≠B->w'.heap[k]?=w.heap[k]?
theorem Bn.refl(n B:Nat)(w:World):Bn n B w w:=⟨rfl,rfl,rfl,bE _,λ_ _ _=>rfl⟩
theorem Bn.trans{n B:Nat}{w w' w'':World}(h:Bn n B w w')(k:Bn n B w' w''):Bn n B w w'':=⟨k.os.trans h.os,k.tape.trans h.tape,k.output.trans h.output,bF h.size k.size,λi hi hB=>(k.block i hi hB).trans (h.block i hi hB)⟩
theorem Bn.of_below{n B:Nat}{w w':World}(h:bG w w')(hn:n<=w.heap.size):Bn n B w w':=⟨h.os,h.tape,h.output,h.size,λk hk _=>h.block k aX⟩
theorem Bn.set{n B:Nat}{w w':World}(h:Bn n B w w')(i:Nat)(v:Value):Bn n B w (w'.setCell (X B i) v):=⟨h.os,h.tape,h.output,by simp only[World.setCell,Cr];exact h.size,λk hk hB=>(um _ _ _ _ hB).trans (h.block k hk hB)⟩
theorem Bn.grown{n B:Nat}{w w' w2:World}(h:Bn n B w w'){r:Option Nat}(hg:w'.grownBy w2 r)(hr:∀k,r=some k->n<=k)(hn:n<=w'.heap.size):Bn n B w w2:=⟨hg.os.trans h.os,hg.tape.trans h.tape,hg.output.trans h.output,bF h.size hg.size,λk hk hB=>(hg.block k aX (λe=>by have:=hr k e.symm;omega)).trans (h.block k hk hB)⟩
theorem Bn.below{n m B:Nat}{w w':World}(h:Bn n B w w')(hm:m<=n)(hB:m<=B):Below m w w':=⟨h.os,h.tape,h.output,h.size,λk hk=>h.block k aX aX⟩
def La0(v:Value):Prop:=∀a n c,v=.slice (some a) n c->∃b,a=⟨b,0,none⟩
theorem dV.la0{α:Type}{At:World->List Value->α->Prop}{w:World}{n e k:Nat}{v:Value}{l:List α}(h:dV At w n e k v l):La0 v:=by
 obtain⟨_,h,_⟩:=h;rcases h.2 with⟨h1,h2⟩|⟨g,cap,cur,h1,_⟩;·intro a n c h;rw[h1]at h;injection h with h;cases h
 ·intro a n c h;rw[h1]at h;injection h with h;injection h with h;exact⟨g,h.symm⟩
theorem lD.bn{w w':World}{n B g m c:Nat}{l:List (Int × Int)}(h:lD w (Y (some (X g 0)) m c) l)(hb:Bn n B w w')(hg:l≠[]->g<n/\g≠B):lD w' (Y (some (X g 0)) m c) l:=by
 obtain⟨a,b,off,cap,e,h0,hl,h1⟩:=h;refine⟨a,b,off,cap,e,h0,hl,λi x hx=>?_⟩;have hne:l≠[]:=λh=>by rw[h]at hx;simp at hx
 injection e with e1 e2 e3;have hb':=h0 (sQ.2 hne);rw[<-e1]at hb';injection hb' with hb';injection hb' with hb1 hb2;obtain⟨k0,k1⟩:=h1 i x hx;have hk:=hb.block g (hg hne).1 (hg hne).2;rw[hb1]at hk;exact⟨(jJ hk).trans k0,(jJ hk).trans k1⟩
theorem KR{w:World}{g m c B:Nat}{l:List (Int × Int)}(h:lD w (Y (some (X g 0)) m c) l){a:Option Addr}{n k:Nat}(hB:w.cell? (X B 0)=some (Y a n k))(hne:l≠[]):g<w.heap.size/\g≠B:=by
 obtain⟨a',b,off,cap,e,h0,hl,h1⟩:=h;obtain⟨x,hx⟩:∃x,l[0]?=some x:=by
  cases l with
  | nil=>exact aM rfl hne
  | cons x l=>exact⟨x,rfl⟩
 injection e with e1 e2 e3;have hb':=h0 (sQ.2 hne);rw[<-e1]at hb';injection hb' with hb';injection hb' with hb1 hb2;obtain⟨k0,_⟩:=h1 0 x hx;rw[<-hb1,<-hb2]at k0;refine⟨eX _ _ k0,λe'=>?_⟩;subst e';have k0':w.cell? (X g 0)=some (O x.1):=k0;rw[hB]at k0';cases k0'
theorem bn_set11{n B:Nat}{w W:World}(h:Bn n B w W)(r0 r1 r2 r3 r4 r5 r6 r7 r8 r9 VT:Value):Bn n B w (((((((((((W.setCell (X B 0) r0).setCell (X B 1) r1).setCell (X B 2) r2).setCell (X B 3) r3).setCell (X B 4) r4).setCell (X B 5) r5).setCell (X B 6) r6).setCell (X B 7) r7).setCell (X B 8) r8).setCell (X B 9) r9).setCell (X B 10) VT):=
 ((((((((((h.set 0 _).set 1 _).set 2 _).set 3 _).set 4 _).set 5 _).set 6 _).set 7 _).set 8 _).set 9 _).set 10 _
theorem Qs{n B:Nat}{w W:World}(h:Below n w W)(hB:n<=B)(r0 r1 r2 r3 r4 r5 r6 r7 r8 r9 VT:Value):Below n w (((((((((((W.setCell (X B 0) r0).setCell (X B 1) r1).setCell (X B 2) r2).setCell (X B 3) r3).setCell (X B 4) r4).setCell (X B 5) r5).setCell (X B 6) r6).setCell (X B 7) r7).setCell (X B 8) r8).setCell (X B 9) r9).setCell (X B 10) VT):=by have t0:=h.setCell (p:=(X B 0)) hB r0;have t1:=t0.setCell (p:=(X B 1)) hB r1;have t2:=t1.setCell (p:=(X B 2)) hB r2;have t3:=t2.setCell (p:=(X B 3)) hB r3;have t4:=t3.setCell (p:=(X B 4)) hB r4;have t5:=t4.setCell (p:=(X B 5)) hB r5;have t6:=t5.setCell (p:=(X B 6)) hB r6;have t7:=t6.setCell (p:=(X B 7)) hB r7;have t8:=t7.setCell (p:=(X B 8)) hB r8;have t9:=t8.setCell (p:=(X B 9)) hB r9;have t10:=t9.setCell (p:=(X B 10)) hB VT;exact t10
theorem dV.set11{M B:Nat}{W:World}{v:Value}{l:List (Nat × Nat)}{cs:Array Value}{t:TypeId}(h:dV LbT W M 33 2 v l)(hB:W.heap[B]?=some (.cells cs t (0,0)))(ht:t≠33)(r0 r1 r2 r3 r4 r5 r6 r7 r8 r9 VT:Value):dV LbT (((((((((((W.setCell (X B 0) r0).setCell (X B 1) r1).setCell (X B 2) r2).setCell (X B 3) r3).setCell (X B 4) r4).setCell (X B 5) r5).setCell (X B 6) r6).setCell (X B 7) r7).setCell (X B 8) r8).setCell (X B 9) r9).setCell (X B 10) VT) M 33 2 v l:=by
 have hb:=Yt (But.refl B W) r0 r1 r2 r3 r4 r5 r6 r7 r8 r9 VT;generalize ((((((((((W.setCell (X B 0) r0).setCell (X B 1) r1).setCell (X B 2) r2).setCell (X B 3) r3).setCell (X B 4) r4).setCell (X B 5) r5).setCell (X B 6) r6).setCell (X B 7) r7).setCell (X B 8) r8).setCell (X B 9) r9).setCell (X B 10) VT=W' at *;refine h.keep (λi cur _ hi=>?_) (λc y hc=>?_)
 ·have hne:i≠B:=λe=>by rw[e,hB]at hi;simp at hi;exact ht hi.2
  exact hb.at hne hi
 ·unfold LbT at hc ⊢;exact hc
theorem TL(w:World)(vn vl v0 v1 v2 v3 v4:Value)(mk lv:Int)(ss:List aY)(G:Nat)(L:Nat->Nat)(Z:Nat->Nat->Bool)(P:Pb)(hL:lT w vn vl ss G L Z)(hP:PbV w v0 v1 v2 v3 v4 P)(hO:TH ss.length P)(hn:P.names.length<=40)(hc:P.cons.length<=1000)(hs:P.sinks.length<=16777216):Calls prog 55 #[.agg #[vn,vl],.agg #[v0,v1,v2,v3,O mk,O lv,v4]] w λe w'=>∃V vL vK,e=dz (.agg (So.cs ⟨vn,vl,v0,v1,v2,v3,mk,lv,v4,vL,vK⟩))/\Hid (lD w' vL (Sv.list P.names.length V)/\yQ Z ss.length P.names.length P.cons V/\lD w' vK (BR (P.sinks.map (Ns Z ss.length V)))/\bG w w'/\La0 vL/\La0 vK):=by
 obtain⟨HP,Fy,HPO⟩:=fD hP hL hO;obtain⟨⟨a0,c0,e0⟩,⟨a1,n1,c1,e1⟩⟩:=hL.forms;obtain⟨a2,c2,e2⟩:=jF hP.names;obtain⟨a3,c3,e3⟩:=hP.cons.form;obtain⟨a4,b4,o4,c4,e4,h40,h4l,h4e⟩:=hP.sinks;obtain⟨a5,c5,e5⟩:=hP.fr.IB;obtain⟨a6,c6,e6⟩:=jF hP.gY;have jH:Hid (GX ss.length (P.names.length:Nat) P.cons=0):=I (by unfold GX;rw[aJ aX,aJ aX,aJ aX,aL (iB.2 λc hc'=>by rw[DX];exact hO.cons c hc')]);obtain⟨n0,hn0⟩:=bC ss.length;obtain⟨n2,hn2⟩:=bC P.names.length;obtain⟨n3,hn3⟩:=bC P.cons.length;obtain⟨n4,rW⟩:=bC P.sinks.length;obtain⟨n5,Kg⟩:=bC P.fr.length;obtain⟨n6,MG⟩:=bC P.gY.length;rw[<-hn0]at e0;rw[<-hn2]at e2 hn;rw[<-hn3]at e3;rw[<-rW]at e4 h40 h4l hs;rw[<-Kg]at e5;rw[<-MG]at e6;subst e0 e1 e2 e3 e4 e5 e6;obtain⟨Ao,yF,EZ,H40,H4E⟩:=rO hn2 rW hn0 h40 h4e;have Ze:=I (λwx (hx:bG w wx)=>least_ok wx (Y a0 n0 c0) (Y a1 n1 c1) (Y a3 n3 c3) ss G L Z P.names.length P.cons (hL.below hx) (hP.cons.below hx).cos jH);rw[<-hn2]at Ze;rw[<-hn2];obtain⟨W3,hW3,k0,k1,k2,hsz,hBW⟩:=Za w (aW #[Y a0 n0 c0,Y a1 n1 c1] 25) (aW #[Y a2 n2 c2,Y a3 n3 c3,Y a4 n4 c4,Y a5 n5 c5,O mk,O lv,Y a6 n6 c6] 128) (aW #[J,J,J,J,J,J,O 0,O 0,J,J,J] 133);obtain⟨x0,x1⟩:=iV k0;obtain⟨y0,y1,y2,y3,y4,y5,y6⟩:=Ap k1;obtain⟨lF,jh,Fa,iA,zS⟩:=rO k0 k1 k2 hBW hsz;clear hP hL hO h4e h40 k0 k1 k2 hsz hBW hn0 hn2 hn3 rW Kg MG hc;go_enter func55,ntmps55;go_upto_region 1 with fail;rw[<-hW3];clear hW3;go_upto_region 2 with fail;obtain⟨HBS,HKS⟩:=rZ W3 (aW #[Y a0 n0 c0,Y a1 n1 c1,Y a2 n2 c2,Y a3 n3 c3,Y a4 n4 c4,Y a5 n5 c5,O mk,O lv,Y a6 n6 c6,J,J] 133);generalize W3.alloc (aW #[Y a0 n0 c0,Y a1 n1 c1,Y a2 n2 c2,Y a3 n3 c3,Y a4 n4 c4,Y a5 n5 c5,O mk,O lv,Y a6 n6 c6,J,J] 133)=W4 at *;obtain⟨HK04,Yq,HK24,HUP⟩:=lY (aU lF HBS) (aU jh HBS) (aU Fa HBS) (up iA HBS);have HB0:Hid (w.heap.size+1+1+1=W3.heap.size):=I zS.out.symm;generalize W3.heap.size=B at *;clear x0 x1 y0 y1 y2 y3 y4 y5 y6;obtain⟨x0,x1⟩:=iV HK04;obtain⟨y0,y1⟩:=iV Yq;have HC:=I (Ze W4 HUP);go_wp2_with fail;refine HC.mono ?_;rintro e w5 ⟨V,lb,rfl,Yu,Yv,hb5⟩;obtain⟨HLST,d9,HKS5,HLAS⟩:=lY Yv hb5 (aU HKS hb5) Yu;have u9:=aj HKS5 9;have z9:=aG HKS5 9;clear Yu Yv hb5 x0 x1 y0 y1;go_upto_region 3 with fail;have FH:Hid ((w5.setCell (X B 9) (Y (some (X lb 0)) n2 n2)).heap[B]?=some (aW #[Y a0 n0 c0,Y a1 n1 c1,Y a2 n2 c2,Y a3 n3 c3,Y a4 n4 c4,Y a5 n5 c5,O mk,O lv,Y a6 n6 c6,Y (some (X lb 0)) n2 n2,J] 133)):=I ((aO HKS5 9 _).trans rfl);have HBN:Hid (Bn w5.heap.size B w5 (w5.setCell (X B 9) (Y (some (X lb 0)) n2 n2))):=I ((Bn.refl _ _ _).set 9 _);have Vl:Hid (Sv.list n2 V≠[]->lb<w5.heap.size/\lb≠B):=I (λh=>KR HLAS (B:=B) ((aj HKS5 0).trans rfl) h);have HLB6:Hid (lD (w5.setCell (X B 9) (Y (some (X lb 0)) n2 n2)) (Y (some (X lb 0)) n2 n2) (Sv.list n2 V)):=I (HLAS.bn HBN Vl);have HBge:Hid (w.heap.size<=B):=I (by have:=HB0.out;omega);have HBlt:Hid (B<w5.heap.size):=I (bq HKS5);have HWW:Hid (bG w w5):=I (up HUP d9);have HSZ5:Hid (w.heap.size<=w5.heap.size):=I HWW.out.size;have HW6:Hid (bG w (w5.setCell (X B 9) (Y (some (X lb 0)) n2 n2))):=I (HWW.setCell (p:=(X B 9)) HBge _);have HK16:Hid ((w5.setCell (X B 9) (Y (some (X lb 0)) n2 n2)).heap[w.heap.size+1]?=some (aW #[Y a2 n2 c2,Y a3 n3 c3,Y a4 n4 c4,Y a5 n5 c5,O mk,O lv,Y a6 n6 c6] 128)):=I (bI (aU Yq d9) (by have:=HB0.out;show w.heap.size+1≠B;omega) _);have HK26:Hid ((w5.setCell (X B 9) (Y (some (X lb 0)) n2 n2)).heap[w.heap.size+1+1]?=some (aW #[J,J,J,J,J,J,O 0,O 0,J,J,J] 133)):=I (bI (aU HK24 d9) (by have:=HB0.out;show w.heap.size+1+1≠B;omega) _);have vG:Hid ((w5.setCell (X B 9) (Y (some (X lb 0)) n2 n2)).heap.size=w5.heap.size):=I (by simp only[World.setCell,Cr]);generalize w5.setCell (X B 9) (Y (some (X lb 0)) n2 n2)=W6 at *;clear z9 u9;generalize w5.heap.size=M at *;have y2:=aj HK16 2;go_wp2_with fail;clear y2;go_loopw[25] (λi wr=>∃(j:Nat) (ka:Option Addr) (kc:Nat),j<=n4/\i=O j/\Hid (wr.heap[B]?=some (aW #[Y a0 n0 c0,Y a1 n1 c1,Y a2 n2 c2,Y a3 n3 c3,Y a4 n4 c4,Y a5 n5 c5,O mk,O lv,Y a6 n6 c6,Y (some (X lb 0)) n2 n2,Y ka j kc] 133)/\dV LbT wr M 33 2 (Y ka j kc) ((P.sinks.take j).map (Ns Z ss.length V))/\Bn M B W6 wr)) (λi _=>n4 - (intOf i).toNat);case atStart=>exact⟨0,none,0,bL _,rfl,I ⟨FH,dV.nil _ _ _ _,Bn.refl _ _ _⟩⟩
 case round=>
  obtain⟨j,ka,kc,hj,rfl,HR⟩:=hrel;have oQ:Hid (bG w wr):=I (HW6.trans (HR.2.2.below HSZ5 HBge));have HMS:Hid (M<=wr.heap.size):=I (by have h1:=HR.2.2.size;have h2:=vG.out;omega);have HLR:Hid (lD wr (Y (some (X lb 0)) n2 n2) (Sv.list n2 V)):=I (HLB6.bn HR.2.2 Vl);by_cases hjl:j<n4
  ·obtain⟨y,hy⟩:∃y,P.sinks[j]?=some y:=⟨_,bD (by rw[<-yF];exact hjl)⟩;have HYO:=I (HPO.sinks y (eT hy));obtain⟨hlo,hm1,hl1⟩:=uK HYO.lab;obtain⟨mb,hmb⟩:=bC y.mask.toNat;obtain⟨lb',hlb'⟩:∃z,z=y.level.toNat:=⟨_,rfl⟩;rw[<-hmb]at hm1 hlo;rw[<-hlb']at hl1 hlo;obtain rfl:=H40 aX;obtain⟨vf,g0,g1,g2,g3,g4,g5,hfi⟩:=H4E j y hy;obtain⟨fa,fc,hvf⟩:=hfi.IB;obtain⟨nf,hnf⟩:=bC y.fr.length;rw[<-hnf]at hvf;subst hvf;rw[hm1]at g1;rw[hl1]at g2;replace g0:=aD g0 oQ;replace g1:=aD g1 oQ;replace g2:=aD g2 oQ;replace g3:=aD g3 oQ;replace g4:=aD g4 oQ;replace g5:=aD g5 oQ;obtain⟨tl,htl⟩:=bC (Ns Z ss.length V y);have DW:Hid ((P.sinks.take (j+1)).map (Ns Z ss.length V)=(P.sinks.take j).map (Ns Z ss.length V)++[tl]):=I (by rw[gy,hy,kU,fQ,htl];rfl);have Jb:Hid (∀wx,bG wr wx->Calls prog 110 #[.agg #[Y a0 n0 c0,Y a1 n1 c1,Y a2 n2 c2,Y a3 n3 c3,Y (some (X b4 o4)) n4 c4,Y a5 n5 c5,O mk,O lv,Y a6 n6 c6,Y (some (X lb 0)) n2 n2,Y ka j kc],Y fa nf fc,.agg #[O (mb:Nat),O (lb':Nat)]] wx λe w'=>e=dz (.agg #[O (tl.1:Nat),O (tl.2:Nat)])/\bG wx w'):=I λwx hx=>by
    have h:=Qr wx ⟨Y a0 n0 c0,Y a1 n1 c1,Y a2 n2 c2,Y a3 n3 c3,Y (some (X b4 o4)) n4 c4,Y a5 n5 c5,mk,lv,Y a6 n6 c6,Y (some (X lb 0)) n2 n2,Y ka j kc⟩ ss G L Z n2 V (Y fa nf fc) y.fr (mb,lb') ⟨⟨_,_,_,rfl⟩,⟨_,_,_,rfl⟩,⟨_,_,_,rfl⟩,⟨_,_,_,rfl⟩,⟨_,_,_,rfl⟩,⟨_,_,_,rfl⟩,⟨_,_,_,rfl⟩,⟨_,_,_,rfl⟩,⟨_,_,_,rfl⟩⟩ (Fy.below (up oQ hx)) (HLR.below hx) HLST.ok (hfi.below (up oQ hx)) (by rw[Ao];exact HYO.fr) hlo;have e:Sm.tell Z ss.length V y.fr (mb,lb')=tl:=by rw[htl,hmb,hlb'];rfl
    rw[e]at h;exact h
   clear hlo hm1 hl1 hmb hlb' hy hnf htl;go_upto_region 6 with fail;obtain⟨oP,HKK⟩:=rZ wr (aW #[Y fa nf fc,O (mb:Nat),O (lb':Nat),O y.lv,A y.name,.bool y.gY] 209);generalize wr.alloc (aW #[Y fa nf fc,O (mb:Nat),O (lb':Nat),O y.lv,A y.name,.bool y.gY] 209)=W7 at *;have HKB7:=I (aU HR.1 oP);have JJ:Hid (dV LbT W7 M 33 2 (Y ka j kc) ((P.sinks.take j).map (Ns Z ss.length V))):=I (HR.2.1.below oP λ_ _ hc=>hc);have HBN7:=I (HR.2.2.trans (Bn.of_below oP HMS));replace Jb:=I (λwx (hx:bG W7 wx)=>Jb wx (up oP hx));generalize wr.heap.size=SK at *;have SG:Hid (M<=W7.heap.size):=I (by have h1:=HBN7.size;have h2:=vG.out;omega);clear g0 g1 g2 g3 g4 g5 hfi;have HF:Hid (∀wx,bG W7 wx->wx.cell? (X B 0)=some (Y a0 n0 c0)/\wx.cell? (X B 1)=some (Y a1 n1 c1)/\wx.cell? (X B 2)=some (Y a2 n2 c2)/\wx.cell? (X B 3)=some (Y a3 n3 c3)/\wx.cell? (X B 4)=some (Y (some (X b4 o4)) n4 c4)/\wx.cell? (X B 5)=some (Y a5 n5 c5)/\wx.cell? (X B 6)=some (O mk)/\wx.cell? (X B 7)=some (O lv)/\wx.cell? (X B 8)=some (Y a6 n6 c6)/\wx.cell? (X B 9)=some (Y (some (X lb 0)) n2 n2)/\wx.cell? (X B 10)=some (Y ka j kc)/\wx.cell? (X SK 0)=some (Y fa nf fc)/\wx.cell? (X SK 1)=some (O (mb:Nat))/\wx.cell? (X SK 2)=some (O (lb':Nat))):=I λwx hx=>by have h1:=aU HKB7 hx;have h2:=aU HKK hx;exact⟨(aj h1 0).trans rfl,(aj h1 1).trans rfl,(aj h1 2).trans rfl,(aj h1 3).trans rfl,(aj h1 4).trans rfl,(aj h1 5).trans rfl,(aj h1 6).trans rfl,(aj h1 7).trans rfl,(aj h1 8).trans rfl,(aj h1 9).trans rfl,(aj h1 10).trans rfl,(aj h2 0).trans rfl,(aj h2 1).trans rfl,(aj h2 2).trans rfl⟩
   refine bW [some false,some true,some true,some false,some true,some false,some true,none,none,none,none,none] 10 (λw'=>w'.cell? (X B 0)=some (Y a0 n0 c0)/\w'.cell? (X B 1)=some (Y a1 n1 c1)/\w'.cell? (X B 2)=some (Y a2 n2 c2)/\w'.cell? (X B 3)=some (Y a3 n3 c3)/\w'.cell? (X B 4)=some (Y (some (X b4 o4)) n4 c4)/\w'.cell? (X B 5)=some (Y a5 n5 c5)/\w'.cell? (X B 6)=some (O mk)/\w'.cell? (X B 7)=some (O lv)/\w'.cell? (X B 8)=some (Y a6 n6 c6)/\w'.cell? (X B 9)=some (Y (some (X lb 0)) n2 n2)/\w'.cell? (X B 10)=some (Y ka j kc)/\w'.cell? (X SK 0)=some (Y fa nf fc)/\w'.cell? (X SK 1)=some (O (mb:Nat))/\w'.cell? (X SK 2)=some (O (lb':Nat))) 5 bR bR (λ_ _ d _ _ h=>(by cases d<;>exact h)) (HF _ (bH (bP _ _))) ?_;dsimp only[fE];repeat(first|(refine fq (v:=?_) cZ ?_ ?_;rotate_left 1;(focus(intro w;go_simp;try(with_reducible rfl)));simp only[Act.put,dG,dM,dU])|(refine fA (v:=?_) cZ ?_ ?_;rotate_left 1;(focus(intro w hSw;go_simp;try(with_reducible rfl)));simp only[Act.put,dG,dM,dU]))
   refine dH ?_;refine aN (i:=7) bR cZ (λK hK=>?_);go_simp;go_at_call 110;refine(Jb _ (bH (bP _ _))).mono ?_;rintro e w8 ⟨rfl,nK⟩;have vJ:=I (up (bH (bP W7.heap.size W7)) nK);clear nK;dsimp only;refine hK _ _ (λ_=>HF _ vJ) ?_;clear hK K;refine aN (i:=8) bR cZ (λK hK=>?_);go_simp;refine hK _ _ (λ_=>HF _ (up vJ (aH _ _))) ?_;clear hK K;obtain⟨HBX8,HXB8⟩:=rZ w8 (aW #[O (tl.1:Nat),O (tl.2:Nat)] 33);have HB78:=I (up vJ HBX8);have P7:Hid (dV LbT (w8.alloc (aW #[O (tl.1:Nat),O (tl.2:Nat)] 33)) M 33 2 (Y ka j kc) ((P.sinks.take j).map (Ns Z ss.length V))):=I (JJ.below HB78 λ_ _ hc=>hc);obtain⟨HKB8,HKK8,HBN8⟩:=fD (aU HKB7 HB78) (aU HKK HB78) (HBN7.trans (Bn.of_below HB78 SG));have HS8':Hid (M<=(w8.alloc (aW #[O (tl.1:Nat),O (tl.2:Nat)] 33)).heap.size):=I (bF SG.out HB78.size);generalize w8.alloc (aW #[O (tl.1:Nat),O (tl.2:Nat)] 33)=W8 at *;refine aN (i:=9) bR cZ (λK hK=>?_);refine lG (At:=LbT) cZ _ _ 131 33 2 16 _ cZ underlying131 infoLbA bO bO bO M _ ((P.sinks.take j).map (Ns Z ss.length V)) cZ P7 w8.heap.size [O (tl.1:Nat),O (tl.2:Nat)] tl cZ (λi u hu=>(aj HXB8 i).trans (by simpa using hu)) rfl (by simp[Value.oneCell']) rfl (by rw[dO,jB];omega) HS8'.out (λwy c y hg hc=>hc) ?_;intro g9 Hq w9 pY iJ Px;rw[dO,jB,Nat.min_eq_left (by rw[<-yF];omega)]at pY ⊢;have Dw:w9.heap[B]?=some (aW #[Y a0 n0 c0,Y a1 n1 c1,Y a2 n2 c2,Y a3 n3 c3,Y (some (X b4 o4)) n4 c4,Y a5 n5 c5,O mk,O lv,Y a6 n6 c6,Y (some (X lb 0)) n2 n2,Y ka j kc] 133):=(iJ.block B (bq HKB8) (λe=>by obtain⟨cur,hcur⟩:=P7.typ B e.symm;rw[HKB8]at hcur;simp at hcur)).trans HKB8;have hkk9:w9.heap[SK]?=some (aW #[Y fa nf fc,O (mb:Nat),O (lb':Nat),O y.lv,A y.name,.bool y.gY] 209):=(iJ.block SK (bq HKK8) (λe=>by obtain⟨cur,hcur⟩:=P7.typ SK e.symm;rw[HKK8]at hcur;simp at hcur)).trans HKK8;have HBB9:=I Dw;have HS9:Hid (w9.cell? (X B 0)=some (Y a0 n0 c0)/\w9.cell? (X B 1)=some (Y a1 n1 c1)/\w9.cell? (X B 2)=some (Y a2 n2 c2)/\w9.cell? (X B 3)=some (Y a3 n3 c3)/\w9.cell? (X B 4)=some (Y (some (X b4 o4)) n4 c4)/\w9.cell? (X B 5)=some (Y a5 n5 c5)/\w9.cell? (X B 6)=some (O mk)/\w9.cell? (X B 7)=some (O lv)/\w9.cell? (X B 8)=some (Y a6 n6 c6)/\w9.cell? (X B 9)=some (Y (some (X lb 0)) n2 n2)/\w9.cell? (X B 10)=some (Y ka j kc)/\w9.cell? (X SK 0)=some (Y fa nf fc)/\w9.cell? (X SK 1)=some (O (mb:Nat))/\w9.cell? (X SK 2)=some (O (lb':Nat))):=I ⟨(aj Dw 0).trans rfl,(aj Dw 1).trans rfl,(aj Dw 2).trans rfl,(aj Dw 3).trans rfl,(aj Dw 4).trans rfl,(aj Dw 5).trans rfl,(aj Dw 6).trans rfl,(aj Dw 7).trans rfl,(aj Dw 8).trans rfl,(aj Dw 9).trans rfl,(aj Dw 10).trans rfl,(aj hkk9 0).trans rfl,(aj hkk9 1).trans rfl,(aj hkk9 2).trans rfl⟩;obtain⟨HO9,HG9⟩:=bU pY (HBN8.grown iJ (λk e=>(P7.lt k e).1) HS8'.out);clear pY iJ Px Dw hkk9;refine hK _ _ (λ_=>HS9) ?_;clear hK K;simp only[Act.put,dG];have u10:=aj HBB9 10;have z10:=aG HBB9 10;refine aN (i:=10) bR cZ (λK hK=>?_);go_simp;refine hK _ _ (λh=>aM (h.symm.trans bR) gN) ?_;clear hK K;refine aN (i:=11) bR cZ (λK hK=>?_);go_simp;refine hK _ _ (λh=>aM (h.symm.trans bR) gN) ?_;clear hK K;refine dB bR ?_ _;have HK9:Hid ((w9.setCell (X B 10) (Y (some (X g9 0)) (j+1) Hq)).heap[B]?=some (aW #[Y a0 n0 c0,Y a1 n1 c1,Y a2 n2 c2,Y a3 n3 c3,Y (some (X b4 o4)) n4 c4,Y a5 n5 c5,O mk,O lv,Y a6 n6 c6,Y (some (X lb 0)) n2 n2,Y (some (X g9 0)) (j+1) Hq] 133)):=I ((aO HBB9 10 _).trans rfl);have HBN9:=I (HG9.set 10 (Y (some (X g9 0)) (j+1) Hq));have X3:Hid (dV LbT (w9.setCell (X B 10) (Y (some (X g9 0)) (j+1) Hq)) M 33 2 (Y (some (X g9 0)) (j+1) Hq) ((P.sinks.take j).map (Ns Z ss.length V)++[tl])):=I (HO9.keep (λi cur _ hi=>bI hi (λe=>by rw[e,HBB9]at hi;simp at hi) _) λ_ _ hc=>hc);clear u10 z10;go_wp2_with fail;go_roundw;case rel=>exact⟨j+1,_,_,by omega,by go_num,I ⟨HK9,by rw[DW];exact X3,HBN9⟩⟩
   case measure=>simp[intOf];omega
  ·obtain rfl:j=n4:=by omega
   have HOL:=I HR.out.2.1;have EJ:Hid ((P.sinks.take j).map (Ns Z ss.length V)=P.sinks.map (Ns Z ss.length V)):=I (by rw[yF,jC]);have HKK:Hid (wr.heap[w.heap.size+1+1]?=some (aW #[J,J,J,J,J,J,O 0,O 0,J,J,J] 133)):=I ((HR.2.2.block _ (by have:=HB0.out;have:=HBlt.out;omega) (by have:=HB0.out;omega)).trans HK26);have t0:wr.cell? (X B 0)=some (Y a0 n0 c0):=(aj HR.1 0).trans rfl;have t1:wr.cell? (X B 1)=some (Y a1 n1 c1):=(aj HR.1 1).trans rfl;have t2:wr.cell? (X B 2)=some (Y a2 n2 c2):=(aj HR.1 2).trans rfl;have t3:wr.cell? (X B 3)=some (Y a3 n3 c3):=(aj HR.1 3).trans rfl;have t4:wr.cell? (X B 4)=some (Y a4 j c4):=(aj HR.1 4).trans rfl;have t5:wr.cell? (X B 5)=some (Y a5 n5 c5):=(aj HR.1 5).trans rfl;have t6:wr.cell? (X B 6)=some (O mk):=(aj HR.1 6).trans rfl;have t7:wr.cell? (X B 7)=some (O lv):=(aj HR.1 7).trans rfl;have t8:wr.cell? (X B 8)=some (Y a6 n6 c6):=(aj HR.1 8).trans rfl;have t9:wr.cell? (X B 9)=some (Y (some (X lb 0)) n2 n2):=(aj HR.1 9).trans rfl;have t10:wr.cell? (X B 10)=some (Y ka j kc):=(aj HR.1 10).trans rfl;obtain⟨q0,q1,q2,q3,q4,q5,q6,q7,q8,q9,q10⟩:=ZC11 HKK;obtain⟨z0,z1,z2,z3,z4,z5,z6⟩:=J5 (aG HKK 0) (aG HKK 1) (aG HKK 2) (aG HKK 3) (aG HKK 4) (aG HKK 5) (aG HKK 6);obtain⟨z7,z8,z9,z10⟩:=tZ (aG HKK 7) (aG HKK 8) (aG HKK 9) (aG HKK 10);go_wp2_with fail;have hs':=set11 HKK (Y a0 n0 c0) (Y a1 n1 c1) (Y a2 n2 c2) (Y a3 n3 c3) (Y a4 j c4) (Y a5 n5 c5) (O mk) (O lv) (Y a6 n6 c6) (Y (some (X lb 0)) n2 n2) (Y ka j kc);obtain⟨f0,f1,f2,f3,f4,f5,f6⟩:=J5 ((aj hs' 0).trans rfl) ((aj hs' 1).trans rfl) ((aj hs' 2).trans rfl) ((aj hs' 3).trans rfl) ((aj hs' 4).trans rfl) ((aj hs' 5).trans rfl) ((aj hs' 6).trans rfl);obtain⟨f7,f8,f9,f10⟩:=tZ ((aj hs' 7).trans rfl) ((aj hs' 8).trans rfl) ((aj hs' 9).trans rfl) ((aj hs' 10).trans rfl);have HRB:Hid (wr.heap[w.heap.size+1+1]?=some (aW #[J,J,J,J,J,J,O 0,O 0,J,J,J] 133)):=HKK;refine bV (v:=.agg #[Y a0 n0 c0,Y a1 n1 c1,Y a2 n2 c2,Y a3 n3 c3,Y a4 j c4,Y a5 n5 c5,O mk,O lv,Y a6 n6 c6,Y (some (X lb 0)) n2 n2,Y ka j kc]) (by simp[results,results55,go_sem,f0,f1,f2,f3,f4,f5,f6,f7,f8,f9,f10]) rfl ⟨V,Y (some (X lb 0)) n2 n2,Y ka j kc,rfl,I ⟨?_,HLST,?_,?_,λa n c h=>(by injection h with h;injection h with h;exact⟨lb,h.symm⟩),HOL.la0⟩⟩;·exact HLR.bn (n:=M) (B:=w.heap.size+1+1) (bn_set11 (Bn.refl M (w.heap.size+1+1) wr) _ _ _ _ _ _ _ _ _ _ _) (λh=>⟨(Vl h).1,(KR HLR (B:=w.heap.size+1+1) (a:=none) (n:=0) (k:=0) ((aj HKK 0).trans rfl) h).2⟩)
   ·rw[<-EJ];exact lbT_las (n:=M) (dV.set11 HOL HKK bO _ _ _ _ _ _ _ _ _ _ _) (by rw[dO,jB];omega)
   ·exact Qs oQ (bF (dF _) (dF _)) _ _ _ _ _ _ _ _ _ _ _
structure Nw(w:World)(s:So)(ss:List ByteArray)(G:Nat)(L:Nat->Nat)(Z:Nat->Nat->Bool)(P:Pb)(V:Nat->Nat × Nat):Prop where
 la:lT w s.vn s.vl ss G L Z
 pb:PbV w s.v0 s.v1 s.v2 s.v3 s.v4 P
 ok:TH ss.length P
 las:lD w s.vL (Sv.list P.names.length V)
 oks:wI ss.length P.names.length V
 snk:lD w s.vK (BR (P.sinks.map (Ns Z ss.length V)))
theorem Nw.below{w w':World}{s:So}{ss:List aY}{G:Nat}{L:Nat->Nat}{Z:Nat->Nat->Bool}{P:Pb}{V:Nat->Nat × Nat}(h:Nw w s ss G L Z P V)(hb:bG w w'):Nw w' s ss G L Z P V:=⟨h.la.below hb,h.pb.below hb,h.ok,h.las.below hb,h.oks,h.snk.below hb⟩
theorem BS{w:World}{v:Value}{l:List (Int × Int)}(h:lD w v l):∃a n c,v=Y a n c:=by obtain⟨a,b,off,cap,e,-⟩:=h;exact⟨_,_,_,e⟩
theorem Nw.form{w:World}{s:So}{ss:List aY}{G:Nat}{L:Nat->Nat}{Z:Nat->Nat->Bool}{P:Pb}{V:Nat->Nat × Nat}(h:Nw w s ss G L Z P V):s.Form:=by obtain⟨⟨a0,c0,e0⟩,h1⟩:=h.la.forms;obtain⟨a2,c2,e2⟩:=jF h.pb.names;obtain⟨a3,c3,e3⟩:=h.pb.cons.form;obtain⟨a4,c4,e4⟩:=h.pb.sinks.form;obtain⟨a5,c5,e5⟩:=h.pb.fr.IB;obtain⟨a6,c6,e6⟩:=jF h.pb.gY;exact⟨⟨_,_,_,e0⟩,h1,⟨_,_,_,e2⟩,⟨_,_,_,e3⟩,⟨_,_,_,e4⟩,⟨_,_,_,e5⟩,⟨_,_,_,e6⟩,BS h.las,BS h.snk⟩
namespace Sm
theorem Yw{Z:Nat->Nat->Bool}{N:Nat}{V:Nat->Nat × Nat}{l:List Si}{j:Nat}{y:Si}(hy:l[j]?=some y)(fn:aY):((l.take (j+1)).filter (bad Z N V)).map (λs=>(⟨6,fn,s.name⟩:Dg))=((l.take j).filter (bad Z N V)).map (λs=>(⟨6,fn,s.name⟩:Dg))++if bad Z N V y then [⟨6,fn,y.name⟩]else []:=by rw[gy,hy,kU,List.filter_append,fQ];congr 1;rw[List.filter_cons];cases bad Z N V y<;>rfl
theorem filt_len{Z:Nat->Nat->Bool}{N:Nat}{V:Nat->Nat × Nat}(l:List Si)(j:Nat)(fn:aY):(((l.take j).filter (bad Z N V)).map (λs=>(⟨6,fn,s.name⟩:Dg))).length<=l.length:=by rw[dO];exact bF (GZ _ _) (by rw[jB];omega)
end Sm
theorem TM(w:World)(s:So)(ss:List aY)(G:Nat)(L:Nat->Nat)(Z:Nat->Nat->Bool)(P:Pb)(V:Nat->Nat × Nat)(fn:aY)(hS:Nw w s ss G L Z P V)(hl:P.sinks.length<=16777215):Calls prog 57 #[.agg s.cs,A fn] w λe w'=>∃u,e=dz u/\Hid (eF oW w' w.heap.size 80 3 u (Sm.F6 Z ss.length V P fn)/\bG w w'):=by
 have HS:=I hS;obtain⟨a0,n0,c0,a1,n1,c1,a2,n2,c2,a3,n3,c3,a4,n4,c4,a5,n5,c5,a6,n6,c6,a7,n7,c7,a8,n8,c8,hs⟩:=Nv s hS.form;generalize s.ma=mk at hs;generalize s.lv=lv at hs;subst hs;simp only[So.cs];obtain⟨W,hW⟩:=bC (w.alloc (aW #[Y a0 n0 c0,Y a1 n1 c1,Y a2 n2 c2,Y a3 n3 c3,Y a4 n4 c4,Y a5 n5 c5,O mk,O lv,Y a6 n6 c6,Y a7 n7 c7,Y a8 n8 c8] 133));have dQ:Hid (bG w W):=I (by rw[hW];exact aH _ _);have lF:Hid (W.heap[w.heap.size]?=some (aW #[Y a0 n0 c0,Y a1 n1 c1,Y a2 n2 c2,Y a3 n3 c3,Y a4 n4 c4,Y a5 n5 c5,O mk,O lv,Y a6 n6 c6,Y a7 n7 c7,Y a8 n8 c8] 133)):=I (by rw[hW];exact aZ _ _);obtain⟨ax,b4,o4,cx,e4,h40,h4l,h4e⟩:=hS.pb.sinks;simp only at e4;injection e4 with e41 e42 e43;subst e41 e43;have yF:=I e42;rw[<-e42]at h40 h4l hl;obtain⟨ay,b8,o8,cy,e8,h80,h8l,h8e⟩:=hS.snk;rw[tQ,dO]at e8 h80;simp only at e8;injection e8 with e81 e82 e83;subst e81 e83;have Jf:Hid (n8=n4):=I (by rw[e82,e42]);rw[<-e82]at h80;obtain⟨gb,go,gc,RB,RO,C,e1,h1,h2⟩:=hS.la.grid;simp only at e1;injection e1 with e11 e12 e13;subst e11 e13;have x4:=aj lF 4;obtain⟨LV,H40,H4E,H80,H8E,HG1⟩:=vP e12 h40 h4e h80 h8e h1;obtain⟨HG2,HJ⟩:=bU h2 hS.la.joins;clear hS h40 h4e h80 h8e h1 h2 e42 e82 e12 h8l;obtain⟨F,hF⟩:∃F:Nat->List Dg,F=λj=>((P.sinks.take j).filter (Sm.bad Z ss.length V)).map (λs=>(⟨6,fn,s.name⟩:Dg)):=⟨_,rfl⟩;have ug:Hid (F 0=[]):=I (by rw[hF];rfl);have Zb:Hid (F n4=Sm.F6 Z ss.length V P fn):=I (by rw[hF,yF];simp only;rw[jC];rfl);have HFS:Hid (∀j y,P.sinks[j]?=some y->F (j+1)=F j++if Sm.bad Z ss.length V y then [⟨6,fn,y.name⟩]else []):=I (λj y hy=>by rw[hF];exact Yw hy fn);have Cc:Hid (∀j,(F j).length<=n4):=I (λj=>by rw[hF,yF];exact filt_len P.sinks j fn);clear hF;go_enter func57,ntmps57;go_upto_region 1 with fail;rw[<-hW];clear hW;go_wp2_with fail;clear x4;go_loopw[5,12] (λo i wr=>∃j:Nat,j<=n4/\i=O j/\Hid (eF oW wr W.heap.size 80 3 o (F j)/\bG W wr)) (λ_ i _=>n4 - (intOf i).toNat);case atStart=>exact⟨0,bL _,rfl,I ⟨by rw[ug];exact eF.nil _ _ _ _,bP _ _⟩⟩
 case round=>
  rename_i o;obtain⟨j,hj,rfl,HR⟩:=hrel;have oQ:=I (up dQ HR.2);by_cases hjl:j<n4
  ·obtain⟨y,hy⟩:∃y,P.sinks[j]?=some y:=⟨_,bD (by rw[<-yF];exact hjl)⟩;have HYO:=I (HS.ok.sinks y (eT hy));obtain⟨tl,htl⟩:=bC (Ns Z ss.length V y);have Fw:Hid (tl.2<ss.length):=I (by rw[htl];exact(siL_ok HJ HS.oks HYO).2);obtain⟨hyl,hye⟩:=HYO.lvN;obtain⟨yl,Qt⟩:∃z,z=y.lv.toNat:=⟨_,rfl⟩;rw[<-Qt]at hyl hye;have hz:Sm.bad Z ss.length V y=!Z tl.2 yl:=by unfold Sm.bad;rw[htl,Qt]
   have HFS':Hid (F (j+1)=F j++if !Z tl.2 yl then [⟨6,fn,y.name⟩]else []):=I (by rw[HFS j y hy,hz]);obtain rfl:=H40 aX;obtain⟨vf,g0,g1,g2,g3,g4,g5,hfi⟩:=H4E j y hy;obtain⟨fa,fc,hvf⟩:=hfi.IB;obtain⟨nf,hnf⟩:=bC y.fr.length;rw[<-hnf]at hvf;subst hvf;rw[hye]at g3;replace g0:=aD g0 oQ;replace g1:=aD g1 oQ;replace g2:=aD g2 oQ;replace g3:=aD g3 oQ;replace g4:=aD g4 oQ;replace g5:=aD g5 oQ;obtain rfl:=H80 (by have:=Jf.out;omega);obtain⟨k8,k1,k2⟩:=l9 ((H8E j _ (Dv (x:=tl) (by rw[qA,hy,htl];rfl))).2) (HG1 tl.2 Fw) (HG2 tl.2 yl Fw hyl);rw[<-LV]at k1;have ht1:(tl.2:Int)<(n1:Int):=by have:=Fw.out;have:=LV.out;omega
   have ht2:(yl:Int)<(n1:Int):=by have:=LV.out;omega
   have hj8:(j:Int)<(n8:Int):=by have:=Jf.out;omega
   generalize tl.2=t2 at *;clear hz hy hnf hfi Qt htl hye hyl;go_upto_region 5 with fail;obtain⟨oP,HKK⟩:=rZ wr (aW #[Y fa nf fc,O y.mask,O y.level,O (yl:Nat),A y.name,.bool y.gY] 209);generalize wr.alloc (aW #[Y fa nf fc,O y.mask,O y.level,O (yl:Nat),A y.name,.bool y.gY] 209)=W7 at *;obtain⟨Ra,Ca,jG⟩:=fD (up oQ oP) (HR.1.below oP) (up HR.2 oP);have HK7:=I (aU lF jG);generalize wr.heap.size=SK at *;clear g0 g1 g2 g3 g4 g5;obtain⟨q1,q10,s3⟩:=l9 (aS ((aj HK7 1).trans rfl)) (aS ((aj HK7 10).trans rfl)) (aS ((aj HKK 3).trans rfl));replace k8:=aS (aD k8 Ra);replace k1:=aS (aD k1 Ra);replace k2:=aS (aD k2 Ra);refine bS bR bR ?_;repeat(quiet_step (fail))
   refine wpQuiet_nil ?_;intro w6 hw';obtain⟨⟨nq,osq⟩,hw''⟩:=hw';have dX:Hid (bG W7 w6):=I (by rw[hw''];exact bQ W7 nq osq);obtain⟨FH,Al,HB06⟩:=fD (aU HKK.out dX.out) (Ca.out.below dX.out) (up jG.out dX.out);clear hw'' q1 q10 s3 k8 k1 k2;have s4:=aj FH.out 4;have Vj:=I (Cc.out j);cases hzz:Z t2 yl with
   | true=>
    have zO:Hid (F (j+1)=F j):=I (by rw[HFS'.out,hzz];simp);clear hzz;go_wp2_with fail;go_roundw;case rel=>exact⟨j+1,by omega,by go_num,I ⟨by rw[zO];exact Al,HB06⟩⟩
    case measure=>simp[intOf];omega
   | false=>
    have zO:Hid (F (j+1)=F j++[⟨6,fn,y.name⟩]):=I (by rw[HFS'.out,hzz];simp);clear hzz
    go_wp2_with (first
     | (at_builtin;refine fZ (At:=oW) rfl _ _ 59 80 3 40 _ rfl underlying59 oZ bO bO bO W.heap.size _ _ rfl (Al.below (aH _ _)) _ _ [⟨6,fn,y.name⟩] rfl (eF.one _ _ rfl (oW.one (d:=⟨6,fn,y.name⟩) rfl) rfl) (by have:=Vj.out;simp only[iF];omega) (bF HB06.out.size (aH _ _).size) ?_;intro v9 w9 pY iJ;have X3:=I pY;have HN9:=I (jI (up HB06 (aH _ _)) iJ (λj hj=>(Al.lt j hj).1));clear pY iJ)
     | fail)
    go_roundw;case rel=>exact⟨j+1,by omega,by go_num,I ⟨by rw[zO];exact X3,HN9⟩⟩
    case measure=>simp[intOf];omega
  ·obtain rfl:j=n4:=by omega
   rw[Zb]at HR;go_wp2_with fail;go_ret;exact⟨_,rfl,I ⟨HR.1.old dQ.size,oQ⟩⟩
theorem Yx(w:World)(k:Fin 5):Calls prog 225 #[.int .u64 1,.int .u64 ((k:Nat):Int)] w λe w'=>e=dz (.tuple #[.int .u64 0,.int .u64 ((k:Nat):Int)])/\w'=w:=by
 have h:k=0\/k=1\/k=2\/k=3\/k=4:=by omega
 rcases h with rfl|rfl|rfl|rfl|rfl;all_goals go_enter func225,ntmps225;go_wp2_with fail;go_ret2;exact⟨by kernel_rfl,rfl⟩
theorem mul_any(w:World)(k:Fin 5):Calls prog 177 #[.int .u64 1,.int .u64 ((k:Nat):Int)] w λe w'=>e=dz (.tuple #[.int .u64 0,.int .u64 ((k:Nat):Int)])/\w'=w:=by have HM:=I (Yx w k);generalize ((k:Nat):Int)=kk at *;go_enter func177,ntmps177;go_wp2_with fail;refine HM.mono ?_;rintro e w' ⟨rfl,rfl⟩;go_wp2_with fail;go_ret2;exact⟨rfl,rfl⟩
section
variable {w : World} {ops : Array Oper} {rest : List Oper} {o : Oper} {a : Act} {Q : Exit → Act → World → Prop}
theorem Qu{K:Act->World->Prop}(d s:Operand)(dT sT elem:TypeId)(ho:o.op=.call { callee:=.builtin .copy,args:=#[d,s],argTypes:=#[dT,sT] })(hu:prog.underlying dT=some (.slice elem))(hs:(prog.info? elem).map (·.size)=some 1)(g off dLen dCap:Nat)(ad:Addr)(sLen sCap:Nat)(hd:a.eval d=Y (some (X g off)) dLen dCap)(hx:a.eval s=Y (some ad) sLen sCap)(cur:List Value)(t:TypeId)(hg:w.heap[g]?=some (.cells cur.toArray t (0,0)))(cs:List Value)(hn:cs.length=Nat.min sLen dLen)(hsrc:∀j v,cs[j]?=some v->w.cell? (ad.add j)=some v)(hfit:off+cs.length<=cur.length)(h1:∀v∈cs,v.oneCell'=true)(h:∀w',Hid (w'.heap[g]?=some (.cells (splice cur off cs).toArray t (0,0)))->Hid (But g w w')->K (a.put o.dst (O (cs.length:Nat))) w'):o.wp prog a w K Q:=by have hrun:=Ww (P:=prog) w dT sT o.type elem 1 g off dLen dCap ad sLen sCap cur.toArray t cs hu hs hg (by rw[hn,Nat.mul_one]) hsrc (by simpa using hfit) h1;unfold Oper.wp execOp;simp only[ho,resolve,invoke,builtin,Sem.run_bind,Sem.run_pure,Result.andThen_ok,List.map_toArray,fG,jA,hd,hx,hrun];rw[<-hn];exact h _ (I (by rw[setRow_heap w g _ _ t _ hg];simp[splice])) (I (But.setRow w _))
theorem Ny(hgd:o.guard=none)(d s:Operand)(dT sT elem:TypeId)
  (ho:o.op=.call { callee:=.builtin .copy,args:=#[d,s],argTypes:=#[dT,sT] })(hu:prog.underlying dT=some (.slice elem))(hs:(prog.info? elem).map (·.size)=some 1)
  (g off dLen dCap:Nat)(ad:Addr)(sLen sCap:Nat)(hd:a.eval d=Y (some (X g off)) dLen dCap)(hx:a.eval s=Y (some ad) sLen sCap)
  (cur:List Value)(t:TypeId)(hg:w.heap[g]?=some (.cells cur.toArray t (0,0)))(cs:List Value)(hn:cs.length=Nat.min sLen dLen)
  (hsrc:∀j v,cs[j]?=some v->w.cell? (ad.add j)=some v)(hfit:off+cs.length<=cur.length)(h1:∀v∈cs,v.oneCell'=true)
  (h:∀w',Hid (w'.heap[g]?=some (.cells (splice cur off cs).toArray t (0,0)))->Hid (But g w w')->wpList prog ops Q rest (a.put o.dst (O (cs.length:Nat))) w'):wpList prog ops Q (o::rest) a w:=
 wpList_plain hgd λ_ hK=>Qu d s dT sT elem ho hu hs g off dLen dCap ad sLen sCap hd hx cur t hg cs hn hsrc hfit h1 λw' h2 h3=>hK _ _ (h w' h2 h3)
theorem TN{K:Act->World->Prop}{E:Prop}(hgd:o.guard=none)(d s:Operand)(dT sT elem:TypeId)(ho:o.op=.call { callee:=.builtin .copy,args:=#[d,s],argTypes:=#[dT,sT] })(hu:prog.underlying dT=some (.slice elem))(hs:(prog.info? elem).map (·.size)=some 1)(g off dLen dCap:Nat)(ad:Addr)(sLen sCap:Nat)(hd:a.eval d=Y (some (X g off)) dLen dCap)(hx:a.eval s=Y (some ad) sLen sCap)(cur:List Value)(t:TypeId)(hg:w.heap[g]?=some (.cells cur.toArray t (0,0)))(cs:List Value)(hn:cs.length=Nat.min sLen dLen)(hsrc:∀j v,cs[j]?=some v->w.cell? (ad.add j)=some v)(hfit:off+cs.length<=cur.length)(h1:∀v∈cs,v.oneCell'=true)(h:∀w',Hid (w'.heap[g]?=some (.cells (splice cur off cs).toArray t (0,0)))->Hid (But g w w')->K (a.put o.dst (O (cs.length:Nat))) w'):if Region.wanted o (yielded ops a.tmps)=true then Oper.wp prog o a w K Q else E:=by
 have hw:Region.wanted o (yielded ops a.tmps)=true:=by simp[Region.wanted,hgd]
 rw[aL hw];exact Qu d s dT sT elem ho hu hs g off dLen dCap ad sLen sCap hd hx cur t hg cs hn hsrc hfit h1 h
end
def rep(x:Int)(n k:Nat):List Value:=List.replicate n (.int .i64 x)++List.replicate (k - n) (.int .i64 0)
theorem rep_len(x:Int){n k:Nat}(h:n<=k):(rep x n k).length=k:=by unfold rep;rw[aT,xG,xG];omega
theorem IC(x:Int){n k c:Nat}(h:n+c<=k):splice (rep x n k) n (List.replicate c (O x))=rep x (n+c) k:=by unfold splice rep;rw[List.take_append,fU dx,xG,mE,List.take_zero,gB,xG,List.drop_append,List.drop_of_length_le dx,uL,xG,List.drop_replicate,<-iy,List.replicate_append_replicate];congr 2;omega
theorem rep_at(x:Int){n k j:Nat}(h:j<n):(rep x n k)[j]?=some (O x):=by unfold rep;rw[pQ (by simpa using h),List.getElem?_replicate,aL h]
theorem VU:(prog.info? 3).map (·.size)=some 1:=by kernel_rfl
theorem infoIntM:(prog.info? 3).map (λi=>(i.zero,i.size,i.bytes))=some (some (O 0),1,8):=by kernel_rfl
theorem made_rep(x:Int)(k:Nat):madeCells #[O 0] k=(rep x 0 k).toArray:=by
 apply Array.ext';apply List.ext_getElem?;intro i;unfold rep;simp only[List.replicate_zero,uL,Nat.sub_zero,List.getElem?_replicate];by_cases hi:i<k;·rw[aL hi];have:=made1 (O 0) k i hi;simpa using this
 ·rw[aJ hi];have:(madeCells #[O 0] k).size=k:=by simp[madeCells]
  rw[Array.getElem?_toList,Rm aX]
theorem TP(w:World)(b c:Nat)(x:Int)(k:Nat)(hk:k<=4)(hx:w.cell? (X b 0)=some (O x)):
  Calls prog 112 #[Y (some (X b 0)) 1 c,O k] w λe w'=>∃B,e=dz (Y (some (X B 0)) k k)/\Hid (w.heap.size<=B/\w'.heap[B]?=some (.cells (List.replicate k (O x)).toArray 3 (0,0))/\bG w w'):=by
 have HM:=I (mul_any w ⟨k,by omega⟩)
 have hmk:=run_make_row' (P:=prog) 27 3 (O 0) 8 underlying27 infoIntM rfl .i64 .i64 k aX aX
 rw[made_rep x]at hmk
 have HX:=I hx
 have HK:=I hk
 have HB0:=I (aH w (.cells (rep x 0 k).toArray 3))
 have EZ:=I (aZ w (.cells (rep x 0 k).toArray 3))
 obtain⟨c0,hc0⟩:=bC (Nat.min 1 k)
 have hck:c0<=k/\(0<k->0<c0):=by rw[hc0];simp only[Nat.min_def];split<;>omega
 have uI:=I hck
 have WZ:=I hc0
 have kF:Hid (splice (rep x 0 k) 0 (List.replicate c0 (O x))=rep x c0 k):=I (by have:=IC x (n:=0) (k:=k) (c:=c0) aX;rwa[eD]at this)
 have HRL:=I (λ(n:Nat) (h:n<=k)=>rep_len x h)
 have HO1:Hid (∀n:Nat,∀v∈List.replicate n (O x),v.oneCell'=true):=I (λn v hv=>by rw[List.eq_of_mem_replicate hv];rfl)
 have h1:((k:Int)<0)=False:=by simp
 have h2:((9223372036854775807:Int)<(k:Int))=False:=by simp;omega
 have h3:IntKind.u64.wrap (k:Int)=(k:Int):=by rw[IntKind.wrap_u64];omega
 have h4:wrap64 (k:Int)=(k:Int):=by simp[wrap64];omega
 have h5:IntKind.i64.wrap (k:Int)=(k:Int):=by rw[IntKind.wrap_i64];omega
 clear hx hc0 hck
 go_enter func112,ntmps112
 go_wp2_with fail
 refine HM.mono ?_
 rintro e w' ⟨rfl,e⟩
 subst e
 go_wp2_with (refine Ny rfl (.tmp 31) (.tmp 32) 27 27 3 rfl underlying27 VU _ 0 k k (X b 0) 1 c rfl rfl (rep x 0 k) 3 EZ (List.replicate c0 (O x)) (by rw[xG];exact WZ) (λj v hj=>by
                       rw[List.getElem?_replicate]at hj
                       split at hj
                       ·rename_i hjc
                        have:j=0:=by have:=WZ.out;simp only[Nat.min_def]at this;split at this<;>omega
                        subst this
                        cases hj
                        rw[Addr.add_lit]
                        exact aD HX HB0
                       ·cases hj) (by rw[xG,HRL 0 (bL _)];have:=uI.out;omega) (HO1 _) ?_;intro w5 HG5 d9)
 rw[kF]at HG5
 generalize w'.alloc (.cells (rep x 0 k).toArray 3)=W at *
 go_loopw[8] (λi wr=>∃j:Nat,i=O j/\j<=k/\(0<k->0<j)/\Hid (wr.heap[w'.heap.size]?=some (.cells (rep x j k).toArray 3 (0,0))/\But w'.heap.size W wr)) (λi _=>k - (intOf i).toNat)
 case atStart=>exact⟨c0,by simp,uI.1,uI.2,I ⟨HG5,d9⟩⟩
 case round=>
  obtain⟨j,rfl,hj,hj0,HR⟩:=hrel
  by_cases hjl:j<k
  ·obtain⟨c9,hc9⟩:=bC (Nat.min j (k - j))
   have HC9:=I hc9
   have hc9':0<c9/\j+c9<=k/\c9<=j:=by rw[hc9];simp only[Nat.min_def];have:=hj0 aX;split<;>omega
   have Yy:=I hc9'
   have HRG:=I HR.out.1
   have hb1:(j:Int)<=(k:Int):=by omega
   have hb2:(0:Int)<=(j:Int):=by omega
   have hb3:j<=k:=hj
   have hb4:¬(k=j):=by omega
   obtain⟨n9,hn9⟩:=bC (j+c9)
   have HN9:=I hn9
   have hw1:IntKind.i64.wrap ((j:Int)+(c9:Int))=(n9:Int):=by rw[IntKind.wrap_i64];omega
   have hw2:wrap64 ((j:Int)+(c9:Int))=(n9:Int):=by simp[wrap64];omega
   clear hc9 hc9' hj0 hn9
   go_wp2_with fail
   go_region_law (refine TN rfl _ _ 27 27 3 rfl underlying27 VU w'.heap.size j (k - j) (k - j) (X w'.heap.size 0) j k (by simp[Act.eval,Act.put]) (by simp[Act.eval,Act.put]) (rep x j k) 3 HRG (List.replicate c9 (O x)) (by rw[xG];exact HC9) (λt v ht=>by
                                   rw[List.getElem?_replicate]at ht
                                   split at ht
                                   ·cases ht
                                    rw[Addr.add_lit,eD]
                                    exact(aj HRG t).trans (by rw[wm];exact rep_at x (by have:=Yy.out;omega))
                                   ·cases ht) (by rw[xG,HRL j hj];have:=Yy.out;omega) (HO1 _) ?_;intro w6 HG6 dX)
   have vG:Hid (splice (rep x j k) j (List.replicate c9 (O x))=rep x (j+c9) k):=I (IC x Yy.out.2.1)
   rw[vG,<-HN9]at HG6
   have jG:Hid (But w'.heap.size W w6):=I (HR.2.trans ⟨dX.os,dX.tape,dX.output,dX.size,dX.block⟩)
   clear dX HRG
   go_simp
   go_wp2_with fail
   go_roundw
   case rel=>exact⟨n9,rfl,by have:=Yy.out;have:=HN9.out;omega,λ_=>by have:=Yy.out;have:=HN9.out;omega,I ⟨HG6,jG⟩⟩
   case measure=>have:=Yy.out;have:=HN9.out;simp[intOf];omega
  ·obtain rfl:j=k:=by omega
   have HRR:Hid (rep x j j=List.replicate j (O x)):=I (by unfold rep;rw[mE];simp)
   have HGF:=I HR.out.1
   rw[HRR]at HGF
   have HBF:=I (HB0.trans (HR.2.below (bE _) HB0.size))
   go_wp2_with fail
   go_ret
   exact⟨_,rfl,I ⟨bE _,HGF,HBF⟩⟩
namespace Sm
section
variable {Z : Nat → Nat → Bool} {N n : Nat} {V : Nat → Nat × Nat} {l : List Si} {j : Nat} {y : Si}
def uW(Z:Nat->Nat->Bool)(N:Nat)(l:List Si)(j:Nat):Nat:=(l.take j).foldl (pcW Z N) (top Z N)
def lu(Z:Nat->Nat->Bool)(N:Nat)(V:Nat->Nat × Nat)(l:List Si)(j i:Nat):Nat:=(l.take j).foldl (bdW Z N V i) (top Z N)
def l7(Z:Nat->Nat->Bool)(N:Nat)(V:Nat->Nat × Nat)(l:List Si)(k j i:Nat):List Int:=(List.range k).map λt=>if t<i then (lu Z N V l (j+1) t:Int)else (lu Z N V l j t:Int)
theorem Yz(hy:l[j]?=some y):uW Z N l (j+1)=pcW Z N (uW Z N l j) y:=by unfold uW;rw[gy,hy,kU,OQ];rfl
theorem CG(hy:l[j]?=some y)(i:Nat):lu Z N V l (j+1) i=bdW Z N V i (lu Z N V l j i) y:=by unfold lu;rw[gy,hy,kU,OQ];rfl
theorem pcTo_lt(K:bN.Joins (bN.tr Z) N)(hs:∀s∈l,Du N n s)(ht:top Z N<N)(j:Nat):uW Z N l j<N:=Nu (λ_ _ hb hs=>pcW_lt K hb hs) (λs h=>hs s (PZ h)) ht
theorem bdTo_lt(K:bN.Joins (bN.tr Z) N)(hs:∀s∈l,Du N n s)(ht:top Z N<N)(j i:Nat):lu Z N V l j i<N:=Nu (λ_ _ hb hs=>bdW_lt K hb hs) (λs h=>hs s (PZ h)) ht
theorem YA(k j i:Nat):(l7 Z N V l k j i).length=k:=by unfold l7;rw[dO,rM]
theorem IE{k i:Nat}(hi:i<k)(j:Nat):(l7 Z N V l k j i)[i]?=some (lu Z N V l j i:Int):=by unfold l7;rw[qA,List.getElem?_range hi,pz,aJ (Nat.lt_irrefl _)]
theorem KS{k i:Nat}(hi:i<k)(j:Nat):(l7 Z N V l k j i).set i (lu Z N V l (j+1) i:Int)=l7 Z N V l k j (i+1):=by
 apply List.ext_getElem?;intro t;rw[List.getElem?_set];unfold l7;simp only[qA,dO,rM];by_cases htk:t<k
 ·rw[List.getElem?_range htk,pz];by_cases e:i=t;·subst e;rw[aL rfl,aL hi,pz,aL (Nat.lt_succ_self _)]
  ·rw[aJ e,pz];by_cases h:t<i;·rw[aL h,aL aX]
   ·rw[aJ h,aJ aX]
 ·rw[Om (by rw[rM];omega)];rw[aJ aX];rfl
theorem TQ{k i:Nat}(hi:i<k)(j:Nat)(h:lu Z N V l (j+1) i=lu Z N V l j i):l7 Z N V l k j i=l7 Z N V l k j (i+1):=by
 rw[<-KS hi,h];apply List.ext_getElem?;intro t;rw[List.getElem?_set];split;·rename_i e;subst e;rw[aL (by rw[YA];exact hi)];exact IE hi j
 ·rfl
theorem TR(k j:Nat):l7 Z N V l k j k=l7 Z N V l k (j+1) 0:=by unfold l7;refine JY λt ht=>?_;rw[aL (jr.1 ht),aJ (fT _)]
theorem TS(k:Nat):l7 Z N V l k 0 0=List.replicate k (top Z N:Int):=by
 unfold l7;apply List.ext_getElem?;intro t;rw[qA,List.getElem?_replicate];by_cases h:t<k;·rw[List.getElem?_range h,pz,aJ (fT _),aL h];rfl
 ·rw[Om (by rw[rM];omega),aJ h];rfl
theorem YC(k:Nat):l7 Z N V l k l.length 0=bds Z N V l k:=by unfold l7 bds bd lu;refine JY λt _=>?_;rw[aJ (fT _),jC]
theorem pcTo_all:uW Z N l l.length=pc Z N l:=by unfold uW pc;rw[jC]
end
end Sm
def oM(w:World)(B:Nat)(l:List Int):Prop:=w.heap[B]?=some (.cells (l.map (Value.int .i64)).toArray 3 (0,0))
theorem oM.cell{w:World}{B:Nat}{l:List Int}(h:oM w B l){i:Nat}{x:Int}(hx:l[i]?=some x):w.cell? (X B i)=some (O x):=(aj h i).trans (by simp[hx])
theorem oM.set{w:World}{B:Nat}{l:List Int}(h:oM w B l)(i:Nat)(x:Int):oM (w.setCell (X B i) (O x)) B (l.set i x):=by have:=aO h i (O x);unfold oM;rw[this];simp[List.map_set]
theorem nU{n B:Nat}{w W:World}(h:Below n w W)(hB:n<=B)(r0 r1 r2 r3 r4 r5:Value):Below n w ((((((W.setCell (X B 0) r0).setCell (X B 1) r1).setCell (X B 2) r2).setCell (X B 3) r3).setCell (X B 4) r4).setCell (X B 5) r5):=
 (((((h.setCell (p:=(X B 0)) hB r0).setCell (p:=(X B 1)) hB r1).setCell (p:=(X B 2)) hB r2).setCell (p:=(X B 3)) hB r3).setCell (p:=(X B 4)) hB r4).setCell (p:=(X B 5)) hB r5
end Go.Proofs.YtbgkpehhdibaoaaGreatDoor
