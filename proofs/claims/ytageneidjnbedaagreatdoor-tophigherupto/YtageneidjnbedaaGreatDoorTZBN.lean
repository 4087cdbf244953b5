import Derived.Test.YtageneidjnbedaaGreatDoorTZBJ
import Derived.Test.YtageneidjnbedaaGreatDoorTZSO
import Derived.Test.YtageneidjnbedaaGreatDoorTZPA
set_option maxHeartbeats 0
set_option maxRecDepth 99999
namespace Go.Proofs.YtageneidjnbedaaGreatDoor
open bS bO Sv
open Go.Proofs.Tryz
open Go.RowKit Go.Maps Go.WideMaps
namespace Fl
def Vq(ss:List ByteArray)(G:Nat)(L:Nat->Nat)(Z:Nat->Nat->Bool)(m:Nat)(x:Mo)(k:Int)(known:List Mo)(bL:List (List Sc))(own:List Sc)(mn b:Int):Int:=
 if QA ss G L Z m x k known bL own≠0 then QA ss G L Z m x k known bL own else match x.bq[k.toNat]? with
  | some f=>if Lb (gH ss Z x k.toNat known bL own f) m f mn b then 2 else 0
  | none=>0
theorem KX{ss:aJ}{G:Nat}{L:Nat->Nat}{Z:aL}{m:Nat}{x:Mo}{k:Int}{known:List Mo}{bL:List (List Sc)}{own:List Sc}(h:QA ss G L Z m x k known bL own=0):AO (dD ss G L Z) m x known=0/\bO.once (D9 ss x known m)=[]/\∃(g:Nat) (f:Fu),k=g/\x.bq[g]?=some f/\jw ss.length known bL=true/\vg ss.length (x.bq.take g) own=true:=by
 unfold QA at h;by_cases d:AO (dD ss G L Z) m x known≠0;·rw[aK d]at h;exact aM h d
 ·rw[aI d]at h;by_cases e:bO.once (D9 ss x known m)≠[];·rw[aK e]at h;omega
  ·rw[aI e]at h;by_cases b:k<0\/k>=x.bq.length\/jw ss.length known bL=false\/vg ss.length (x.bq.take k.toNat) own=false;·rw[aK b]at h;omega
   ·have r:¬k<0:=λh=>b<|aO h;have s:¬k>=x.bq.length:=λh=>b<|aQ<|aO h;have i:¬jw ss.length known bL=false:=λh=>b<|aQ<|aQ<|aO h;have p:¬vg ss.length (x.bq.take k.toNat) own=false:=λh=>b<|aQ<|aQ<|aQ h;have q:k.toNat<x.bq.length:=by omega
    exact⟨Classical.not_not.1 d,Classical.not_not.1 e,k.toNat,x.bq[k.toNat],by omega,aZ q,by simpa using i,by simpa using p⟩
end Fl
theorem Xw(m:Nat)(w:bI)(t s q v d r e u:aC)(ss:aJ)(G:Nat)(L:Nat->Nat)(Z:aL)(x:Mo)(known:List Mo)(bL:List (List Sc))(own:List Sc)(k mn g:Int)(D:mQ w m t s q v d r e u ss G L Z x known bL own):aD 77 #[.agg #[t,s],.agg #[A x.name,q,v,d],O k,r,e,u,O mn,O g] w λp w'=>J ((Fl.Vq ss G L Z m x k known bL own mn g≠0/\p=dz (.tuple #[.agg #[aU,aU,aU,aU,O 0,O 0,aU],O<|Fl.Vq ss G L Z m x k known bL own mn g])/\bK w w')\/(Fl.Vq ss G L Z m x k known bL own mn g=0/\∃(kn:Nat) (f:Fu),k=kn/\x.bq[kn]?=some f/\∃F K e d M,p=dz (.tuple #[.agg #[F,K,e,d,O 0,O ((Fl.gH ss Z x kn known bL own f).jd m f).level,M],O 0])/\yt w' w.heap.size F K e d M ((Fl.gH ss Z x kn known bL own f).jd m f)/\bK w w')):=by
 by_cases C:Fl.QA ss G L Z m x k known bL own=0
 ·obtain⟨i,z,kn,f,I,S,H,P⟩:=Fl.KX C;have R:Fl.Vq ss G L Z m x k known bL own mn g=if Fl.Lb (Fl.gH ss Z x kn known bL own f) m f mn g then 2 else 0:=by
   unfold Fl.Vq;rw[aI (by simp[C])];have p:k.toNat=kn:=by omega
   rw[p,S]
  refine(abz m w t s q v d r e u ss G L Z x known bL own k mn g D i z kn f I S H P).mono ?_;intro p w' h;rcases h with⟨a,b,c⟩|⟨a,b⟩;·rw[R,a];exact Y (aO ⟨by decide,b,c⟩)
  ·rw[R,a];exact Y<|aQ ⟨rfl,kn,f,I,S,b⟩
 ·have R:Fl.Vq ss G L Z m x k known bL own mn g=Fl.QA ss G L Z m x k known bL own:=by unfold Fl.Vq;rw[aK C]
  rw[R];have fine:∀{E:Int},Fl.QA ss G L Z m x k known bL own=E->(aD 77 #[.agg #[t,s],.agg #[A x.name,q,v,d],O k,r,e,u,O mn,O g] w λp w'=>p=dz (.tuple #[.agg #[aU,aU,aU,aU,O 0,O 0,aU],O E])/\bK w w')->aD 77 #[.agg #[t,s],.agg #[A x.name,q,v,d],O k,r,e,u,O mn,O g] w λp w'=>J ((Fl.QA ss G L Z m x k known bL own≠0/\p=dz (.tuple #[.agg #[aU,aU,aU,aU,O 0,O 0,aU],O<|Fl.QA ss G L Z m x k known bL own])/\bK w w')\/(Fl.QA ss G L Z m x k known bL own=0/\∃(kn:Nat) (f:Fu),k=kn/\x.bq[kn]?=some f/\∃F K e d M,p=dz (.tuple #[.agg #[F,K,e,d,O 0,O ((Fl.gH ss Z x kn known bL own f).jd m f).level,M],O 0])/\yt w' w.heap.size F K e d M ((Fl.gH ss Z x kn known bL own f).jd m f)/\bK w w')):=λB h=>h.mono λp w' hh=>Y (aO ⟨C,by rw[B];exact hh.1,hh.2⟩);by_cases i:AO (dD ss G L Z) m x known=0
  ·by_cases z:bO.once (D9 ss x known m)=[]
   ·have B:Fl.QA ss G L Z m x k known bL own=1:=by
     unfold Fl.QA at C ⊢;rw[aI (by simp[i]),aI (by simp[z])]at C ⊢;split at C;·rename_i h;rw[aK h]
     ·exact aM rfl C
    by_cases W:k<0;·exact fine B<|Ue m w t s q v d r e u ss G L Z x known bL own k mn g D i z W
    ·by_cases k2:k>=x.bq.length;·exact fine B<|Uf m w t s q v d r e u ss G L Z x known bL own k mn g D i z W k2
     ·have I:k=k.toNat:=by omega
      have aa:k.toNat<x.bq.length:=by omega
      cases H:Fl.jw ss.length known bL with
      | false=>exact fine B<|Ug m w t s q v d r e u ss G L Z x known bL own k mn g D i z k.toNat I aa H
      | true=>
       cases P:Fl.vg ss.length (x.bq.take k.toNat) own with
       | false=>exact fine B<|Uh m w t s q v d r e u ss G L Z x known bL own k mn g D i z k.toNat I aa H P
       | true=>
        exfalso;apply C;unfold Fl.QA;rw[aI (by simp[i]),aI (by simp[z]),aI];rintro(h|h|h|h);·exact W h
        ·exact k2 h
        ·rw[H]at h;cases h
        ·rw[P]at h;cases h
   ·have B:Fl.QA ss G L Z m x k known bL own=5:=by unfold Fl.QA;rw[aI (by simp[i]),aK z]
    exact fine B<|Ud m w t s q v d r e u ss G L Z x known bL own k mn g D i z
  ·have B:Fl.QA ss G L Z m x k known bL own=AO (dD ss G L Z) m x known:=by unfold Fl.QA;rw[aK i]
   exact fine B<|Uc m w t s q v d r e u ss G L Z x known bL own k mn g D i
namespace Sm
open Fl
section
variable (Z : Nat → Nat → Bool) (N : Nat)
def tell(V:Nat->Nat × Nat)(fr:List Int)(a:Nat × Nat):Nat × Nat:=fr.foldl (λx v=>Sv.join Z N x (V v.toNat)) a
def lab(d b:Int):Nat × Nat:=(d.toNat,b.toNat)
def met(a b:Nat):Nat:=nT (bS.tr Z) N a b
def top:Nat:=xR (bS.tr Z) N
noncomputable def least(n:Nat)(cs:List Co):Nat->Nat × Nat:=Classical.epsilon λV=>Bf Z N n cs V
def QD(V:Nat->Nat × Nat)(s:Si):Nat × Nat:=tell Z N V s.fr (lab s.mask s.level)
def bdW(V:Nat->Nat × Nat)(i:Nat)(b:Nat)(s:Si):Nat:=if (QD Z N V s).1.testBit i then met Z N b s.lv.toNat else b
def bd(V:Nat->Nat × Nat)(sinks:List Si)(i:Nat):Nat:=sinks.foldl (bdW Z N V i) (top Z N)
def pcW(b:Nat)(s:Si):Nat:=if s.gY then met Z N b s.lv.toNat else b
def pc(sinks:List Si):Nat:=sinks.foldl (pcW Z N) (top Z N)
def bds(V:Nat->Nat × Nat)(sinks:List Si)(n:Nat):List Int:=(List.range n).map λi=>(bd Z N V sinks i:Int)
def eF(V:Nat->Nat × Nat)(P:Pb)(f:Fu):Sc:=⟨f.name,(tell Z N V P.fr (lab P.mask P.level)).1,(tell Z N V P.fr (lab P.mask P.level)).2,bds Z N V P.sinks f.params.length,pc Z N P.sinks,P.gY⟩
def bad(V:Nat->Nat × Nat)(s:Si):Bool:=!Z (QD Z N V s).2 s.lv.toNat
def GJ(V:Nat->Nat × Nat)(P:Pb)(b:ByteArray):List Dg:=(P.sinks.filter (bad Z N V)).map λs=>⟨6,b,s.name⟩
end
section
variable {Z : Nat → Nat → Bool} {N n : Nat} {V U : Nat → Nat × Nat}
theorem Ul(b:bS.Joins Z N){cs:List Co}(h:Bf Z N n cs V):∀v,v<n->V v=least Z N n cs v:=h.unique b<|Classical.epsilon_spec (p:=λV=>Bf Z N n cs V) ⟨V,h⟩
theorem ayd{cs:List Co}(h:∃V,Bf Z N n cs V):Bf Z N n cs (least Z N n cs):=Classical.epsilon_spec h
theorem QE(d:bS.Joins Z N)(e:yS N n V):∀{fr:List Int} {a:Nat × Nat},(∀v∈fr,uf n v=true)->Sv.Ok N a->Sv.Ok N (tell Z N V fr a)
 | [],_,_,b=>b
 | v::fr,_,f,b=>QE d e (fr:=fr) (λh g=>f h<|l8 _ g)<|YE d b<|e _ (lU<|f v List.mem_cons_self).2.1
theorem Gh(h:∀v,v<n->V v=U v):∀{fr:List Int} {a:Nat × Nat},(∀v∈fr,uf n v=true)->tell Z N V fr a=tell Z N U fr a
 | [],_,_=>rfl
 | v::fr,a,b=>by have d:=h _ (lU<|b v List.mem_cons_self).2.1;show tell Z N V fr (Sv.join Z N a<|V v.toNat)=tell Z N U fr (Sv.join Z N a<|U v.toNat);rw[d];exact Gh h (λf e=>b f<|l8 _ e)
theorem abC(fr:List Int)(v:Int)(a:Nat × Nat):tell Z N V (fr++[v]) a=Sv.join Z N (tell Z N V fr a) (V v.toNat):=by unfold tell;rw[JX];rfl
theorem alu(K:bS.Joins (bS.tr Z) N){a b:Nat}(d:a<N)(e:b<N)(h:Z a b=true):met Z N a b=a:=by unfold met;rw[K.comm d e];exact K.of_le e d h
theorem PI(K:bS.Joins (bS.tr Z) N){a b:Nat}(d:a<N)(e:b<N):met Z N a b<N:=K.lt d e
structure Ez(N n:Nat)(s:Si):Prop where
 fr:∀v∈s.fr,uf n v=true
 lab:Au N s.mask s.level=true
 lv:0<=s.lv/\s.lv<N
theorem Ez.lvN{s:Si}(h:Ez N n s):s.lv.toNat<N/\s.lv=(s.lv.toNat:Int):=by have:=h.lv;omega
theorem Wd(b:bS.Joins Z N)(d:yS N n V){s:Si}(h:Ez N n s):Sv.Ok N (QD Z N V s):=QE b d h.fr (wX h.lab).1
theorem Um(h:∀v,v<n->V v=U v){s:Si}(b:Ez N n s):QD Z N V s=QD Z N U s:=Gh h b.fr
theorem alv(K:bS.Joins (bS.tr Z) N){i b:Nat}{s:Si}(d:b<N)(e:Ez N n s):bdW Z N V i b s<N:=by
 unfold bdW;split;·exact PI K d e.lvN.1
 ·exact d
theorem RL(K:bS.Joins (bS.tr Z) N){b:Nat}{s:Si}(d:b<N)(e:Ez N n s):pcW Z N b s<N:=by
 unfold pcW;split;·exact PI K d e.lvN.1
 ·exact d
theorem QF{g:Nat->Si->Nat}(hg:∀b s,b<N->Ez N n s->g b s<N):∀{l:List Si} {b:Nat},(∀s∈l,Ez N n s)->b<N->l.foldl g b<N
 | [],_,_,d=>d
 | s::l,b,e,d=>QF hg (l:=l) (λt f=>e t<|l8 _ f)<|hg b s d<|e s List.mem_cons_self
theorem Oa{α β:Type}{g h:β->α->β}:∀{l:List α} {b:β},(∀s∈l,∀b,g b s=h b s)->l.foldl g b=l.foldl h b
 | [],_,_=>rfl
 | s::l,b,d=>by rw[pz,pz,d s List.mem_cons_self];exact Oa λt e=>d t<|l8 _ e
theorem aiE(h:∀v,v<n->V v=U v){l:List Si}(d:∀s∈l,Ez N n s)(i:Nat):bd Z N V l i=bd Z N U l i:=
 Oa λs e b=>by unfold bdW;rw[Um h (d s e)]
theorem QG(l:List Si)(k:Nat):(bds Z N V l k).length=k:=by unfold bds;rw[dV,uJ]
theorem afG(h:∀v,v<n->V v=U v){l:List Si}(b:∀s∈l,Ez N n s)(k:Nat):bds Z N V l k=bds Z N U l k:=
 Na λi _=>by rw[aiE h b]
structure Xx(N:Nat)(P:Pb):Prop where
 cons:∀c∈P.cons,Ms N P.names.length c=true
 sinks:∀s∈P.sinks,Ez N P.names.length s
 fr:∀v∈P.fr,uf P.names.length v=true
 lab:Au N P.mask P.level=true
theorem Un{P:Pb}(b:Xx N P)(h:∀v,v<P.names.length->V v=U v)(f:Fu):eF Z N V P f=eF Z N U P f:=by unfold eF;rw[Gh h b.fr,afG h b.sinks]
theorem Uo{P:Pb}(b:Xx N P)(h:∀v,v<P.names.length->V v=U v)(fn:aS):GJ Z N V P fn=GJ Z N U P fn:=by unfold GJ;congr 1;refine List.filter_congr λs d=>?_;unfold bad;rw[Um h (b.sinks s d)]
end
section
variable {c : Env}
theorem Xy(g:c.Ok):∀{m:Nat} {x:Ex} {pc:Hg} {s:Sk},c.xZ m x->pc.2<c.N->s∈c.zi m x pc->s.lab<c.N/\0<=s.lv/\s.lv<c.N
 | 0,_,_,_,d,_,_=>iU d
 | m+1,x,pc,s,d,k,b=>by
  simp only[Env.zi,bX,gZ]at b;rcases b with⟨y,q,b⟩|b;·exact Xy g (d.2.2.2 y q) k b
  ·split at b
   ·rename_i p;obtain⟨_,e⟩:=d.2.2.1 p;simp only[bX,dh,Env.skA,iZ,jE]at b;rcases b with⟨i,h,rfl⟩|rfl
    ·refine⟨Env.zk g<|d.2.2.2 _<|Ko h,?_⟩;have f:i<(c.eF x.name).bounds.length:=by rw[e.bounds];exact h
     show 0<=(c.eF x.name).bounds.getD i 0/\(c.eF x.name).bounds.getD i 0<c.N;rw[List.getD,aZ f,gD];exact e.ER _<|kZ f
    ·exact⟨k,e.pc⟩
   ·simp at b
theorem Zw(b:c.Ok){m:Nat}{pc:Hg}{s:St}(e:pc.2<c.N)(d:c.xZ m s.e):(c.here m pc s).2<c.N:=Env.PE b e<|Env.zk b d
theorem Xz(d:c.Ok)(f:∀s,c.pl s<c.N):∀{m:Nat} {l:List St} {pc:Hg} {s:Sk},c.yg m l->pc.2<c.N->s∈c.Il m l pc->s.lab<c.N/\0<=s.lv/\s.lv<c.N
 | 0,_,_,_,g,_,_=>iU g
 | m+1,l,pc,s,g,i,b=>by
  simp only[Env.Il,bX,gZ]at b;obtain⟨t,v,b⟩:=b;obtain⟨_,h,_,k,p,q⟩:=g t v;have e:=Zw d i h;rcases b with((b|b)|b)|b
  ·refine Xy d h ?_ b;unfold Env.at;split;·exact e
   ·exact i
  ·unfold Env.Vl Env.skN at b;split at b
   ·split at b;·rename_i n u;rw[dh]at b;subst b;have x:=d.nQ _ n u;exact⟨e,Int.natCast_nonneg n,by show(n:Int)<(c.N:Int);omega⟩
    ·simp at b
   ·split at b;·rename_i r;rw[dh]at b;subst b;exact⟨e,k r,f _⟩
    ·simp at b
  ·exact Xz d f p e b
  ·exact Xz d f q e b
theorem XA(f:c.Ok):∀{m:Nat} {l:List St} {pc:Hg} {s:Cn},c.yg m l->pc.2<c.N->s∈c.Kn m l pc->s.lab<c.N/\s.to∈c.yx m l
 | 0,_,_,_,h,_,_=>iU h
 | m+1,l,pc,s,h,u,d=>by
  simp only[Env.Kn,bX,gZ]at d;obtain⟨t,e,d⟩:=d;obtain⟨_,i,_,v,k,p⟩:=h t e;have g:=Zw f u i;simp only[Env.yx,bX,gZ];rcases d with(d|d)|d
  ·unfold Env.cn1 Env.cnN at d;split at d
   ·rename_i q;split at d;·simp at d
    ·rename_i r;rw[dh]at d;subst d;refine⟨g,t,e,aO<|aO<|aQ ?_⟩;unfold Env.G8 Env.MH;rw[aK q,r];exact dh.2 rfl
   ·simp at d
  ·obtain⟨a,b⟩:=XA f k g d;exact⟨a,t,e,aO<|aQ b⟩
  ·obtain⟨a,b⟩:=XA f p g d;exact⟨a,t,e,aQ b⟩
theorem Lc{nl d:aJ}:∀v∈nums nl d,uf nl.length v=true:=λv b=>by have:=ahK b;unfold uf;simp only[dK,iy];exact this
theorem EB{N a b:Nat}(d:a<=15)(e:b<N):Au N (a:Int) (b:Int)=true:=by unfold Au;simp only[dK,iy];omega
theorem aiF(d:c.Ok)(C:∀s,c.pl s<c.N){m:Nat}{f:Fu}(v:c.yg m f.body)(x:c.xZ m f.result)(F:f.params.length<=4):Xx c.N (c.jd m f):=by
 have r:(([],c.low):Hg).2<c.N:=d.low;have H:f.params.length<=(c.names m f).length:=by unfold Env.names;obtain⟨t,E⟩:=aef (c.yx m f.body++c.oM m f.result) f.params;rw[E,bg];omega
 refine⟨λk e=>?_,λs g=>?_,Lc,EB (bN _)<|Env.zk d x⟩
 ·simp only[Env.jd,bX,iZ,jE]at e;rcases e with⟨i,q,rfl⟩|⟨s,g,rfl⟩
  ·have z:2 ^ i<=15:=by
    have:i<=3:=by omega
    calc 2 ^ i<=2 ^ 3:=Nat.pow_le_pow_right bM this
     _<=15:=by decide
   have p:=EB (N:=c.N) z d.low;unfold Ms D5;simp only[List.all_nil,nX,dK];refine⟨?_,p⟩;unfold uf;simp only[dK,iy];show(0:Int)<=(i:Int)/\(i:Int)<((c.names m f).length:Int);omega
  ·obtain⟨a,b⟩:=XA d v r g;have B:s.to∈c.names m f:=by unfold Env.names;exact sV.2<|aQ<|bX.2<|aO b
   obtain⟨i,q⟩:=xk B;have G:i<(c.names m f).length:=by have:=vX q;exact(cO.1 this).1
   have p:=EB (N:=c.N) (bN 15) a;unfold Ms BX;simp only[dK,iB];refine⟨Lc,?_,p⟩;rw[q,gD];unfold uf;simp only[dK,iy];show(0:Int)<=(i:Int)/\(i:Int)<((c.names m f).length:Int);omega
 ·simp only[Env.jd,iZ]at g;obtain⟨u,D,rfl⟩:=g;have e:u.lab<c.N/\0<=u.lv/\u.lv<c.N:=by
   rcases bX.1 D with h|h;·exact Xz d C v r h
   ·exact Xy d x r h
  exact⟨Lc,EB (bN _) e.1,e.2⟩
theorem MV(m:Nat)(f:Fu):(c.jd m f).cons.length=f.params.length+c.vY m f.body:=by simp only[Env.jd,bg,dV,uJ,Xu]
end
noncomputable def inf(ss:List ByteArray)(Z:Nat->Nat->Bool)(m:Nat)(x:Mo)(known:List Mo)(bL:List (List Sc)):Nat->List Sc × List Dg
 | 0=>([],[])
 | k+1=>match x.bq[k]? with
  | none=>inf ss Z m x known bL k
  | some f=>
   let r:=inf ss Z m x known bL k
   let P:=(gH ss Z x k known bL r.1 f).jd m f
   let V:=least Z ss.length P.names.length P.cons
   (r.1++[eF Z ss.length V P f],r.2++GJ Z ss.length V P f.name)
noncomputable def qI(ss:List ByteArray)(G:Nat)(L:Nat->Nat)(Z:Nat->Nat->Bool)(m:Nat)(x:Mo)(known:List Mo)(bL:List (List Sc)):Nat->Int
 | 0=>0
 | k+1=>if qI ss G L Z m x known bL k≠0 then qI ss G L Z m x known bL k else Vq ss G L Z m x k known bL (inf ss Z m x known bL k).1 40 1000
end Sm
open Sm
theorem pJ.strs{w:bI}{B:Nat}{v:aC}{l:aJ}(h:pJ w B v l)(d:∀k∈l,k.size<=maxLen)(e:l.length<=9223372036854775807):Strs w v l:=by
 rcases h with⟨rfl,rfl⟩|⟨g,cap,rfl,_,f⟩;·exact⟨none,0,0,0,rfl,λh=>aM h cK,by simp,d,λi b=>aM b cK⟩
 ·refine⟨_,g,0,cap,rfl,λ_=>rfl,e,d,λi b=>?_⟩;rw[d9,List.getD,aZ b];exact f.cell<|aZ b
def CoL(w:World)(v:Value)(l:List Co):Prop:=
 ∃(a:Option Addr) (b off cap:Nat),v=.slice a l.length cap/\(0<l.length->a=some ⟨b,off,none⟩)/\l.length<=9223372036854775807/\
  ∀(i:Nat) y,l[i]?=some y->∃d,w.cell? ⟨b,off+i*4,none⟩=some (.int .i64 y.to)/\w.cell? ⟨b,off+i*4+1,none⟩=some d/\w.cell? ⟨b,off+i*4+2,none⟩=some (.int .i64 y.mask)/\w.cell? ⟨b,off+i*4+3,none⟩=some (.int .i64 y.level)/\Ints w d y.fr
def SiL(w:World)(v:Value)(l:List Si):Prop:=
 ∃(a:Option Addr) (b off cap:Nat),v=.slice a l.length cap/\(0<l.length->a=some ⟨b,off,none⟩)/\l.length<=9223372036854775807/\
  ∀(i:Nat) y,l[i]?=some y->∃d,w.cell? ⟨b,off+i*6,none⟩=some d/\w.cell? ⟨b,off+i*6+1,none⟩=some (.int .i64 y.mask)/\w.cell? ⟨b,off+i*6+2,none⟩=some (.int .i64 y.level)/\w.cell? ⟨b,off+i*6+3,none⟩=some (.int .i64 y.lv)/\w.cell? ⟨b,off+i*6+4,none⟩=some (.string y.name)/\w.cell? ⟨b,off+i*6+5,none⟩=some (.bool y.gY)/\Ints w d y.fr
theorem CoL.below{w w':bI}{v:aC}{l:List Co}(h:CoL w v l)(d:bK w w'):CoL w' v l:=by obtain⟨a,b,off,cap,e,q,s,r⟩:=h;refine⟨a,b,off,cap,e,q,s,λi y t=>?_⟩;obtain⟨u,f,g,m,p,k⟩:=r i y t;exact⟨u,aG f d,aG g d,aG m d,aG p d,k.below d⟩
theorem SiL.below{w w':bI}{v:aC}{l:List Si}(h:SiL w v l)(d:bK w w'):SiL w' v l:=by obtain⟨a,b,off,cap,e,s,u,t⟩:=h;refine⟨a,b,off,cap,e,s,u,λi y x=>?_⟩;obtain⟨z,f,g,m,p,q,r,k⟩:=t i y x;exact⟨z,aG f d,aG g d,aG m d,aG p d,aG q d,aG r d,k.below d⟩
theorem alx{w:bI}{n:Nat}{v:aC}{l:List Co}(h:eZ CoT w n 242 4 v l)(r:l.length<=9223372036854775807):CoL w v l:=by
 by_cases f:l=[];·subst f;obtain⟨a,c,rfl⟩:=h.form;exact⟨a,0,0,c,rfl,λh=>aM h cK,by simp,λi y e=>aM e cK⟩
 ·obtain⟨E,s⟩:∃y,l[0]?=some y:=by
   cases l with
   | nil=>exact aM rfl f
   | cons y l=>exact⟨y,rfl⟩
  obtain⟨g,cap,k,-⟩:=h.get s;refine⟨_,g,0,cap,k,λ_=>rfl,r,λi y e=>?_⟩;obtain⟨m,C,b,c,D,d,p⟩:=h.get e;obtain rfl:m=g:=by rw[k]at b;injection b with b;injection b with b;injection b with b;exact b.symm
  obtain⟨B,q,rfl⟩:=p;obtain⟨t,u,x,z⟩:=rY (d 0 bC) (d 1 bC) (d 2 bC)<|d 3 bC;rw[d9];exact⟨B,t,u,x,z,q.ints⟩
theorem aly{w:bI}{n:Nat}{v:aC}{l:List Si}(h:eZ SiC w n 189 6 v l)(r:l.length<=9223372036854775807):SiL w v l:=by
 by_cases f:l=[];·subst f;obtain⟨a,c,rfl⟩:=h.form;exact⟨a,0,0,c,rfl,λh=>aM h cK,by simp,λi y e=>aM e cK⟩
 ·obtain⟨G,s⟩:∃y,l[0]?=some y:=by
   cases l with
   | nil=>exact aM rfl f
   | cons y l=>exact⟨y,rfl⟩
  obtain⟨g,cap,k,-⟩:=h.get s;refine⟨_,g,0,cap,k,λ_=>rfl,r,λi y e=>?_⟩;obtain⟨m,E,b,c,F,d,p⟩:=h.get e;obtain rfl:m=g:=by rw[k]at b;injection b with b;injection b with b;injection b with b;exact b.symm
  obtain⟨D,q,rfl⟩:=p;obtain⟨t,u,x,z⟩:=rY (d 0 bC) (d 1 bC) (d 2 bC)<|d 3 bC;obtain⟨B,C⟩:=eY (d 4 bC)<|d 5 bC;rw[d9];exact⟨D,t,u,x,z,B,C,q.ints⟩
theorem Ints.Hr{w:bI}{v:aC}{l:List Int}(h:Ints w v l):∃a c,v=X a l.length c:=by obtain⟨a,b,off,cap,e,-⟩:=h;exact⟨a,cap,e⟩
structure PbV(w:World)(eU vc vs vf ve:Value)(P:Pb):Prop where
 names:Strs w eU P.names
 cons:CoL w vc P.cons
 sinks:SiL w vs P.sinks
 fr:Ints w vf P.fr
 gY:Strs w ve P.gY
theorem PbV.below{w w':bI}{d e i g f:aC}{P:Pb}(h:PbV w d e i g f P)(b:bK w w'):PbV w' d e i g f P:=⟨h.names.below b,h.cons.below b,h.sinks.below b,h.fr.below b,h.gY.below b⟩
theorem jc{w:bI}{v:aC}{l:aJ}(h:Strs w v l):∃a c,v=X a l.length c:=by obtain⟨a,b,off,cap,e,-⟩:=h;exact⟨a,cap,e⟩
theorem CoL.form{w:bI}{v:aC}{l:List Co}(h:CoL w v l):∃a c,v=X a l.length c:=by obtain⟨a,b,off,cap,e,-⟩:=h;exact⟨a,cap,e⟩
theorem SiL.form{w:bI}{v:aC}{l:List Si}(h:SiL w v l):∃a c,v=X a l.length c:=by obtain⟨a,b,off,cap,e,-⟩:=h;exact⟨a,cap,e⟩
structure So where
 vn:Value
 vl:Value
 v0:Value
 v1:Value
 v2:Value
 v3:Value
 ma:Int
 lv:Int
 v4:Value
 vL:Value
 vK:Value
def So.cs(s:So):Array Value:=#[s.vn,s.vl,s.v0,s.v1,s.v2,s.v3,.int .i64 s.ma,.int .i64 s.lv,s.v4,s.vL,s.vK]
def So.Form(s:So):Prop:=(∃a n c,s.vn=.slice a n c)/\(∃a n c,s.vl=.slice a n c)/\(∃a n c,s.v0=.slice a n c)/\(∃a n c,s.v1=.slice a n c)/\(∃a n c,s.v2=.slice a n c)/\(∃a n c,s.v3=.slice a n c)/\(∃a n c,s.v4=.slice a n c)/\(∃a n c,s.vL=.slice a n c)/\∃a n c,s.vK=.slice a n c
def ED(l:List (Nat × Nat)):List (Int × Int):=l.map λx=>((x.1:Int),(x.2:Int))
theorem Gi{l:List (Nat × Nat)}{i:Nat}{x:Nat × Nat}(h:l[i]?=some x):(ED l)[i]?=some ((x.1:Int),(x.2:Int)):=by unfold ED;rw[pq,h];rfl
theorem wE(l:List (Nat × Nat)):(ED l).length=l.length:=dV ..
theorem QH(s:So)(h:s.Form):∃b D q d E r e F t f G u g H v i I x k K z m L B p M C,s=⟨X b D q,X d E r,X e F t,X f G u,X g H v,X i I x,s.ma,s.lv,X k K z,X m L B,X p M C⟩:=by obtain⟨vn,vl,R,S,W,v3,mk,P,v4,vL,vK⟩:=s;obtain⟨⟨b,D,q,rfl⟩,⟨d,E,r,rfl⟩,⟨e,F,t,rfl⟩,⟨f,G,u,rfl⟩,⟨g,H,v,rfl⟩,⟨i,I,x,rfl⟩,⟨k,K,z,rfl⟩,⟨m,L,B,rfl⟩,⟨p,M,C,rfl⟩⟩:=h;exact⟨_,_,_,_,_,_,_,_,_,_,_,_,_,_,_,_,_,_,_,_,_,_,_,_,_,_,_,rfl⟩
theorem nC.forms{w:bI}{d b:aC}{ss:aJ}{G:Nat}{L:Nat->Nat}{Z:aL}(h:nC w d b ss G L Z):(∃a c,d=X a ss.length c)/\∃a n c,b=X a n c:=by refine⟨jc h.strs,?_⟩;obtain⟨g,k,i,f,RO,C,e,-⟩:=h.grid;exact⟨_,_,_,e⟩
theorem afH{w:bI}{e d:aC}{ss:aJ}{G:Nat}{L:Nat->Nat}{Z:aL}(h:nC w e d ss G L Z){a b:Nat}(f:a<ss.length)(g:b<ss.length):Bj ss G L Z a b=0:=by unfold Bj;rw[aK h.ok];refine aK ?_;unfold bS.ER;simp only[dK,iy];omega
theorem Zx(w:bI)(s:So)(ss:aJ)(G:Nat)(L:Nat->Nat)(Z:aL)(a b:Nat)(hF:s.Form)(d:nC w s.vn s.vl ss G L Z)(g:a<ss.length)(k:b<ss.length):aD 115 #[.agg s.cs,O a,O b] w λe w'=>e=dz (O (Sm.met Z ss.length a b:Nat))/\bK w w':=by
 obtain⟨m,u,q,p,v,r,z,n2,K,B,n3,M,D,n4,P,E,n5,R,F,n6,S,H,n7,c7,I,n8,c8,t⟩:=QH s hF;generalize s.ma=mk at t;generalize s.lv=lv at t;subst t;simp only[So.cs]at d ⊢;obtain⟨W,hW⟩:=aV<|w.alloc<|aY #[X m u q,X p v r,X z n2 K,X B n3 M,X D n4 P,X E n5 R,O mk,O lv,X F n6 S,X H n7 c7,X I n8 c8] 146;have f:J (bK w W):=Y (by rw[hW];exact aH _ _);have lH:J (dR W w.heap.size<|aY #[X m u q,X p v r,X z n2 K,X B n3 M,X D n4 P,X E n5 R,O mk,O lv,X F n6 S,X H n7 c7,X I n8 c8] 146):=Y (by rw[hW];exact bF _ _);have x:=Y<|ahx W (X m u q) (X p v r) ss G L Z a b (d.strs.below f) (d.Q5.below f)<|afH d g k;have ab:J (Z a b=true->Sm.met Z ss.length a b=a):=Y (λh=>alu d.meets g k h);have Je:J (nT (bS.tr Z) ss.length a b=Sm.met Z ss.length a b):=Y rfl;rw[Je]at x;obtain⟨gb,go,gc,RB,RO,C,e1,h1,h2⟩:=(d.below f).grid;obtain⟨r1,r2⟩:=eY (h1 a g)<|h2 a b g k;injection e1 with ea en ec;subst ea en ec;have ad:(a:Int)<(ss.length:Int):=by omega
 have ae:(b:Int)<(ss.length:Int):=by omega
 generalize ss.length=N at *;generalize Sm.met Z N a b=mt at *;generalize MX (bS.tr Z) N a b=je at *;obtain⟨x0,x1⟩:=jv lH;clear h1 h2 d g k;cases i:Z a b with
 | true =>rw[i]at r2;have ac:=Y<|ab i;clear i;go_enter func115,ntmps115;go_upto_region 1 with fail;rw[<-hW];clear hW;go_wp2;go_ret;exact⟨by rw[ac];rfl,f⟩
 | false =>rw[i]at r2;clear i;go_enter func115,ntmps115;go_upto_region 1 with fail;rw[<-hW];clear hW;go_wp2_with fail;refine x.mono ?_;rintro e w5 ⟨rfl,aa⟩;have eD:=Y<|up f aa;clear aa;go_wp2;go_ret;exact⟨rfl,eD⟩
theorem Uq(w:bI)(s:So)(ss:aJ)(G:Nat)(L:Nat->Nat)(Z:aL)(n:Nat)(V:Nat->Nat × Nat)(vf:aC)(fr:List Int)(a:Nat × Nat)(hF:s.Form)(t:nC w s.vn s.vl ss G L Z)(hV:mM w s.vL (Sv.list n V))(hO:yS ss.length n V)(hI:Ints w vf fr)(hf:∀v∈fr,uf n v=true)(ha:Sv.Ok ss.length a):aD 112 #[.agg s.cs,vf,.agg #[O (a.1:Nat),O (a.2:Nat)]] w λD w'=>D=dz (.agg #[O ((Sm.tell Z ss.length V fr a).1:Nat),O ((Sm.tell Z ss.length V fr a).2:Nat)])/\bK w w':=by
 obtain⟨a0,n0,c0,a1,n1,c1,a2,n2,c2,a3,n3,c3,a4,n4,c4,a5,n5,c5,a6,n6,c6,a7,x,c7,a8,n8,c8,h⟩:=QH s hF;generalize s.ma=mk at h;generalize s.lv=lv at h;subst h;simp only[So.cs]at t hV ⊢;obtain⟨W,hW,k0,k1,k2,am,ac⟩:=al3 w (aY #[X a0 n0 c0,X a1 n1 c1,X a2 n2 c2,X a3 n3 c3,X a4 n4 c4,X a5 n5 c5,O mk,O lv,X a6 n6 c6,X a7 x c7,X a8 n8 c8] 146) (aY #[O (a.1:Nat),O (a.2:Nat)] 31)<|aY #[O 0,O 0] 31;obtain⟨iO,lH,jG,IJ⟩:=lD ac k0 k1 k2;have ab:J (w.heap.size≠w.heap.size+1/\w.heap.size+1+1≠w.heap.size+1):=Y ⟨by omega,by omega⟩;obtain⟨fa,fb,fo,fc,rfl,H,ak,zF⟩:=hI;obtain⟨nf,P⟩:=aV fr.length;have yM:=Y P;rw[<-P]at H ak ⊢;obtain⟨QB,Az,IZ⟩:=fE H zF t;obtain⟨la,lb,lo,lc,ad,K,M,aa⟩:=hV;rw[Ew]at ad K M;injection ad with e1 e2 e3;subst e1 e2 e3;obtain⟨ai,jP,HJ,S⟩:=lD K aa (t.joins) hO;have R:=Y hf;have HA:=Y ha;have au:x<=9223372036854775807:=M;clear P H zF K aa k0 k1 k2 ac am t hO hf ha M;go_enter func112,ntmps112;go_upto_region 1 with fail;rw[<-hW];clear hW;go_wp2_with fail;go_loopw[11] (λi wr=>∃j:Nat,j<=nf/\i=O j/\J (wr.heap[w.heap.size+1]?=some (aY #[O ((Sm.tell Z ss.length V (fr.take j) a).1:Nat),O ((Sm.tell Z ss.length V (fr.take j) a).2:Nat)] 31)/\But (w.heap.size+1) W wr)) (λi _=>nf - (intOf i).toNat);exact⟨0,bN _,rfl,Y ⟨jG,But.refl _ _⟩⟩
 obtain⟨j,hj,rfl,b⟩:=hrel;have g:J (bK w wr):=Y<|iO.trans<|b.2.below (dN _) iO.size;obtain⟨C,r⟩:=bV (b.2.at ab.1 lH)<|b.2.at ab.2 IJ;obtain⟨y,u⟩:=aV<|Sm.tell Z ss.length V (fr.take j) a;have ah:J (Sv.Ok ss.length y):=Y (by rw[u];exact QE HJ S (λv d=>R.out v<|N8 d) HA);have m:J (wr.heap[w.heap.size+1]?=some (aY #[O (y.1:Nat),O (y.2:Nat)] 31)):=Y (by rw[u];exact b.1);have HY:=Y u;clear u;by_cases al:j<nf
 ·obtain⟨v,d⟩:∃v,fr[j]?=some v:=⟨_,aZ (by rw[<-yM];exact al)⟩;obtain⟨ao,f,z⟩:=lU<|R.out v<|dG d;obtain⟨k,I⟩:=aV v.toNat;rw[<-I]at f z;have fT:J (Sm.tell Z ss.length V (fr.take<|j+1) a=Sv.join Z ss.length y (V k)):=Y (by rw[gy,d,kI,abC,<-HY,<-I]);obtain rfl:=QB bC;have gv:=aG (Az j v d) g.out;rw[z]at gv;obtain rfl:=ai bC;obtain⟨E,F⟩:=jP k _<|TR V f;replace E:=bD<|aG E g.out;replace F:=bD<|aG F g.out;have af:J (∀q e,aD 171 #[.agg #[X a0 n0 c0,X a1 n1 c1],.agg #[O (y.1:Nat),O (y.2:Nat)],.agg #[O ((V k).1:Nat),O ((V k).2:Nat)]] (gn wr q e) λD w'=>D=dz (.agg #[O ((Sv.join Z ss.length y<|V k).1:Nat),O ((Sv.join Z ss.length y<|V k).2:Nat)])/\Below (gn wr q e).heap.size (gn wr q e) w'):=Y λq e =>G7 (gn wr q e) _ _ ss G L Z y (V k) (IZ.below<|up g.out<|bU wr q e) ah<|S k f;obtain⟨x0,x1,x9,y0⟩:=rY (bD<|(aj C 0).trans rfl) (bD<|(aj C 1).trans rfl) (bD<|(aj C 9).trans rfl) (bD<|(aj m 0).trans rfl);have y1:=bD<|(aj m 1).trans rfl;have av:(0:Int)<=(k:Int):=by omega
  have aw:(k:Int)<(x:Int):=by omega
  generalize Sv.join Z ss.length y (V k)=jn at *;generalize (V k).1=ax at *;generalize (V k).2=ay at *;clear d ao f z I;go_wp2_with fail;refine gq 9 dw dw ?_;dsimp only[List.take,List.drop];repeat(quiet_step ((exact Calls.oZ<|af.out _ _)))
  refine wpQuiet_nil ?_;intro w6 ap;obtain⟨⟨nq,aq⟩,ae⟩:=ap;have fD:J (bK wr w6):=Y (by rw[ae];exact bU wr nq aq);have p:=Y<|bH m.out fD.out;obtain⟨r0,r1⟩:=jv p.out;obtain⟨z0,z1⟩:=eY (aF p.out 0)<|aF p.out 1;clear ae E F x0 x1 x9 y0 y1 gv;go_wp2;go_roundw;exact⟨j+1,by omega,by go_num,Y ⟨by rw[fT.out];exact xP p.out _ _,((b.out.2.trans<|But.of_below fD.out).set (aO rfl) _).set (aO rfl) _⟩⟩;exact gV
 ·obtain rfl:j=nf:=by omega
  have ag:J (Sm.tell Z ss.length V fr a=y):=Y (by rw[HY,yM,jQ]);obtain⟨y0,y1⟩:=jv m;obtain⟨r0,r1⟩:=jv r;obtain⟨z0,z1⟩:=eY (aF r 0)<|aF r 1;go_wp2_with fail;have h:=xP r (O (y.1:Nat))<|O (y.2:Nat);obtain⟨f0,f1⟩:=jv h;refine cZ (v:=.agg #[O (y.1:Nat),O (y.2:Nat)]) (by simp[results,results112,go_sem,f0,f1]) rfl ⟨by rw[ag],?_⟩;exact jR g.out (bE (dN _)<|dN _) _ _
theorem Xg{W:bI}{B:Nat}{t:TypeId}{q0 q1 q2 q3 q4 q5 u v x z s:aC}(h:dR W B (.cells #[q0,q1,q2,q3,q4,q5,u,v,x,z,s] t (0,0)))(b e f g i k m p q r d:aC):(((((((((((W.setCell (aN B 0) b).setCell (aN B 1) e).setCell (aN B 2) f).setCell (aN B 3) g).setCell (aN B 4) i).setCell (aN B 5) k).setCell (aN B 6) m).setCell (aN B 7) p).setCell (aN B 8) q).setCell (aN B 9) r).setCell (aN B 10) d).heap[B]?=some (.cells #[b,e,f,g,i,k,m,p,q,r,d] t (0,0)):=by have C:(W.setCell (aN B 0) b).heap[B]?=some (.cells #[b,q1,q2,q3,q4,q5,u,v,x,z,s] t (0,0)):=aP h 0 b;have D:=aP C 1 e;have F:=aP D 2 f;have G:=aP F 3 g;have H:=aP G 4 i;have I:=aP H 5 k;have K:=aP I 6 m;have L:=aP K 7 p;have M:=aP L 8 q;have P:=aP M 9 r;have E:=aP P 10 d;simpa using E
theorem abD{w W:bI}{B:Nat}(h:But B w W)(d e f g i k m p q r b:aC):But B w (((((((((((W.setCell (aN B 0) d).setCell (aN B 1) e).setCell (aN B 2) f).setCell (aN B 3) g).setCell (aN B 4) i).setCell (aN B 5) k).setCell (aN B 6) m).setCell (aN B 7) p).setCell (aN B 8) q).setCell (aN B 9) r).setCell (aN B 10) b):=
 ((((((((((h.set (aO rfl) _).set (aO rfl) _).set (aO rfl) _).set (aO rfl) _).set (aO rfl) _).set (aO rfl) _).set (aO rfl) _).set (aO rfl) _).set (aO rfl) _).set (aO rfl) _).set (aO rfl) _
def LbT(_:World)(c:List Value)(x:Nat × Nat):Prop:=c=[.int .i64 (x.1:Nat),.int .i64 (x.2:Nat)]
theorem aiH:(prog.info? 31).map (λi=>(i.zero,i.size,i.bytes))=some (some<|.agg #[O 0,O 0],2,16):=by kernel_rfl
theorem aiI{w:bI}{n:Nat}{v:aC}{l:List (Nat × Nat)}(h:eZ LbT w n 31 2 v l)(r:l.length<=9223372036854775807):mM w v (ED l):=by
 by_cases f:l=[];·subst f;obtain⟨a,c,rfl⟩:=h.form;exact⟨a,0,0,c,rfl,λh=>aM h (by simp[ED]),by simp[ED],λi y d=>aM d<|by simp[ED]⟩
 ·obtain⟨x,s⟩:∃y,l[0]?=some y:=by
   cases l with
   | nil=>exact aM rfl f
   | cons y l=>exact⟨y,rfl⟩
  obtain⟨g,cap,p,-⟩:=h.get s;refine⟨_,g,0,cap,by rw[wE];exact p,λ_=>rfl,by rw[wE];exact r,λi y d=>?_⟩;have m:i<l.length:=by have:=(cO.1 d).1;rwa[wE]at this
  rw[Gi (aZ m)]at d;cases d;obtain⟨q,t,b,c,u,e,k⟩:=h.get<|aZ m;obtain rfl:q=g:=by rw[p]at b;injection b with b;injection b with b;injection b with b;exact b.symm
  unfold LbT at k;subst k;rw[d9];exact⟨e 0 bC,e 1 bC⟩
theorem CoL.cos{w:bI}{v:aC}{l:List Co}(h:CoL w v l):NA w v l:=by obtain⟨a,b,off,cap,d,p,r,q⟩:=h;refine⟨a,b,off,cap,d,p,r,λi x s=>?_⟩;obtain⟨t,e,f,g,m,k⟩:=q i x s;exact⟨t,k,e,f,g,m⟩
structure Bn(n B:Nat)(w w':World):Prop where
 os:w'.os=w.os
 tape:w'.tape=w.tape
 output:w'.output=w.output
 size:w.heap.size<=w'.heap.size
 block:∀k,k<n->k≠B->w'.heap[k]?=w.heap[k]?
theorem Bn.refl(n B:Nat)(w:bI):Bn n B w w:=⟨rfl,rfl,rfl,bG _,λ_ _ _=>rfl⟩
theorem Bn.trans{n B:Nat}{w w' w'':bI}(h:Bn n B w w')(k:Bn n B w' w''):Bn n B w w'':=⟨k.os.trans h.os,k.tape.trans h.tape,k.output.trans h.output,bE h.size k.size,λi d b=>(k.block i d b).trans (h.block i d b)⟩
theorem Bn.of_below{n B:Nat}{w w':bI}(h:bK w w')(d:n<=w.heap.size):Bn n B w w':=⟨h.os,h.tape,h.output,h.size,λk b _=>h.block k bC⟩
theorem Bn.set{n B:Nat}{w w':bI}(h:Bn n B w w')(i:Nat)(v:aC):Bn n B w (w'.setCell (aN B i) v):=⟨h.os,h.tape,h.output,by simp only[World.setCell,Am];exact h.size,λk d b=>(vM _ _ _ _ b).trans (h.block k d b)⟩
theorem Bn.grown{n B:Nat}{w w' w2:bI}(h:Bn n B w w'){r:Option Nat}(hg:w'.grownBy w2 r)(f:∀k,r=some k->n<=k)(g:n<=w'.heap.size):Bn n B w w2:=⟨hg.os.trans h.os,hg.tape.trans h.tape,hg.output.trans h.output,bE h.size hg.size,λk e d=>(hg.block k bC (λb=>by have:=f k b.symm;omega)).trans (h.block k e d)⟩
theorem Bn.below{n m B:Nat}{w w':bI}(h:Bn n B w w')(e:m<=n)(b:m<=B):Below m w w':=⟨h.os,h.tape,h.output,h.size,λk d=>h.block k bC bC⟩
def La0(v:Value):Prop:=∀a n c,v=.slice (some a) n c->∃b,a=⟨b,0,none⟩
theorem eZ.la0{α:Type}{At:bI->List aC->α->Prop}{w:bI}{n d k:Nat}{v:aC}{l:List α}(h:eZ At w n d k v l):La0 v:=by
 obtain⟨_,h,_⟩:=h;rcases h.2 with⟨b,f⟩|⟨g,cap,e,b,_⟩;·intro a n c h;rw[b]at h;injection h with h;cases h
 ·intro a n c h;rw[b]at h;injection h with h;injection h with h;exact⟨g,h.symm⟩
theorem mM.bn{w w':bI}{n B g m c:Nat}{l:List (Int × Int)}(h:mM w (Tc g m c) l)(t:Bn n B w w')(hg:l≠[]->g<n/\g≠B):mM w' (Tc g m c) l:=by
 obtain⟨a,b,off,cap,p,q,v,s⟩:=h;refine⟨a,b,off,cap,p,q,v,λi x k=>?_⟩;have f:l≠[]:=λh=>by rw[h]at k;simp at k
 injection p with r D E;have d:=q<|vO.2 f;rw[<-r]at d;injection d with d;injection d with u F;obtain⟨z,C⟩:=s i x k;have e:=t.block g (hg f).1 (hg f).2;rw[u]at e;exact⟨(jH e).trans z,(jH e).trans C⟩
theorem Ob{w:bI}{g m c B:Nat}{l:List (Int × Int)}(h:mM w (Tc g m c) l){a:Option Addr}{n k:Nat}(u:bJ w B 0=some (X a n k))(f:l≠[]):g<w.heap.size/\g≠B:=by
 obtain⟨D,b,off,cap,p,s,G,t⟩:=h;obtain⟨x,C⟩:∃x,l[0]?=some x:=by
  cases l with
  | nil=>exact aM rfl f
  | cons x l=>exact⟨x,rfl⟩
 injection p with r E F;have d:=s<|vO.2 f;rw[<-r]at d;injection d with d;injection d with v z;obtain⟨e,_⟩:=t 0 x C;rw[<-v,<-z]at e;refine⟨eH _ _ e,λq=>?_⟩;subst q;have i:bJ w g 0=some (O x.1):=e;rw[u]at i;cases i
theorem afK{n B:Nat}{w W:bI}(h:Bn n B w W)(d e f g i k m p q r b:aC):Bn n B w (((((((((((W.setCell (aN B 0) d).setCell (aN B 1) e).setCell (aN B 2) f).setCell (aN B 3) g).setCell (aN B 4) i).setCell (aN B 5) k).setCell (aN B 6) m).setCell (aN B 7) p).setCell (aN B 8) q).setCell (aN B 9) r).setCell (aN B 10) b):=
 ((((((((((h.set 0 _).set 1 _).set 2 _).set 3 _).set 4 _).set 5 _).set 6 _).set 7 _).set 8 _).set 9 _).set 10 _
theorem ak8{n B:Nat}{w W:bI}(h:Below n w W)(b:n<=B)(e f g i k m q r s t d:aC):Below n w (((((((((((W.setCell (aN B 0) e).setCell (aN B 1) f).setCell (aN B 2) g).setCell (aN B 3) i).setCell (aN B 4) k).setCell (aN B 5) m).setCell (aN B 6) q).setCell (aN B 7) r).setCell (aN B 8) s).setCell (aN B 9) t).setCell (aN B 10) d):=by have u:=h.setCell (p:=(aN B 0)) b e;have v:=u.setCell (p:=(aN B 1)) b f;have z:=v.setCell (p:=(aN B 2)) b g;have C:=z.setCell (p:=(aN B 3)) b i;have D:=C.setCell (p:=(aN B 4)) b k;have E:=D.setCell (p:=(aN B 5)) b m;have F:=E.setCell (p:=(aN B 6)) b q;have G:=F.setCell (p:=(aN B 7)) b r;have H:=G.setCell (p:=(aN B 8)) b s;have I:=H.setCell (p:=(aN B 9)) b t;have x:=I.setCell (p:=(aN B 10)) b d;exact x
theorem eZ.Xg{x B:Nat}{W:bI}{v:aC}{l:List (Nat × Nat)}{cs:Array aC}{t:TypeId}(h:eZ LbT W x 31 2 v l)(E:W.heap[B]?=some (.cells cs t (0,0)))(H:t≠31)(e f g k m p q r s u b:aC):eZ LbT (((((((((((W.setCell (aN B 0) e).setCell (aN B 1) f).setCell (aN B 2) g).setCell (aN B 3) k).setCell (aN B 4) m).setCell (aN B 5) p).setCell (aN B 6) q).setCell (aN B 7) r).setCell (aN B 8) s).setCell (aN B 9) u).setCell (aN B 10) b) x 31 2 v l:=by
 have F:=abD (But.refl B W) e f g k m p q r s u b;generalize ((((((((((W.setCell (aN B 0) e).setCell (aN B 1) f).setCell (aN B 2) g).setCell (aN B 3) k).setCell (aN B 4) m).setCell (aN B 5) p).setCell (aN B 6) q).setCell (aN B 7) r).setCell (aN B 8) s).setCell (aN B 9) u).setCell (aN B 10) b=I at *;refine h.keep (λi K _ d=>?_) (λc y C=>?_)
 ·have G:i≠B:=λD=>by rw[D]at d;have z:=E.symm.trans d;simp at z;exact H z.2
  exact F.at G d
 ·unfold LbT at C ⊢;exact C
theorem XB(w:bI)(vn vl v0 v1 v2 v3 v4:aC)(mk q:Int)(ss:aJ)(G:Nat)(L:Nat->Nat)(Z:aL)(P:Pb)(hL:nC w vn vl ss G L Z)(hP:PbV w v0 v1 v2 v3 v4 P)(hO:Xx ss.length P)(hn:P.names.length<=40)(hc:P.cons.length<=1000)(hs:P.sinks.length<=16777216):aD 78 #[.agg #[vn,vl],.agg #[v0,v1,v2,v3,O mk,O q,v4]] w λe w'=>∃V vL vK,e=dz (.agg<|So.cs ⟨vn,vl,v0,v1,v2,v3,mk,q,v4,vL,vK⟩)/\J (mM w' vL (Sv.list P.names.length V)/\Bf Z ss.length P.names.length P.cons V/\mM w' vK (ED<|P.sinks.map<|QD Z ss.length V)/\bK w w'/\La0 vL/\La0 vK):=by
 obtain⟨HP,IZ,b0⟩:=fE hP hL hO;obtain⟨⟨x,F,e0⟩,⟨a1,n1,H,e1⟩⟩:=hL.forms;obtain⟨C,I,e2⟩:=jc hP.names;obtain⟨s,t,e3⟩:=hP.cons.form;obtain⟨a4,b4,o4,c4,e4,ar,cj,bo⟩:=hP.sinks;obtain⟨D,R,e5⟩:=hP.fr.Hr;obtain⟨E,S,e6⟩:=jc hP.gY;have jP:J (Kk ss.length (P.names.length:Nat) P.cons=0):=Y (by unfold Kk;rw[aI bC,aI bC,aI bC,aK (iB.2 λc ck=>by rw[vQ];exact hO.cons c ck)]);obtain⟨W,az⟩:=aV ss.length;obtain⟨b,ag⟩:=aV P.names.length;obtain⟨n3,br⟩:=aV P.cons.length;obtain⟨n4,uV⟩:=aV P.sinks.length;obtain⟨n5,JR⟩:=aV P.fr.length;obtain⟨n6,PU⟩:=aV P.gY.length;rw[<-az]at e0;rw[<-ag]at e2 hn;rw[<-br]at e3;rw[<-uV]at e4 ar cj hs;rw[<-JR]at e5;rw[<-PU]at e6;subst e0 e1 e2 e3 e4 e5 e6;obtain⟨xg,vD,II,bx,bz⟩:=uh ag uV az ar bo;have WI:=Y (λwx (hx:bK w wx)=>afk wx (X x W F) (X a1 n1 H) (X s n3 t) ss G L Z P.names.length P.cons (hL.below hx) (hP.cons.below hx).cos jP);rw[<-ag]at WI;rw[<-ag];obtain⟨W3,bq,k0,k1,k2,bu,bp⟩:=al3 w (aY #[X x W F,X a1 n1 H] 25) (aY #[X C b I,X s n3 t,X a4 n4 c4,X D n5 R,O mk,O q,X E n6 S] 141)<|aY #[aU,aU,aU,aU,aU,aU,O 0,O 0,aU,aU,aU] 146;obtain⟨x0,x1⟩:=jv k0;obtain⟨y0,y1,y2,y3,y4,y5,y6⟩:=Cg k1;obtain⟨lH,jG,IJ,iO,Ae⟩:=uh k0 k1 k2 bp bu;clear hP hL hO bo ar k0 k1 k2 bu bp az ag br uV JR PU hc;go_enter func78,ntmps78;go_upto_region 1 with fail;rw[<-bq];clear bq;go_upto_region 2 with fail;obtain⟨ah,Zf⟩:=sO W3<|aY #[X x W F,X a1 n1 H,X C b I,X s n3 t,X a4 n4 c4,X D n5 R,O mk,O q,X E n6 S,aU,aU] 146;generalize W3.alloc (aY #[X x W F,X a1 n1 H,X C b I,X s n3 t,X a4 n4 c4,X D n5 R,O mk,O q,X E n6 S,aU,aU] 146)=W4 at *;obtain⟨b6,ba,b9,a7⟩:=lD (bH lH ah) (bH jG ah) (bH IJ ah)<|up iO ah;have ac:J (w.heap.size+1+1+1=W3.heap.size):=Y Ae.out.symm;generalize W3.heap.size=B at *;clear x0 x1 y0 y1 y2 y3 y4 y5 y6;obtain⟨x0,x1⟩:=jv b6;obtain⟨y0,y1⟩:=jv ba;have HC:=Y<|WI W4 a7;go_wp2_with fail;refine HC.mono ?_;rintro e w5 ⟨V,f,rfl,bb,bc,au⟩;obtain⟨bf,eD,ad,bh⟩:=lD bc au (bH Zf au) bb;have u9:=aj ad 9;have z9:=aF ad 9;clear bb bc au x0 x1 y0 y1;go_upto_region 3 with fail;have Tk:J ((w5.setCell (aN B 9)<|Tc f b b).heap[B]?=some (aY #[X x W F,X a1 n1 H,X C b I,X s n3 t,X a4 n4 c4,X D n5 R,O mk,O q,X E n6 S,Tc f b b,aU] 146)):=Y<|(aP ad 9 _).trans rfl;have bA:J (Bn w5.heap.size B w5<|w5.setCell (aN B 9)<|Tc f b b):=Y<|(Bn.refl _ _ _).set 9 _;have Vn:J (Sv.list b V≠[]->f<w5.heap.size/\f≠B):=Y (λh=>Ob bh (B:=B) ((aj ad 0).trans rfl) h);have ca:J (mM (w5.setCell (aN B 9)<|Tc f b b) (Tc f b b)<|Sv.list b V):=Y<|bh.bn bA Vn;have bi:J (w.heap.size<=B):=Y (by have:=ac.out;omega);have cb:J (B<w5.heap.size):=Y<|aR ad;have a8:J (bK w w5):=Y<|up a7 eD;have cc:J (w.heap.size<=w5.heap.size):=Y a8.out.size;have b2:J (bK w<|w5.setCell (aN B 9)<|Tc f b b):=Y<|a8.setCell (p:=(aN B 9)) bi _;have b5:J ((w5.setCell (aN B 9)<|Tc f b b).heap[w.heap.size+1]?=some (aY #[X C b I,X s n3 t,X a4 n4 c4,X D n5 R,O mk,O q,X E n6 S] 141)):=Y (aX (bH ba eD) (by have:=ac.out;show w.heap.size+1≠B;omega) _);have cd:J ((w5.setCell (aN B 9)<|Tc f b b).heap[w.heap.size+1+1]?=some (aY #[aU,aU,aU,aU,aU,aU,O 0,O 0,aU,aU,aU] 146)):=Y (aX (bH b9 eD) (by have:=ac.out;show w.heap.size+1+1≠B;omega) _);have xS:J ((w5.setCell (aN B 9)<|Tc f b b).heap.size=w5.heap.size):=Y (by simp only[World.setCell,Am]);generalize w5.setCell (aN B 9) (Tc f b b)=W6 at *;clear z9 u9;generalize w5.heap.size=M at *;have y2:=aj b5 2;go_wp2_with fail;clear y2;go_loopw[25] (λi wr=>∃(j:Nat) (ka:Option Addr) (kc:Nat),j<=n4/\i=O j/\J (wr.heap[B]?=some (aY #[X x W F,X a1 n1 H,X C b I,X s n3 t,X a4 n4 c4,X D n5 R,O mk,O q,X E n6 S,Tc f b b,X ka j kc] 146)/\eZ LbT wr M 31 2 (X ka j kc) ((P.sinks.take j).map (QD Z ss.length V))/\Bn M B W6 wr)) (λi _=>n4 - (intOf i).toNat);exact⟨0,none,0,bN _,rfl,Y ⟨Tk,eZ.nil _ _ _ _,Bn.refl _ _ _⟩⟩
 obtain⟨j,ka,kc,hj,rfl,m⟩:=hrel;have qP:J (bK w wr):=Y<|b2.trans<|m.2.2.below cc bi;have bS:J (M<=wr.heap.size):=Y (by have h1:=m.2.2.size;have h2:=xS.out;omega);have am:J (mM wr (Tc f b b)<|Sv.list b V):=Y<|ca.bn m.2.2 Vn;by_cases cl:j<n4
 ·obtain⟨y,hy⟩:∃y,P.sinks[j]?=some y:=⟨_,aZ (by rw[<-vD];exact cl)⟩;have a9:=Y<|b0.sinks y<|dG hy;obtain⟨al,ax,aw⟩:=wX a9.lab;obtain⟨mb,ay⟩:=aV y.mask.toNat;obtain⟨ab,ao⟩:∃z,z=y.level.toNat:=⟨_,rfl⟩;rw[<-ay]at ax al;rw[<-ao]at aw al;obtain rfl:=bx bC;obtain⟨vf,g0,g1,g2,g3,g4,g5,av⟩:=bz j y hy;obtain⟨fa,fc,bv⟩:=av.Hr;obtain⟨nf,bs⟩:=aV y.fr.length;rw[<-bs]at bv;subst bv;rw[ax]at g1;rw[aw]at g2;replace g0:=aG g0 qP;replace g1:=aG g1 qP;replace g2:=aG g2 qP;replace g3:=aG g3 qP;replace g4:=aG g4 qP;replace g5:=aG g5 qP;obtain⟨tl,aA⟩:=aV<|QD Z ss.length V y;have GL:J ((P.sinks.take<|j+1).map (QD Z ss.length V)=(P.sinks.take j).map (QD Z ss.length V)++[tl]):=Y (by rw[gy,hy,kI,gX,aA];rfl);have I4:J (∀wx,bK wr wx->aD 112 #[.agg #[X x W F,X a1 n1 H,X C b I,X s n3 t,X (some<|aN b4 o4) n4 c4,X D n5 R,O mk,O q,X E n6 S,Tc f b b,X ka j kc],X fa nf fc,.agg #[O (mb:Nat),O (ab:Nat)]] wx λe w'=>e=dz (.agg #[O (tl.1:Nat),O (tl.2:Nat)])/\bK wx w'):=Y λwx hx=>by
   have h:=Uq wx ⟨X x W F,X a1 n1 H,X C b I,X s n3 t,X (some<|aN b4 o4) n4 c4,X D n5 R,mk,q,X E n6 S,Tc f b b,X ka j kc⟩ ss G L Z b V (X fa nf fc) y.fr (mb,ab) ⟨⟨_,_,_,rfl⟩,⟨_,_,_,rfl⟩,⟨_,_,_,rfl⟩,⟨_,_,_,rfl⟩,⟨_,_,_,rfl⟩,⟨_,_,_,rfl⟩,⟨_,_,_,rfl⟩,⟨_,_,_,rfl⟩,⟨_,_,_,rfl⟩⟩ (IZ.below<|up qP hx) (am.below hx) bf.ok (av.below<|up qP hx) (by rw[xg];exact a9.fr) al;have e:Sm.tell Z ss.length V y.fr (mb,ab)=tl:=by rw[aA,ay,ao];rfl
   rw[e]at h;exact h
  clear al ax aw ay ao hy bs aA;go_upto_region 6 with fail;obtain⟨qO,g⟩:=sO wr<|aY #[X fa nf fc,O (mb:Nat),O (ab:Nat),O y.lv,A y.name,.bool y.gY] 189;generalize wr.alloc (aY #[X fa nf fc,O (mb:Nat),O (ab:Nat),O y.lv,A y.name,.bool y.gY] 189)=W7 at *;have be:=Y<|bH m.1 qO;have MU:J (eZ LbT W7 M 31 2 (X ka j kc)<|(P.sinks.take j).map (QD Z ss.length V)):=Y<|m.2.1.below qO λ_ _ hc=>hc;have bj:=Y<|m.2.2.trans<|Bn.of_below qO bS;replace I4:=Y (λwx (hx:bK W7 wx)=>I4 wx<|up qO hx);generalize wr.heap.size=SK at *;have WE:J (M<=W7.heap.size):=Y (by have h1:=bj.size;have h2:=xS.out;omega);clear g0 g1 g2 g3 g4 g5 av;have HF:J (∀wx,bK W7 wx->bJ wx B 0=some (X x W F)/\bJ wx B 1=some (X a1 n1 H)/\bJ wx B 2=some (X C b I)/\bJ wx B 3=some (X s n3 t)/\bJ wx B 4=some (X (some<|aN b4 o4) n4 c4)/\bJ wx B 5=some (X D n5 R)/\bJ wx B 6=some (O mk)/\bJ wx B 7=some (O q)/\bJ wx B 8=some (X E n6 S)/\bJ wx B 9=some (Tc f b b)/\bJ wx B 10=some (X ka j kc)/\bJ wx SK 0=some (X fa nf fc)/\bJ wx SK 1=some (O (mb:Nat))/\bJ wx SK 2=some (O (ab:Nat))):=Y λwx hx=>by have h1:=bH be hx;have h2:=bH g hx;exact⟨(aj h1 0).trans rfl,(aj h1 1).trans rfl,(aj h1 2).trans rfl,(aj h1 3).trans rfl,(aj h1 4).trans rfl,(aj h1 5).trans rfl,(aj h1 6).trans rfl,(aj h1 7).trans rfl,(aj h1 8).trans rfl,(aj h1 9).trans rfl,(aj h1 10).trans rfl,(aj h2 0).trans rfl,(aj h2 1).trans rfl,(aj h2 2).trans rfl⟩
  refine dx [some false,some true,some true,some false,some true,some false,some true,none,none,none,none,none] 10 (λw'=>bJ w' B 0=some (X x W F)/\bJ w' B 1=some (X a1 n1 H)/\bJ w' B 2=some (X C b I)/\bJ w' B 3=some (X s n3 t)/\bJ w' B 4=some (X (some<|aN b4 o4) n4 c4)/\bJ w' B 5=some (X D n5 R)/\bJ w' B 6=some (O mk)/\bJ w' B 7=some (O q)/\bJ w' B 8=some (X E n6 S)/\bJ w' B 9=some (Tc f b b)/\bJ w' B 10=some (X ka j kc)/\bJ w' SK 0=some (X fa nf fc)/\bJ w' SK 1=some (O (mb:Nat))/\bJ w' SK 2=some (O (ab:Nat))) 5 dw dw (λ_ _ d _ _ h=>(by cases d<;>exact h)) (HF _<|bP<|bQ _ _) ?_;dsimp only[gB];repeat(first|(refine fO (v:=?_) dH ?_ ?_;rotate_left 1;(focus(intro w;go_simp;try(with_reducible rfl)));simp only[Act.put,dS,dY,eX])|(refine fP (v:=?_) dH ?_ ?_;rotate_left 1;(focus(intro w co;go_simp;try(with_reducible rfl)));simp only[Act.put,dS,dY,eX]))
  refine dW ?_;refine aT (i:=7) dw dH (λK hK=>?_);go_simp;go_at_call 112;refine(I4 _<|bP<|bQ _ _).mono ?_;rintro e w8 ⟨rfl,pR⟩;have xW:=Y<|up (bP<|bQ W7.heap.size W7) pR;clear pR;dsimp only;refine hK _ _ (λ_=>HF _ xW) ?_;clear hK K;refine aT (i:=8) dw dH (λK hK=>?_);go_simp;refine hK _ _ (λ_=>HF _<|up xW<|aH _ _) ?_;clear hK K;obtain⟨b7,ce⟩:=sO w8<|aY #[O (tl.1:Nat),O (tl.2:Nat)] 31;have ae:=Y<|up xW b7;have TU:J (eZ LbT (w8.alloc<|aY #[O (tl.1:Nat),O (tl.2:Nat)] 31) M 31 2 (X ka j kc)<|(P.sinks.take j).map (QD Z ss.length V)):=Y<|MU.below ae λ_ _ hc=>hc;obtain⟨ap,aq,cf⟩:=fE (bH be ae) (bH g ae)<|bj.trans<|Bn.of_below ae WE;have bk:J (M<=(w8.alloc<|aY #[O (tl.1:Nat),O (tl.2:Nat)] 31).heap.size):=Y<|bE WE.out ae.size;generalize w8.alloc (aY #[O (tl.1:Nat),O (tl.2:Nat)] 31)=W8 at *;refine aT (i:=9) dw dH (λK hK=>?_);refine mO (At:=LbT) dH _ _ 144 31 2 16 _ dH underlying144 aiH bM bM bM M _ ((P.sinks.take j).map (QD Z ss.length V)) dH TU w8.heap.size [O (tl.1:Nat),O (tl.2:Nat)] tl dH (λi u hu=>(aj ce i).trans (by simpa using hu)) rfl (by simp[Value.oneCell']) rfl (by rw[dV,iA];omega) bk.out (λwy c y hg hc=>hc) ?_;intro g9 KA r rE jm b8;rw[dV,iA,Nat.min_eq_left (by rw[<-vD];omega)]at rE ⊢;have Gj:r.heap[B]?=some (aY #[X x W F,X a1 n1 H,X C b I,X s n3 t,X (some<|aN b4 o4) n4 c4,X D n5 R,O mk,O q,X E n6 S,Tc f b b,X ka j kc] 146):=(jm.block B (aR ap) (λe=>by obtain⟨bm,af⟩:=TU.typ B e.symm;rw[ap]at af;simp at af)).trans ap;have ai:r.heap[SK]?=some (aY #[X fa nf fc,O (mb:Nat),O (ab:Nat),O y.lv,A y.name,.bool y.gY] 189):=(jm.block SK (aR aq) (λe=>by obtain⟨bm,af⟩:=TU.typ SK e.symm;rw[aq]at af;simp at af)).trans aq;have ak:=Y Gj;have b1:J (bJ r B 0=some (X x W F)/\bJ r B 1=some (X a1 n1 H)/\bJ r B 2=some (X C b I)/\bJ r B 3=some (X s n3 t)/\bJ r B 4=some (X (some<|aN b4 o4) n4 c4)/\bJ r B 5=some (X D n5 R)/\bJ r B 6=some (O mk)/\bJ r B 7=some (O q)/\bJ r B 8=some (X E n6 S)/\bJ r B 9=some (Tc f b b)/\bJ r B 10=some (X ka j kc)/\bJ r SK 0=some (X fa nf fc)/\bJ r SK 1=some (O (mb:Nat))/\bJ r SK 2=some (O (ab:Nat))):=Y ⟨(aj Gj 0).trans rfl,(aj Gj 1).trans rfl,(aj Gj 2).trans rfl,(aj Gj 3).trans rfl,(aj Gj 4).trans rfl,(aj Gj 5).trans rfl,(aj Gj 6).trans rfl,(aj Gj 7).trans rfl,(aj Gj 8).trans rfl,(aj Gj 9).trans rfl,(aj Gj 10).trans rfl,(aj ai 0).trans rfl,(aj ai 1).trans rfl,(aj ai 2).trans rfl⟩;obtain⟨bY,bB⟩:=bV rE<|cf.grown jm (λk e=>(TU.lt k e).1) bk.out;clear rE jm b8 Gj ai;refine hK _ _ (λ_=>b1) ?_;clear hK K;simp only[Act.put,dS];have cm:=aj ak 10;have bw:=aF ak 10;refine aT (i:=10) dw dH (λK hK=>?_);go_simp;refine hK _ _ (λh=>aM (h.symm.trans dw) iJ) ?_;clear hK K;refine aT (i:=11) dw dH (λK hK=>?_);go_simp;refine hK _ _ (λh=>aM (h.symm.trans dw) iJ) ?_;clear hK K;refine dP dw ?_ _;have bL:J ((r.setCell (aN B 10)<|Tc g9 (j+1) KA).heap[B]?=some (aY #[X x W F,X a1 n1 H,X C b I,X s n3 t,X (some<|aN b4 o4) n4 c4,X D n5 R,O mk,O q,X E n6 S,Tc f b b,Tc g9 (j+1) KA] 146)):=Y<|(aP ak 10 _).trans rfl;have cg:=Y<|bB.set 10<|Tc g9 (j+1) KA;have b3:J (eZ LbT (r.setCell (aN B 10)<|Tc g9 (j+1) KA) M 31 2 (Tc g9 (j+1) KA)<|(P.sinks.take j).map (QD Z ss.length V)++[tl]):=Y (bY.keep (λi bm _ hi=>aX hi (λe=>by rw[e]at hi;have h2:=ak.symm.trans hi;simp at h2) _) λ_ _ hc=>hc);clear cm bw;go_wp2;go_roundw;exact⟨j+1,_,_,by omega,by go_num,Y ⟨bL,by rw[GL];exact b3,cg⟩⟩;exact gV
 ·obtain rfl:j=n4:=by omega
  have aE:=Y m.out.2.1;have DU:J ((P.sinks.take j).map (QD Z ss.length V)=P.sinks.map (QD Z ss.length V)):=Y (by rw[vD,jQ]);have g:J (wr.heap[w.heap.size+1+1]?=some (aY #[aU,aU,aU,aU,aU,aU,O 0,O 0,aU,aU,aU] 146)):=Y ((m.2.2.block _ (by have:=ac.out;have:=cb.out;omega) (by have:=ac.out;omega)).trans cd);have t0:bJ wr B 0=some (X x W F):=(aj m.1 0).trans rfl;have t1:bJ wr B 1=some (X a1 n1 H):=(aj m.1 1).trans rfl;have t2:bJ wr B 2=some (X C b I):=(aj m.1 2).trans rfl;have t3:bJ wr B 3=some (X s n3 t):=(aj m.1 3).trans rfl;have t4:bJ wr B 4=some (X a4 j c4):=(aj m.1 4).trans rfl;have t5:bJ wr B 5=some (X D n5 R):=(aj m.1 5).trans rfl;have t6:bJ wr B 6=some (O mk):=(aj m.1 6).trans rfl;have t7:bJ wr B 7=some (O q):=(aj m.1 7).trans rfl;have t8:bJ wr B 8=some (X E n6 S):=(aj m.1 8).trans rfl;have t9:bJ wr B 9=some (Tc f b b):=(aj m.1 9).trans rfl;have cq:bJ wr B 10=some (X ka j kc):=(aj m.1 10).trans rfl;obtain⟨q0,q1,q2,q3,q4,q5,q6,q7,q8,q9,cp⟩:=TK g;obtain⟨z0,z1,z2,z3,z4,z5,z6⟩:=Ng (aF g 0) (aF g 1) (aF g 2) (aF g 3) (aF g 4) (aF g 5)<|aF g 6;obtain⟨z7,z8,z9,bw⟩:=rY (aF g 7) (aF g 8) (aF g 9)<|aF g 10;go_wp2_with fail;have aa:=Xg g (X x W F) (X a1 n1 H) (X C b I) (X s n3 t) (X a4 j c4) (X D n5 R) (O mk) (O q) (X E n6 S) (Tc f b b)<|X ka j kc;obtain⟨f0,f1,f2,f3,f4,f5,f6⟩:=Ng ((aj aa 0).trans rfl) ((aj aa 1).trans rfl) ((aj aa 2).trans rfl) ((aj aa 3).trans rfl) ((aj aa 4).trans rfl) ((aj aa 5).trans rfl) ((aj aa 6).trans rfl);obtain⟨f7,f8,f9,ch⟩:=rY ((aj aa 7).trans rfl) ((aj aa 8).trans rfl) ((aj aa 9).trans rfl) ((aj aa 10).trans rfl);refine cZ (v:=.agg #[X x W F,X a1 n1 H,X C b I,X s n3 t,X a4 j c4,X D n5 R,O mk,O q,X E n6 S,Tc f b b,X ka j kc]) (by simp[results,results78,go_sem,f0,f1,f2,f3,f4,f5,f6,f7,f8,f9,ch]) rfl ⟨V,Tc f b b,X ka j kc,rfl,Y ⟨?_,bf,?_,?_,λa n c h=>(by injection h with h;injection h with h;exact⟨f,h.symm⟩),aE.la0⟩⟩;·exact am.bn (n:=M) (B:=w.heap.size+1+1) (afK (Bn.refl M (w.heap.size+1+1) wr) _ _ _ _ _ _ _ _ _ _ _) (λh=>⟨(Vn h).1,(Ob am (B:=w.heap.size+1+1) (a:=none) (n:=0) (k:=0) ((aj g 0).trans rfl) h).2⟩)
  ·rw[<-DU];exact aiI (n:=M) (eZ.Xg aE g bM _ _ _ _ _ _ _ _ _ _ _) (by rw[dV,iA];omega)
  ·exact ak8 qP (bE (dN _)<|dN _) _ _ _ _ _ _ _ _ _ _ _
structure QI(w:World)(s:So)(ss:List ByteArray)(G:Nat)(L:Nat->Nat)(Z:Nat->Nat->Bool)(P:Pb)(V:Nat->Nat × Nat):Prop where
 la:nC w s.vn s.vl ss G L Z
 pb:PbV w s.v0 s.v1 s.v2 s.v3 s.v4 P
 ok:Xx ss.length P
 las:mM w s.vL (Sv.list P.names.length V)
 oks:yS ss.length P.names.length V
 snk:mM w s.vK (ED (P.sinks.map (QD Z ss.length V)))
theorem QI.below{w w':bI}{s:So}{ss:aJ}{G:Nat}{L:Nat->Nat}{Z:aL}{P:Pb}{V:Nat->Nat × Nat}(h:QI w s ss G L Z P V)(b:bK w w'):QI w' s ss G L Z P V:=⟨h.la.below b,h.pb.below b,h.ok,h.las.below b,h.oks,h.snk.below b⟩
theorem EF{w:bI}{v:aC}{l:List (Int × Int)}(h:mM w v l):∃a n c,v=X a n c:=by obtain⟨a,b,off,cap,e,-⟩:=h;exact⟨_,_,_,e⟩
theorem QI.form{w:bI}{s:So}{ss:aJ}{G:Nat}{L:Nat->Nat}{Z:aL}{P:Pb}{V:Nat->Nat × Nat}(h:QI w s ss G L Z P V):s.Form:=by obtain⟨⟨m,v,b⟩,k⟩:=h.la.forms;obtain⟨p,x,d⟩:=jc h.pb.names;obtain⟨q,z,e⟩:=h.pb.cons.form;obtain⟨r,B,f⟩:=h.pb.sinks.form;obtain⟨t,C,g⟩:=h.pb.fr.Hr;obtain⟨u,D,i⟩:=jc h.pb.gY;exact⟨⟨_,_,_,b⟩,k,⟨_,_,_,d⟩,⟨_,_,_,e⟩,⟨_,_,_,f⟩,⟨_,_,_,g⟩,⟨_,_,_,i⟩,EF h.las,EF h.snk⟩
namespace Sm
theorem abG{Z:aL}{N:Nat}{V:Nat->Nat × Nat}{l:List Si}{j:Nat}{y:Si}(d:l[j]?=some y)(b:aS):((l.take<|j+1).filter (bad Z N V)).map (λs=>(⟨6,b,s.name⟩:Dg))=((l.take j).filter (bad Z N V)).map (λs=>(⟨6,b,s.name⟩:Dg))++if bad Z N V y then [⟨6,b,y.name⟩]else []:=by rw[gy,d,kI,List.filter_append,gX];congr 1;rw[List.filter_cons];cases bad Z N V y<;>rfl
theorem afP{Z:aL}{N:Nat}{V:Nat->Nat × Nat}(l:List Si)(j:Nat)(b:aS):(((l.take j).filter (bad Z N V)).map (λs=>(⟨6,b,s.name⟩:Dg))).length<=l.length:=by rw[dV];exact bE (Km _ _) (by rw[iA];omega)
end Sm
theorem XC(w:bI)(s:So)(ss:aJ)(G:Nat)(L:Nat->Nat)(Z:aL)(P:Pb)(V:Nat->Nat × Nat)(b:aS)(g:QI w s ss G L Z P V)(hl:P.sinks.length<=16777215):aD 80 #[.agg s.cs,A b] w λe w'=>∃u,e=dz u/\J (dA qU w' w.heap.size 52 3 u (Sm.GJ Z ss.length V P b)/\bK w w'):=by
 have HS:=Y g;obtain⟨a0,n0,c0,a1,B,c1,a2,n2,c2,a3,n3,c3,a4,n4,c4,a5,n5,c5,a6,n6,c6,a7,n7,c7,a8,D,c8,hs⟩:=QH s g.form;generalize s.ma=mk at hs;generalize s.lv=lv at hs;subst hs;simp only[So.cs];obtain⟨W,t⟩:=aV<|w.alloc<|aY #[X a0 n0 c0,X a1 B c1,X a2 n2 c2,X a3 n3 c3,X a4 n4 c4,X a5 n5 c5,O mk,O lv,X a6 n6 c6,X a7 n7 c7,X a8 D c8] 146;have eT:J (bK w W):=Y (by rw[t];exact aH _ _);have lH:J (dR W w.heap.size<|aY #[X a0 n0 c0,X a1 B c1,X a2 n2 c2,X a3 n3 c3,X a4 n4 c4,X a5 n5 c5,O mk,O lv,X a6 n6 c6,X a7 n7 c7,X a8 D c8] 146):=Y (by rw[t];exact bF _ _);obtain⟨ax,b4,o4,cx,e4,ab,bm,ak⟩:=g.pb.sinks;simp only at e4;injection e4 with bh p bi;subst bh bi;have vD:=Y p;rw[<-p]at ab bm hl;obtain⟨ay,b8,o8,cy,S,r,bo,al⟩:=g.snk;rw[wE,dV]at S r;simp only at S;injection S with bj aa bk;subst bj bk;have ET:J (D=n4):=Y (by rw[aa,p]);rw[<-aa]at r;obtain⟨gb,go,gc,RB,RO,C,e1,h1,h2⟩:=g.la.grid;simp only at e1;injection e1 with be ai bf;subst be bf;have x4:=aj lH 4;obtain⟨I,ar,au,av,aw,aE⟩:=vC ai ab ak r al h1;obtain⟨a9,HJ⟩:=bV h2 g.la.joins;clear g ab ak r al h1 h2 p aa ai bo;obtain⟨F,m⟩:∃F:Nat->List Dg,F=λj=>((P.sinks.take j).filter (Sm.bad Z ss.length V)).map (λs=>(⟨6,b,s.name⟩:Dg)):=⟨_,rfl⟩;have uK:J (F 0=[]):=Y (by rw[m];rfl);have az:J (F n4=Sm.GJ Z ss.length V P b):=Y (by rw[m,vD];simp only;rw[jQ];rfl);have aA:J (∀j y,P.sinks[j]?=some y->F (j+1)=F j++if Sm.bad Z ss.length V y then [⟨6,b,y.name⟩]else []):=Y (λj y h=>by rw[m];exact abG h b);have CV:J (∀j,(F j).length<=n4):=Y (λj=>by rw[m,vD];exact afP P.sinks j b);clear m;go_enter func80,ntmps80;go_upto_region 1 with fail;rw[<-t];clear t;go_wp2_with fail;clear x4;go_loopw[5,12] (λo i wr=>∃j:Nat,j<=n4/\i=O j/\J (dA qU wr W.heap.size 52 3 o (F j)/\bK W wr)) (λ_ i _=>n4 - (intOf i).toNat);exact⟨0,bN _,rfl,Y ⟨by rw[uK];exact dA.nil _ _ _ _,bQ _ _⟩⟩
 rename_i o;obtain⟨j,hj,rfl,k⟩:=hrel;have qP:=Y<|up eT k.2;by_cases bp:j<n4
 ·obtain⟨y,h⟩:∃y,P.sinks[j]?=some y:=⟨_,aZ (by rw[<-vD];exact bp)⟩;have ag:=Y<|HS.ok.sinks y<|dG h;obtain⟨f,htl⟩:=aV<|QD Z ss.length V y;have H:J (f.2<ss.length):=Y (by rw[htl];exact(Wd HJ HS.oks ag).2);obtain⟨ad,ac⟩:=ag.lvN;obtain⟨yl,K⟩:∃z,z=y.lv.toNat:=⟨_,rfl⟩;rw[<-K]at ad ac;have hz:Sm.bad Z ss.length V y=!Z f.2 yl:=by unfold Sm.bad;rw[htl,K]
  have ah:J (F (j+1)=F j++if !Z f.2 yl then [⟨6,b,y.name⟩]else []):=Y (by rw[aA j y h,hz]);obtain rfl:=ar bC;obtain⟨vf,g0,g1,g2,q,g4,g5,am⟩:=au j y h;obtain⟨fa,fc,ap⟩:=am.Hr;obtain⟨nf,ao⟩:=aV y.fr.length;rw[<-ao]at ap;subst ap;rw[ac]at q;replace g0:=aG g0 qP;replace g1:=aG g1 qP;replace g2:=aG g2 qP;replace q:=aG q qP;replace g4:=aG g4 qP;replace g5:=aG g5 qP;obtain rfl:=av (by have:=ET.out;omega);obtain⟨k8,k1,k2⟩:=lS ((aw j _<|Gi (x:=f) (by rw[pq,h,htl];rfl)).2) (aE f.2 H) (a9 f.2 yl H ad);rw[<-I]at k1;have bv:(f.2:Int)<(B:Int):=by have:=H.out;have:=I.out;omega
  have bw:(yl:Int)<(B:Int):=by have:=I.out;omega
  have bu:(j:Int)<(D:Int):=by have:=ET.out;omega
  generalize f.2=t2 at *;clear hz h ao am K htl ac ad;go_upto_region 5 with fail;obtain⟨qO,af⟩:=sO wr<|aY #[X fa nf fc,O y.mask,O y.level,O (yl:Nat),A y.name,.bool y.gY] 189;generalize wr.alloc (aY #[X fa nf fc,O y.mask,O y.level,O (yl:Nat),A y.name,.bool y.gY] 189)=W7 at *;obtain⟨M,EP,kG⟩:=fE (up qP qO) (k.1.below qO)<|up k.2 qO;have ae:=Y<|bH lH kG;generalize wr.heap.size=SK at *;clear g0 g1 g2 q g4 g5;obtain⟨q1,bs,s3⟩:=lS (bD<|(aj ae 1).trans rfl) (bD<|(aj ae 10).trans rfl) (bD<|(aj af 3).trans rfl);replace k8:=bD<|aG k8 M;replace k1:=bD<|aG k1 M;replace k2:=bD<|aG k2 M;refine bW dw dw ?_;repeat(quiet_step (fail))
  refine wpQuiet_nil ?_;intro w6 bq;obtain⟨⟨nq,br⟩,aq⟩:=bq;have fD:J (bK W7 w6):=Y (by rw[aq];exact bU W7 nq br);obtain⟨Tk,xJ,R⟩:=fE (bH af.out fD.out) (EP.out.below fD.out)<|up kG.out fD.out;clear aq q1 bs s3 k8 k1 k2;have s4:=aj Tk.out 4;have ba:=Y<|CV.out j;cases v:Z t2 yl with
  | true=>
   have E:J (F (j+1)=F j):=Y (by rw[ah.out,v];simp);clear v;go_wp2;go_roundw;exact⟨j+1,by omega,by go_num,Y ⟨by rw[E];exact xJ,R⟩⟩;exact gV
  | false=>
   have E:J (F (j+1)=F j++[⟨6,b,y.name⟩]):=Y (by rw[ah.out,v];simp);clear v
   go_wp2_with (first
    | (at_builtin;refine fG (At:=qU) rfl _ _ 38 52 3 40 _ rfl underlying38 qV bM bM bM W.heap.size _ _ rfl (xJ.below<|aH _ _) _ _ [⟨6,b,y.name⟩] rfl (dA.one _ _ rfl (qU.one (d:=⟨6,b,y.name⟩) rfl) rfl) (by have:=ba.out;simp only[iI];omega) (bE R.out.size (aH _ _).size) ?_;intro v9 w9 rE jm;have bc:=Y rE;have bb:=Y<|kg (up R<|aH _ _) jm (λj hj=>(xJ.lt j hj).1);clear rE jm)
    | fail)
   go_roundw;exact⟨j+1,by omega,by go_num,Y ⟨by rw[E];exact bc,bb⟩⟩;exact gV
 ·obtain rfl:j=n4:=by omega
  rw[az]at k;go_wp2;go_ret;exact⟨_,rfl,Y ⟨k.1.old eT.size,qP⟩⟩
theorem abH(w:bI)(k:Fin 5):aD 220 #[.int .u64 1,.int .u64 ((k:Nat):Int)] w λe w'=>e=dz (.tuple #[.int .u64 0,.int .u64 ((k:Nat):Int)])/\w'=w:=by
 have h:k=0\/k=1\/k=2\/k=3\/k=4:=by omega
 rcases h with rfl|rfl|rfl|rfl|rfl;all_goals go_enter func220,ntmps220;go_wp2;go_ret2;exact⟨by kernel_rfl,rfl⟩
theorem aiM(w:bI)(k:Fin 5):aD 173 #[.int .u64 1,.int .u64 ((k:Nat):Int)] w λb w'=>b=dz (.tuple #[.int .u64 0,.int .u64 ((k:Nat):Int)])/\w'=w:=by have d:=Y<|abH w k;generalize ((k:Nat):Int)=e at *;go_enter func173,ntmps173;go_wp2_with fail;refine d.mono ?_;rintro b w' ⟨rfl,rfl⟩;go_wp2;go_ret2;exact⟨rfl,rfl⟩
section
variable {w : World} {ops : Array Oper} {rest : List Oper} {o : Oper} {a : Act} {Q : Exit → Act → World → Prop}
theorem Ut{K:Act->bI->Prop}(d s:Operand)(i u k:TypeId)(C:o.op=.call { callee:=.builtin .copy,args:=#[d,s],argTypes:=#[i,u] })(G:prog.underlying i=some (.slice k))(E:(prog.info? k).map (·.size)=some 1)(g off f p:Nat)(e:Addr)(m r:Nat)(z:a.eval d=X (some<|aN g off) f p)(H:a.eval s=X (some e) m r)(b:List aC)(t:TypeId)(hg:w.heap[g]?=some (.cells b.toArray t (0,0)))(cs:List aC)(q:cs.length=Nat.min m f)(F:∀j v,cs[j]?=some v->w.cell? (e.add j)=some v)(B:off+cs.length<=b.length)(x:∀v∈cs,v.oneCell'=true)(h:∀w',J (w'.heap[g]?=some (.cells (splice b off cs).toArray t (0,0)))->J (But g w w')->K (a.put o.dst<|O (cs.length:Nat)) w'):o.wp prog a w K Q:=by have D:=aaf (P:=prog) w i u o.type k 1 g off f p e m r b.toArray t cs G E hg (by rw[q,Nat.mul_one]) F (by simpa using B) x;unfold Oper.wp execOp;simp only[C,resolve,invoke,builtin,Sem.run_bind,Sem.run_pure,Result.andThen_ok,List.map_toArray,fZ,jV,z,H,D];rw[<-q];exact h _ (Y (by rw[setRow_heap w g _ _ t _ hg];simp[splice])) (Y<|But.setRow w _)
theorem QJ(E:o.guard=none)(d s:Operand)(i r k:TypeId)
  (G:o.op=.call { callee:=.builtin .copy,args:=#[d,s],argTypes:=#[i,r] })(K:prog.underlying i=some (.slice k))(H:(prog.info? k).map (·.size)=some 1)
  (g off f p:Nat)(e:Addr)(m q:Nat)(C:a.eval d=X (some<|aN g off) f p)(L:a.eval s=X (some e) m q)
  (b:List aC)(t:TypeId)(hg:dR w g (.cells b.toArray t (0,0)))(cs:List aC)(F:cs.length=Nat.min m f)
  (I:∀j v,cs[j]?=some v->w.cell? (e.add j)=some v)(D:off+cs.length<=b.length)(u:∀v∈cs,v.oneCell'=true)
  (h:∀w',J (dR w' g<|.cells (splice b off cs).toArray t (0,0))->J (But g w w')->wpList prog ops Q rest (a.put o.dst<|O (cs.length:Nat)) w'):wpList prog ops Q (o::rest) a w:=
 wpList_plain E λ_ B=>Ut d s i r k G K H g off f p e m q C L b t hg cs F I D u λw' x z=>B _ _<|h w' x z
theorem XD{K:Act->bI->Prop}{E:Prop}(B:o.guard=none)(d s:Operand)(i r k:TypeId)(D:o.op=.call { callee:=.builtin .copy,args:=#[d,s],argTypes:=#[i,r] })(H:prog.underlying i=some (.slice k))(F:(prog.info? k).map (·.size)=some 1)(g off f p:Nat)(e:Addr)(m q:Nat)(x:a.eval d=X (some<|aN g off) f p)(L:a.eval s=X (some e) m q)(b:List aC)(t:TypeId)(hg:dR w g (.cells b.toArray t (0,0)))(cs:List aC)(C:cs.length=Nat.min m f)(G:∀j v,cs[j]?=some v->w.cell? (e.add j)=some v)(z:off+cs.length<=b.length)(u:∀v∈cs,v.oneCell'=true)(h:∀w',J (dR w' g<|.cells (splice b off cs).toArray t (0,0))->J (But g w w')->K (a.put o.dst<|O (cs.length:Nat)) w'):if Region.wanted o (yielded ops a.tmps)=true then Oper.wp prog o a w K Q else E:=by
 have I:Region.wanted o (yielded ops a.tmps)=true:=by simp[Region.wanted,B]
 rw[aK I];exact Ut d s i r k D H F g off f p e m q x L b t hg cs C G z u h
end
def rep(x:Int)(n k:Nat):List Value:=List.replicate n (.int .i64 x)++List.replicate (k - n) (.int .i64 0)
theorem aiN(x:Int){n k:Nat}(h:n<=k):(rep x n k).length=k:=by unfold rep;rw[bg,zO,zO];omega
theorem Ld(x:Int){n k c:Nat}(h:n+c<=k):splice (rep x n k) n (List.replicate c<|O x)=rep x (n+c) k:=by unfold splice rep;rw[List.take_append,fQ cK,zO,mW,List.take_zero,gL,zO,List.drop_append,List.drop_of_length_le cK,sP,zO,List.drop_replicate,<-iK,List.replicate_append_replicate];congr 2;omega
theorem alF(x:Int){n k j:Nat}(h:j<n):(rep x n k)[j]?=some (O x):=by unfold rep;rw[jX (by simpa using h),List.getElem?_replicate,aK h]
theorem Zz:(prog.info? 3).map (·.size)=some 1:=by kernel_rfl
theorem afQ:(prog.info? 3).map (λi=>(i.zero,i.size,i.bytes))=some (some<|O 0,1,8):=by kernel_rfl
theorem afR(x:Int)(k:Nat):madeCells #[O 0] k=(rep x 0 k).toArray:=by
 apply Array.ext';apply List.ext_getElem?;intro i;unfold rep;simp only[List.replicate_zero,sP,Nat.sub_zero,List.getElem?_replicate];by_cases b:i<k;·rw[aK b];have:=VP (O 0) k i b;simpa using this
 ·rw[aI b];have:(madeCells #[O 0] k).size=k:=by simp[madeCells]
  rw[Array.getElem?_toList,Vy bC]
theorem XE(w:bI)(b c:Nat)(x:Int)(k:Nat)(hk:k<=4)(hx:bJ w b 0=some (O x)):
  aD 114 #[Tc b 1 c,O k] w λr w'=>∃B,r=dz (Tc B k k)/\J (w.heap.size<=B/\dR w' B (.cells (List.replicate k<|O x).toArray 3 (0,0))/\bK w w'):=by
 have HM:=Y (aiM w ⟨k,by omega⟩)
 have ae:=run_make_row' (P:=prog) 32 3 (O 0) 8 underlying32 afQ rfl .i64 .i64 k bC bC
 rw[afR x]at ae
 have HX:=Y hx
 have HK:=Y hk
 have u:=Y<|aH w<|.cells (rep x 0 k).toArray 3
 have II:=Y<|bF w<|.cells (rep x 0 k).toArray 3
 obtain⟨e,C⟩:=aV<|Nat.min 1 k
 have S:e<=k/\(0<k->0<e):=by rw[C];simp only[Nat.min_def];split<;>omega
 have F:=Y S
 have M:=Y C
 have jD:J (splice (rep x 0 k) 0 (List.replicate e<|O x)=rep x e k):=Y (by have:=Ld x (n:=0) (k:=k) (c:=e) bC;rwa[d9]at this)
 have L:=Y (λ(n:Nat) (h:n<=k)=>aiN x h)
 have K:J (∀n:Nat,∀v∈List.replicate n (O x),v.oneCell'=true):=Y (λn v hv=>by rw[List.eq_of_mem_replicate hv];rfl)
 have h1:((k:Int)<0)=False:=by simp
 have h2:((9223372036854775807:Int)<(k:Int))=False:=by simp;omega
 have h3:IntKind.u64.wrap (k:Int)=(k:Int):=by rw[IntKind.wrap_u64];omega
 have h4:wrap64 (k:Int)=(k:Int):=by simp[wrap64];omega
 have h5:IntKind.i64.wrap (k:Int)=(k:Int):=by rw[IntKind.wrap_i64];omega
 clear hx C S
 go_enter func114,ntmps114
 go_wp2_with fail
 refine HM.mono ?_
 rintro r w' ⟨rfl,r⟩
 subst r
 go_wp2_with (refine QJ rfl (.tmp 31) (.tmp 32) 32 32 3 rfl underlying32 Zz _ 0 k k (aN b 0) 1 c rfl rfl (rep x 0 k) 3 II (List.replicate e<|O x) (by rw[zO];exact M) (λj v f=>by
                       rw[List.getElem?_replicate]at f
                       split at f
                       ·rename_i ak
                        have:j=0:=by have:=M.out;simp only[Nat.min_def]at this;split at this<;>omega
                        subst this
                        cases f
                        rw[Addr.add_lit]
                        exact aG HX u
                       ·cases f) (by rw[zO,L 0<|bN _];have:=F.out;omega) (K _) ?_;intro w5 G eD)
 rw[jD]at G
 generalize w'.alloc (.cells (rep x 0 k).toArray 3)=W at *
 go_loopw[8] (λi wr=>∃j:Nat,i=O j/\j<=k/\(0<k->0<j)/\J (dR wr w'.heap.size (.cells (rep x j k).toArray 3 (0,0))/\But w'.heap.size W wr)) (λi _=>k - (intOf i).toNat)
 exact⟨e,by simp,F.1,F.2,Y ⟨G,eD⟩⟩
 obtain⟨j,rfl,f,aa,q⟩:=hrel
 by_cases al:j<k
 ·obtain⟨d,D⟩:=aV<|Nat.min j<|k - j
  have ac:=Y D
  have R:0<d/\j+d<=k/\d<=j:=by rw[D];simp only[Nat.min_def];have:=aa bC;split<;>omega
  have g:=Y R
  have z:=Y q.out.1
  have af:(j:Int)<=(k:Int):=by omega
  have ag:(0:Int)<=(j:Int):=by omega
  have ah:j<=k:=f
  have ai:¬(k=j):=by omega
  obtain⟨E,ab⟩:=aV<|j+d
  have p:=Y ab
  have am:IntKind.i64.wrap ((j:Int)+(d:Int))=(E:Int):=by rw[IntKind.wrap_i64];omega
  have ao:wrap64 ((j:Int)+(d:Int))=(E:Int):=by simp[wrap64];omega
  clear D R aa ab
  go_wp2_with fail
  go_region_law (refine XD rfl _ _ 32 32 3 rfl underlying32 Zz w'.heap.size j (k - j) (k - j) (aN w'.heap.size 0) j k (by simp[Act.eval,Act.put]) (by simp[Act.eval,Act.put]) (rep x j k) 3 z (List.replicate d<|O x) (by rw[zO];exact ac) (λt v s=>by
                                  rw[List.getElem?_replicate]at s
                                  split at s
                                  ·cases s
                                   rw[Addr.add_lit,d9]
                                   exact(aj z t).trans (by rw[yK];exact alF x (by have:=g.out;omega))
                                  ·cases s) (by rw[zO,L j f];have:=g.out;omega) (K _) ?_;intro w6 H m)
  have xS:J (splice (rep x j k) j (List.replicate d<|O x)=rep x (j+d) k):=Y<|Ld x g.out.2.1
  rw[xS,<-p]at H
  have kG:J (But w'.heap.size W w6):=Y<|q.2.trans ⟨m.os,m.tape,m.out.output,m.size,m.block⟩
  clear m z
  go_simp
  go_wp2_with fail
  go_roundw
  exact⟨E,rfl,by have:=g.out;have:=p.out;omega,λ_=>by have:=g.out;have:=p.out;omega,Y ⟨H,kG⟩⟩;have:=g.out;have:=p.out;simp[intOf];omega
 ·obtain rfl:j=k:=by omega
  have ad:J (rep x j j=List.replicate j (O x)):=Y (by unfold rep;rw[mW];simp)
  have I:=Y q.out.1
  rw[ad]at I
  have ZA:=Y<|u.trans<|q.2.below (bG _) u.size
  go_wp2_with fail
  go_ret
  exact⟨_,rfl,Y ⟨bG _,I,ZA⟩⟩
namespace Sm
section
variable {Z : Nat → Nat → Bool} {N n : Nat} {V : Nat → Nat × Nat} {l : List Si} {j : Nat} {y : Si}
def xA(Z:Nat->Nat->Bool)(N:Nat)(l:List Si)(j:Nat):Nat:=(l.take j).foldl (pcW Z N) (top Z N)
def mK(Z:Nat->Nat->Bool)(N:Nat)(V:Nat->Nat × Nat)(l:List Si)(j i:Nat):Nat:=(l.take j).foldl (bdW Z N V i) (top Z N)
def nO(Z:Nat->Nat->Bool)(N:Nat)(V:Nat->Nat × Nat)(l:List Si)(k j i:Nat):List Int:=(List.range k).map λt=>if t<i then (mK Z N V l (j+1) t:Int)else (mK Z N V l j t:Int)
theorem abJ(b:l[j]?=some y):xA Z N l (j+1)=pcW Z N (xA Z N l j) y:=by unfold xA;rw[gy,b,kI,JX];rfl
theorem Fz(b:l[j]?=some y)(i:Nat):mK Z N V l (j+1) i=bdW Z N V i (mK Z N V l j i) y:=by unfold mK;rw[gy,b,kI,JX];rfl
theorem aiO(K:bS.Joins (bS.tr Z) N)(b:∀s∈l,Ez N n s)(e:top Z N<N)(j:Nat):xA Z N l j<N:=QF (λ_ _ d b=>RL K d b) (λs h=>b s<|N8 h) e
theorem aiP(K:bS.Joins (bS.tr Z) N)(b:∀s∈l,Ez N n s)(e:top Z N<N)(j i:Nat):mK Z N V l j i<N:=QF (λ_ _ d b=>alv K d b) (λs h=>b s<|N8 h) e
theorem abK(k j i:Nat):(nO Z N V l k j i).length=k:=by unfold nO;rw[dV,uJ]
theorem Lf{k i:Nat}(b:i<k)(j:Nat):(nO Z N V l k j i)[i]?=some (mK Z N V l j i:Int):=by unfold nO;rw[pq,List.getElem?_range b,kV,aI<|Nat.lt_irrefl _]
theorem Oc{k i:Nat}(d:i<k)(j:Nat):(nO Z N V l k j i).set i (mK Z N V l (j+1) i:Int)=nO Z N V l k j (i+1):=by
 apply List.ext_getElem?;intro t;rw[List.getElem?_set];unfold nO;simp only[pq,dV,uJ];by_cases e:t<k
 ·rw[List.getElem?_range e,kV];by_cases b:i=t;·subst b;rw[aK rfl,aK d,kV,aK<|Nat.lt_succ_self _]
  ·rw[aI b,kV];by_cases h:t<i;·rw[aK h,aK bC]
   ·rw[aI h,aI bC]
 ·rw[Ry (by rw[uJ];omega)];rw[aI bC];rfl
theorem ag0{k i:Nat}(b:i<k)(j:Nat)(h:mK Z N V l (j+1) i=mK Z N V l j i):nO Z N V l k j i=nO Z N V l k j (i+1):=by
 rw[<-Oc b,h];apply List.ext_getElem?;intro t;rw[List.getElem?_set];split;·rename_i d;subst d;rw[aK (by rw[abK];exact b)];exact Lf b j
 ·rfl
theorem aj8(k j:Nat):nO Z N V l k j k=nO Z N V l k (j+1) 0:=by unfold nO;refine Na λt b=>?_;rw[aK (jE.1 b),aI<|fU _]
theorem amD(k:Nat):nO Z N V l k 0 0=List.replicate k (top Z N:Int):=by
 unfold nO;apply List.ext_getElem?;intro t;rw[pq,List.getElem?_replicate];by_cases h:t<k;·rw[List.getElem?_range h,kV,aI<|fU _,aK h];rfl
 ·rw[Ry (by rw[uJ];omega),aI h];rfl
theorem abL(k:Nat):nO Z N V l k l.length 0=bds Z N V l k:=by unfold nO bds bd mK;refine Na λt _=>?_;rw[aI (fU _),jQ]
theorem afS:xA Z N l l.length=pc Z N l:=by unfold xA pc;rw[jQ]
end
end Sm
def qJ(w:World)(B:Nat)(l:List Int):Prop:=w.heap[B]?=some (.cells (l.map (Value.int .i64)).toArray 3 (0,0))
theorem qJ.cell{w:bI}{B:Nat}{l:List Int}(h:qJ w B l){i:Nat}{x:Int}(b:l[i]?=some x):bJ w B i=some (O x):=(aj h i).trans (by simp[b])
theorem qJ.set{w:bI}{B:Nat}{l:List Int}(h:qJ w B l)(i:Nat)(x:Int):qJ (w.setCell (aN B i)<|O x) B (l.set i x):=by have:=aP h i<|O x;unfold qJ;rw[this];simp[List.map_set]
theorem Lg{n B:Nat}{w W:bI}(h:Below n w W)(b:n<=B)(d e f g i k:aC):Below n w ((((((W.setCell (aN B 0) d).setCell (aN B 1) e).setCell (aN B 2) f).setCell (aN B 3) g).setCell (aN B 4) i).setCell (aN B 5) k):=
 (((((h.setCell (p:=(aN B 0)) b d).setCell (p:=(aN B 1)) b e).setCell (p:=(aN B 2)) b f).setCell (p:=(aN B 3)) b g).setCell (p:=(aN B 4)) b i).setCell (p:=(aN B 5)) b k
