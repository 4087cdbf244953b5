/- part -/
import Derived.Test.YtbgkpehhdibaoaaGreatDoorMZBR
set_option maxHeartbeats 0
set_option maxRecDepth 99999
namespace Go.Proofs.YtbgkpehhdibaoaaGreatDoor
open Fl bO aO Sm Sv
open Go.Proofs.Tryz
open Go.RowKit Go.Maps Go.WideMaps
namespace Ck
structure Ag(x:Mo)(known known':List Mo):Prop where
 len:known'.length=known.length
 nm:∀(i:Nat) y y',known[i]?=some y->known'[i]?=some y'->y'.name=y.name
 eq:∀(i:Nat) y,known[i]?=some y->y.name∈x.imports->known'[i]?=some y
theorem wL{l l':List Mo}(hl:l'.length=l.length)(h:∀(i:Nat) y y',l[i]?=some y->l'[i]?=some y'->y'.name=y.name)(s:aZ):aO.dw l' s=aO.dw l s:=by rw[Hl,Hl,hl];refine find_congr λi hi=>?_;have hi':=jG.1 hi;obtain⟨h1,h2⟩:=eD (bg hi') (bg (show i<l'.length by omega));unfold gJ;rw[h1,h2];simp only;rw[h i _ _ h1 h2]
section
variable {x : Mo} {known known' : List Mo} {bJ DI : List (List Sc)}
theorem Ag.dw(h:Ag x known known')(s:aZ):aO.dw known' s=aO.dw known s:=wL h.len h.nm s
theorem imp_mem{x:Mo}{s:aZ}(h:¬dF x.imports s<0):x.imports.getD (dF x.imports s).toNat ByteArray.empty∈x.imports:=by
 have h1:=Fl.J7 x.imports s;have hlt:(dF x.imports s).toNat<x.imports.length:=by
  rcases h1 with h1|h1;·omega
  ·have:s∈x.imports:=Fl.oV.1 aV;rw[h1]at this;cases this
 rw[List.getD,bg hlt];exact jS hlt
theorem Ag.gq(h:Ag x known known')(k:Nat)(call:aZ):aO.gq x k call known'=aO.gq x k call known:=by
 unfold aO.gq;cases jo call with
 | none=>rfl
 | some d=>
  simp only;by_cases hi:dF x.imports (bO.preS call)<0;·rw[aL hi,aL hi]
  ·rw[aJ hi,aJ hi,h.dw];cases hm:aO.dw known (x.imports.getD (dF x.imports (bO.preS call)).toNat ByteArray.empty)with
   | none=>rfl
   | some a =>obtain⟨y,hy,e⟩:=gD hm;simp only;rw[hy,h.eq a y hy (by rw[e];exact imp_mem hi)]
theorem YK{k:Nat}{call:aZ}{a:Nat}{j:Int}{b:Bool}(h:aO.gq x k call known=((a:Int),j,b))(hb:b=true):∃y,known[a]?=some y/\y.name∈x.imports:=by
 subst hb;unfold aO.gq at h;cases hd:jo call with
 | none =>rw[hd]at h;simp only[aO.AQ]at h;split at h<;>simp at h
 | some d=>
  rw[hd]at h;simp only at h;by_cases hi:dF x.imports (bO.preS call)<0;·rw[aL hi]at h;simp at h
  ·rw[aJ hi]at h;cases hm:aO.dw known (x.imports.getD (dF x.imports (bO.preS call)).toNat ByteArray.empty)with
   | none=>rw[hm]at h;simp at h
   | some a'=>
    obtain⟨y,hy,e⟩:=gD hm;rw[hm]at h;simp only[aO.AQ]at h;have ha:a'=a:=by split at h<;>simp at h;omega
    subst ha;exact⟨y,hy,by rw[e];exact imp_mem hi⟩
theorem Ag.code(h:Ag x known known')(k:Nat)(call:aZ)(n:Nat):aO.code x known' k call n=aO.code x known k call n:=by
 unfold aO.code;rw[h.gq];by_cases hb:(aO.gq x k call known).2.2=false;·rw[aL hb,aL hb]
 ·rw[aJ hb,aJ hb];have hp:Rb x known' (aO.gq x k call known)=Rb x known (aO.gq x k call known):=by
   unfold Rb;split;·rfl
   ·rename_i hne;have hb':(aO.gq x k call known).2.2=true:=by cases hq:(aO.gq x k call known).2.2 with|true=>rfl|false=>exact aN hq hb
    rcases Ee hb' with⟨i,f,e,_⟩|⟨a,y,j,f,e,hy,_⟩;·rw[e]at hne;exact aN rfl hne
    ·obtain⟨y',hy',hin⟩:=YK e rfl;rw[e];simp only[Ct];rw[hy',h.eq a y' hy' hin]
  rw[hp]
theorem Ag.Aj(h:Ag x known known')(ss:List aZ)(m:Nat):aO.Aj ss x known' m=aO.Aj ss x known m:=by
 unfold aO.Aj imD clD;have e1:∀s,aO.dw known' s=aO.dw known s:=h.dw;have e2:Zn x known'=Zn x known:=by funext k fn y;unfold Zn;rw[h.code]
 simp only[e1,e2]
theorem Ag.oh(h:Ag x known known')(hs:∀(i:Nat) y,known[i]?=some y->y.name∈x.imports->DI[i]?=bJ[i]?)(k:Nat)(own:List Sc):Fl.oh x k known' DI own=Fl.oh x k known bJ own:=by
 funext call;unfold Fl.oh;rw[h.gq];by_cases hb:(aO.gq x k call known).2.2=false;·rw[aL hb,aL hb]
 ·rw[aJ hb,aJ hb];by_cases h0:(aO.gq x k call known).1<0;·rw[aL h0,aL h0]
  ·rw[aJ h0,aJ h0];have hb':(aO.gq x k call known).2.2=true:=by cases hq:(aO.gq x k call known).2.2 with|true=>rfl|false=>exact aN hq hb
   have e:aO.gq x k call known=(((aO.gq x k call known).1.toNat:Int),(aO.gq x k call known).2.1,(aO.gq x k call known).2.2):=by rw[Int.toNat_of_nonneg aV]
   obtain⟨y,hy,hin⟩:=YK e hb';rw[wP,wP,wP (l:=bJ),hs _ y hy hin];rw[wP]
theorem Ag.ans(h:Ag x known known')(hs:∀(i:Nat) y,known[i]?=some y->y.name∈x.imports->DI[i]?=bJ[i]?){ss:List aZ}{G:Nat}{L:Nat->Nat}{Z:Nat->Nat->Bool}{m:Nat}(hm:zN m known'=zN m known)(hf:Fl.iw ss.length known' DI=Fl.iw ss.length known bJ):Sm.ans ss G L Z m x known' DI=Sm.ans ss G L Z m x known bJ:=by
 have hth:∀E,yK E m x known'=yK E m x known:=λE=>by unfold yK;rw[hm]
 have hen:∀k own f,Fl.fP ss Z x k known' DI own f=Fl.fP ss Z x k known bJ own f:=λk own f=>by unfold Fl.fP;rw[h.oh hs]
 have hw:∀k own mn mc,Fl.Qn ss G L Z m x k known' DI own mn mc=Fl.Qn ss G L Z m x k known bJ own mn mc:=λk own mn mc=>by unfold Fl.Qn Fl.MZ;rw[hth,h.Aj,hf];simp only[hen]
 have hi:∀n,Sm.inf ss Z m x known' DI n=Sm.inf ss Z m x known bJ n:=λn=>by
  induction n with
  | zero=>rfl
  | succ n ih=>
   rw[Sm.inf,Sm.inf];cases x.bq[n]? with
   | none=>exact ih
   | some f=>simp only[ih,hen]
 have hE:∀n,qm ss G L Z m x known' DI n=qm ss G L Z m x known bJ n:=λn=>by
  induction n with
  | zero=>rfl
  | succ n ih=>rw[qm,qm,ih,hw,hi]
 unfold Sm.ans;rw[hth,h.Aj,hE,hi]
end
end Ck
namespace Ck
def PW{α:Type}(P:α->α->Prop)(l l':List α):Prop:=l'.length=l.length/\∀(i:Nat) y y',l[i]?=some y->l'[i]?=some y'->P y y'
theorem PW.tail{α:Type}{P:α->α->Prop}{a a':α}{l l':List α}(h:PW P (a::l) (a'::l')):P a a'/\PW P l l':=by refine⟨h.2 0 a a' rfl rfl,by have:=h.1;simpa using this,λi y y' h1 h2=>h.2 (i+1) y y' (by simpa using h1) (by simpa using h2)⟩
theorem PW.cons{α:Type}{P:α->α->Prop}{a a':α}{l l':List α}(h:P a a')(k:PW P l l'):PW P (a::l) (a'::l'):=by
 refine⟨by simp[k.1],λi y y' h1 h2=>?_⟩;cases i with
 | zero=>simp at h1 h2;subst h1 h2;exact h
 | succ i=>exact k.2 i y y' (by simpa using h1) (by simpa using h2)
theorem PW.filter{α:Type}{P:α->α->Prop}{q:α->Bool}(hq:∀a b,P a b->q b=q a):∀{l l':List α},PW P l l'->PW P (l.filter q) (l'.filter q)
 | [],[],_=>⟨rfl,λi y y' h=>by simp at h⟩
 | [],_::_,h=>by have:=h.1;simp at this
 | _::_,[],h=>by have:=h.1;simp at this
 | a::l,a'::l',h=>by
  obtain⟨h1,h2⟩:=h.tail;have ih:=PW.filter hq h2;simp only[List.filter_cons,hq a a' h1];cases q a with
  | true=>exact PW.cons h1 ih
  | false=>exact ih
theorem zip_map{α β:Type}(g:α->β):∀l:List α,List.zip l (l.map g)=l.map λy=>(y,g y)
 | []=>rfl
 | y::l=>by rw[fD,List.zip_cons_cons,zip_map g l,fD]
theorem Ni(N:Nat)(g:Mo->List Sc)(k:List Mo):Fl.iw N k (k.map g)=k.all λy=>nT N y.bq (g y):=by unfold Fl.iw;rw[zip_map,List.all_map,dR,fQ rfl,lV];rfl
theorem un_fit{N:Nat}(hN:0<N)(l:List Fu):nT N l (l.map un)=true:=by
 unfold nT;rw[zip_map,List.all_map,dR,fQ rfl,lV,gY];intro f _;have h1:Dh N 0=true:=by simp[Dh,hN]
 have h2:wZ N 0 0=true:=by simp[wZ,hN]
 show Bq N (f,un f)=true;simp[Bq,un,scB,aO.BR,dF,h1,h2]
theorem bl_cong2{l l':List Mo}{F F':aZ->Fi}{r:List aZ}(hm:∀s,aO.dw l' s=aO.dw l s)(h:∀b∈r,(aO.dw l b).isSome=true->F' b=F b):∀acc,bl l' F' r acc=bl l F r acc:=by
 induction r with
 | nil=>intro acc;rfl
 | cons s r ih=>
  intro acc;unfold bl;rw[hm];by_cases hs:(aO.dw l s).isSome=false;·rw[aL hs,aL hs];exact ih (λb hb=>h b (nW _ hb)) acc
  ·rw[aJ hs,aJ hs,h s List.mem_cons_self (by cases hq:(aO.dw l s).isSome with|true=>rfl|false=>exact aN hq hs)];split;·rfl
   ·exact ih (λb hb=>h b (nW _ hb)) _
section
variable {l l' : List Mo} {nm : ByteArray}
theorem DJ{s b:aZ}(hm:∀s,aO.dw l' s=aO.dw l s)(hk:∀(i:Nat) y,l[i]?=some y->y.name=s->l'[i]?=some y):imp l' s b↔imp l s b:=by
 constructor;·rintro⟨i,x,h1,h2,h3,h4⟩;rw[hm]at h1 h4;obtain⟨y,hy,e⟩:=gD h1;have:=hk i y hy e;rw[h2]at this;cases this;exact⟨i,x,h1,hy,h3,h4⟩
 ·rintro⟨i,x,h1,h2,h3,h4⟩;obtain⟨y,hy,e⟩:=gD h1;rw[h2]at hy;cases hy;exact⟨i,x,by rw[hm];exact h1,hk i x h2 e,h3,by rw[hm];exact h4⟩
theorem rch_same{s:aZ}(hm:∀s,aO.dw l' s=aO.dw l s)(hk:∀(i:Nat) y,l[i]?=some y->(y.name=s\/qG l s y.name)->l'[i]?=some y)(b:aZ):qG l' s b↔qG l s b:=by
 constructor
 ·intro h;induction h with
  | one h=>exact qG.one ((DJ hm λi y hy e=>hk i y hy (aR e)).1 h)
  | more _ k ih=>exact qG.more ih ((DJ hm λi y hy e=>hk i y hy (aT (by rw[e];exact ih))).1 k)
 ·intro h;induction h with
  | one h=>exact qG.one ((DJ hm λi y hy e=>hk i y hy (aR e)).2 h)
  | more h k ih=>exact qG.more ih ((DJ hm λi y hy e=>hk i y hy (aT (by rw[e];exact h))).2 k)
end
theorem FD_reach{c:Cx}{l':List Mo}{nm:aZ}(hl:l'.length=c.l.length)(hn:∀(i:Nat) y y',c.l[i]?=some y->l'[i]?=some y'->y'.name=y.name)(hk:∀(i:Nat) y,c.l[i]?=some y->(y.name=nm\/qG c.l nm y.name)->l'[i]?=some y){E:Int}(hf:kN E c.m c.l=0)(hf':kN E c.m l'=0)(hN:0<c.ss.length):∀(g:Nat) (s:aZ),rk c.l s<g->(s=nm\/qG c.l nm s)->FD ⟨c.m,c.ss,c.G,c.L,c.Z,l'⟩ s=FD c s:=by
 have hm:=wL hl hn;intro g;induction g with
 | zero=>intro s h;omega
 | succ g ih=>
  intro s hg hs;cases hi:aO.dw c.l s with
  | none=>rw[PY hi,PY (c:=⟨c.m,c.ss,c.G,c.L,c.Z,l'⟩) (by rw[hm];exact hi)]
  | some i=>
   obtain⟨x,hx,e⟩:=gD hi;have hx':=hk i x hx (by rw[e];exact hs);rw[YE hi hx,YE (c:=⟨c.m,c.ss,c.G,c.L,c.Z,l'⟩) (by rw[hm];exact hi) hx'];have hcl:∀b,b∈x.imports->(aO.dw c.l b).isSome=true->(b=nm\/qG c.l nm b):=λb hb hsm=>by
    have himp:imp c.l s b:=⟨i,x,hi,hx,hb,hsm⟩;rcases hs with rfl|hs;·exact aT (qG.one himp)
    ·exact aT (qG.more hs himp)
   have hrs:qG l' x.name x.name↔qG c.l x.name x.name:=rch_same hm (λj y hy hor=>hk j y hy (by
    rw[e]at hor;rcases hor with hor|hor;·rw[hor];exact hs
    ·rcases hs with rfl|hs;·exact aT hor
     ·exact aT (Nf hs hor))) x.name
   by_cases hr:qG c.l x.name x.name;·unfold Uj;rw[aL hr,aL (hrs.2 hr)]
   ·have hr':¬qG l' x.name x.name:=λh=>hr (hrs.1 h);have hF:∀b∈x.imports,(aO.dw c.l b).isSome=true->FD ⟨c.m,c.ss,c.G,c.L,c.Z,l'⟩ b=FD c b:=λb hb hsm=>by
     refine ih b ?_ (hcl b hb hsm);have h1:¬qG c.l s s:=by rw[<-e];exact hr
     have:=Ko h1 (⟨i,x,hi,hx,hb,hsm⟩:imp c.l s b);omega
    unfold Uj;rw[aJ hr,aJ hr',bl_cong2 hm hF];have hpw:PW (λy y':Mo=>y'.name=y.name/\(y.name∈x.imports->y'=y)/\y∈c.l/\y'∈l') c.l l':=⟨hl,λj y y' h1 h2=>⟨hn j y y' h1 h2,λhin=>by have h3:=hk j y h1 (hcl y.name hin (yT (dN h1)));rw[h2]at h3;cases h3;rfl,dN h1,dN h2⟩⟩;have hpo:=PW.filter (q:=λy:Mo=>!dD y.name x.name) (λa b hab=>by rw[hab.1]) hpw;have hag:Ag x (zR c.l x) (zR l' x):=⟨hpo.1,λj y y' h1 h2=>(hpo.2 j y y' h1 h2).1,λj y h1 hin=>by obtain⟨y',hy'⟩:∃y',(zR l' x)[j]?=some y':=⟨_,bg (by have:=(dz.1 h1).1;have:=hpo.1;unfold zR at *;omega)⟩;rw[hy',(hpo.2 j y y' h1 hy').2.1 hin]⟩;have h0:∀y∈zR c.l x,oM c.m y=0:=λy hy=>(jI hf).2.2.1 y (List.mem_filter.1 hy).1;have h0':∀y∈zR l' x,oM c.m y=0:=λy hy=>(jI hf').2.2.1 y (List.mem_filter.1 hy).1;have hsc:∀y y',y'.name=y.name->(y.name∈x.imports->y'=y)->y∈c.l->nT c.ss.length y'.bq (Tz (FD ⟨c.m,c.ss,c.G,c.L,c.Z,l'⟩) x y')=nT c.ss.length y.bq (Tz (FD c) x y):=λy y' h1 h2 h3=>by
     cases hin:aO.BR x.imports y.name with
     | true =>have:=h2 (zD.1 hin);subst this;unfold Tz;rw[aL hin,aL hin,hF y'.name (zD.1 hin) (yT h3)]
     | false =>unfold Tz;rw[h1,hin,aJ cZ,aJ cZ,un_fit hN,un_fit hN]
    have hfit:Fl.iw c.ss.length (zR l' x) (Ao l' (FD ⟨c.m,c.ss,c.G,c.L,c.Z,l'⟩) x)=Fl.iw c.ss.length (zR c.l x) (Ao c.l (FD c) x):=by
     unfold Ao;rw[Ni,Ni];have hiff:((zR l' x).all λy=>nT c.ss.length y.bq (Tz (FD ⟨c.m,c.ss,c.G,c.L,c.Z,l'⟩) x y))=true↔((zR c.l x).all λy=>nT c.ss.length y.bq (Tz (FD c) x y))=true:=by
      rw[gY,gY];constructor;·intro h y hy;obtain⟨j,hj,e1⟩:=gP.1 hy;obtain⟨h1,h2⟩:=eD (bg hj) (bg (show j<(zR l' x).length by have:=hag.len;omega));have h3:=hpo.2 j _ _ h1 h2;rw[<-e1,<-hsc _ _ h3.1 h3.2.1 h3.2.2.1];exact h _ (jS _)
      ·intro h y hy;obtain⟨j,hj,e1⟩:=gP.1 hy;obtain⟨h2,h1⟩:=eD (bg hj) (bg (show j<(zR c.l x).length by have:=hag.len;omega));have h3:=hpo.2 j _ _ h1 h2;rw[<-e1,hsc _ _ h3.1 h3.2.1 h3.2.2.1];exact h _ (jS _)
     exact qH.2 hiff
    have hss:∀(j:Nat) y,(zR c.l x)[j]?=some y->y.name∈x.imports->(Ao l' (FD ⟨c.m,c.ss,c.G,c.L,c.Z,l'⟩) x)[j]?=(Ao c.l (FD c) x)[j]?:=λj y hy hin=>by unfold Ao;rw[pY,pY,hy,hag.eq j y hy hin,jP,jP];unfold Tz;rw[aL (zD.2 hin),aL (zD.2 hin),hF y.name hin (yT (List.mem_filter.1 (dN hy)).1)]
    simp only;rw[hag.ans hss (by rw[yL h0,yL h0']) hfit]
end Ck
namespace Ck
def uni(ss:List ByteArray)(l:List Mo):List ByteArray:=(l.flatMap λx=>x.vars.flatMap λv=>[Fl.deed ⟨#[114,58]⟩ x.name v.name,Fl.deed ⟨#[119,58]⟩ x.name v.name])++ss.map λs=>(⟨#[112,58]⟩++s:ByteArray)
theorem vQ{α β:Type}{f:α->List β}{k:Nat}:∀{l:List α},(∀x∈l,(f x).length<=k)->(l.flatMap f).length<=l.length*k
 | [],_=>by simp
 | x::l,h=>by have h1:=vQ (l:=l) λy hy=>h y (nW _ hy);have h2:=h x List.mem_cons_self;rw[IX,aW,zU,Ay];omega
theorem P6{s:aZ}(h:dx s.data.toList=true):s.size<=8:=by unfold dx at h;simp only[dS,iA]at h;exact h.1.2
theorem TQ{m:Nat}{x:Mo}(h:oM m x=0):x.vars.length<=8/\x.name.size<=8/\∀v∈x.vars,v.name.size<=8:=by
 unfold oM at h;split at h;·cases h
 ·rename_i h1;split at h;·cases h
  ·rename_i h2;simp only[Bool.not_eq_false,dS,gY]at h2;refine⟨by omega,P6 h2.1.1,λv hv=>?_⟩;have:=h2.2 v hv;unfold KP at this;rw[dS]at this;exact P6 this.1
theorem WI{ss:List aZ}{G:Nat}{L:Nat->Nat}{Z:Nat->Nat->Bool}{m:Nat}{l:List Mo}(h:kN (dh ss G L Z) m l=0):UAll (uni ss l) ss l:=by
 obtain⟨h1,h2,h3,_⟩:=jI h;have ho:=qj h1;have hs:∀s∈ss,s.size<=8:=λs hs=>by have hn:=ho.names;unfold mH at hn;rw[dS,gY]at hn;obtain⟨i,hi,rfl⟩:=gP.1 hs;have:=hn.1 i (jG.2 hi);unfold xR at this;rw[dS]at this;have h4:=this.2;rw[wP,bg hi]at h4;exact P6 h4
 refine⟨λx hx v hv=>⟨?_,?_⟩,λs hs=>bV.2 (aT (jU.2 ⟨s,hs,rfl⟩)),?_,λt ht=>?_⟩;·exact bV.2 (aR (iF.2 ⟨x,hx,iF.2 ⟨v,hv,by simp⟩⟩))
 ·exact bV.2 (aR (iF.2 ⟨x,hx,iF.2 ⟨v,hv,by simp⟩⟩))
 ·unfold uni;rw[aW,dR];obtain⟨h5,h8⟩:=eD (vQ (l:=l) (f:=λx=>x.vars.flatMap λv=>[Fl.deed ⟨#[114,58]⟩ x.name v.name,Fl.deed ⟨#[119,58]⟩ x.name v.name]) (k:=16) (λx hx=>by have h6:=vQ (l:=x.vars) (f:=λv:Va=>[Fl.deed ⟨#[114,58]⟩ x.name v.name,Fl.deed ⟨#[119,58]⟩ x.name v.name]) (k:=2) (λv _=>by simp);have h7:=(TQ (h3 x hx)).1;omega)) ho.six;omega
 ·have hm:(100:Nat)<=maxLen:=by decide
  rcases bV.1 ht with ht|ht;·obtain⟨x,hx,ht⟩:=iF.1 ht;obtain⟨v,hv,ht⟩:=iF.1 ht;obtain⟨_,k1,k2⟩:=TQ (h3 x hx);have k3:=k2 v hv;simp only[gy,tT,or_false]at ht;rcases ht with rfl|rfl<;>(unfold Fl.deed;simp only[nH];have a1:ByteArray.size ⟨#[46]⟩=1:=rfl;have a2:ByteArray.size ⟨#[114,58]⟩=2:=rfl;have a3:ByteArray.size ⟨#[119,58]⟩=2:=rfl;omega)
  ·obtain⟨s,hs',rfl⟩:=jU.1 ht;have k1:=hs s hs';rw[nH];have a2:ByteArray.size ⟨#[112,58]⟩=2:=rfl;omega
end Ck
end Go.Proofs.YtbgkpehhdibaoaaGreatDoor
