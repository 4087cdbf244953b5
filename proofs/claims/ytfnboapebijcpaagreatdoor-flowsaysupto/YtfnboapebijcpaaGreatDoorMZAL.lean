/- Walks over package solve, first part -/
import Derived.Test.YtfnboapebijcpaaGreatDoorMZAK
import Derived.Laws.BitsAllLaws
import Derived.Test.YtfnboapebijcpaaGreatDoorMZAJ
import Derived.Sort.Grow
import Derived.Test.YtfnboapebijcpaaGreatDoorMZVS
set_option maxHeartbeats 16000000
set_option maxRecDepth 100000
namespace Go.Proofs.YtfnboapebijcpaaGreatDoor
open bC aI Sv
open Go.Proofs.Tryz
open Go.RowKit
theorem Om(w:World)(va:Option Addr)(vl:Value)(N cap:Nat)(m l:Int):Calls prog 313 #[.agg #[.slice va N cap,vl],.agg #[.int .i64 m,.int .i64 l]] w λe w'=>e=.returned (.bool (yg N m l))/\Below w.heap.size w w':=by
 have HV:Hid (yg N m l=(decide (0<=m)&&decide (m<=15)&&decide (0<=l)&&decide (l<N))):=rfl;have hb:Below w.heap.size w ((w.alloc (.cells #[.slice va N cap,vl] 34)).alloc (.cells #[.int .i64 m,.int .i64 l] 72)):=((aX _ _).alloc (bM _) _).alloc (by simp) _;have HB:=hide hb;clear hb;by_cases h0:0<=m
 ·by_cases h1:m<=15;·have HC:=hide (vF ((w.alloc (.cells #[.slice va N cap,vl] 34)).alloc (.cells #[.int .i64 m,.int .i64 l] 72)) va vl N cap l);have HVV:Hid (yg N m l=(decide (0<=l)&&decide (l<N))):=hide (by rw[HV];simp[h0,h1]);go_enter func313,ntmps313;go_wp2_with fail;refine HC.mono ?_;rintro e w1 ⟨rfl,hb1⟩;have HB1:=hide (up HB hb1);clear hb1 HC;rw[<-HVV];go_wp2_with fail;go_ret;exact⟨rfl,HB1⟩
  ·have h1':decide (m<=15)=false:=by simpa using h1
   rw[h1',Af,ng,ng]at HV;go_enter func313,ntmps313;go_wp2;go_ret;exact⟨aH (by rw[HV]),HB⟩
 ·have h0':decide (0<=m)=false:=by simpa using h0
  rw[h0',ng,ng,ng]at HV;go_enter func313,ntmps313;go_wp2;go_ret;exact⟨aH (by rw[HV]),HB⟩
def K4(w:World)(vn vl:Value)(x y:Nat × Nat):World:=
 ((w.alloc (.cells #[vn,vl] 34)).alloc (.cells #[.int .i64 (x.1:Nat),.int .i64 (x.2:Nat)] 72)).alloc (.cells #[.int .i64 (y.1:Nat),.int .i64 (y.2:Nat)] 72)
theorem QW(w:World)(vn vl:Value)(x y:Nat × Nat):Below w.heap.size w (K4 w vn vl x y):=(((aX _ _).alloc (bM _) _).alloc (by simp) _).alloc (by simp;omega) _
theorem box3_at(w:World)(vn vl:Value)(x y:Nat × Nat):(K4 w vn vl x y).heap[w.heap.size]?=some (.cells #[vn,vl] 34 (0,0))/\(K4 w vn vl x y).heap[w.heap.size+1]?=some (.cells #[.int .i64 (x.1:Nat),.int .i64 (x.2:Nat)] 72 (0,0))/\(K4 w vn vl x y).heap[w.heap.size+1+1]?=some (.cells #[.int .i64 (y.1:Nat),.int .i64 (y.2:Nat)] 72 (0,0))/\(K4 w vn vl x y).heap.size=w.heap.size+1+1+1:=by
 refine⟨gU (gU (aJ w _) _) _,?_,?_,by simp[K4]⟩;·have h:=aJ (w.alloc (.cells #[vn,vl] 34)) (.cells #[.int .i64 (x.1:Nat),.int .i64 (x.2:Nat)] 72);rw[show(w.alloc (.cells #[vn,vl] 34)).heap.size=w.heap.size+1 by simp]at h;exact gU h _
 ·have h:=aJ ((w.alloc (.cells #[vn,vl] 34)).alloc (.cells #[.int .i64 (x.1:Nat),.int .i64 (x.2:Nat)] 72)) (.cells #[.int .i64 (y.1:Nat),.int .i64 (y.2:Nat)] 72);rw[show((w.alloc (.cells #[vn,vl] 34)).alloc (.cells #[.int .i64 (x.1:Nat),.int .i64 (x.2:Nat)] 72)).heap.size=w.heap.size+1+1 by simp]at h;exact h
theorem set2{W:World}{B:Nat}{t:TypeId}{r0 r1:Value}(h:W.heap[B]?=some (.cells #[r0,r1] t (0,0)))(c0 c1:Value):((W.setCell ⟨B,0,none⟩ c0).setCell ⟨B,1,none⟩ c1).heap[B]?=some (.cells #[c0,c1] t (0,0)):=aQ (aQ h 0 c0) 1 c1
theorem aN{w w':World}{k:Nat}{ob:Obj}(h:w.heap[k]?=some ob)(hb:Below w.heap.size w w'):w'.heap[k]?=some ob:=by rw[hb.block _ (block_lt h)];exact h
structure rO(w:World)(vn vl:Value)(ss:List ByteArray)(G:Nat)(L:Nat->Nat)(Z:Nat->Nat->Bool):Prop where
 strs:Strs w vn ss
 WG:Qb w vl G L Z
 ok:dD ss G L Z=0
theorem rO.below{w w':World}{vn vl:Value}{ss:List ByteArray}{G:Nat}{L:Nat->Nat}{Z:Nat->Nat->Bool}(h:rO w vn vl ss G L Z)(hb:Below w.heap.size w w'):rO w' vn vl ss G L Z:=⟨h.strs.below hb,h.WG.below hb,h.ok⟩
theorem rO.grid{w:World}{vn vl:Value}{ss:List ByteArray}{G:Nat}{L:Nat->Nat}{Z:Nat->Nat->Bool}(h:rO w vn vl ss G L Z):mO w vl ss.length Z:=zT h.WG (vM h.ok).pos (vM h.ok).square
theorem rO.six{w:World}{vn vl:Value}{ss:List ByteArray}{G:Nat}{L:Nat->Nat}{Z:Nat->Nat->Bool}(h:rO w vn vl ss G L Z):ss.length<=6:=(vM h.ok).six
theorem rO.joins{w:World}{vn vl:Value}{ss:List ByteArray}{G:Nat}{L:Nat->Nat}{Z:Nat->Nat->Bool}(h:rO w vn vl ss G L Z):bC.Joins Z ss.length:=vE (FC (vM h.ok).order) (vM h.ok).joins
theorem rO.meets{w:World}{vn vl:Value}{ss:List ByteArray}{G:Nat}{L:Nat->Nat}{Z:Nat->Nat->Bool}(h:rO w vn vl ss G L Z):bC.Joins (bC.tr Z) ss.length:=vE (FC (vM h.ok).order).turn (vM h.ok).meets
theorem Oo(w:World)(vn vl:Value)(n a b:Nat)(Z:Nat->Nat->Bool)(hG:mO w vl n Z)(hn:n<=6)(ha:a<n)(hb:b<n):Calls prog 324 #[.agg #[vn,vl],.int .i64 a,.int .i64 b] w λe w'=>e=.returned (.int .i64 (l9 Z n a b:Nat))/\Below w.heap.size w w':=by have q1:=mQ w vn vl 34;have HB:=hide (aB w (.cells #[vn,vl] 34));have HG:=hide (hG.below HB);obtain⟨gb,go,gc,RB,RO,C,rfl,-⟩:=hG;go_enter func324,ntmps324;go_wp2_with fail;refine(FD _ _ n a b Z HG hn ha hb).mono ?_;rintro e w' ⟨rfl,rfl⟩;go_wp2_with fail;go_ret;exact⟨rfl,HB⟩
theorem Own.form{w:World}{B:Nat}{v:Value}{l:List ByteArray}(h:Own w B v l):∃a c,v=.slice a l.length c:=by
 rcases h.shape with⟨rfl,rfl⟩|⟨g,cap,rfl,_⟩;·exact⟨_,_,rfl⟩
 ·exact⟨_,_,rfl⟩
theorem Yh(w:World)(o:Obj)(c:Value)(t:TypeId):((w.alloc o).alloc (.cells #[c] t)).cell? ⟨w.heap.size+1,0,none⟩=some c:=(aj (al2 w o (.cells #[c] t)).2.1 0).trans rfl
theorem JG(w:World)(n:Nat)(t:TypeId)(vs:List Value)(ls:List (List Dg))(hlen:vs.length=ls.length)(h16:ls.length<=16)(h:∀(i:Nat) v l,vs[i]?=some v->ls[i]?=some l->bI lY w n 43 3 v l):Oj (w.alloc (.cells vs.toArray t)) n (.slice (some ⟨w.heap.size,0,none⟩) ls.length ls.length) ls:=by
 refine⟨w.heap.size,0,ls.length,rfl,h16,λi l hl=>?_⟩;have hi:i<vs.length:=by rw[hlen];exact(dG.1 hl).1
 refine⟨vs[i],?_,(h i _ l (aU hi) hl).below (aB _ _)⟩;rw[fT,aj (aJ w (.cells vs.toArray t)) i];simp[hi]
theorem Oq{α:Type}(l:List α)(f:α->ByteArray)(j:Nat):((l.take j).map f).length<=l.length:=by rw[cB,d9];omega
theorem Gr(m:Nat)(w:World)(vi vv vf:Value)(x:Mo)(h:jK w m (.agg #[.string x.name,vi,vv,vf]) x)(hc:DX w vi vf)(hlv:x.vars.length<=1048576)(hlf:x.aR.length<=1048576)(hlen:(twD x).length<=16777216):Calls prog 76 #[.agg #[.string x.name,vi,vv,vf]] w λe w'=>∃u,e=.returned u/\bI lY w' w.heap.size 43 3 u (twD x)/\Below w.heap.size w w':=by
 obtain⟨hI,hV,hF⟩:=h.split;have HIC:Hid (zN w vi x.imports):=by refine hide ⟨hI,?_⟩;obtain⟨a,b,off,c,rfl,_⟩:=hI;exact⟨a,c,rfl,hc.imp _ _ _ rfl⟩
 obtain⟨ai,bi,oi,ci,rfl,-⟩:=hI;obtain⟨av,bv,ov,cv,rfl,Ip,-,hcv⟩:=hV;obtain⟨af,bf,of,cf,rfl,BD,-,hcf⟩:=hF;have Gj:=hide hcv;have Iq:=hide Ip;have Eh:Hid (F5 w m bf of x.aR):=hcf;have BF:=hide BD;have HMC:=hide hc;have KX:Hid (twD x=[ru ⟨#[]⟩ x.imports,ru ⟨#[]⟩ (x.vars.map (·.name)),ru ⟨#[]⟩ (x.aR.map (·.name))].flatten++x.aR.flatMap λf=>ru f.name f.params):=rfl;have kK:=hide hlen;rw[KX]at kK;obtain⟨R,hR⟩:=aG (twD x);rw[<-hR]at KX ⊢;obtain⟨T1,hT1⟩:=aG (ru ⟨#[]⟩ x.imports);obtain⟨T2,hT2⟩:=aG (ru ⟨#[]⟩ (x.vars.map (·.name)));obtain⟨T3,hT3⟩:=aG (ru ⟨#[]⟩ (x.aR.map (·.name)));have HT1:=hide hT1;have HT2:=hide hT2;have HT3:=hide hT3;rw[<-hT1,<-hT2,<-hT3]at KX kK;have HL3:Hid (T1.length+T2.length+T3.length+(x.aR.flatMap λf=>ru f.name f.params).length<=16777216):=hide (by have:=kK.out;simp only[qx,vO,bX,aP]at this;omega);obtain⟨vars,hvars⟩:=aG x.vars;obtain⟨aR,Oi⟩:=aG x.aR;rw[<-hvars]at hlv Gj Iq HT2 ⊢;rw[<-Oi]at hlf Eh BF KX HT3 HL3 HMC ⊢;obtain⟨nv,mR⟩:=aG vars.length;obtain⟨nf,hnf⟩:=aG aR.length;have BG:=hide mR;have og:=hide hnf;rw[<-mR]at hlv Iq ⊢;rw[<-hnf]at hlf BF HMC ⊢;generalize x.imports.length=ni at *;generalize x.name=xn at *;have dH:=hide (aJ w (.cells #[.string xn,.slice ai ni ci,.slice av nv cv,.slice af nf cf] 26));have q1:=DI w (.string xn) (.slice ai ni ci) (.slice av nv cv) (.slice af nf cf) 26;have q2:=DJ w (.string xn) (.slice ai ni ci) (.slice av nv cv) (.slice af nf cf) 26;have q3:=Dy w (.string xn) (.slice ai ni ci) (.slice av nv cv) (.slice af nf cf) 26;have HB0:=hide (aB w (.cells #[.string xn,.slice ai ni ci,.slice av nv cv,.slice af nf cf] 26));clear hcv Ip hcf BD hlen hR hvars Oi mR hnf h hc hT1 hT2 hT3 kK;go_enter func76,ntmps76;go_wp2_with fail;generalize (w.alloc (.cells #[.string xn,.slice ai ni ci,.slice av nv cv,.slice af nf cf] 26))=W1 at *;go_loopw[3,15] (λv i wr=>∃j:Nat,j<=nv/\i=.int .i64 j/\Own wr W1.heap.size v ((vars.take j).map (·.name))/\Below W1.heap.size W1 wr) (λ_ i _=>nv - (intOf i).toNat);case atStart=>exact⟨0,bJ _,rfl,nP _ _ _ _,aX _ _⟩
 case round=>
  obtain⟨j,hj,rfl,hown,hnx⟩:=hrel;have HOW:=hide hown;have bR:=hide hnx;by_cases hjl:j<nv
  ·obtain⟨y,hy⟩:∃y,vars[j]?=some y:=⟨_,aU (by rw[<-BG];exact hjl)⟩;obtain⟨-,-,g0,g1⟩:=Gj j y hy;obtain rfl:=Iq (by omega);replace g0:=aA g0 (up HB0 hnx);replace g1:=aA g1 (up HB0 hnx);have HST:=hide (F6 (f:=λv:Va=>v.name) hy);have dw:=hide (aB wr (.cells #[.string y.name,.string y.level] 124));have c0:=(aj (aJ wr (.cells #[.string y.name,.string y.level] 124)) 0).trans (rfl:_=some (Value.string y.name));have hml:=Oq vars (·.name) j;rw[<-BG]at hml;obtain⟨a3,c3,rfl⟩:=hown.form;obtain⟨ln,hln⟩:=aG (((vars.take j).map (·.name)).length);have Jo:=hide hln;rw[<-hln]at HOW hml ⊢;clear hy hown hnx hln
   go_wp2_with (first
    | (at_builtin;refine qw rfl _ _ rfl W1.heap.size _ _ rfl (own_below HOW (up dw (aB _ _))) _ y.name rfl (Yh _ _ _ _) (by have:=Jo.out;omega) (bS bR.size (up dw (aB _ _)).size) ?_;intro v6 w6 hown6 dI;have pY:=hide hown6;have iM:=hide (eD (up bR (up dw (aB _ _))) dI (λj hj=>(World.ownsRow.lt HOW j hj).1));clear hown6 dI)
    | fail)
   go_roundw;case rel=>exact⟨j+1,by omega,by go_num,by rw[HST];exact pY,iM⟩
   case measure=>simp[intOf];omega
  ·have jF:(vars.take j)=vars:=eP (by have:=BG.out;omega);rw[jF]at HOW hown;obtain⟨a3,c3,rfl⟩:=hown.form;obtain⟨ln,hln⟩:=aG ((vars.map (·.name)).length);rw[<-hln]at HOW ⊢;replace q1:=aA q1 hnx;replace q3:=aA q3 hnx;have HQ:=hide (And.intro q1 q3);clear jF hown hnx hln q2;obtain⟨wo,rfl⟩:=aG wr;go_wp2_with fail;go_loopw[4,28] (λv i wx=>∃t:Nat,t<=nf/\i=.int .i64 t/\Own wx wo.heap.size v ((aR.take t).map (·.name))/\Below wo.heap.size wo wx) (λ_ i _=>nf - (intOf i).toNat);case atStart=>exact⟨0,bJ _,rfl,nP _ _ _ _,aX _ _⟩
   case round=>
    obtain⟨t,ht,rfl,hown,hnx⟩:=hrel;have Ir:=hide hown;have pX:=hide hnx;by_cases htl:t<nf
    ·obtain⟨y,hy⟩:∃y,aR[t]?=some y:=⟨_,aU (by rw[<-og];exact htl)⟩;obtain⟨-,vp,vb,e0,e1,e2,e3,g0,g1,g2,g3,g4,g5,g6,hp,hb,hx⟩:=Eh t y hy;obtain rfl:=BF (by omega);have hbb:=up (up HB0 bR) hnx;replace g0:=aA g0 hbb;replace g1:=aA g1 hbb;replace g2:=aA g2 hbb;replace g3:=aA g3 hbb;replace g4:=aA g4 hbb;replace g5:=aA g5 hbb;replace g6:=aA g6 hbb;obtain⟨ap,bp,op,cp,rfl,-⟩:=hp;obtain⟨sb,cb',rfl⟩:=hb.mh;obtain⟨xa,xc,rfl,rfl,rfl,rfl⟩:=hx.shape;generalize y.params.length=np at *;generalize y.body.length=nb at *;generalize y.result.args.length=ne at *;have HST:=hide (F6 (f:=λv:Fu=>v.name) hy);have dw:=hide (aB wr (.cells #[.string y.name,.slice ap np cp,.slice sb nb cb',.int .i64 y.result.kind,.int .i64 y.result.n,.string y.result.name,.slice xa ne xc] 132));have c0:=(aj (aJ wr (.cells #[.string y.name,.slice ap np cp,.slice sb nb cb',.int .i64 y.result.kind,.int .i64 y.result.n,.string y.result.name,.slice xa ne xc] 132)) 0).trans (rfl:_=some (Value.string y.name));have hml:=Oq aR (·.name) t;rw[<-og]at hml;obtain⟨a4,c4,rfl⟩:=hown.form;obtain⟨l4,hl4⟩:=aG (((aR.take t).map (·.name)).length);have Wy:=hide hl4;rw[<-hl4]at Ir hml ⊢;clear hy hown hnx hl4 hb hx hbb q1 q3
     go_wp2_with (first
      | (at_builtin;refine qw rfl _ _ rfl wo.heap.size _ _ rfl (own_below Ir (up dw (aB _ _))) _ y.name rfl (Yh _ _ _ _) (by have:=Wy.out;omega) (bS pX.size (up dw (aB _ _)).size) ?_;intro v6 w6 hown6 dI;have pY:=hide hown6;have iM:=hide (eD (up pX (up dw (aB _ _))) dI (λj hj=>(World.ownsRow.lt Ir j hj).1));clear hown6 dI)
      | fail)
     go_roundw;case rel=>exact⟨t+1,by omega,by go_num,by rw[HST];exact pY,iM⟩
     case measure=>simp[intOf];omega
    ·have jF:(aR.take t)=aR:=eP (by have:=og.out;omega);rw[jF]at Ir hown;have HS3:Hid (zN wr (.slice a3 ln c3) (vars.map (·.name))):=hide (Own.strsC (own_below HOW pX) (λs hs=>by obtain⟨y,hy,rfl⟩:=qC.1 hs;obtain⟨i,hi,rfl⟩:=eX.1 hy;exact(Gj i _ (aU hi)).1) (by rw[cB,<-BG];omega));obtain⟨a4,c4,rfl⟩:=hown.form;obtain⟨l4,hl4⟩:=aG ((aR.map (·.name)).length);rw[<-hl4]at Ir ⊢;have HS4:Hid (zN wr (.slice a4 l4 c4) (aR.map (·.name))):=hide (Own.strsC Ir (λs hs=>by obtain⟨y,hy,rfl⟩:=qC.1 hs;obtain⟨i,hi,rfl⟩:=eX.1 hy;exact(Eh i _ (aU hi)).1) (by rw[cB,<-og];omega));have eO:=hide (up (up HB0 bR) hnx);replace q1:=aA q1 hnx;have HQ3:=hide (aA HQ.2 hnx);clear jF hown hnx hl4 q3 HOW Ir;go_wp2_with fail;refine(lK wr _ x.imports ⟨#[]⟩ (HIC.below eO) (by rw[<-HT1];have:=HL3.out;omega)).mono ?_;rintro e w5 ⟨u5,rfl,TT,hb5⟩;rw[<-HT1]at TT;have HU5:=hide TT;have dw:=hide hb5;obtain⟨a5,c5,rfl⟩:=TT.form;clear TT hb5 q1;generalize hz5:T1.length=t1 at *;go_wp2_with fail;refine(lK w5 _ (vars.map (·.name)) ⟨#[]⟩ (HS3.below dw) (by rw[<-HT2];have:=HL3.out;omega)).mono ?_;rintro e w6 ⟨u6,rfl,Yi,hb6⟩;rw[<-HT2]at Yi;have HU6:=hide Yi;have dB:=hide hb6;obtain⟨a6,c6,rfl⟩:=Yi.form;clear Yi hb6;generalize Ej:T2.length=t2 at *;go_wp2_with fail;refine(lK w6 _ (aR.map (·.name)) ⟨#[]⟩ ((HS4.below dw).below dB) (by rw[<-HT3];have:=HL3.out;omega)).mono ?_;rintro e w7 ⟨u7,rfl,Yj,jT⟩;rw[<-HT3]at Yj;have HU7:=hide Yj;have iw:=hide jT;obtain⟨a7,c7,rfl⟩:=Yj.form;clear Yj jT;generalize Et:T3.length=t3 at *
     have HDS:Hid (Oj (w7.alloc (.cells #[.slice a5 t1 c5,.slice a6 t2 c6,.slice a7 t3 c7] 37)) wr.heap.size (.slice (some ⟨w7.heap.size,0,none⟩) 3 3) [T1,T2,T3]):=
      hide (JG w7 wr.heap.size 37 [.slice a5 t1 c5,.slice a6 t2 c6,.slice a7 t3 c7] [T1,T2,T3] rfl (by simp) (λi v l hv hl=>by
       match i,hv,hl with
       | 0,hv,hl=>simp at hv hl;subst hv hl;exact(HU5.below dB).below iw
       | 1,hv,hl=>simp at hv hl;subst hv hl;exact(HU6.below iw).old dw.size
       | 2,hv,hl=>simp at hv hl;subst hv hl;exact HU7.old (bS dw.size dB.size)
       | i+3,hv,hl=>simp at hv))
     have HC3:Hid (([T1,T2,T3]:List (List Dg)).flatten.length<=16777216):=hide (by have:=HL3.out;simp only[qx,vO,bX,aP];omega);have xg:=hide (up (up (up eO dw) dB) (up iw (aB w7 (.cells #[.slice a5 t1 c5,.slice a6 t2 c6,.slice a7 t3 c7] 37))));have hq3:=aA (aA (aA (aA HQ3 dw) dB) iw) (aB w7 (.cells #[.slice a5 t1 c5,.slice a6 t2 c6,.slice a7 t3 c7] 37));have HQ8:=hide hq3;clear hq3 HS3 HS4 HU5 HU6 HU7 HQ3 HIC HT1 HT2 HT3;go_wp2_with fail;refine(DV _ _ _ _ HDS HC3).mono ?_;rintro e w9 ⟨u9,rfl,hu9,nG⟩;have HU9:=hide (hu9.old xg.size);have kI:=hide (up xg nG);have q9:=aA HQ8 nG;obtain⟨F,hF⟩:∃F,F=([T1,T2,T3]:List (List Dg)).flatten:=⟨_,rfl⟩;have HF:=hide hF;rw[<-hF]at HU9 hu9;obtain⟨a9,c9,rfl⟩:=hu9.form;generalize Vf:F.length=t9 at *;have zC:Hid (F.length+(aR.flatMap λf=>ru f.name f.params).length<=16777216):=hide (by have:=HL3.out;rw[HF];simp only[qx,vO,bX,aP];omega);rw[<-HF]at KX;clear hu9 nG hF HQ8 dw dB iw HDS HC3 HL3 HF;go_wp2_with fail;go_loopw[9,50] (λv i wx=>∃t:Nat,t<=nf/\i=.int .i64 t/\bI lY wx w.heap.size 43 3 v (F++(aR.take t).flatMap λf=>ru f.name f.params)/\Below w.heap.size w wx) (λ_ i _=>nf - (intOf i).toNat);case atStart=>exact⟨0,bJ _,rfl,by simpa using HU9.out,kI.out⟩
     case round=>
      obtain⟨s,hs,rfl,hown,hnx⟩:=hrel;have Ir:=hide hown;have pX:=hide hnx;by_cases hsl:s<nf
      ·obtain⟨y,hy⟩:∃y,aR[s]?=some y:=⟨_,aU (by rw[<-og];exact hsl)⟩;obtain⟨-,vp,vb,e0,e1,e2,e3,g0,g1,g2,g3,g4,g5,g6,hp,hb,hx⟩:=Eh s y hy;obtain rfl:=BF (by omega);have xQ:Hid (zN w vp y.params):=by refine hide ⟨hp,?_⟩;obtain⟨vp',k1,k2⟩:=HMC.par bf of nf cf rfl s hsl;rw[g1]at k1;cases k1;obtain⟨a,b,off,c,rfl,_⟩:=hp;exact⟨a,c,rfl,k2 _ _ _ rfl⟩
       have HST:=hide (bZ (f:=λf:Fu=>ru f.name f.params) hy);have mU:Hid ((F++(aR.take s).flatMap λf=>ru f.name f.params).length+(ru y.name y.params).length<=16777216):=hide (by have h1:=oh (f:=λf:Fu=>ru f.name f.params) (l:=aR) (s+1);rw[HST,aP]at h1;have h2:=zC.out;rw[aP];omega);replace g0:=aA g0 hnx;replace g1:=aA g1 hnx;replace g2:=aA g2 hnx;replace g3:=aA g3 hnx;replace g4:=aA g4 hnx;replace g5:=aA g5 hnx;replace g6:=aA g6 hnx;obtain⟨ap,bp,op,cp,rfl,-⟩:=hp;obtain⟨sb,cb',rfl⟩:=hb.mh;obtain⟨xa,xc,rfl,rfl,rfl,rfl⟩:=hx.shape;generalize y.params.length=np at *;generalize y.body.length=nb at *;generalize y.result.args.length=ne at *;have dw:=hide (aB wr (.cells #[.string y.name,.slice ap np cp,.slice sb nb cb',.int .i64 y.result.kind,.int .i64 y.result.n,.string y.result.name,.slice xa ne xc] 132));have hbn:=aJ wr (.cells #[.string y.name,.slice ap np cp,.slice sb nb cb',.int .i64 y.result.kind,.int .i64 y.result.n,.string y.result.name,.slice xa ne xc] 132);have c0:=(aj hbn 0).trans (rfl:_=some (Value.string y.name));have c1:=(aj hbn 1).trans (rfl:_=some (Value.slice ap np cp));obtain⟨a4,c4,rfl⟩:=hown.form;obtain⟨l4,hl4⟩:=aG ((F++(aR.take s).flatMap λf=>ru f.name f.params).length);rw[<-hl4]at Ir ⊢;clear hy hown hnx hl4 hb hx hbn;go_wp2_with fail;refine(lK _ _ y.params y.name (xQ.below (up pX dw)) (by have:=mU.out;omega)).mono ?_;rintro e w5 ⟨u5,rfl,TT,hb5⟩;have HU5:=hide TT;have dB:=hide (up dw hb5);clear TT hb5
       go_wp2_with (first
        | (at_builtin;refine bW (At:=lY) rfl _ _ 37 43 3 40 _ rfl underlying37 kL (by decide) (by decide) (by decide) w.heap.size _ _ rfl (Ir.below dB) _ _ _ rfl HU5 mU (up pX dB).size ?_;intro v6 w6 hown6 dI;have pY:=hide hown6;have iM:=hide (eD (up pX dB) dI (λj hj=>(Ir.lt j hj).1));clear hown6 dI)
        | fail)
       go_roundw;case rel=>exact⟨s+1,by omega,by go_num,by rw[HST,<-bE];exact pY,iM⟩
       case measure=>simp[intOf];omega
      ·have jF:(aR.take s)=aR:=eP (by have:=og.out;omega);rw[jF,<-KX]at Ir hown;obtain⟨a4,c4,rfl⟩:=hown.form;generalize R.length=nr at *;clear hown hnx jF;go_wp2_with fail;go_ret;exact⟨_,rfl,Ir,pX⟩
namespace aI
def cs(s t:ByteArray):Int:=if Op.bytesLess s.toList t.toList=true then -1 else if (s.toList==t.toList)=true then 0 else 1
def ci(a b:Int):Int:=if a<b then -1 else if a=b then 0 else 1
def or3(a b c:Int):Int:=if a≠0 then a else if b≠0 then b else c
def Ot(x y:Dg):Int:=or3 (cs x.fn y.fn) (ci x.code y.code) (cs x.name y.name)
theorem Yk(s t:ByteArray):cs s t<0↔Op.bytesLess s.toList t.toList=true:=by
 unfold cs;split;·rename_i h;simp[h]
 ·rename_i h;split<;>simp[h]
theorem TU(s t:ByteArray):cs s t=0↔s=t:=by
 unfold cs;split
 ·rename_i h;constructor;·intro h';simp at h'
  ·rintro rfl;rw[Ca]at h;simp at h
 ·split;·rename_i h;rw[beq_iff_eq]at h;simp[toList_inj h]
  ·rename_i h;constructor;·intro h';simp at h'
   ·rintro rfl;simp at h
theorem ci_neg(a b:Int):ci a b<0↔a<b:=by
 unfold ci;split;·rename_i h;simp[h]
 ·rename_i h;split<;>simp[h]
theorem TV(a b:Int):ci a b=0↔a=b:=by
 unfold ci;split
 ·constructor;·intro h';simp at h'
  ·intro h;omega
 ·split;·rename_i h;simp[h]
  ·rename_i h;simp[h]
theorem QX(x y:Dg):decide (Ot x y<0)=dV x y:=by
 rw[rD,decide_eq_true_iff,tF];unfold Ot or3;by_cases h1:cs x.fn y.fn=0
 ·rw[if_neg (by simp[h1])];have e1:=(TU _ _).1 h1;by_cases h2:ci x.code y.code=0;·rw[if_neg (by simp[h2]),Yk];have e2:=(TV _ _).1 h2;rw[e1,Ca];simp[e2]
  ·rw[if_pos h2,ci_neg];have e2:¬x.code=y.code:=λh=>h2 ((TV _ _).2 h);rw[e1,Ca];simp[e2]
 ·rw[if_pos h1,Yk];have e1:¬x.fn=y.fn:=λh=>h1 ((TU _ _).2 h);simp[e1]
end aI
theorem Yl(w:World)(s t:ByteArray):Calls prog 231 #[.string s,.string t] w λe w'=>e=.returned (.int .i64 (aI.cs s t))/\w'=w:=by
 have HE:Hid (aI.cs s t=if Op.bytesLess s.toList t.toList=true then -1 else if (s.toList==t.toList)=true then 0 else 1):=rfl;cases h1:Op.bytesLess s.toList t.toList
 ·rw[if_neg (by rw[h1];simp)]at HE;cases h2:(s.toList==t.toList);·rw[if_neg (by rw[h2];simp)]at HE;go_enter func231,ntmps231;go_wp2;go_ret;exact⟨by rw[HE];rfl,rfl⟩
  ·rw[if_pos h2]at HE;go_enter func231,ntmps231;go_wp2;go_ret;exact⟨by rw[HE];rfl,rfl⟩
 ·rw[if_pos h1]at HE;go_enter func231,ntmps231;go_wp2;go_ret;exact⟨by rw[HE];rfl,rfl⟩
theorem Ym(w:World)(s t:Int):Calls prog 232 #[.int .i64 s,.int .i64 t] w λe w'=>e=.returned (.int .i64 (aI.ci s t))/\w'=w:=by
 have HE:Hid (aI.ci s t=if s<t then -1 else if s=t then 0 else 1):=rfl;by_cases h1:s<t;·rw[if_pos h1]at HE;go_enter func232,ntmps232;go_wp2;go_ret;exact⟨by rw[HE];rfl,rfl⟩
 ·rw[if_neg h1]at HE;by_cases h2:s=t;·rw[if_pos h2]at HE;subst h2;go_enter func232,ntmps232;go_wp2;go_ret;exact⟨by rw[HE];rfl,rfl⟩
  ·rw[if_neg h2]at HE;have h3:t<s:=by omega
   go_enter func232,ntmps232;go_wp2;go_ret;exact⟨by rw[HE];rfl,rfl⟩
theorem or3_any(w:World)(B:Nat)(a b c:Int)(h0:w.cell? ⟨B,0,none⟩=some (.int .i64 a))(h1:w.cell? ⟨B,1,none⟩=some (.int .i64 b))(h2:w.cell? ⟨B,2,none⟩=some (.int .i64 c)):Calls prog 230 #[.slice (some ⟨B,0,none⟩) 3 3] w λe w'=>e=.returned (.int .i64 (or3 a b c))/\w'=w:=by
 have HE:Hid (or3 a b c=if a≠0 then a else if b≠0 then b else c):=rfl;obtain⟨R,hR⟩:=aG (or3 a b c);rw[<-hR]at HE ⊢;have HC:Hid (∀j:Nat,j<3->w.cell? ⟨B,j,none⟩=some (.int .i64 ([a,b,c].getD j 0))):=hide (λj hj=>by
  match j,hj with
  | 0,_=>exact h0
  | 1,_=>exact h1
  | 2,_=>exact h2)
 clear h0 h1 h2 hR;go_enter func230,ntmps230;go_wp2_with fail;go_loop [5,8] (λ_ i=>∃j:Nat,j<=3/\i=.int .i64 j/\∀k,k<j->[a,b,c].getD k 0=0) (λ_ i=>3 - (intOf i).toNat);case atStart=>exact⟨0,bJ _,rfl,λk hk=>absurd hk (dY _)⟩
 case round=>
  obtain⟨j,hj,rfl,hall⟩:=hrel;have HA:=hide hall;clear hall;by_cases hjl:j<3
  ·have c0:=HC j hjl;obtain⟨z,hz⟩:=aG ([a,b,c].getD j 0);have HZ:=hide hz;rw[<-hz]at c0;clear hz;by_cases hz0:z=0
   ·have hz1:(z==0)=true:=by simp[hz0]
    have HZ0:=hide hz0;clear hz0;go_wp2;go_round;case rel=>exact⟨j+1,by omega,by go_num,λk hk=>by
     by_cases e:k=j;·subst e;rw[<-HZ];exact HZ0
     ·exact HA k (by omega)⟩
    case measure=>simp[intOf];omega
   ·have hz1:(z==0)=false:=by simp[hz0]
    have HZ0:=hide hz0;clear hz0;go_wp2;go_ret;refine⟨?_,rfl⟩;have hRz:R=z:=by
     rw[HE];have h1:=HZ.out;have h2:=HA.out;have h3:=HZ0.out;match j,hjl with
     | 0,_=>simp at h1;subst h1;rw[if_pos h3]
     | 1,_=>simp at h1;have h4:=h2 0 (by decide);simp at h4;subst h1;rw[if_neg (by simp[h4]),if_pos h3]
     | 2,_=>simp at h1;have h4:=h2 0 (by decide);have h5:=h2 1 (by decide);simp at h4 h5;subst h1;rw[if_neg (by simp[h4]),if_neg (by simp[h5])]
    rw[hRz];rfl
  ·have hj3:j=3:=by omega
   have HRZ:Hid (R=0):=hide (by rw[HE];have h4:=HA 0 (by omega);have h5:=HA 1 (by omega);have h6:=HA 2 (by omega);simp at h4 h5 h6;rw[if_neg (by simp[h4]),if_neg (by simp[h5])];exact h6);clear hj3;go_wp2;go_ret;exact⟨by rw[HRZ];rfl,rfl⟩
def Cw(w w':World):Prop:=∃q os,w'=Sort.grow (w.drewN q) os
theorem Cw.refl(w:World):Cw w w:=⟨0,#[],by simp[Sort.grow,World.drewN]⟩
theorem Cw.drew{w w':World}(h:Cw w w'):Cw w w'.drew:=by obtain⟨q,os,rfl⟩:=h;exact⟨q+1,os,rfl⟩
theorem Cw.alloc{w w':World}(h:Cw w w')(o:Obj):Cw w (w'.alloc o):=by obtain⟨q,os,rfl⟩:=h;refine⟨q,os.push o,?_⟩;simp[Sort.grow,World.alloc,World.drewN]
theorem Cw.below{w w':World}(h:Cw w w'):Below w.heap.size w w':=by obtain⟨q,os,rfl⟩:=h;exact⟨rfl,rfl,rfl,by simp[Sort.grow,World.drewN],λk hk=>by simp[Sort.grow,World.drewN,Array.getElem?_append,hk]⟩
theorem Cw.trans{a b c:World}(h:Cw a b)(k:Cw b c):Cw a c:=by obtain⟨q,os,rfl⟩:=h;obtain⟨q',os',rfl⟩:=k;exact⟨q+q',os++os',by simp[Sort.grow,World.drewN,Nat.add_assoc]⟩
theorem Gs{W0 x:World}{o:Obj}(h:Hid (Cw W0 x)):Hid (Cw W0 (x.alloc o)):=hide (h.alloc o)
theorem JH{W0 x:World}(h:Hid (Cw W0 x)):Hid (Cw W0 x.drew):=hide h.drew
theorem box3v(w:World)(c0 c1 c2:Value)(t:TypeId)(i:Nat)(v:Value)(h:(#[c0,c1,c2]:Array Value)[i]?=some v):(w.alloc (.cells #[c0,c1,c2] t)).cell? ⟨w.heap.size,i,none⟩=some v:=
 (aj (aJ w (.cells #[c0,c1,c2] t)) i).trans h
theorem Yn(w:World)(c0 c1 c2:Value)(t:TypeId)(i:Nat)(v:Value)(h:(#[c0,c1,c2]:Array Value)[i]?=some v):(w.alloc (.cells #[c0,c1,c2] t)).drew.cell? ⟨w.heap.size,i,none⟩=some v:=box3v w c0 c1 c2 t i v h
theorem Cx(w:World)(x y:Dg):Calls prog 164 #[.agg #[.int .i64 x.code,.string x.fn,.string x.name],.agg #[.int .i64 y.code,.string y.fn,.string y.name]] w λe w'=>e=.returned (.int .i64 (Ot x y))/\Cw w w':=by
 have Jl:Hid (∀w s t,Calls prog 231 #[.string s,.string t] w λe w'=>e=.returned (.int .i64 (aI.cs s t))/\w'=w):=hide Yl;have Qj:Hid (∀w s t,Calls prog 232 #[.int .i64 s,.int .i64 t] w λe w'=>e=.returned (.int .i64 (aI.ci s t))/\w'=w):=hide Ym;have HC4:Hid (∀w (B:Nat),w.cell? ⟨B,0,none⟩=some (.int .i64 (aI.cs x.fn y.fn))->w.cell? ⟨B,1,none⟩=some (.int .i64 (aI.ci x.code y.code))->w.cell? ⟨B,2,none⟩=some (.int .i64 (aI.cs x.name y.name))->Calls prog 230 #[.slice (some ⟨B,0,none⟩) 3 3] w λe w'=>e=.returned (.int .i64 (Ot x y))/\w'=w):=hide (λw B h0 h1 h2=>or3_any w B _ _ _ h0 h1 h2);obtain⟨R,hR⟩:=aG (Ot x y);rw[<-hR]at HC4 ⊢;clear hR;obtain⟨cx,fx,nx⟩:=x;obtain⟨cy,fy,ny⟩:=y;simp only at HC4 ⊢;obtain⟨b0,b1,hb0⟩:=al2 w (.cells #[.int .i64 cx,.string fx,.string nx] 43) (.cells #[.int .i64 cy,.string fy,.string ny] 43);have HG0:Hid (Cw w ((w.alloc (.cells #[.int .i64 cx,.string fx,.string nx] 43)).alloc (.cells #[.int .i64 cy,.string fy,.string ny] 43))):=hide (((Cw.refl w).alloc _).alloc _);have HF:Hid (∀wx,Hid (Cw ((w.alloc (.cells #[.int .i64 cx,.string fx,.string nx] 43)).alloc (.cells #[.int .i64 cy,.string fy,.string ny] 43)) wx)->Hid (Cw ((w.alloc (.cells #[.int .i64 cx,.string fx,.string nx] 43)).alloc (.cells #[.int .i64 cy,.string fy,.string ny] 43)) wx)/\wx.cell? ⟨w.heap.size,0,none⟩=some (.int .i64 cx)/\wx.cell? ⟨w.heap.size,1,none⟩=some (.string fx)/\wx.cell? ⟨w.heap.size,2,none⟩=some (.string nx)/\wx.cell? ⟨w.heap.size+1,0,none⟩=some (.int .i64 cy)/\wx.cell? ⟨w.heap.size+1,1,none⟩=some (.string fy)/\wx.cell? ⟨w.heap.size+1,2,none⟩=some (.string ny)):=hide (λwx h =>⟨h,aA ((aj b0 0).trans rfl) h.below,aA ((aj b0 1).trans rfl) h.below,aA ((aj b0 2).trans rfl) h.below,aA ((aj b1 0).trans rfl) h.below,aA ((aj b1 1).trans rfl) h.below,aA ((aj b1 2).trans rfl) h.below⟩);clear b0 b1 hb0;go_enter func164,ntmps164;go_wp2_with fail;generalize ((w.alloc (.cells #[.int .i64 cx,.string fx,.string nx] 43)).alloc (.cells #[.int .i64 cy,.string fy,.string ny] 43))=W0 at *;have xP:Hid (Cw W0 W0):=hide (Cw.refl _)
 go_region_held3 (λwx=>Hid (Cw W0 wx)/\wx.cell? ⟨w.heap.size,0,none⟩=some (.int .i64 cx)/\wx.cell? ⟨w.heap.size,1,none⟩=some (.string fx)/\wx.cell? ⟨w.heap.size,2,none⟩=some (.string nx)/\
  wx.cell? ⟨w.heap.size+1,0,none⟩=some (.int .i64 cy)/\wx.cell? ⟨w.heap.size+1,1,none⟩=some (.string fy)/\wx.cell? ⟨w.heap.size+1,2,none⟩=some (.string ny))
  ((refine HF _ ?_;repeat(first|exact WH|exact xP|apply JH|apply Gs)))
  (first
   | (go_at_call 230;refine(HC4 _ _ (Yn _ _ _ _ _ 0 _ rfl) (Yn _ _ _ _ _ 1 _ rfl) (Yn _ _ _ _ _ 2 _ rfl)).mono ?_;rintro e w4 ⟨rfl,hw4⟩;have WH:Hid (Cw W0 w4):=(by subst hw4;repeat(first|exact xP|apply JH|apply Gs));clear hw4)
   | (go_at_call 232;refine(Qj _ _ _).mono ?_;rintro e w2 ⟨rfl,rfl⟩)
   | (go_at_call 231;refine(Jl _ _ _).mono ?_;rintro e w2 ⟨rfl,rfl⟩))
 all_goals go_wp2_with fail;go_ret;exact⟨rfl,HG0.trans WH⟩
open Go.Shelf
def lM(w:World)(g:Nat)(l:List Dg):Prop:=
 ∃cur,w.heap[g]?=some (.cells cur 43 (0,0))/\l.length*3<=cur.size/\∀i d,l[i]?=some d->cur[i*3]?=some (.int .i64 d.code)/\cur[i*3+1]?=some (.string d.fn)/\cur[i*3+2]?=some (.string d.name)
def Ou(d:Dg):List Value:=[.int .i64 d.code,.string d.fn,.string d.name]
instance:Inhabited Dg:=⟨⟨0,⟨#[]⟩,⟨#[]⟩⟩⟩
theorem tL(x y:Dg):ltOf Ot x y=dV x y:=QX x y
theorem swoD:Sort.SWO (ltOf Ot) where
 irrefl x:=by rw[tL];exact tH x
 trans x y z h1 h2:=by
  rw[tL]at *
  exact oC h1 h2
 ntrans x y z h1 h2:=by
  rw[tL]at *
  cases h:dV x z with
  | false=>rfl
  | true=>
   cases hy:dV y x with
   | true=>rw[oC hy h]at h2;cases h2
   | false=>rw[yu h1 hy,h2]at h;cases h
theorem Ov (d : Dg) : (Ou d)[0]! = .int .i64 d.code ∧ (Ou d)[1]! = .string d.fn ∧ (Ou d)[2]! = .string d.name := ⟨rfl, rfl, rfl⟩
theorem lM.cell{w:World}{g:Nat}{l:List Dg}(h:lM w g l){i:Nat}{d:Dg}(hd:l[i]?=some d):w.cell? ⟨g,i*3,none⟩=some (.int .i64 d.code)/\w.cell? ⟨g,i*3+1,none⟩=some (.string d.fn)/\w.cell? ⟨g,i*3+2,none⟩=some (.string d.name):=by obtain⟨cur,hc,_,hel⟩:=h;obtain⟨h0,h1,h2⟩:=hel i d hd;exact⟨(aj hc _).trans h0,(aj hc _).trans h1,(aj hc _).trans h2⟩
theorem lM.holds {w : World} {g : Nat} {l : List Dg} (h : lM w g l) : Sort.HoldsK Ou 3 w g 0 l.toArray := by
 obtain ⟨cur, hc, hsz, hel⟩ := h
 intro j hj
 rw [Sort.size_flatK] at hj
 have hjl : j < l.length * 3 := by simpa using hj
 refine ⟨?_, aD hc _⟩
 rw [Nat.zero_add, aj hc, Sort.get_flatK _ _ _ _ hj]
 have hi : j / 3 < l.length := by omega
 have hl : l[j / 3]? = some l[j / 3] := List.getElem?_eq_getElem hi
 have e : (l.toArray)[j / 3]! = l[j / 3] := by simp [hi]
 rw [e]
 obtain ⟨h0, h1, h2⟩ := hel _ _ hl
 obtain ⟨k0, k1, k2⟩ := Ov l[j / 3]
 have hm : j % 3 = 0 ∨ j % 3 = 1 ∨ j % 3 = 2 := by omega
 rcases hm with hm | hm | hm
 ·rw [hm, k0]; rw [show j / 3 * 3 = j by omega] at h0; exact h0
 ·rw [hm, k1]; rw [show j / 3 * 3 + 1 = j by omega] at h1; exact h1
 ·rw [hm, k2]; rw [show j / 3 * 3 + 2 = j by omega] at h2; exact h2
theorem lM.Yo {w : World} {g : Nat} {d : Array Dg} {cur : Array Value} (hc : w.heap[g]? = some (.cells cur 43 (0, 0))) (hsz : d.size * 3 ≤ cur.size) (h : Sort.HoldsK Ou 3 w g 0 d) : lM w g d.toList := by
 refine ⟨cur, hc, by simpa using hsz, fun i x hx => ?_⟩
 have hi : i < d.size := by simpa using (List.getElem?_eq_some_iff.1 hx).1
 have e : d[i]! = x := by
  have := (List.getElem?_eq_some_iff.1 hx).2
  simp at this
  simp [hi, this]
 have k0 := (h.cell (c := 0) hi (by decide)).1
 have k1 := (h.cell (c := 1) hi (by decide)).1
 have k2 := (h.cell (c := 2) hi (by decide)).1
 rw [e, aj hc] at k0 k1 k2
 obtain ⟨j0, j1, j2⟩ := Ov x
 rw [j0] at k0
 rw [j1] at k1
 rw [j2] at k2
 refine ⟨?_, ?_, ?_⟩
 ·simpa using k0
 ·simpa using k1
 ·simpa using k2
theorem Vg (w : World) (n g len cap : Nat) (l : List Dg) (h : lM w g l) (hlen : len = l.length) (hn : n ≤ g) (hl : l.length ≤ 16777216) :
  Calls prog 163 #[.slice (some ⟨g, 0, none⟩) len cap, .func (.func 164) #[] #[]] w fun e w' => e = .returned (.tuple #[]) ∧ ∃ l', l'.length = l.length ∧ (∀ x, x ∈ l' ↔ x ∈ l) ∧ (l'.Pairwise fun a b => dV b a = false) ∧ lM w' g l' ∧ Below n w w' := by
 subst hlen
 have h0 := h
 obtain ⟨cur, hc, hsz, hel⟩ := h
 have hcon := AnyQ.slices_SortFunc Tryz.lSoDg 3 Tryz.isAgg43 Tryz.sizeOf43 Ou (fun _ => rfl) (fun x v hv => by simp [Ou] at hv; rcases hv with rfl | rfl | rfl <;> rfl) Ot swoD 164 #[] g 0 cap l.toArray w
  (enters_of func164 (by kernel_rfl) rfl) (fun m os dk _ x y => Cx _ x y) h0.holds (block_lt hc) (by simp; omega)
 refine Calls.mono (show Calls prog 163 #[.slice (some ⟨g, 0, none⟩) l.length cap, .func (.func 164) #[] #[]] w _ from hcon) ?_
 rintro e w' ⟨he, d', k, os, hp, hs, hw⟩
 refine ⟨he, d'.toList, ?_, ?_, ?_, ?_, ?_⟩
 ·simpa using hp.1
 ·intro x
  have h1 := hp.2.2.mem_iff (a := x)
  have e1 : d'.extract 0 l.toArray.size = d' := by
   have : l.toArray.size = d'.size := hp.1.symm
   rw [this]; simp
  rw [e1] at h1
  simpa using h1
 ·rw [List.pairwise_iff_getElem]
  intro i j hi hj hij
  have hsd : d'.size = l.toArray.size := hp.1
  have h1 := hs i j (Nat.zero_le _) hij (by rw [← hsd]; simpa using hj)
  rw [tL] at h1
  have ei : d'[i]! = d'.toList[i] := by simp at hi; simp [hi]
  have ej : d'[j]! = d'.toList[j] := by simp at hj; simp [hj]
  rw [ei, ej] at h1
  exact h1
 ·have hblk : w'.heap[g]? = some (.cells (Sort.putCells id 0 (Sort.flatK Ou 3 d') cur) 43 (0, 0)) := by
   rw [hw]
   have hg := block_lt hc
   simp only [sortWorldK, Sort.grow, Sort.putRowK, Sort.putRow, Sort.mapBlock, Sort.ahead]
   rw [Array.getElem?_append_left (by simpa using hg)]
   simp [Array.getElem?_modify, hc, Sort.onCells]
  refine lM.Yo hblk ?_ ?_
  ·have : d'.size = l.toArray.size := hp.1
   simp only [Sort.putCells, Array.size_mapIdx]
   rw [this]; simpa using hsz
  ·rw [hw]
   exact holdsK_sortWorldK_c _ _ _ _ _ l.toArray d' k os h0.holds (block_lt hc) hp.1
 ·rw [hw]
  refine ⟨rfl, rfl, rfl, size_sortWorldK_c _ _ _ _ _ _ _ _, fun j hj => ?_⟩
  have hg := block_lt hc
  simp only [sortWorldK, Sort.grow, Sort.putRowK, Sort.putRow, Sort.mapBlock, Sort.ahead]
  rw [Array.getElem?_append_left (by simp; omega)]
  simp [Array.getElem?_modify]
  intro e'; omega
theorem QY(w:World)(p:Option Addr)(cap:Nat):Calls prog 163 #[.slice p 0 cap,.func (.func 164) #[] #[]] w λe w'=>e=.returned (.tuple #[])/\w'=w:=
 AnyF.slices_SortFunc_none { Tryz.lSoDg with } p cap _ w
namespace aI
def nW(acc:List Dg)(x:Dg):List Dg:=match acc.getLast? with
 | some y=>if mV x y then acc else acc++[x]
 | none=>acc++[x]
def zF(l:List Dg):List Dg:=l.foldl nW []
theorem QZ(acc:List Dg)(x:Dg):(nW acc x).getLast?=some x:=by
 unfold nW;split
 ·rename_i y h;split;·rename_i hs;rw[rH]at hs;subst hs;exact h
  ·simp
 ·simp
theorem Yp(l:List Dg)(x:Dg):zF (l++[x])=nW (zF l) x:=by unfold zF;simp
theorem Gu{l:List Dg}{j:Nat}{x:Dg}(h:l[j]?=some x):zF (l.take (j+1))=nW (zF (l.take j)) x:=by rw[iY,h];exact Yp _ _
theorem Yq{l:List Dg}{j:Nat}{x:Dg}(h:l[j]?=some x):(zF (l.take (j+1))).getLast?=some x:=by rw[Gu h];exact QZ _ _
theorem Gv{l:List Dg}{j:Nat}{x y:Dg}(h:l[j]?=some y)(h':l[j+1]?=some x):zF (l.take (j+1+1))=if mV x y then zF (l.take (j+1))else zF (l.take (j+1))++[x]:=by rw[Gu h'];have:=Yq h;unfold nW;rw[this]
theorem cpt_len(l:List Dg):(zF l).length<=l.length:=by
 have h:∀(l acc:List Dg),(l.foldl nW acc).length<=acc.length+l.length:=by
  intro l;induction l with
  | nil=>intro acc;simp
  | cons x r ih=>
   intro acc;have h1:=ih (nW acc x);have h2:(nW acc x).length<=acc.length+1:=by
    unfold nW;split;·split<;>simp
    ·simp
   simp only[pG,xJ];omega
 simpa[zF]using h l []
theorem Vh{l acc:List Dg}(h:Asc acc)(hs:l.Pairwise λa b=>dV b a=false)(hc:∀a∈acc,∀y∈l,dV y a=false):Asc (l.foldl nW acc)/\∀x,x∈l.foldl nW acc↔x∈acc\/x∈l:=by
 induction l generalizing acc with
 | nil=>exact⟨h,λx=>by simp⟩
 | cons y r ih=>
  obtain⟨h1,h2⟩:=xO.1 hs;have hstep:Asc (nW acc y)/\(∀x,x∈nW acc y↔x∈acc\/x=y):=by
   unfold nW;split
   ·rename_i z hz;split;·rename_i hsm;rw[rH]at hsm;subst hsm;have hm:y∈acc:=Gw hz;exact⟨h,λx=>⟨Or.inl,λhx=>hx.elim id (λe=>e ▸ hm)⟩⟩
    ·rename_i hsm;refine⟨Cy.2 ⟨h,by simp,λa ha b hb=>?_⟩,λx=>by simp⟩;rw[iy]at hb;subst hb;have hya:=hc a ha b (by simp);cases hab:dV a b with
     | true=>rfl
     | false=>
      exfalso;have e:=yu hab hya;subst e;have hzm:z∈acc:=Gw hz;have hne:a≠z:=λe=>hsm (rH.2 e);obtain⟨pre,hpre⟩:∃pre,acc=pre++[z]:=by rw[List.getLast?_eq_some_iff]at hz;exact hz
      rw[hpre]at h ha;rcases cK.1 ha with hp|hp;·have:=(Cy.1 h).2.2 a hp z (by simp);rw[hc z hzm a (by simp)]at this;cases this
      ·rw[iy]at hp;exact hne hp
   ·rename_i hz;have:acc=[]:=by simpa using hz
    subst this;exact⟨by simp[Asc],λx=>by simp⟩
  obtain⟨k1,k2⟩:=ih hstep.1 h2 (λa ha b hb=>by
   rcases(hstep.2 a).1 ha with ha|rfl;·exact hc a ha b (NY _ hb)
   ·exact h1 b hb)
  refine⟨k1,λx=>?_⟩;rw[pG,k2 x,hstep.2 x,eY,or_assoc]
theorem Yr{l l' s:List Dg}(hs:s.Pairwise λa b=>dV b a=false)(hp:∀x,x∈s↔x∈l')(hm:∀x,x∈l'↔x∈l):zF s=once l:=by obtain⟨h1,h2⟩:=Vh (l:=s) (acc:=[]) List.Pairwise.nil hs (λa ha=>absurd ha (by simp));refine yw h1 (FZ l) λx=>?_;rw[zF,h2,zV];simp[hp,hm]
end aI
theorem lM.drew{w:World}{g n:Nat}{l:List Dg}(h:lM w g l):lM (w.drewN n) g l:=h
theorem lM.set{w:World}{g k:Nat}{l:List Dg}(h:lM w g l)(hk:k<l.length)(d:Dg):lM (((w.setCell ⟨g,k*3,none⟩ (.int .i64 d.code)).setCell ⟨g,k*3+1,none⟩ (.string d.fn)).setCell ⟨g,k*3+2,none⟩ (.string d.name)) g (l.set k d):=by
 obtain⟨cur,hc,hs,hel⟩:=h;have h0:=aQ hc (k*3) (.int .i64 d.code);have h1:=aQ h0 (k*3+1) (.string d.fn);have h2:=aQ h1 (k*3+2) (.string d.name);refine⟨_,h2,by simpa using hs,λi x hx=>?_⟩;rw[List.getElem?_set]at hx;by_cases e:k=i
 ·subst e;simp[hk]at hx;subst hx;refine⟨?_,?_,?_⟩;·simp[Ow];omega
  ·simp[Ow];omega
  ·simp[Ow];omega
 ·rw[if_neg e]at hx;obtain⟨a0,a1,a2⟩:=hel i x hx;refine⟨?_,?_,?_⟩;·rw[vP (by omega),vP (by omega),vP (by omega)];exact a0
  ·rw[vP (by omega),vP (by omega),vP (by omega)];exact a1
  ·rw[vP (by omega),vP (by omega),vP (by omega)];exact a2
end Go.Proofs.YtfnboapebijcpaaGreatDoor
