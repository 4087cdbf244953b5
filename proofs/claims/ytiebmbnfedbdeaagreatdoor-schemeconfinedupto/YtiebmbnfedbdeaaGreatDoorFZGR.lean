import Derived.Test.YtiebmbnfedbdeaaGreatDoorFZGF
set_option maxHeartbeats 0
set_option maxRecDepth 99999
namespace Go.Proofs.YtiebmbnfedbdeaaGreatDoor
open Ck bS Rn
open Go.Proofs.Tryz
open Go.RowKit Go.Maps Go.WideMaps
def auo(ss:List aS)(Z:Nat->Nat->Bool)(l:List Mo)(y:Sc)(R:Rn.Fx):Prop:=(R.err=0\/R.err=6)/\(∀p∈R.pr,0<=dU ss p.1/\dU ss p.1<ss.length/\Z y.pc.toNat (dU ss p.1).toNat=true)/\
 (∀z∈R.TB,Rn.tag 119 (z.mod,z.name)∈R.did->∃s,Lw.lv l z.mod z.name=some s/\0<=dU ss s/\dU ss s<ss.length/\Z y.pc.toNat (dU ss s).toNat=true)/\∀c∈R.TB,c.mod.size<=8/\c.name.size<=8
theorem Rn.aud{g m:Nat}{l:List Mo}{mod b:aS}{args:List Int}{store:List Ce}{f:Int}{c:Ce}(a:c∈(Rn.run g m l mod b args store f).TB):c.mod.size<=8/\c.name.size<=8:=by
 unfold Rn.run at a;split at a;·cases a
 ·rename_i d;split at a;·cases a
  ·split at a;·cases a
   ·unfold Rn.out at a;split at a;·obtain⟨i,e⟩:=ah7<|Decidable.of_not_not d;have a:c∈Rn.TB _ _:=a;unfold Rn.TB at a;obtain⟨⟨j,u⟩,h,rfl⟩:=iZ.1 a;exact ajD e (List.of_mem_zip h).1
    ·cases a
theorem atP(m:Nat)(w:bI)(vn vl vk va vs:aC)(ss:aJ)(G:Nat)(L:Nat->Nat)(Z:aL)(l:List Mo)(name:aS)(k:Int)(args:List Int)(store:List Ce)(hS:Strs w vn ss)(hR:EX w vl G L Z)(e:xQ w m vk l)(a8:∀x∈l,xH m x<=1048576)(hA:Ints w va args)(br:∀x∈args,mq x)(bq:uL va)(bw:yI w vs store)(ht:Tab w)(D:Qo w)(hn:name.size<=maxLen):aD 3 #[.agg #[vn,vl],vk,A name,O k,va,vs] w λf w'=>f=dz (.bool true)/\bK w w':=by
 obtain⟨C,au⟩:∃C,C=Ck.an ⟨m,ss,G,L,Z,l⟩ name:=⟨_,rfl⟩;obtain⟨g,hg⟩:∃g,g=10000*(m+2)+m:=⟨_,rfl⟩;have cr:=Y (λwx (h:bK w wx)=>acu wx (ht.below h)<|D.below h);have ct:J (∀wx,bK w wx->aD 6 #[.agg #[vn,vl],vk,A name] wx λf w'=>∃v,f=dz v/\J (MJ wx w' C v)):=Y (λwx h=>by rw[au];exact agV m wx vn vl vk ss G L Z l name (hS.below h) (hR.below h) (e.below h) a8 (ht.below h) hn);have S9:J (∀(y:Sc) (r:Nat),C.2.2=0->C.2.1=[]->C.1[r]?=some y->y.bounds.length<=args.length->dD ss G L Z=0/\(0<=y.pc/\y.pc<ss.length)/\auo ss Z l y (Rn.run g m l name y.fn (args.take y.bounds.length) store 1000)):=Y (λy r Q h1 U h=>by rw[au]at Q h1 U;have t:=ajl Q h1 U (args:=args.take y.bounds.length) (by rw[iA];omega) g store (fuel:=1000) bC;have h2:=aun Q h1 U;exact⟨h2.1,h2.2,t.1,t.2.2.1,t.2.2.2,λc hc=>aud hc⟩);obtain⟨aa,ba,oa,ca,ea,b6⟩:=hA;have bx:=bq _ _ _ ea;have bm:J (∀(y:Sc) (n:Nat) wx,n<=args.length->bK w wx->aD 8 #[vk,A name,A y.fn,X aa n ca,vs,O 1000] wx λf w'=>∃v1 v2 v3,f=dz (.tuple #[.agg #[O (Rn.run g m l name y.fn (args.take n) store 1000).res,v1,v2,v3],O (Rn.run g m l name y.fn (args.take n) store 1000).err])/\J (qN w' (Rn.run g m l name y.fn (args.take n) store 1000) v1 v2 v3/\bK wx w')):=Y (λy n wx cz h =>ai7 m wx vk _ vs l name y.fn (args.take n) store 1000 (e.mos.below h) a8 ((e.below h).caps) (Ints.apD (Ints.below ⟨aa,ba,oa,ca,rfl,b6⟩ h) cz) (λx hx=>br x<|N8 hx) (bw.below h) (ht.below h) g bC);obtain⟨gI,cj,ch⟩:=fE hS hR e.mos;obtain⟨a0,c0,e0⟩:=jc hS;obtain⟨a1,b1,o1,c1,lA,cS,cT,lC,e1,-⟩:=hR;obtain⟨a5,b5,f5,c5,e5,-⟩:=e;obtain⟨cI,_,_,cL,es,-⟩:=bw;obtain⟨n0,aE⟩:∃n,n=ss.length:=⟨_,rfl⟩;rw[<-aE]at e0;generalize l.length=n5 at e5;generalize store.length=cU at es;obtain⟨na,bS⟩:∃n,n=args.length:=⟨_,rfl⟩;rw[<-bS]at ea bx bm S9;subst e0 e1 e5 ea es;clear a8 ht hn D br bq b6 bS hg au aE hS;obtain⟨iO,lH⟩:=Z6 w<|aY #[X a0 n0 c0,X a1 G c1] 25;obtain⟨LB,bu⟩:∃B,B=w.heap.size:=⟨_,rfl⟩;go_enter func3,ntmps3;go_upto_region 1 with fail;rw[<-bu]at lH ⊢;generalize w.alloc (aY #[X a0 n0 c0,X a1 G c1] 25)=W at *;clear bu;go_wp2_with fail;refine(cr.out W iO.out).mono ?_;rintro f w1 ⟨rfl,aw⟩;obtain⟨be,jG⟩:=bV (up iO.out aw)<|bH lH.out aw;clear aw;obtain⟨x0,x1⟩:=jv jG.out;go_wp2_with fail;refine(ct.out w1 be.out).mono ?_;rintro f w2 ⟨v,rfl,WL⟩;obtain⟨S,cG,b2,ax⟩:=WL.out;obtain⟨cn,bf,IJ⟩:=fE b2 (up be.out ax)<|bH jG.out ax;obtain⟨sa,sb,so,sc,rfl,a7,WM,b8⟩:=cG;obtain⟨ns,a6⟩:∃n,n=S.length:=⟨_,rfl⟩;rw[<-a6]at a7 WM ⊢;obtain⟨cp,cu,D8⟩:=fE a7 b8 a6;clear WL b2 ax x0 x1 a7 b8 a6;by_cases I:ns=0;·subst I;go_wp2;go_ret;exact⟨rfl,bf.out⟩
 ·have am:0<ns:=by omega
  obtain rfl:=cp.out am;have VX:J (S=C.1/\C.2.2=0/\C.2.1=[]):=Y (cn.out.elim (λt=>aM (by rw[D8.out,t];rfl) I) id);have cF:((ns:Int)==0)=false:=by simp;omega
  obtain⟨r,hr⟩:∃r:Nat,r=Hy k ns:=⟨_,rfl⟩;have Mc:J (aD 7 #[O k,O ns] w2 λf w'=>f=dz (O (r:Nat))/\w'=w2):=Y (by rw[hr];exact acv w2 k ns am WM);have b7:r<ns:=by rw[hr];exact agU am
  obtain⟨y,U⟩:∃y,S[r]?=some y:=⟨_,aZ (by rw[<-D8.out];exact b7)⟩;obtain⟨vb,ve,g0,g1,g2,g3,g4,g5,bA,az⟩:=cu.out r y U;have cd:=Y az;have HY:J (C.1[r]?=some y):=Y (by rw[<-VX.out.1];exact U);obtain⟨eb,ec,rfl⟩:=jc az;obtain⟨bb,bc,rfl⟩:=bA.Hr;obtain⟨bn,al⟩:∃n,n=y.bounds.length:=⟨_,rfl⟩;have co:J (bn<=na->dD ss G L Z=0/\(0<=y.pc/\y.pc<ss.length)/\auo ss Z l y (Rn.run g m l name y.fn (args.take bn) store 1000)):=Y (λt=>by have h3:=S9.out y r VX.out.2.1 VX.out.2.2 HY.out (by rw[<-al];exact t);rw[<-al]at h3;exact h3);rw[<-al]at g3;generalize y.gY.length=en at *;have cC:(0:Int)<=(r:Int):=by omega
  have cD:(r:Int)<(ns:Int):=by omega
  clear az bA al U hr am I WM;go_wp2_with fail;refine Mc.out.mono ?_;rintro f w3 ⟨rfl,cH⟩;subst cH;go_upto_region 7 with fail;obtain⟨ZA,ac⟩:=Z6 w3<|aY #[A y.fn,O y.mask,O y.level,X bb bn bc,O y.pc,X eb en ec] 35;obtain⟨ao,cf,cJ⟩:=fE (up bf.out ZA.out) (bH IJ.out ZA.out)<|cd.out.below ZA.out;obtain⟨FB,bs⟩:∃B,B=w3.heap.size:=⟨_,rfl⟩;rw[<-bs]at ac ⊢;generalize w3.alloc (aY #[A y.fn,O y.mask,O y.level,X bb bn bc,O y.pc,X eb en ec] 35)=W3 at *;clear bs g0 g1 g2 g3 g4 g5 cC cD b7 cF;obtain⟨f0,-,-,f3⟩:=xX ac.out;by_cases cy:na<bn
  ·have cR:(na:Int)<(bn:Int):=by omega
   go_wp2;go_ret;exact⟨rfl,ao.out⟩
  ·have cA:¬((na:Int)<(bn:Int)):=by omega
   have cP:bn<=ca:=by omega
   have bk:=Y<|co.out bC;have bo:=Y (λwx=>bm.out y bn wx bC);obtain⟨R,bv⟩:∃R,R=Rn.run g m l name y.fn (args.take bn) store 1000:=⟨_,rfl⟩;rw[<-bv]at bk bo;clear bv bx;go_upto_region 9 with fail;clear cy cA;go_cut [15,16]from 22 (λp f x=>∃OB v1 v2 v3,p=gK OB/\f=O R.err/\J (dR x OB (aY #[O R.res,v1,v2,v3] 39)/\qN x R v1 v2 v3/\bK W3 x));case first=>
    rename_i Q9 K9 h9 J9 L9 h8 h7;clear h9;have Aw:J (bK W3 W3):=Y<|bQ _ _;have Vt:J (∀x,J (bK W3 x)->bJ x FB 0=some (A y.fn)/\bJ x FB 3=some (X bb bn bc)):=Y (λx hx=>⟨(aj (bH ac.out hx.out) 0).trans rfl,(aj (bH ac.out hx.out) 3).trans rfl⟩);clear f0 f3;refine dx [some false,some false,some false,some true,some false,some false,some true,some false,some false,some false,none,none,none,none,none,none,none] 15 (λx=>bJ x FB 0=some (A y.fn)/\bJ x FB 3=some (X bb bn bc)) 7 dw dw (λ_ _ d _ _ t=>(by cases d<;>exact t)) (Vt.out _<|eG Aw) ?_;dsimp only[gB];repeat(first|(refine fO (v:=?_) dH ?_ ?_;rotate_left 1;(focus(intro w;go_simp;try(with_reducible rfl)));simp only[Act.put,dS,dY,eX])|(refine fP (v:=?_) dH ?_ ?_;rotate_left 1;(focus(intro w cw;obtain⟨q0,q1⟩:=cw;go_simp;try(with_reducible rfl)));simp only[Act.put,dS,dY,eX]))
    refine dW ?_;refine nG ?_;intro x hx;have z:J (bK W3 x):=by rw[hx];exact(by repeat(first|with_reducible exact Aw|with_reducible refine eG ?_))
    clear hx;have H0:J (bK x x):=Y<|bQ _ _
    iterate 7 (
     all_goals rename World=>KE
     all_goals first
      | refine aT (i:=16) (by decide +kernel) dH (λK e=>?_)
      | refine aT (i:=15) (by decide +kernel) dH (λK e=>?_)
      | refine aT (i:=14) (by decide +kernel) dH (λK e=>?_)
      | refine aT (i:=13) (by decide +kernel) dH (λK e=>?_)
      | refine aT (i:=12) (by decide +kernel) dH (λK e=>?_)
      | refine aT (i:=11) (by decide +kernel) dH (λK e=>?_)
      | refine aT (i:=10) (by decide +kernel) dH (λK e=>?_)
      | refine gG (i:=10) (k:=14) (by decide +kernel) dH dH (λK e=>?_) (λK e=>?_)
      | refine gG (i:=11) (k:=14) (by decide +kernel) dH dH (λK e=>?_) (λK e=>?_)
      | refine gG (i:=12) (k:=14) (by decide +kernel) dH dH (λK e=>?_) (λK e=>?_)
      | refine gG (i:=13) (k:=14) (by decide +kernel) dH dH (λK e=>?_) (λK e=>?_)
      | refine gG (i:=12) (k:=13) (by decide +kernel) dH dH (λK e=>?_) (λK e=>?_)
      | refine gG (i:=13) (k:=15) (by decide +kernel) dH dH (λK e=>?_) (λK e=>?_)
      | refine xC (i:=12) (j:=13) (k:=14) (by decide +kernel) dH dH dH (λK e=>?_) (λK e=>?_) (λK e=>?_)
     all_goals try(have o0:=(aj o.out 0).trans rfl;have o1:=(aj o.out 1).trans rfl;have o2:=(aj o.out 2).trans rfl;have o3:=(aj o.out 3).trans rfl;have z0:=aF o.out 0;have z1:=aF o.out 1;have z2:=aF o.out 2;have z3:=aF o.out 3)
     all_goals go_simp
     all_goals first
      | (go_at_call 8;refine(bo.out _<|up ao.out<|gT<|by repeat(first|with_reducible exact z|with_reducible refine eG ?_|with_reducible refine jU ?_)).mono ?_;rintro f u ⟨v1,v2,v3,rfl,hh⟩;obtain⟨H,h⟩:=hh.out;have F:J (bK KE u):=Y (up (gT<|by repeat(first|with_reducible exact H0|with_reducible refine eG ?_|with_reducible refine jU ?_)) h);obtain⟨E,d1,p2,d2,p3,d3,rfl,rfl,rfl⟩:=H.amC;have q:=Y H;clear hh H h)
      | skip
     all_goals(
      try(replace z:=Y<|up z.out F.out;(try replace o:=Y<|bH o.out F.out);clear F;replace H0:J (bK u u):=Y<|bQ _ _;dsimp only)
      with_reducible refine e.out _ _ (λ_=>Vt.out _<|by repeat(first|with_reducible exact z|with_reducible refine eG ?_|with_reducible refine jU ?_|with_reducible refine Vb bh ?_)) ?_
      clear e K
      have ce:=Y z.out.size
      rename World=>KE
      refine nG ?_
      intro u hu
      first
       | (have F:J (bK KE u):=?h1;(case h1=>(rw[hu];repeat(first|with_reducible exact H0|with_reducible refine eG ?_|with_reducible refine jU ?_)));replace z:=Y<|up z.out F.out;(try replace o:=Y<|bH o.out F.out);(try replace HF:=Y<|bH HF.out F.out);(try replace q:=Y<|q.out.below F.out);(first|(have o:J (dR u KE.heap.size<|aY #[O 0,aU,aU,aU] 39):=Y (by rw[hu];with_reducible(first|exact EK _ _ rfl|exact Ll<|EK _ _ rfl));have bh:=ce)|skip);clear F)
       | (replace z:J (bK W3 u):=(by rw[hu];exact(by repeat(first|with_reducible exact z|with_reducible refine eG ?_|with_reducible refine jU ?_|with_reducible refine Vb bh ?_)));have HF:=Y<|DF o.out (O R.res) (X E R.TB.length d1) (X p2 R.pr.length d2)<|X p3 R.did.length d3;replace q:=Y<|acy q.out o.out (O R.res) (X E R.TB.length d1) (X p2 R.pr.length d2)<|X p3 R.did.length d3;rw[<-hu]at HF q;clear o o0 o1 o2 o3 z0 z1 z2 z3)
      clear hu
      try clear o0 o1 o2 o3 z0 z1 z2 z3
      replace H0:J (bK u u):=Y<|bQ _ _))
    all_goals(refine dP dw ?_ _;go_wp2;go_meet;exact⟨_,_,_,_,rfl,rfl,Y ⟨HF.out,q.out,z.out⟩⟩)
   case rest=>
    obtain⟨OB,v1,v2,v3,rfl,rfl,bB⟩:=hcut;obtain⟨hO,H,ak⟩:=bB.out;obtain⟨q1,d1,q2,d2,q3,d3,rfl,rfl,rfl⟩:=H.amC;obtain⟨HO,q,ab,cg,OI⟩:=uh hO H (up ao.out ak) (bH cf.out ak)<|bH ac.out ak;obtain⟨bp,b3,D,b4,b9,b0⟩:=bk.out;have bi:J (∀wx s,bK wc wx->0<=dU ss s/\dU ss s<ss.length/\Z y.pc.toNat (dU ss s).toNat=true->aD 9 #[A s,gK LB,gK FB] wx λf w'=>f=dz (.bool true)/\bK wx w'):=Y (λwx s h I=>by have hk:=bH cg.out h;have hf:=bH OI.out h;exact atZ wx LB FB _ _ ss G L Z y.pc s ((aj hk 0).trans rfl) ((aj hk 1).trans rfl) (gI.out.below<|up ab.out h) (cj.out.below<|up ab.out h) bp ((aj hf 4).trans rfl) b3 I);obtain⟨Ve,cq,cl⟩:=fE b4 b9 b0;obtain⟨n1,a2⟩:∃n,n=R.TB.length:=⟨_,rfl⟩;obtain⟨n2,a3⟩:∃n,n=R.pr.length:=⟨_,rfl⟩;obtain⟨n3,a4⟩:∃n,n=R.did.length:=⟨_,rfl⟩;rw[<-a2,<-a3,<-a4]at q HO;have HN:=Y<|And.intro a2<|And.intro a3 a4;have cN:n2<=9223372036854775807:=by obtain⟨_,⟨_,_,_,_,_,_,hq,_⟩,_⟩:=H;omega
    have cM:n1<=9223372036854775807:=by obtain⟨⟨_,_,_,_,_,_,hq,_⟩,_⟩:=H;omega
    have o2:=aj HO.out 2;clear bB hO H ak f0 f3 bp b3 b4 b9 b0 a2 a3 a4;rcases D with D|D
    ·rw[D];clear D;go_wp2_with fail;go_loopw[19,66] (λ_ i wr=>∃j:Nat,j<=n2/\i=O j/\J (bK wc wr)) (λ_ i _=>n2 - (intOf i).toNat);exact⟨0,bN _,rfl,Y<|bQ _ _⟩
     obtain⟨j,hj,rfl,P⟩:=hrel;by_cases cx:j<n2
     ·obtain⟨d,hd⟩:∃d,R.pr[j]?=some d:=⟨_,aZ (by rw[<-HN.out.2.1];exact cx)⟩;obtain⟨b,off,rfl,V,E⟩:∃b off,q2=some (aN b off)/\bJ wc b (off+j*2)=some (A d.1)/\bJ wc b (off+j*2+1)=some (O d.2):=by obtain⟨a,b,off,cap,f,Q,_,aA⟩:=q.out.2.1;injection f with e1;obtain⟨g0,g1⟩:=aA j d hd;exact⟨b,off,by rw[e1];exact Q (by have:=(cO.1 hd).1;omega),g0,g1⟩
      replace V:=aG V P.out;replace E:=aG E P.out;obtain⟨qO,ad⟩:=Z6 wr<|aY #[A d.1,O d.2] 48;have ae:=Y<|up P.out qO.out;have HC:=Y<|bi.out _ d.1 ae.out<|Ve.out d<|dG hd;clear hd;go_upto_region 16 with fail;obtain⟨PB,af⟩:∃B,B=wr.heap.size:=⟨_,rfl⟩;rw[<-af]at ad ⊢;generalize wr.alloc (aY #[A d.1,O d.2] 48)=W5 at *;clear af V E;have z0:=aj ad.out 0;go_wp2_with fail;refine HC.out.mono ?_;rintro f w6 ⟨rfl,bz⟩;have mI:=Y<|up ae.out bz;clear bz z0;go_wp2;go_roundw;exact⟨j+1,by omega,by go_num,mI⟩;exact gV
     ·have bj:=Y<|bH HO.out P.out;obtain⟨-,o1⟩:=jv bj.out;clear o2;obtain⟨WL,av⟩:∃W,W=wr:=⟨_,rfl⟩;rw[<-av]at P bj o1;rw[<-av];clear av;go_wp2_with fail;go_loopw[21,79] (λ_ i wr=>∃j:Nat,j<=n1/\i=O j/\J (bK WL wr)) (λ_ i _=>n1 - (intOf i).toNat);exact⟨0,bN _,rfl,Y<|bQ _ _⟩
      obtain⟨N,cQ,rfl,ar⟩:=hrel;by_cases cv:N<n1
      ·obtain⟨c,hc⟩:∃c,R.TB[N]?=some c:=⟨_,aZ (by rw[<-HN.out.1];exact cv)⟩;have ay:=dG hc;obtain⟨aq,cc⟩:=bV (cl.out c ay)<|cq.out c ay;obtain⟨b,off,rfl,V,E,p2⟩:∃b off,q1=some (aN b off)/\bJ wc b (off+N*3)=some (A c.mod)/\bJ wc b (off+N*3+1)=some (A c.name)/\bJ wc b (off+N*3+2)=some (O c.val):=by obtain⟨a,b,off,cap,f,Q,_,aA⟩:=q.out.1;injection f with e1;obtain⟨_,g0,g1,g2⟩:=aA N c hc;exact⟨b,off,by rw[e1];exact Q (by have:=(cO.1 hc).1;omega),g0,g1,g2⟩
       have ai:=Y<|up P.out ar.out;replace V:=aG V ai.out;replace E:=aG E ai.out;replace p2:=aG p2 ai.out;obtain⟨qO,ad⟩:=Z6 wr<|aY #[A c.mod,A c.name,O c.val] 50;obtain⟨ae,YR⟩:=bV (up ar.out qO.out)<|up ai.out qO.out;have cm:=Y<|bH HO.out YR.out;clear hc ay;go_upto_region 22 with fail;obtain⟨PB,af⟩:∃B,B=wr.heap.size:=⟨_,rfl⟩;rw[<-af]at ad ⊢;generalize wr.alloc (aY #[A c.mod,A c.name,O c.val] 50)=W5 at *;clear af V E p2;have x3:=aj cm.out 3;obtain⟨y0,y1,y2⟩:=P5 ad.out;have k1:(9223372036854775807<2+c.mod.size)=False:=eq_false (by have:=aq.out;omega);have k2:(9223372036854775807<2+c.mod.size+1)=False:=eq_false (by have:=aq.out;omega);have k3:(9223372036854775807<2+c.mod.size+1+c.name.size)=False:=eq_false (by have:=aq.out;omega);have ah:=Y<|kS W5 (X q3 n3 d3) R.did (Rn.tag 119 (c.mod,c.name))<|q.out.2.2.below YR.out;by_cases ag:Rn.tag 119 (c.mod,c.name)∈R.did
       ·rw[agW ag]at ah;obtain⟨s,I,bL⟩:=cc.out ag;have jP:=Y<|atS m W5 _ l c<|ch.out.below<|up ab.out YR.out;rw[I,gD]at jP;have ck:=Y bL;clear ag I bL;go_wp2_with fail;refine ah.out.mono ?_;rintro f w6 ⟨rfl,a9⟩;subst a9;go_wp2_with fail;refine jP.out.mono ?_;rintro f w7 ⟨rfl,ug⟩;obtain⟨Ar,cb⟩:=bV (up ae.out ug)<|bi.out w7 s (up YR.out ug) ck.out;clear ug x3 y0 y1 y2;go_wp2_with fail;refine cb.out.mono ?_;rintro f w8 ⟨rfl,pR⟩;have Bd:=Y<|up Ar.out pR;clear pR;go_wp2;go_roundw;exact⟨N+1,by omega,by go_num,Bd⟩;exact gV
       ·have bY:decide (0<=dU R.did (Rn.tag 119 (c.mod,c.name)))=false:=iD (λt=>ag<|Fl.wD.1 t);rw[bY]at ah;clear ag bY;go_wp2_with fail;refine ah.out.mono ?_;rintro f w6 ⟨rfl,a9⟩;subst a9;go_wp2;go_roundw;exact⟨N+1,by omega,by go_num,ae⟩;exact gV
      ·go_wp2;go_ret;exact⟨rfl,up ab.out<|up P.out ar.out⟩
    ·rw[D];clear D;go_wp2;go_ret;exact⟨rfl,ab.out⟩
