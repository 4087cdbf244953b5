import Derived.Test.YtiebmbnfedbdeaaGreatDoorTZBN
set_option maxHeartbeats 0
set_option maxRecDepth 99999
namespace Go.Proofs.YtiebmbnfedbdeaaGreatDoor
open bS Sm Sv
open Go.Proofs.Tryz
open Go.RowKit Go.Maps Go.WideMaps
variable{KE w W x w':bI}{a:Addr}{v:aC}{b st fuel B UF:Nat}{o o2:Obj}{S:bI->Prop}{listed:Array Bool}{l:List Int}
theorem Lj(h:KE.cell? a=some v):KE.drew.cell? a=some v:=h
theorem aj6(o:Obj)(h:KE.cell? a=some v):(KE.alloc o).cell? a=some v:=aG h<|aH _ _
theorem Oh(KE:bI)(v:aC)(t:TypeId)(h:b=KE.heap.size):(KE.alloc<|.cells #[v] t).cell? (aN b 0)=some v:=by subst h;exact(aj (bF KE _) 0).trans rfl
theorem ZF(KE:bI)(o:Obj)(h:b=KE.heap.size):(KE.alloc o).heap[b]?=some o:=by subst h;exact bF KE o
theorem Ll(h:KE.heap[b]?=some o):KE.drew.heap[b]?=some o:=h
theorem xC{P:Program}{d:Array Oper}{e:Exit->Act->bI->Prop}{md:Region.Mode}{i j k:Nat}{a:Act}{o o2 n:Oper}(q:Region.ready md d listed=[i,j,k])(t:d[i]?=some o)(y:d[j]?=some o2)(z:d[k]?=some n)(r:∀c:Act->bI->Prop,J (∀a w,((listed.setIfInBounds i true).getD st true=false->S w)->jA P md d e S st fuel (listed.setIfInBounds i true) a w->c a w)->if Region.wanted o (yielded d a.tmps)=true then Oper.wp P o a w c e else c (a.put o.dst undef) w)(f:∀c:Act->bI->Prop,J (∀a w,((listed.setIfInBounds j true).getD st true=false->S w)->jA P md d e S st fuel (listed.setIfInBounds j true) a w->c a w)->if Region.wanted o2 (yielded d a.tmps)=true then Oper.wp P o2 a w c e else c (a.put o2.dst undef) w)(s:∀c:Act->bI->Prop,J (∀a w,((listed.setIfInBounds k true).getD st true=false->S w)->jA P md d e S st fuel (listed.setIfInBounds k true) a w->c a w)->if Region.wanted n (yielded d a.tmps)=true then Oper.wp P n a w c e else c (a.put n.dst undef) w):jA P md d e S st (fuel+1) listed a w:=by
 refine⟨λp=>(by rw[q]at p;cases p),λu g=>?_⟩;rw[q]at g;rcases fV.1 g with rfl|g;·exact wpOp_step t (λc m=>r c<|Y (λa w h f=>m a w ⟨h,f⟩))
 ·rcases fV.1 g with rfl|g;·exact wpOp_step y (λc m=>f c<|Y (λa w h f=>m a w ⟨h,f⟩))
  ·rw[dh]at g;subst g;exact wpOp_step z (λc m=>s c<|Y (λa w h f=>m a w ⟨h,f⟩))
theorem nG{P:Program}{d:Array Oper}{c:Exit->Act->bI->Prop}{md:Region.Mode}{a:Act}(e:∀x,x=w->jA P md d c S st fuel listed a x):jA P md d c S st fuel listed a w:=e w rfl
theorem alJ{a:Nat}(d:w.heap[a]?=some o)(k:w.heap[b]?=some o2)(e:o≠o2):a≠b:=λc=>by subst c;rw[d]at k;cases k;exact e rfl
theorem nP(h:J (bK W x)):J (bK W x.drew):=Y<|h.drew
theorem qc(h:J (bK W x)):J (bK W<|x.alloc o):=Y<|up h<|aH _ _
theorem qJ.below(c:qJ w B l)(d:bK w w'):qJ w' B l:=bH c d
theorem qJ.apart(d:qJ w B l)(e:UF≠B)(i:Nat)(v:aC):qJ (w.setCell (aN UF i) v) B l:=aX d (λc=>e c.symm) _
theorem Uy(d:qJ W B l)(c:UF≠B)(e f g h i j:aC):qJ ((((((W.setCell (aN UF 0) e).setCell (aN UF 1) f).setCell (aN UF 2) g).setCell (aN UF 3) h).setCell (aN UF 4) i).setCell (aN UF 5) j) B l:=
 (((((d.apart c 0 _).apart c 1 _).apart c 2 _).apart c 3 _).apart c 4 _).apart c 5 _
theorem Uz(w:bI)(s:So)(ss:aJ)(G:Nat)(L:Nat->Nat)(Z:aL)(P:Pb)(V:Nat->Nat × Nat)(f:Fu)(pa ba ra:Option Addr)(pc bn bc rl rc:Nat)(rk rn:Int)(rs:aS)(hS:QI w s ss G L Z P V)(b5:s.ma=P.mask)(b3:s.lv=P.level)(hk:f.params.length<=4)(hl:P.sinks.length<=16777215):aD 37 #[.agg s.cs,.agg #[A f.name,X pa f.params.length pc,X ba bn bc,O rk,O rn,A rs,X ra rl rc]] w λe w'=>∃B,e=dz (.agg #[A f.name,O ((Sm.tell Z ss.length V P.fr<|Sm.lab P.mask P.level).1:Nat),O ((Sm.tell Z ss.length V P.fr<|Sm.lab P.mask P.level).2:Nat),Tc B f.params.length f.params.length,O (Sm.pc Z ss.length P.sinks:Nat),s.v4])/\J (qJ w' B (bds Z ss.length V P.sinks f.params.length)/\bK w w'):=by
 have HS:=Y hS;obtain⟨a0,n0,c0,a1,n1,c1,a2,n2,c2,a3,n3,c3,a4,n4,c4,a5,n5,c5,u,C,c6,a7,n7,c7,a8,n8,c8,hs⟩:=QH s hS.form;obtain⟨am,b6,b2⟩:=wX hS.ok.lab;rw[b5,b3,b6,b2]at hs;obtain⟨mk,bf⟩:∃n,n=P.mask.toNat:=⟨_,rfl⟩;obtain⟨F,aA⟩:∃n,n=P.level.toNat:=⟨_,rfl⟩;rw[<-bf,<-aA]at hs am;subst hs;have YN:J (Sm.lab P.mask P.level=(mk,F)):=Y (by rw[bf,aA];rfl);clear b5 b3 b6 b2 bf aA;simp only[So.cs];obtain⟨k,be⟩:∃n,n=f.params.length:=⟨_,rfl⟩;rw[<-be]at hk ⊢;have bq:=Y hk;obtain⟨W,hW,k0,k1,k2,cb,af⟩:=al3 w (aY #[X a0 n0 c0,X a1 n1 c1,X a2 n2 c2,X a3 n3 c3,X a4 n4 c4,X a5 n5 c5,O (mk:Nat),O (F:Nat),X u C c6,X a7 n7 c7,X a8 n8 c8] 111) (aY #[A f.name,X pa k pc,X ba bn bc,O rk,O rn,A rs,X ra rl rc] 102)<|aY #[A ⟨#[]⟩,O 0,O 0,aU,O 0,aU] 35;obtain⟨Ra,bp⟩:=bV (hS.below af)<|Pn W (X a0 n0 c0) (X a1 n1 c1) ss G L Z (hS.la.strs.below af) (hS.la.Q5.below af) hS.la.ok;obtain⟨H,bj⟩:∃n,n=Sm.top Z ss.length:=⟨_,rfl⟩;have bu:=Y bj;have co:J (xR (bS.tr Z) ss.length=H):=Y (by rw[bj];rfl);rw[co.out]at bp;obtain⟨x0,x1⟩:=jv k0;obtain⟨iO,lH,jG,IJ,Ae⟩:=uh af k0 k1 k2 cb;clear hS k0 k1 k2 cb af bj be hk;go_enter func37,ntmps37;go_upto_region 1 with fail;rw[<-hW];clear hW;go_wp2_with fail;refine bp.out.mono ?_;rintro e w1 ⟨rfl,aa⟩;obtain⟨au,oW,mh,cp,mX⟩:=uh aa (bH lH.out aa) (bH jG.out aa) (bH IJ.out aa)<|Ra.out.below aa;clear aa x0 x1;obtain⟨R,hR⟩:∃R,R=Sm.tell Z ss.length V P.fr (mk,F):=⟨_,rfl⟩;have Aw:J (bK w1 w1):=Y<|bQ _ _;have I4:J (∀x,J (bK w1 x)->aD 85 #[.agg #[X a0 n0 c0,X a1 n1 c1,X a2 n2 c2,X a3 n3 c3,X a4 n4 c4,X a5 n5 c5,O (mk:Nat),O (F:Nat),X u C c6,X a7 n7 c7,X a8 n8 c8],X a5 n5 c5,.agg #[O (mk:Nat),O (F:Nat)]] x λe w'=>e=dz (.agg #[O (R.1:Nat),O (R.2:Nat)])/\bK x w'):=Y (λx E=>by have c:=mX.out.below E.out;rw[hR];exact Uq x ⟨_,_,_,_,_,_,(mk:Nat),(F:Nat),_,_,_⟩ ss G L Z P.names.length V _ P.fr (mk,F) c.form c.la c.las c.oks c.pb.fr c.ok.fr am);have Vt:J (∀x,J (bK w1 x)->bJ x w.heap.size 0=some (X a0 n0 c0)/\bJ x w.heap.size 1=some (X a1 n1 c1)/\bJ x w.heap.size 2=some (X a2 n2 c2)/\bJ x w.heap.size 3=some (X a3 n3 c3)/\bJ x w.heap.size 4=some (X a4 n4 c4)/\bJ x w.heap.size 5=some (X a5 n5 c5)/\bJ x w.heap.size 6=some (O (mk:Nat))/\bJ x w.heap.size 7=some (O (F:Nat))/\bJ x w.heap.size 8=some (X u C c6)/\bJ x w.heap.size 9=some (X a7 n7 c7)/\bJ x w.heap.size 10=some (X a8 n8 c8)/\bJ x (w.heap.size+1) 0=some (A f.name)/\bJ x (w.heap.size+1) 1=some (X pa k pc)):=Y (λx E=>by have c:=bH oW.out E.out;have g:=bH mh.out E.out;exact⟨(aj c 0).trans rfl,(aj c 1).trans rfl,(aj c 2).trans rfl,(aj c 3).trans rfl,(aj c 4).trans rfl,(aj c 5).trans rfl,(aj c 6).trans rfl,(aj c 7).trans rfl,(aj c 8).trans rfl,(aj c 9).trans rfl,(aj c 10).trans rfl,(aj g 0).trans rfl,(aj g 1).trans rfl⟩);obtain⟨HR,cJ⟩:=bV hR am;obtain⟨r1,bh⟩:∃n,n=R.1:=⟨_,rfl⟩;obtain⟨r2,bi⟩:∃n,n=R.2:=⟨_,rfl⟩;rw[<-bh,<-bi]at I4;obtain⟨cm,cn⟩:=bV bh bi;clear hR am bh bi;go_upto_region 2 with fail;go_cut [8]from 12 (λp x=>∃UF B,p=gK UF/\J (UF≠B/\w1.heap.size<=UF/\w1.heap.size<=B/\dR x UF (aY #[A f.name,O (r1:Nat),O (r2:Nat),Tc B k k,O (H:Nat),X u C c6] 35)/\qJ x B (List.replicate k (H:Int))/\bK w1 x));case first=>
  rename_i Q9 K9 h9 J9 L9 h8 h7;clear h9 hl;refine dx [some false,some true,some true,some false,some false,some true,some false,some false,some true,none,some false,none,some false,some true,some false,none,some false,some false,some false,some true,none,none,none] 22 (λx=>J<|bK w1 x) 6 dw dw (λ_ _ d _ _ c=>(by cases d<;>exact c)) (nP Aw) ?_;dsimp only[gB];repeat(first|(refine fO (v:=?_) dH ?_ ?_;rotate_left 1;(focus(intro w;go_simp;try(with_reducible rfl)));simp only[Act.put,dS,dY,eX])|(refine fP (v:=?_) dH ?_ ?_;rotate_left 1;(focus(intro w cD;have V5:=Vt.out w cD;go_simp;try(with_reducible rfl)));simp only[Act.put,dS,dY,eX]))
  refine dW ?_;generalize Value.agg #[X a0 n0 c0,X a1 n1 c1,X a2 n2 c2,X a3 n3 c3,X a4 n4 c4,X a5 n5 c5,O (mk:Nat),O (F:Nat),X u C c6,X a7 n7 c7,X a8 n8 c8]=sv at *;refine nG ?_;intro x E;have U:J (bK w1 x):=by rw[E];exact(by repeat(first|with_reducible exact Aw|with_reducible refine nP ?_))
  clear E;have H0:J (bK x x):=Y<|bQ _ _
  iterate 5 (
   all_goals rename World=>KE
   all_goals first
    | refine aT (i:=20) (by decide +kernel) dH (λK h=>?_)
    | refine aT (i:=15) (by decide +kernel) dH (λK h=>?_)
    | refine aT (i:=21) (by decide +kernel) dH (λK h=>?_)
    | refine aT (i:=11) (by decide +kernel) dH (λK h=>?_)
    | refine aT (i:=9) (by decide +kernel) dH (λK h=>?_)
    | refine gG (i:=15) (k:=21) (by decide +kernel) dH dH (λK h=>?_) (λK h=>?_)
    | refine gG (i:=20) (k:=21) (by decide +kernel) dH dH (λK h=>?_) (λK h=>?_)
    | refine gG (i:=9) (k:=11) (by decide +kernel) dH dH (λK h=>?_) (λK h=>?_)
    | refine gG (i:=9) (k:=21) (by decide +kernel) dH dH (λK h=>?_) (λK h=>?_)
    | refine gG (i:=11) (k:=21) (by decide +kernel) dH dH (λK h=>?_) (λK h=>?_)
    | refine xC (i:=9) (j:=11) (k:=21) (by decide +kernel) dH dH dH (λK h=>?_) (λK h=>?_) (λK h=>?_)
   all_goals go_simp
   all_goals first
    | (go_at_call 85;refine(I4.out _<|by repeat(first|with_reducible exact U|with_reducible refine nP ?_|with_reducible refine qc ?_)).mono ?_;rintro e x ⟨rfl,hb⟩;have HS:J (bK KE x):=Y<|up (gT<|by repeat(first|with_reducible exact H0|with_reducible refine nP ?_|with_reducible refine qc ?_)) hb;clear hb)
    | (go_at_call 87;refine(XE _ _ _ (H:Int) k bq.out<|by repeat(first|with_reducible exact HL.out|with_reducible refine Lj ?_|with_reducible refine aj6 _ ?_)).mono ?_;rintro e x ⟨B,rfl,hh⟩;have av:J (w1.heap.size<=B):=Y<|bE (show w1.heap.size<=_ from (gT (by repeat(first|with_reducible exact U|with_reducible refine nP ?_|with_reducible refine qc ?_)):bK w1 _).size) hh.out.1;have HB:J (dR x B<|.cells (List.replicate k<|O (H:Nat)).toArray 3 (0,0)):=Y hh.out.2.1;have HS:J (bK KE x):=Y<|up (gT<|by repeat(first|with_reducible exact H0|with_reducible refine nP ?_|with_reducible refine qc ?_)) hh.out.2.2;clear hh)
    | skip
   all_goals(
    try(replace U:=Y<|up U.out HS.out;(try replace r:=Y<|bH r.out HS.out);(try replace HL:=Y<|aG HL.out HS.out);clear HS;replace H0:J (bK x x):=Y<|bQ _ _;dsimp only)
    with_reducible refine h.out _ _ (λ_=>(by repeat(first|with_reducible exact U|with_reducible refine nP ?_|with_reducible refine qc ?_))) ?_
    clear h K
    have ck:=Y U.out.size
    rename World=>KE
    refine nG ?_
    intro x E
    have HS:J (bK KE x):=by rw[E];repeat(first|with_reducible exact H0|with_reducible refine nP ?_|with_reducible refine qc ?_)
    replace U:=Y<|up U.out HS.out
    try replace r:=Y<|bH r.out HS.out
    try replace HL:=Y<|aG HL.out HS.out
    try replace HB:=Y<|bH HB.out HS.out
    first
     | (have HL:J (bJ x KE.heap.size 0=some (O (H:Nat))):=Y (by rw[E];with_reducible(first|exact Oh _ _ _ rfl|exact Lj<|Oh _ _ _ rfl)))
     | (have r:J (dR x KE.heap.size<|aY #[A ⟨#[]⟩,O 0,O 0,aU,O 0,aU] 35):=Y (by rw[E];with_reducible(first|exact ZF _ _ rfl|exact Ll<|ZF _ _ rfl));have ah:=ck)
     | skip
    clear E
    replace H0:J (bK x x):=Y<|bQ _ _))
  all_goals(
   refine aT (i:=22) dw dH (λK h=>?_)
   have o0:=aj r.out 0
   have z0:=aF r.out 0
   obtain⟨-,o1⟩:=jv r.out
   have z1:=aF r.out 1
   have o2:=aj r.out 2
   have z2:=aF r.out 2
   have o3:=aj r.out 3
   have z3:=aF r.out 3
   have o4:=aj r.out 4
   have z4:=aF r.out 4
   have o5:=aj r.out 5
   have z5:=aF r.out 5
   go_simp
   with_reducible refine h.out _ _ (λc=>aM (c.symm.trans dw) iJ) ?_
   clear h K
   have ad:=alJ r.out HB.out cK
   have ca:=EC r.out (A f.name) (O (r1:Nat)) (O (r2:Nat)) (Tc B k k) (O (H:Nat))<|X u C c6
   have bA:=Uy (show qJ x B (List.replicate k (H:Int))from by unfold qJ;rw[HB.out,List.map_replicate]) ad (A f.name) (O (r1:Nat)) (O (r2:Nat)) (Tc B k k) (O (H:Nat)) (X u C c6)
   have ce:=Lg U.out ah.out (A f.name) (O (r1:Nat)) (O (r2:Nat)) (Tc B k k) (O (H:Nat))<|X u C c6
   have xS:=Y<|And.intro ad<|And.intro ah.out<|And.intro av.out<|And.intro ca<|And.intro bA ce
   clear ca bA ce ad o0 o1 o2 o3 o4 o5 z0 z1 z2 z3 z4 z5
   refine dP dw ?_ _
   go_wp2_with fail
   go_meet
   exact⟨_,_,rfl,xS⟩)
 case rest=>
  obtain⟨UF,B,rfl,bL⟩:=hcut;obtain⟨ad,b1,b0,ho,b9,bB⟩:=bL.out;obtain⟨lG,ah,av,r,sU,PO⟩:=vC ad b1 b0 ho b9 bB;clear bL ad b1 b0 ho b9 bB;obtain⟨ax,b4,o4,cx,e4,a9,cA,bx⟩:=HS.out.pb.sinks;simp only at e4;injection e4 with cu ak cv;subst cu cv;have vD:=Y ak;rw[<-ak]at a9 cA hl;obtain⟨ay,b8,o8,cy,e8,al,cC,bz⟩:=HS.out.snk;rw[wE,dV]at e8 al;simp only at e8;injection e8 with cw aE cz;subst cw cz;have ET:J (n8=n4):=Y (by rw[aE,ak]);rw[<-aE]at al;obtain⟨cf,cg,ch,cj,HJ,br⟩:=vC a9 bx al bz HS.out.la.joins HS.out.la.meets;have GL:J (Sm.top Z ss.length<ss.length):=Y (Db (Z:=bS.tr Z) HJ.out (qF HS.out.la.ok).pos).1;have ct:=Y<|bH oW.out PO.out;have x4:=aj ct.out 4;clear a9 bx al bz ak aE cC;go_wp2_with fail;clear x4;go_loopw[44] (λi wr=>∃j:Nat,j<=n4/\i=O j/\J (dR wr UF (aY #[A f.name,O (r1:Nat),O (r2:Nat),Tc B k k,O (xA Z ss.length P.sinks j:Nat),X u C c6] 35)/\qJ wr B (nO Z ss.length V P.sinks k j 0)/\bK w1 wr)) (λi _=>n4 - (intOf i).toNat);exact⟨0,bN _,rfl,Y ⟨by rw[show xA Z ss.length P.sinks 0=H from bu.out.symm];exact r.out,by rw[amD,<-bu.out];exact sU.out,PO.out⟩⟩
  obtain⟨j,hj,rfl,jD⟩:=hrel;have I:=Y<|up (up iO.out au.out) jD.out.2.2;by_cases cG:j<n4
  ·obtain⟨y,hy⟩:∃y,P.sinks[j]?=some y:=⟨_,aZ (by rw[<-vD.out];exact cG)⟩;have bw:=Y<|HS.out.ok.sinks y<|dG hy;obtain⟨tl,ar⟩:∃z,z=QD Z ss.length V y:=⟨_,rfl⟩;have IX:J (Sv.Ok ss.length tl):=Y (by rw[ar];exact Wd HJ.out HS.out.oks bw.out);obtain⟨bm,bk⟩:=bw.out.lvN;obtain⟨yl,Us⟩:∃z,z=y.lv.toNat:=⟨_,rfl⟩;rw[<-Us]at bm bk;have bv:=Y bm;have xM:J (xA Z ss.length P.sinks (j+1)=if y.gY then Sm.met Z ss.length (xA Z ss.length P.sinks j) yl else xA Z ss.length P.sinks j):=Y (by rw[abJ hy,Us];rfl);have bo:J (∀t,Sm.mK Z ss.length V P.sinks (j+1) t=if tl.1.testBit t then Sm.met Z ss.length (Sm.mK Z ss.length V P.sinks j t) yl else Sm.mK Z ss.length V P.sinks j t):=Y (λt=>by rw[Sm.Fz hy,Us,ar];rfl);have S9:J (xA Z ss.length P.sinks j<ss.length):=Y<|aiO br.out HS.out.ok.sinks GL.out j;have Fy:J (∀t,Sm.mK Z ss.length V P.sinks j t<ss.length):=Y (λt=>aiP br.out HS.out.ok.sinks GL.out j t);obtain rfl:=cf.out bC;obtain⟨vf,g0,g1,g2,g3,g4,g5,bY⟩:=cg.out j y hy;obtain⟨fa,fc,cc⟩:=bY.Hr;obtain⟨nf,b7⟩:∃n,n=y.fr.length:=⟨_,rfl⟩;rw[<-b7]at cc;subst cc;rw[bk]at g3;replace g0:=aG g0 I.out;replace g1:=aG g1 I.out;replace g2:=aG g2 I.out;replace g3:=aG g3 I.out;replace g4:=aG g4 I.out;replace g5:=aG g5 I.out;obtain rfl:=ch.out (by have:=ET.out;omega);have K8:=Y (cj.out j _<|Gi (x:=tl) (by rw[pq,hy,ar];rfl)).1;have cN:(j:Int)<(n8:Int):=by have:=ET.out;omega
   have cF:=IX.out.1;generalize tl.1=t1 at *;clear hy b7 bY Us ar bk bm;go_upto_region 6 with fail;obtain⟨qO,Zf⟩:=sO wr<|aY #[X fa nf fc,O y.mask,O y.level,O (yl:Nat),A y.name,.bool y.gY] 183;obtain⟨EP,cq,kG⟩:=fE (bH jD.out.1 qO.out) (jD.out.2.1.below qO.out)<|up jD.out.2.2 qO.out;generalize wr.alloc (aY #[X fa nf fc,O y.mask,O y.level,O (yl:Nat),A y.name,.bool y.gY] 183)=W7 at *;generalize wr.heap.size=SK at *;clear g0 g1 g2 g3 g4 g5;have q3:=aj EP.out 3;go_wp2_with fail;clear q3;go_loopw[52] (λi wr=>∃t:Nat,t<=k/\i=O t/\J (dR wr UF (aY #[A f.name,O (r1:Nat),O (r2:Nat),Tc B k k,O (xA Z ss.length P.sinks j:Nat),X u C c6] 35)/\qJ wr B (nO Z ss.length V P.sinks k j t)/\dR wr SK (aY #[X fa nf fc,O y.mask,O y.level,O (yl:Nat),A y.name,.bool y.gY] 183)/\bK w1 wr)) (λi _=>k - (intOf i).toNat);exact⟨0,bN _,rfl,Y ⟨EP.out,cq.out,Zf.out,kG.out⟩⟩
   obtain⟨t,ht,rfl,m⟩:=hrel;obtain⟨I,D⟩:=bV (up (up iO.out au.out) m.out.2.2.2)<|bH oW.out m.out.2.2.2;by_cases aq:t<k
   ·have k8:=aG K8.out I.out;have ag:=aj D.out 10;have cQ:t<=4:=by have:=bq.out;omega
    have ao:=WU ⟨t1,cF⟩ ⟨t,by omega⟩;simp only at ao;cases ab:Fl.bit (t1:Nat) t
    ·rw[ab]at ao;have MF:J (Sm.mK Z ss.length V P.sinks (j+1) t=Sm.mK Z ss.length V P.sinks j t):=Y (by rw[bo.out,aI];simpa[Fl.bit]using ab);clear ab;go_wp2;go_roundw;exact⟨t+1,by omega,by go_num,Y ⟨m.out.1,by rw[<-ag0 aq j MF.out];exact m.out.2.1,m.out.2.2.1,m.out.2.2.2⟩⟩;exact gV
    ·rw[ab]at ao;have MF:J (Sm.mK Z ss.length V P.sinks (j+1) t=Sm.met Z ss.length (Sm.mK Z ss.length V P.sinks j t) yl):=Y (by rw[bo.out,aK];simpa[Fl.bit]using ab);clear ab;go_upto_region 10 with fail;clear k8 ag ao;have ae:=Y (λq os=>Zx (gn wr q os) ⟨X a0 n0 c0,X a1 n1 c1,X a2 n2 c2,X a3 n3 c3,X (some<|aN b4 o4) n4 c4,X a5 n5 c5,(mk:Nat),(F:Nat),X u C c6,X a7 n7 c7,X (some<|aN b8 o8) n8 c8⟩ ss G L Z (Sm.mK Z ss.length V P.sinks j t) yl HS.out.form (HS.out.la.below<|up I.out<|bU wr q os) (Fy.out t) bv.out);simp only[So.cs]at ae;obtain⟨q3,s3,bb,x0,x1,x2,x3⟩:=Ng (bD<|(aj m.out.1 3).trans rfl) (bD<|(aj m.out.2.2.1 3).trans rfl) (bD<|m.out.2.1.cell<|Lf (Z:=Z) (N:=ss.length) (V:=V) (l:=P.sinks) aq j) (bD<|(aj D.out 0).trans rfl) (bD<|(aj D.out 1).trans rfl) (bD<|(aj D.out 2).trans rfl) (bD<|(aj D.out 3).trans rfl);obtain⟨x4,x5,x6,x7,x8,x9,ag⟩:=Ng (bD<|(aj D.out 4).trans rfl) (bD<|(aj D.out 5).trans rfl) (bD<|(aj D.out 6).trans rfl) (bD<|(aj D.out 7).trans rfl) (bD<|(aj D.out 8).trans rfl) (bD<|(aj D.out 9).trans rfl) (bD<|(aj D.out 10).trans rfl);have cP:(0:Int)<=(t:Int):=by omega
     have cM:(t:Int)<(k:Int):=by omega
     refine gq 13 dw dw ?_;dsimp only[List.take,List.drop];repeat(quiet_step ((exact Calls.oZ<|ae.out _ _)))
     refine wpQuiet_nil ?_;intro w6 cH;obtain⟨⟨nq,cI⟩,cd⟩:=cH;have fD:J (bK wr w6):=Y (by rw[cd];exact bU wr nq cI);obtain⟨ai,xJ,xS⟩:=fE (m.out.2.1.below fD.out) (bH m.out.1 fD.out)<|bH m.out.2.2.1 fD.out;obtain⟨r0,z0⟩:=eY (ai.out.cell<|Lf (Z:=Z) (N:=ss.length) (V:=V) (l:=P.sinks) aq j)<|aF ai.out t;have D8:J (SK≠B):=Y (λc=>by have h1:=xS.out;rw[c,ai.out]at h1;simp at h1);clear cd q3 s3 bb x0 x1 x2 x3 x4 x5 x6 x7 x8 x9 ag;go_wp2;go_roundw;exact⟨t+1,by omega,by go_num,Y ⟨aX xJ.out lG.out _,by have c:=ai.out.set t (Sm.mK Z ss.length V P.sinks (j+1) t:Nat);rw[Oc aq j,MF.out]at c;exact c,aX xS.out D8.out _,(up m.out.2.2.2 fD.out).setCell av.out _⟩⟩;exact gV
   ·obtain rfl:t=k:=by omega
    have s5:=aj m.out.2.2.1 5;have fT:J (qJ wr B<|nO Z ss.length V P.sinks t (j+1) 0):=Y (by rw[<-aj8];exact m.out.2.1);cases ac:y.gY
    ·rw[ac]at s5;have zV:J (xA Z ss.length P.sinks (j+1)=xA Z ss.length P.sinks j):=Y (by rw[xM.out,ac];rfl);clear ac;go_wp2;go_roundw;exact⟨j+1,by omega,by go_num,Y ⟨by rw[zV.out];exact m.out.1,fT.out,m.out.2.2.2⟩⟩;exact gV
    ·rw[ac]at s5;have zV:J (xA Z ss.length P.sinks (j+1)=Sm.met Z ss.length (xA Z ss.length P.sinks j) yl):=Y (by rw[xM.out,ac];rfl);clear ac;have ae:=Y<|Zx wr ⟨X a0 n0 c0,X a1 n1 c1,X a2 n2 c2,X a3 n3 c3,X (some<|aN b4 o4) n4 c4,X a5 n5 c5,(mk:Nat),(F:Nat),X u C c6,X a7 n7 c7,X (some<|aN b8 o8) n8 c8⟩ ss G L Z (xA Z ss.length P.sinks j) yl HS.out.form (HS.out.la.below I.out) S9.out bv.out;simp only[So.cs]at ae;have q4:=aj m.out.1 4;have s3:=aj m.out.2.2.1 3;obtain⟨x0,x1,x2,x3,x4,x5,x6,x7,x8,x9,ag⟩:=TK D.out;go_wp2_with fail;refine ae.out.mono ?_;rintro e w8 ⟨rfl,pR⟩;obtain⟨xW,aw,cr⟩:=fE pR (bH m.out.1 pR)<|fT.out.below pR;have r4:=aj aw.out 4;have z4:=aF aw.out 4;clear pR q4 s3 s5 x0 x1 x2 x3 x4 x5 x6 x7 x8 x9 ag;go_wp2;go_roundw;exact⟨j+1,by omega,by go_num,Y ⟨by rw[zV.out];exact(aP aw.out 4 _).trans rfl,cr.out.apart lG.out 4 _,(up m.out.2.2.2 xW.out).setCell ah.out _⟩⟩;exact gV
  ·obtain rfl:j=n4:=by omega
   have xV:J (xA Z ss.length P.sinks j=Sm.pc Z ss.length P.sinks):=Y (by rw[vD.out];exact afS);have TG:J (nO Z ss.length V P.sinks k j 0=bds Z ss.length V P.sinks k):=Y (by rw[vD.out];exact abL k);have bs:=Y jD.out.1;rw[xV.out]at bs;have az:=Y jD.out.2.1;rw[TG.out]at az;obtain⟨o0,o1,o2,o3,o4,o5⟩:=ZC6 bs.out;have Q:=Y<|bH cp.out jD.out.2.2;obtain⟨y0,y1,y2,y3,y4,y5⟩:=ZC6 Q.out;obtain⟨z0,z1,z2,z3⟩:=rY (aF Q.out 0) (aF Q.out 1) (aF Q.out 2)<|aF Q.out 3;obtain⟨z4,z5⟩:=eY (aF Q.out 4)<|aF Q.out 5;have cl:J (w.heap.size+1+1≠B):=Y (λc=>by have h1:=Q.out;rw[c,az.out]at h1;simp at h1);go_wp2_with fail;have hs:=EC Q.out (A f.name) (O (r1:Nat)) (O (r2:Nat)) (Tc B k k) (O (Sm.pc Z ss.length P.sinks:Nat))<|X u C c6;obtain⟨f0,f1,f2,f3,f4,f5⟩:=ZC6 hs;refine cZ (v:=.agg #[A f.name,O (r1:Nat),O (r2:Nat),Tc B k k,O (Sm.pc Z ss.length P.sinks:Nat),X u C c6]) (by simp[results,results37,go_sem,f0,f1,f2,f3,f4,f5]) rfl ?_;refine⟨B,by rw[YN.out,<-HR.out,<-cm.out,<-cn.out],Y ⟨Uy az.out cl.out _ _ _ _ _ _,?_⟩⟩;exact Lg (up (up iO.out au.out) jD.out.2.2) (bE (dN _)<|dN _) _ _ _ _ _ _
