import Derived.Test.YtageneidjnbedaaGreatDoorTZBN
set_option maxHeartbeats 0
set_option maxRecDepth 99999
namespace Go.Proofs.YtageneidjnbedaaGreatDoor
open bS Sm Sv
open Go.Proofs.Tryz
open Go.RowKit Go.Maps Go.WideMaps
variable{KE w W x w':bI}{a:Addr}{v:aC}{b st fuel B UF:Nat}{o o2:Obj}{S:bI->Prop}{listed:Array Bool}{l:List Int}
theorem Lj(h:KE.cell? a=some v):KE.drew.cell? a=some v:=h
theorem aj6(o:Obj)(h:KE.cell? a=some v):(KE.alloc o).cell? a=some v:=aG h<|aH _ _
theorem Oh(KE:bI)(v:aC)(t:TypeId)(h:b=KE.heap.size):(KE.alloc<|.cells #[v] t).cell? (aN b 0)=some v:=by subst h;exact(aj (bF KE _) 0).trans rfl
theorem ZF(KE:bI)(o:Obj)(h:b=KE.heap.size):(KE.alloc o).heap[b]?=some o:=by subst h;exact bF KE o
theorem Ll(h:KE.heap[b]?=some o):KE.drew.heap[b]?=some o:=h
theorem xC{P:Program}{e:Array Oper}{f:Exit->Act->bI->Prop}{md:Region.Mode}{i j k:Nat}{a:Act}{o o2 q:Oper}(s:Region.ready md e listed=[i,j,k])(u:e[i]?=some o)(y:e[j]?=some o2)(z:e[k]?=some q)(h:∀d:Act->bI->Prop,J (∀a w,((listed.setIfInBounds i true).getD st true=false->S w)->jA P md e f S st fuel (listed.setIfInBounds i true) a w->d a w)->if Region.wanted o (yielded e a.tmps)=true then Oper.wp P o a w d f else d (a.put o.dst undef) w)(g:∀d:Act->bI->Prop,J (∀a w,((listed.setIfInBounds j true).getD st true=false->S w)->jA P md e f S st fuel (listed.setIfInBounds j true) a w->d a w)->if Region.wanted o2 (yielded e a.tmps)=true then Oper.wp P o2 a w d f else d (a.put o2.dst undef) w)(t:∀d:Act->bI->Prop,J (∀a w,((listed.setIfInBounds k true).getD st true=false->S w)->jA P md e f S st fuel (listed.setIfInBounds k true) a w->d a w)->if Region.wanted q (yielded e a.tmps)=true then Oper.wp P q a w d f else d (a.put q.dst undef) w):jA P md e f S st (fuel+1) listed a w:=by
 refine⟨λr=>(by rw[s]at r;cases r),λC m=>?_⟩;rw[s]at m;rcases fV.1 m with rfl|m;·exact wpOp_step u (λd p=>h d<|Y (λa w n g=>p a w ⟨n,g⟩))
 ·rcases fV.1 m with rfl|m;·exact wpOp_step y (λd p=>g d<|Y (λa w n g=>p a w ⟨n,g⟩))
  ·rw[dh]at m;subst m;exact wpOp_step z (λd p=>t d<|Y (λa w n g=>p a w ⟨n,g⟩))
theorem nG{P:Program}{e:Array Oper}{d:Exit->Act->bI->Prop}{md:Region.Mode}{a:Act}(h:∀x,x=w->jA P md e d S st fuel listed a x):jA P md e d S st fuel listed a w:=h w rfl
theorem alJ{a:Nat}(h:w.heap[a]?=some o)(k:w.heap[b]?=some o2)(e:o≠o2):a≠b:=λd=>by subst d;rw[h]at k;cases k;exact e rfl
theorem nP(h:J (bK W x)):J (bK W x.drew):=Y<|h.drew
theorem qc(h:J (bK W x)):J (bK W<|x.alloc o):=Y<|up h<|aH _ _
theorem qJ.below(h:qJ w B l)(d:bK w w'):qJ w' B l:=bH h d
theorem qJ.apart(h:qJ w B l)(e:UF≠B)(i:Nat)(v:aC):qJ (w.setCell (aN UF i) v) B l:=aX h (λd=>e d.symm) _
theorem Uy(h:qJ W B l)(d:UF≠B)(e f g i j k:aC):qJ ((((((W.setCell (aN UF 0) e).setCell (aN UF 1) f).setCell (aN UF 2) g).setCell (aN UF 3) i).setCell (aN UF 4) j).setCell (aN UF 5) k) B l:=
 (((((h.apart d 0 _).apart d 1 _).apart d 2 _).apart d 3 _).apart d 4 _).apart d 5 _
theorem Uz(w:bI)(s:So)(ss:aJ)(G:Nat)(L:Nat->Nat)(Z:aL)(P:Pb)(V:Nat->Nat × Nat)(f:Fu)(pa ba ra:Option Addr)(pc bn bc rl rc:Nat)(rk rn:Int)(rs:aS)(hS:QI w s ss G L Z P V)(b3:s.ma=P.mask)(b2:s.lv=P.level)(hk:f.params.length<=4)(hl:P.sinks.length<=16777215):aD 79 #[.agg s.cs,.agg #[A f.name,X pa f.params.length pc,X ba bn bc,O rk,O rn,A rs,X ra rl rc]] w λe w'=>∃B,e=dz (.agg #[A f.name,O ((Sm.tell Z ss.length V P.fr<|Sm.lab P.mask P.level).1:Nat),O ((Sm.tell Z ss.length V P.fr<|Sm.lab P.mask P.level).2:Nat),Tc B f.params.length f.params.length,O (Sm.pc Z ss.length P.sinks:Nat),s.v4])/\J (qJ w' B (bds Z ss.length V P.sinks f.params.length)/\bK w w'):=by
 have HS:=Y hS;obtain⟨a0,n0,c0,a1,n1,c1,a2,n2,c2,a3,n3,c3,a4,n4,c4,a5,n5,c5,a6,D,C,a7,n7,c7,a8,n8,c8,hs⟩:=QH s hS.form;obtain⟨am,b5,b1⟩:=wX hS.ok.lab;rw[b3,b2,b5,b1]at hs;obtain⟨mk,be⟩:∃n,n=P.mask.toNat:=⟨_,rfl⟩;obtain⟨H,az⟩:∃n,n=P.level.toNat:=⟨_,rfl⟩;rw[<-be,<-az]at hs am;subst hs;have YN:J (Sm.lab P.mask P.level=(mk,H)):=Y (by rw[be,az];rfl);clear b3 b2 b5 b1 be az;simp only[So.cs];obtain⟨k,a9⟩:∃n,n=f.params.length:=⟨_,rfl⟩;rw[<-a9]at hk ⊢;have bp:=Y hk;obtain⟨W,hW,k0,k1,k2,ca,af⟩:=al3 w (aY #[X a0 n0 c0,X a1 n1 c1,X a2 n2 c2,X a3 n3 c3,X a4 n4 c4,X a5 n5 c5,O (mk:Nat),O (H:Nat),X a6 D C,X a7 n7 c7,X a8 n8 c8] 146) (aY #[A f.name,X pa k pc,X ba bn bc,O rk,O rn,A rs,X ra rl rc] 82)<|aY #[A ⟨#[]⟩,O 0,O 0,aU,O 0,aU] 34;obtain⟨Ra,bo⟩:=bV (hS.below af)<|Pn W (X a0 n0 c0) (X a1 n1 c1) ss G L Z (hS.la.strs.below af) (hS.la.Q5.below af) hS.la.ok;obtain⟨I,bi⟩:∃n,n=Sm.top Z ss.length:=⟨_,rfl⟩;have bs:=Y bi;have cn:J (xR (bS.tr Z) ss.length=I):=Y (by rw[bi];rfl);rw[cn.out]at bo;obtain⟨x0,x1⟩:=jv k0;obtain⟨iO,lH,jG,IJ,Ae⟩:=uh af k0 k1 k2 ca;clear hS k0 k1 k2 ca af bi a9 hk;go_enter func79,ntmps79;go_upto_region 1 with fail;rw[<-hW];clear hW;go_wp2_with fail;refine bo.out.mono ?_;rintro e w1 ⟨rfl,aa⟩;obtain⟨ar,oW,mh,co,mX⟩:=uh aa (bH lH.out aa) (bH jG.out aa) (bH IJ.out aa)<|Ra.out.below aa;clear aa x0 x1;obtain⟨R,hR⟩:∃R,R=Sm.tell Z ss.length V P.fr (mk,H):=⟨_,rfl⟩;have Aw:J (bK w1 w1):=Y<|bQ _ _;have I4:J (∀x,J (bK w1 x)->aD 112 #[.agg #[X a0 n0 c0,X a1 n1 c1,X a2 n2 c2,X a3 n3 c3,X a4 n4 c4,X a5 n5 c5,O (mk:Nat),O (H:Nat),X a6 D C,X a7 n7 c7,X a8 n8 c8],X a5 n5 c5,.agg #[O (mk:Nat),O (H:Nat)]] x λe w'=>e=dz (.agg #[O (R.1:Nat),O (R.2:Nat)])/\bK x w'):=Y (λx F=>by have h:=mX.out.below F.out;rw[hR];exact Uq x ⟨_,_,_,_,_,_,(mk:Nat),(H:Nat),_,_,_⟩ ss G L Z P.names.length V _ P.fr (mk,H) h.form h.la h.las h.oks h.pb.fr h.ok.fr am);have Vt:J (∀x,J (bK w1 x)->bJ x w.heap.size 0=some (X a0 n0 c0)/\bJ x w.heap.size 1=some (X a1 n1 c1)/\bJ x w.heap.size 2=some (X a2 n2 c2)/\bJ x w.heap.size 3=some (X a3 n3 c3)/\bJ x w.heap.size 4=some (X a4 n4 c4)/\bJ x w.heap.size 5=some (X a5 n5 c5)/\bJ x w.heap.size 6=some (O (mk:Nat))/\bJ x w.heap.size 7=some (O (H:Nat))/\bJ x w.heap.size 8=some (X a6 D C)/\bJ x w.heap.size 9=some (X a7 n7 c7)/\bJ x w.heap.size 10=some (X a8 n8 c8)/\bJ x (w.heap.size+1) 0=some (A f.name)/\bJ x (w.heap.size+1) 1=some (X pa k pc)):=Y (λx F=>by have h:=bH oW.out F.out;have g:=bH mh.out F.out;exact⟨(aj h 0).trans rfl,(aj h 1).trans rfl,(aj h 2).trans rfl,(aj h 3).trans rfl,(aj h 4).trans rfl,(aj h 5).trans rfl,(aj h 6).trans rfl,(aj h 7).trans rfl,(aj h 8).trans rfl,(aj h 9).trans rfl,(aj h 10).trans rfl,(aj g 0).trans rfl,(aj g 1).trans rfl⟩);obtain⟨HR,cI⟩:=bV hR am;obtain⟨r1,bf⟩:∃n,n=R.1:=⟨_,rfl⟩;obtain⟨r2,bh⟩:∃n,n=R.2:=⟨_,rfl⟩;rw[<-bf,<-bh]at I4;obtain⟨cl,cm⟩:=bV bf bh;clear hR am bf bh;go_upto_region 2 with fail;go_cut [8]from 12 (λp x=>∃UF B,p=gK UF/\J (UF≠B/\w1.heap.size<=UF/\w1.heap.size<=B/\dR x UF (aY #[A f.name,O (r1:Nat),O (r2:Nat),Tc B k k,O (I:Nat),X a6 D C] 34)/\qJ x B (List.replicate k (I:Int))/\bK w1 x));case first=>
  rename_i Q9 K9 h9 J9 L9 h8 h7;clear h9 hl;refine dx [some false,some true,some true,some false,some false,some true,some false,some false,some true,none,some false,none,some false,some true,some false,none,some false,some false,some false,some true,none,none,none] 22 (λx=>J<|bK w1 x) 6 dw dw (λ_ _ d _ _ h=>(by cases d<;>exact h)) (nP Aw) ?_;dsimp only[gB];repeat(first|(refine fO (v:=?_) dH ?_ ?_;rotate_left 1;(focus(intro w;go_simp;try(with_reducible rfl)));simp only[Act.put,dS,dY,eX])|(refine fP (v:=?_) dH ?_ ?_;rotate_left 1;(focus(intro w cC;have V5:=Vt.out w cC;go_simp;try(with_reducible rfl)));simp only[Act.put,dS,dY,eX]))
  refine dW ?_;generalize Value.agg #[X a0 n0 c0,X a1 n1 c1,X a2 n2 c2,X a3 n3 c3,X a4 n4 c4,X a5 n5 c5,O (mk:Nat),O (H:Nat),X a6 D C,X a7 n7 c7,X a8 n8 c8]=sv at *;refine nG ?_;intro x F;have U:J (bK w1 x):=by rw[F];exact(by repeat(first|with_reducible exact Aw|with_reducible refine nP ?_))
  clear F;have H0:J (bK x x):=Y<|bQ _ _
  iterate 5 (
   all_goals rename World=>KE
   all_goals first
    | refine aT (i:=20) (by decide +kernel) dH (λK m=>?_)
    | refine aT (i:=15) (by decide +kernel) dH (λK m=>?_)
    | refine aT (i:=21) (by decide +kernel) dH (λK m=>?_)
    | refine aT (i:=11) (by decide +kernel) dH (λK m=>?_)
    | refine aT (i:=9) (by decide +kernel) dH (λK m=>?_)
    | refine gG (i:=15) (k:=21) (by decide +kernel) dH dH (λK m=>?_) (λK m=>?_)
    | refine gG (i:=20) (k:=21) (by decide +kernel) dH dH (λK m=>?_) (λK m=>?_)
    | refine gG (i:=9) (k:=11) (by decide +kernel) dH dH (λK m=>?_) (λK m=>?_)
    | refine gG (i:=9) (k:=21) (by decide +kernel) dH dH (λK m=>?_) (λK m=>?_)
    | refine gG (i:=11) (k:=21) (by decide +kernel) dH dH (λK m=>?_) (λK m=>?_)
    | refine xC (i:=9) (j:=11) (k:=21) (by decide +kernel) dH dH dH (λK m=>?_) (λK m=>?_) (λK m=>?_)
   all_goals go_simp
   all_goals first
    | (go_at_call 112;refine(I4.out _<|by repeat(first|with_reducible exact U|with_reducible refine nP ?_|with_reducible refine qc ?_)).mono ?_;rintro e x ⟨rfl,hb⟩;have HS:J (bK KE x):=Y (up (gT<|by repeat(first|with_reducible exact H0|with_reducible refine nP ?_|with_reducible refine qc ?_)) hb);clear hb)
    | (go_at_call 114;refine(XE _ _ _ (I:Int) k bp.out<|by repeat(first|with_reducible exact HL.out|with_reducible refine Lj ?_|with_reducible refine aj6 _ ?_)).mono ?_;rintro e x ⟨B,rfl,hh⟩;have au:J (w1.heap.size<=B):=Y (bE (show w1.heap.size<=_ from (gT (by repeat(first|with_reducible exact U|with_reducible refine nP ?_|with_reducible refine qc ?_)):bK w1 _).size) hh.out.1);have HB:J (dR x B<|.cells (List.replicate k<|O (I:Nat)).toArray 3 (0,0)):=Y hh.out.2.1;have HS:J (bK KE x):=Y (up (gT<|by repeat(first|with_reducible exact H0|with_reducible refine nP ?_|with_reducible refine qc ?_)) hh.out.2.2);clear hh)
    | skip
   all_goals(
    try(replace U:=Y<|up U.out HS.out;(try replace u:=Y<|bH u.out HS.out);(try replace HL:=Y<|aG HL.out HS.out);clear HS;replace H0:J (bK x x):=Y<|bQ _ _;dsimp only)
    with_reducible refine m.out _ _ (λ_=>(by repeat(first|with_reducible exact U|with_reducible refine nP ?_|with_reducible refine qc ?_))) ?_
    clear m K
    have cj:=Y U.out.size
    rename World=>KE
    refine nG ?_
    intro x F
    have HS:J (bK KE x):=by rw[F];repeat(first|with_reducible exact H0|with_reducible refine nP ?_|with_reducible refine qc ?_)
    replace U:=Y<|up U.out HS.out
    try replace u:=Y<|bH u.out HS.out
    try replace HL:=Y<|aG HL.out HS.out
    try replace HB:=Y<|bH HB.out HS.out
    first
     | (have HL:J (bJ x KE.heap.size 0=some (O (I:Nat))):=Y (by rw[F];with_reducible(first|exact Oh _ _ _ rfl|exact Lj<|Oh _ _ _ rfl)))
     | (have u:J (dR x KE.heap.size<|aY #[A ⟨#[]⟩,O 0,O 0,aU,O 0,aU] 34):=Y (by rw[F];with_reducible(first|exact ZF _ _ rfl|exact Ll<|ZF _ _ rfl));have ah:=cj)
     | skip
    clear F
    replace H0:J (bK x x):=Y<|bQ _ _))
  all_goals(
   refine aT (i:=22) dw dH (λK m=>?_)
   have o0:=aj u.out 0
   have z0:=aF u.out 0
   obtain⟨-,o1⟩:=jv u.out
   have z1:=aF u.out 1
   have o2:=aj u.out 2
   have z2:=aF u.out 2
   have o3:=aj u.out 3
   have z3:=aF u.out 3
   have o4:=aj u.out 4
   have z4:=aF u.out 4
   have o5:=aj u.out 5
   have z5:=aF u.out 5
   go_simp
   with_reducible refine m.out _ _ (λh=>aM (h.symm.trans dw) iJ) ?_
   clear m K
   have ad:=alJ u.out HB.out cK
   have b9:=EC u.out (A f.name) (O (r1:Nat)) (O (r2:Nat)) (Tc B k k) (O (I:Nat))<|X a6 D C
   have bz:=Uy (show qJ x B (List.replicate k (I:Int))from by unfold qJ;rw[HB.out,List.map_replicate]) ad (A f.name) (O (r1:Nat)) (O (r2:Nat)) (Tc B k k) (O (I:Nat)) (X a6 D C)
   have cd:=Lg U.out ah.out (A f.name) (O (r1:Nat)) (O (r2:Nat)) (Tc B k k) (O (I:Nat))<|X a6 D C
   have xS:=Y<|And.intro ad<|And.intro ah.out<|And.intro au.out<|And.intro b9<|And.intro bz cd
   clear b9 bz cd ad o0 o1 o2 o3 o4 o5 z0 z1 z2 z3 z4 z5
   refine dP dw ?_ _
   go_wp2_with fail
   go_meet
   exact⟨_,_,rfl,xS⟩)
 case rest=>
  obtain⟨UF,B,rfl,bB⟩:=hcut;obtain⟨ad,b0,bY,ho,b7,bA⟩:=bB.out;obtain⟨lG,ah,au,u,sU,PO⟩:=vC ad b0 bY ho b7 bA;clear bB ad b0 bY ho b7 bA;obtain⟨ax,b4,o4,cx,e4,aE,cz,bw⟩:=HS.out.pb.sinks;simp only at e4;injection e4 with ct ak cu;subst ct cu;have vD:=Y ak;rw[<-ak]at aE cz hl;obtain⟨ay,b8,o8,cy,e8,al,cA,bx⟩:=HS.out.snk;rw[wE,dV]at e8 al;simp only at e8;injection e8 with cv aA cw;subst cv cw;have ET:J (n8=n4):=Y (by rw[aA,ak]);rw[<-aA]at al;obtain⟨ce,cf,cg,ch,HJ,bq⟩:=vC aE bw al bx HS.out.la.joins HS.out.la.meets;have GL:J (Sm.top Z ss.length<ss.length):=Y (Db (Z:=bS.tr Z) HJ.out (qF HS.out.la.ok).pos).1;have cr:=Y<|bH oW.out PO.out;have x4:=aj cr.out 4;clear aE bw al bx ak aA cA;go_wp2_with fail;clear x4;go_loopw[44] (λi wr=>∃j:Nat,j<=n4/\i=O j/\J (dR wr UF (aY #[A f.name,O (r1:Nat),O (r2:Nat),Tc B k k,O (xA Z ss.length P.sinks j:Nat),X a6 D C] 34)/\qJ wr B (nO Z ss.length V P.sinks k j 0)/\bK w1 wr)) (λi _=>n4 - (intOf i).toNat);exact⟨0,bN _,rfl,Y ⟨by rw[show xA Z ss.length P.sinks 0=I from bs.out.symm];exact u.out,by rw[amD,<-bs.out];exact sU.out,PO.out⟩⟩
  obtain⟨j,hj,rfl,jD⟩:=hrel;have M:=Y<|up (up iO.out ar.out) jD.out.2.2;by_cases cF:j<n4
  ·obtain⟨y,hy⟩:∃y,P.sinks[j]?=some y:=⟨_,aZ (by rw[<-vD.out];exact cF)⟩;have bv:=Y<|HS.out.ok.sinks y<|dG hy;obtain⟨tl,aq⟩:∃z,z=QD Z ss.length V y:=⟨_,rfl⟩;have IX:J (Sv.Ok ss.length tl):=Y (by rw[aq];exact Wd HJ.out HS.out.oks bv.out);obtain⟨bk,bj⟩:=bv.out.lvN;obtain⟨yl,Us⟩:∃z,z=y.lv.toNat:=⟨_,rfl⟩;rw[<-Us]at bk bj;have bu:=Y bk;have xM:J (xA Z ss.length P.sinks (j+1)=if y.gY then Sm.met Z ss.length (xA Z ss.length P.sinks j) yl else xA Z ss.length P.sinks j):=Y (by rw[abJ hy,Us];rfl);have bm:J (∀t,Sm.mK Z ss.length V P.sinks (j+1) t=if tl.1.testBit t then Sm.met Z ss.length (Sm.mK Z ss.length V P.sinks j t) yl else Sm.mK Z ss.length V P.sinks j t):=Y (λt=>by rw[Sm.Fz hy,Us,aq];rfl);have S9:J (xA Z ss.length P.sinks j<ss.length):=Y<|aiO bq.out HS.out.ok.sinks GL.out j;have Fy:J (∀t,Sm.mK Z ss.length V P.sinks j t<ss.length):=Y (λt=>aiP bq.out HS.out.ok.sinks GL.out j t);obtain rfl:=ce.out bC;obtain⟨vf,g0,g1,g2,g3,g4,g5,bL⟩:=cf.out j y hy;obtain⟨fa,fc,cb⟩:=bL.Hr;obtain⟨nf,b6⟩:∃n,n=y.fr.length:=⟨_,rfl⟩;rw[<-b6]at cb;subst cb;rw[bj]at g3;replace g0:=aG g0 M.out;replace g1:=aG g1 M.out;replace g2:=aG g2 M.out;replace g3:=aG g3 M.out;replace g4:=aG g4 M.out;replace g5:=aG g5 M.out;obtain rfl:=cg.out (by have:=ET.out;omega);have K8:=Y (ch.out j _<|Gi (x:=tl) (by rw[pq,hy,aq];rfl)).1;have cM:(j:Int)<(n8:Int):=by have:=ET.out;omega
   have cD:=IX.out.1;generalize tl.1=t1 at *;clear hy b6 bL Us aq bj bk;go_upto_region 6 with fail;obtain⟨qO,Zf⟩:=sO wr<|aY #[X fa nf fc,O y.mask,O y.level,O (yl:Nat),A y.name,.bool y.gY] 189;obtain⟨EP,cp,kG⟩:=fE (bH jD.out.1 qO.out) (jD.out.2.1.below qO.out)<|up jD.out.2.2 qO.out;generalize wr.alloc (aY #[X fa nf fc,O y.mask,O y.level,O (yl:Nat),A y.name,.bool y.gY] 189)=W7 at *;generalize wr.heap.size=SK at *;clear g0 g1 g2 g3 g4 g5;have q3:=aj EP.out 3;go_wp2_with fail;clear q3;go_loopw[52] (λi wr=>∃t:Nat,t<=k/\i=O t/\J (dR wr UF (aY #[A f.name,O (r1:Nat),O (r2:Nat),Tc B k k,O (xA Z ss.length P.sinks j:Nat),X a6 D C] 34)/\qJ wr B (nO Z ss.length V P.sinks k j t)/\dR wr SK (aY #[X fa nf fc,O y.mask,O y.level,O (yl:Nat),A y.name,.bool y.gY] 189)/\bK w1 wr)) (λi _=>k - (intOf i).toNat);exact⟨0,bN _,rfl,Y ⟨EP.out,cp.out,Zf.out,kG.out⟩⟩
   obtain⟨t,ht,rfl,r⟩:=hrel;obtain⟨M,E⟩:=bV (up (up iO.out ar.out) r.out.2.2.2)<|bH oW.out r.out.2.2.2;by_cases ap:t<k
   ·have k8:=aG K8.out M.out;have ag:=aj E.out 10;have cP:t<=4:=by have:=bp.out;omega
    have ao:=WU ⟨t1,cD⟩ ⟨t,by omega⟩;simp only at ao;cases ab:Fl.bit (t1:Nat) t
    ·rw[ab]at ao;have MF:J (Sm.mK Z ss.length V P.sinks (j+1) t=Sm.mK Z ss.length V P.sinks j t):=Y (by rw[bm.out,aI];simpa[Fl.bit]using ab);clear ab;go_wp2;go_roundw;exact⟨t+1,by omega,by go_num,Y ⟨r.out.1,by rw[<-ag0 ap j MF.out];exact r.out.2.1,r.out.2.2.1,r.out.2.2.2⟩⟩;exact gV
    ·rw[ab]at ao;have MF:J (Sm.mK Z ss.length V P.sinks (j+1) t=Sm.met Z ss.length (Sm.mK Z ss.length V P.sinks j t) yl):=Y (by rw[bm.out,aK];simpa[Fl.bit]using ab);clear ab;go_upto_region 10 with fail;clear k8 ag ao;have ae:=Y (λq os=>Zx (gn wr q os) ⟨X a0 n0 c0,X a1 n1 c1,X a2 n2 c2,X a3 n3 c3,X (some<|aN b4 o4) n4 c4,X a5 n5 c5,(mk:Nat),(H:Nat),X a6 D C,X a7 n7 c7,X (some<|aN b8 o8) n8 c8⟩ ss G L Z (Sm.mK Z ss.length V P.sinks j t) yl HS.out.form (HS.out.la.below<|up M.out<|bU wr q os) (Fy.out t) bu.out);simp only[So.cs]at ae;obtain⟨q3,s3,bb,x0,x1,x2,x3⟩:=Ng (bD<|(aj r.out.1 3).trans rfl) (bD<|(aj r.out.2.2.1 3).trans rfl) (bD<|r.out.2.1.cell<|Lf (Z:=Z) (N:=ss.length) (V:=V) (l:=P.sinks) ap j) (bD<|(aj E.out 0).trans rfl) (bD<|(aj E.out 1).trans rfl) (bD<|(aj E.out 2).trans rfl) (bD<|(aj E.out 3).trans rfl);obtain⟨x4,x5,x6,x7,x8,x9,ag⟩:=Ng (bD<|(aj E.out 4).trans rfl) (bD<|(aj E.out 5).trans rfl) (bD<|(aj E.out 6).trans rfl) (bD<|(aj E.out 7).trans rfl) (bD<|(aj E.out 8).trans rfl) (bD<|(aj E.out 9).trans rfl) (bD<|(aj E.out 10).trans rfl);have cN:(0:Int)<=(t:Int):=by omega
     have cL:(t:Int)<(k:Int):=by omega
     refine gq 13 dw dw ?_;dsimp only[List.take,List.drop];repeat(quiet_step ((exact Calls.oZ<|ae.out _ _)))
     refine wpQuiet_nil ?_;intro w6 cG;obtain⟨⟨nq,cH⟩,cc⟩:=cG;have fD:J (bK wr w6):=Y (by rw[cc];exact bU wr nq cH);obtain⟨ai,xJ,xS⟩:=fE (r.out.2.1.below fD.out) (bH r.out.1 fD.out)<|bH r.out.2.2.1 fD.out;obtain⟨r0,z0⟩:=eY (ai.out.cell<|Lf (Z:=Z) (N:=ss.length) (V:=V) (l:=P.sinks) ap j)<|aF ai.out t;have D8:J (SK≠B):=Y (λh=>by have h1:=xS.out;rw[h,ai.out]at h1;simp at h1);clear cc q3 s3 bb x0 x1 x2 x3 x4 x5 x6 x7 x8 x9 ag;go_wp2;go_roundw;exact⟨t+1,by omega,by go_num,Y ⟨aX xJ.out lG.out _,by have h:=ai.out.set t (Sm.mK Z ss.length V P.sinks (j+1) t:Nat);rw[Oc ap j,MF.out]at h;exact h,aX xS.out D8.out _,(up r.out.2.2.2 fD.out).setCell au.out _⟩⟩;exact gV
   ·obtain rfl:t=k:=by omega
    have s5:=aj r.out.2.2.1 5;have fT:J (qJ wr B<|nO Z ss.length V P.sinks t (j+1) 0):=Y (by rw[<-aj8];exact r.out.2.1);cases ac:y.gY
    ·rw[ac]at s5;have zV:J (xA Z ss.length P.sinks (j+1)=xA Z ss.length P.sinks j):=Y (by rw[xM.out,ac];rfl);clear ac;go_wp2;go_roundw;exact⟨j+1,by omega,by go_num,Y ⟨by rw[zV.out];exact r.out.1,fT.out,r.out.2.2.2⟩⟩;exact gV
    ·rw[ac]at s5;have zV:J (xA Z ss.length P.sinks (j+1)=Sm.met Z ss.length (xA Z ss.length P.sinks j) yl):=Y (by rw[xM.out,ac];rfl);clear ac;have ae:=Y<|Zx wr ⟨X a0 n0 c0,X a1 n1 c1,X a2 n2 c2,X a3 n3 c3,X (some<|aN b4 o4) n4 c4,X a5 n5 c5,(mk:Nat),(H:Nat),X a6 D C,X a7 n7 c7,X (some<|aN b8 o8) n8 c8⟩ ss G L Z (xA Z ss.length P.sinks j) yl HS.out.form (HS.out.la.below M.out) S9.out bu.out;simp only[So.cs]at ae;have q4:=aj r.out.1 4;have s3:=aj r.out.2.2.1 3;obtain⟨x0,x1,x2,x3,x4,x5,x6,x7,x8,x9,ag⟩:=TK E.out;go_wp2_with fail;refine ae.out.mono ?_;rintro e w8 ⟨rfl,pR⟩;obtain⟨xW,av,cq⟩:=fE pR (bH r.out.1 pR)<|fT.out.below pR;have r4:=aj av.out 4;have z4:=aF av.out 4;clear pR q4 s3 s5 x0 x1 x2 x3 x4 x5 x6 x7 x8 x9 ag;go_wp2;go_roundw;exact⟨j+1,by omega,by go_num,Y ⟨by rw[zV.out];exact(aP av.out 4 _).trans rfl,cq.out.apart lG.out 4 _,(up r.out.2.2.2 xW.out).setCell ah.out _⟩⟩;exact gV
  ·obtain rfl:j=n4:=by omega
   have xV:J (xA Z ss.length P.sinks j=Sm.pc Z ss.length P.sinks):=Y (by rw[vD.out];exact afS);have TG:J (nO Z ss.length V P.sinks k j 0=bds Z ss.length V P.sinks k):=Y (by rw[vD.out];exact abL k);have br:=Y jD.out.1;rw[xV.out]at br;have aw:=Y jD.out.2.1;rw[TG.out]at aw;obtain⟨o0,o1,o2,o3,o4,o5⟩:=ZC6 br.out;have Q:=Y<|bH co.out jD.out.2.2;obtain⟨y0,y1,y2,y3,y4,y5⟩:=ZC6 Q.out;obtain⟨z0,z1,z2,z3⟩:=rY (aF Q.out 0) (aF Q.out 1) (aF Q.out 2)<|aF Q.out 3;obtain⟨z4,z5⟩:=eY (aF Q.out 4)<|aF Q.out 5;have ck:J (w.heap.size+1+1≠B):=Y (λh=>by have h1:=Q.out;rw[h,aw.out]at h1;simp at h1);go_wp2_with fail;have hs:=EC Q.out (A f.name) (O (r1:Nat)) (O (r2:Nat)) (Tc B k k) (O (Sm.pc Z ss.length P.sinks:Nat))<|X a6 D C;obtain⟨f0,f1,f2,f3,f4,f5⟩:=ZC6 hs;refine cZ (v:=.agg #[A f.name,O (r1:Nat),O (r2:Nat),Tc B k k,O (Sm.pc Z ss.length P.sinks:Nat),X a6 D C]) (by simp[results,results79,go_sem,f0,f1,f2,f3,f4,f5]) rfl ?_;refine⟨B,by rw[YN.out,<-HR.out,<-cl.out,<-cm.out],Y ⟨Uy aw.out ck.out _ _ _ _ _ _,?_⟩⟩;exact Lg (up (up iO.out ar.out) jD.out.2.2) (bE (dN _)<|dN _) _ _ _ _ _ _
