/- part -/
import Derived.Test.YtbgkpehhdibaoaaGreatDoorBZBN
set_option maxHeartbeats 0
set_option maxRecDepth 99999
namespace Go.Proofs.YtbgkpehhdibaoaaGreatDoor
open bN Sm Sv
open Go.Proofs.Tryz
open Go.RowKit Go.Maps Go.WideMaps
variable{aaf w W x w':World}{a:Addr}{v:Value}{b st fuel B aae:Nat}{o o2:Obj}{S:World->Prop}{listed:Array Bool}{l:List Int}
theorem II(h:aaf.cell? a=some v):aaf.drew.cell? a=some v:=h
theorem Qy(o:Obj)(h:aaf.cell? a=some v):(aaf.alloc o).cell? a=some v:=aD h (aH _ _)
theorem KY(aaf:World)(v:Value)(t:TypeId)(h:b=aaf.heap.size):(aaf.alloc (.cells #[v] t)).cell? (X b 0)=some v:=by subst h;exact(aj (aZ aaf _) 0).trans rfl
theorem VY(aaf:World)(o:Obj)(h:b=aaf.heap.size):(aaf.alloc o).heap[b]?=some o:=by subst h;exact aZ aaf o
theorem BU(h:aaf.heap[b]?=some o):aaf.drew.heap[b]?=some o:=h
theorem ql{P:Program}{ops:Array Oper}{Q:Exit->Act->World->Prop}{md:Region.Mode}{i j k:Nat}{a:Act}{o o2 o3:Oper}(hr:Region.ready md ops listed=[i,j,k])(ho:ops[i]?=some o)(ho2:ops[j]?=some o2)(ho3:ops[k]?=some o3)(h:∀K':Act->World->Prop,Hid (∀a w,((listed.setIfInBounds i true).getD st true=false->S w)->iR P md ops Q S st fuel (listed.setIfInBounds i true) a w->K' a w)->if Region.wanted o (yielded ops a.tmps)=true then Oper.wp P o a w K' Q else K' (a.put o.dst undef) w)(h2:∀K':Act->World->Prop,Hid (∀a w,((listed.setIfInBounds j true).getD st true=false->S w)->iR P md ops Q S st fuel (listed.setIfInBounds j true) a w->K' a w)->if Region.wanted o2 (yielded ops a.tmps)=true then Oper.wp P o2 a w K' Q else K' (a.put o2.dst undef) w)(h3:∀K':Act->World->Prop,Hid (∀a w,((listed.setIfInBounds k true).getD st true=false->S w)->iR P md ops Q S st fuel (listed.setIfInBounds k true) a w->K' a w)->if Region.wanted o3 (yielded ops a.tmps)=true then Oper.wp P o3 a w K' Q else K' (a.put o3.dst undef) w):iR P md ops Q S st (fuel+1) listed a w:=by
 refine⟨λh0=>(by rw[hr]at h0;cases h0),λu hu=>?_⟩;rw[hr]at hu;rcases fK.1 hu with rfl|hu;·exact wpOp_step ho (λK' hK=>h K' (I (λa w h1 h2=>hK a w ⟨h1,h2⟩)))
 ·rcases fK.1 hu with rfl|hu;·exact wpOp_step ho2 (λK' hK=>h2 K' (I (λa w h1 h2=>hK a w ⟨h1,h2⟩)))
  ·rw[dD]at hu;subst hu;exact wpOp_step ho3 (λK' hK=>h3 K' (I (λa w h1 h2=>hK a w ⟨h1,h2⟩)))
theorem lU{P:Program}{ops:Array Oper}{Q:Exit->Act->World->Prop}{md:Region.Mode}{a:Act}(h:∀x,x=w->iR P md ops Q S st fuel listed a x):iR P md ops Q S st fuel listed a w:=h w rfl
theorem blk_ne{a:Nat}(h:w.heap[a]?=some o)(k:w.heap[b]?=some o2)(hne:o≠o2):a≠b:=λe=>by subst e;rw[h]at k;cases k;exact hne rfl
theorem l8(h:Hid (bG W x)):Hid (bG W x.drew):=I (h.drew)
theorem nV(h:Hid (bG W x)):Hid (bG W (x.alloc o)):=I (up h (aH _ _))
theorem oM.below(h:oM w B l)(hb:bG w w'):oM w' B l:=aU h hb
theorem oM.apart(h:oM w B l)(hn:aae≠B)(i:Nat)(v:Value):oM (w.setCell (X aae i) v) B l:=bI h (λe=>hn e.symm) _
theorem Qz(h:oM W B l)(hn:aae≠B)(r0 r1 r2 r3 r4 r5:Value):oM ((((((W.setCell (X aae 0) r0).setCell (X aae 1) r1).setCell (X aae 2) r2).setCell (X aae 3) r3).setCell (X aae 4) r4).setCell (X aae 5) r5) B l:=
 (((((h.apart hn 0 _).apart hn 1 _).apart hn 2 _).apart hn 3 _).apart hn 4 _).apart hn 5 _
theorem QA(w:World)(s:So)(ss:List aY)(G:Nat)(L:Nat->Nat)(Z:Nat->Nat->Bool)(P:Pb)(V:Nat->Nat × Nat)(f:Fu)(pa ba ra:Option Addr)(pc bn bc rl rc:Nat)(rk rn:Int)(rs:aY)(hS:Nw w s ss G L Z P V)(hma:s.ma=P.mask)(hlv:s.lv=P.level)(hk:f.params.length<=4)(hl:P.sinks.length<=16777215):Calls prog 56 #[.agg s.cs,.agg #[A f.name,Y pa f.params.length pc,Y ba bn bc,O rk,O rn,A rs,Y ra rl rc]] w λe w'=>∃B,e=dz (.agg #[A f.name,O ((Sm.tell Z ss.length V P.fr (Sm.lab P.mask P.level)).1:Nat),O ((Sm.tell Z ss.length V P.fr (Sm.lab P.mask P.level)).2:Nat),Y (some (X B 0)) f.params.length f.params.length,O (Sm.pc Z ss.length P.sinks:Nat),s.v4])/\Hid (oM w' B (bds Z ss.length V P.sinks f.params.length)/\bG w w'):=by
 have HS:=I hS;obtain⟨a0,n0,c0,a1,n1,c1,a2,n2,c2,a3,n3,c3,a4,n4,c4,a5,n5,c5,a6,n6,c6,a7,n7,c7,a8,n8,c8,hs⟩:=Nv s hS.form;obtain⟨hab,hmk,hlk⟩:=uK hS.ok.lab;rw[hma,hlv,hmk,hlk]at hs;obtain⟨mk,hmk'⟩:∃n,n=P.mask.toNat:=⟨_,rfl⟩;obtain⟨lv,hlv'⟩:∃n,n=P.level.toNat:=⟨_,rfl⟩;rw[<-hmk',<-hlv']at hs hab;subst hs;have HLB:Hid (Sm.lab P.mask P.level=(mk,lv)):=I (by rw[hmk',hlv'];rfl);clear hma hlv hmk hlk hmk' hlv';simp only[So.cs];obtain⟨k,hkk⟩:∃n,n=f.params.length:=⟨_,rfl⟩;have HKK:=I hkk;rw[<-hkk]at hk ⊢;have HK4:=I hk;obtain⟨W,hW,k0,k1,k2,hsz,hBW⟩:=Za w (aW #[Y a0 n0 c0,Y a1 n1 c1,Y a2 n2 c2,Y a3 n3 c3,Y a4 n4 c4,Y a5 n5 c5,O (mk:Nat),O (lv:Nat),Y a6 n6 c6,Y a7 n7 c7,Y a8 n8 c8] 133) (aW #[A f.name,Y pa k pc,Y ba bn bc,O rk,O rn,A rs,Y ra rl rc] 109) (aW #[A ⟨#[]⟩,O 0,O 0,J,O 0,J] 35);obtain⟨NT,HEN⟩:=bU (hS.below hBW) (Mj W (Y a0 n0 c0) (Y a1 n1 c1) ss G L Z (hS.la.strs.below hBW) (hS.la.NS.below hBW) hS.la.ok);obtain⟨tp,htp⟩:∃n,n=Sm.top Z ss.length:=⟨_,rfl⟩;have HTP:=I htp;have HT2:Hid (vE (bN.tr Z) ss.length=tp):=I (by rw[htp];rfl);rw[HT2.out]at HEN;obtain⟨x0,x1⟩:=iV k0;obtain⟨iA,lF,jh,Fa,zS⟩:=rO hBW k0 k1 k2 hsz;clear hS k0 k1 k2 hsz hBW htp hkk hk;go_enter func56,ntmps56;go_upto_region 1 with fail;rw[<-hW];clear hW;go_wp2_with fail;refine HEN.out.mono ?_;rintro e w1 ⟨rfl,hb1⟩;obtain⟨HB1,nC,kV,HK21,qI⟩:=rO hb1 (aU lF.out hb1) (aU jh.out hb1) (aU Fa.out hb1) (NT.out.below hb1);clear hb1 x0 x1;obtain⟨R,hR⟩:∃R,R=Sm.tell Z ss.length V P.fr (mk,lv):=⟨_,rfl⟩;have yA:Hid (bG w1 w1):=I (bP _ _);have Jb:Hid (∀x,Hid (bG w1 x)->Calls prog 110 #[.agg #[Y a0 n0 c0,Y a1 n1 c1,Y a2 n2 c2,Y a3 n3 c3,Y a4 n4 c4,Y a5 n5 c5,O (mk:Nat),O (lv:Nat),Y a6 n6 c6,Y a7 n7 c7,Y a8 n8 c8],Y a5 n5 c5,.agg #[O (mk:Nat),O (lv:Nat)]] x λe w'=>e=dz (.agg #[O (R.1:Nat),O (R.2:Nat)])/\bG x w'):=I (λx hx=>by have h:=qI.out.below hx.out;rw[hR];exact Qr x ⟨_,_,_,_,_,_,(mk:Nat),(lv:Nat),_,_,_⟩ ss G L Z P.names.length V _ P.fr (mk,lv) h.form h.la h.las h.oks h.pb.fr h.ok.fr hab);have Rh:Hid (∀x,Hid (bG w1 x)->x.cell? (X w.heap.size 0)=some (Y a0 n0 c0)/\x.cell? (X w.heap.size 1)=some (Y a1 n1 c1)/\x.cell? (X w.heap.size 2)=some (Y a2 n2 c2)/\x.cell? (X w.heap.size 3)=some (Y a3 n3 c3)/\x.cell? (X w.heap.size 4)=some (Y a4 n4 c4)/\x.cell? (X w.heap.size 5)=some (Y a5 n5 c5)/\x.cell? (X w.heap.size 6)=some (O (mk:Nat))/\x.cell? (X w.heap.size 7)=some (O (lv:Nat))/\x.cell? (X w.heap.size 8)=some (Y a6 n6 c6)/\x.cell? (X w.heap.size 9)=some (Y a7 n7 c7)/\x.cell? (X w.heap.size 10)=some (Y a8 n8 c8)/\x.cell? (X (w.heap.size+1) 0)=some (A f.name)/\x.cell? (X (w.heap.size+1) 1)=some (Y pa k pc)):=I (λx hx=>by have h:=aU nC.out hx.out;have g:=aU kV.out hx.out;exact⟨(aj h 0).trans rfl,(aj h 1).trans rfl,(aj h 2).trans rfl,(aj h 3).trans rfl,(aj h 4).trans rfl,(aj h 5).trans rfl,(aj h 6).trans rfl,(aj h 7).trans rfl,(aj h 8).trans rfl,(aj h 9).trans rfl,(aj h 10).trans rfl,(aj g 0).trans rfl,(aj g 1).trans rfl⟩);obtain⟨HR,HAB⟩:=bU hR hab;obtain⟨r1,hr1⟩:∃n,n=R.1:=⟨_,rfl⟩;obtain⟨r2,hr2⟩:∃n,n=R.2:=⟨_,rfl⟩;rw[<-hr1,<-hr2]at Jb;obtain⟨HR1,HR2⟩:=bU hr1 hr2;clear hR hab hr1 hr2;go_upto_region 2 with fail;go_cut [8]from 12 (λp x=>∃aae B,p=iO aae/\Hid (aae≠B/\w1.heap.size<=aae/\w1.heap.size<=B/\x.heap[aae]?=some (aW #[A f.name,O (r1:Nat),O (r2:Nat),Y (some (X B 0)) k k,O (tp:Nat),Y a6 n6 c6] 35)/\oM x B (List.replicate k (tp:Int))/\bG w1 x));case first=>
  rename_i Q9 K9 h9 J9 L9 h8 h7;clear h9 hl;refine bW [some false,some true,some true,some false,some false,some true,some false,some false,some true,none,some false,none,some false,some true,some false,none,some false,some false,some false,some true,none,none,none] 22 (λx=>Hid (bG w1 x)) 6 bR bR (λ_ _ d _ _ h=>(by cases d<;>exact h)) (l8 yA) ?_;dsimp only[fE];repeat(first|(refine fq (v:=?_) cZ ?_ ?_;rotate_left 1;(focus(intro w;go_simp;try(with_reducible rfl)));simp only[Act.put,dG,dM,dU])|(refine fA (v:=?_) cZ ?_ ?_;rotate_left 1;(focus(intro w hSw;have RU:=Rh.out w hSw;go_simp;try(with_reducible rfl)));simp only[Act.put,dG,dM,dU]))
  refine dH ?_;generalize Value.agg #[Y a0 n0 c0,Y a1 n1 c1,Y a2 n2 c2,Y a3 n3 c3,Y a4 n4 c4,Y a5 n5 c5,O (mk:Nat),O (lv:Nat),Y a6 n6 c6,Y a7 n7 c7,Y a8 n8 c8]=sv at *;refine lU ?_;intro x hx;have HX:Hid (bG w1 x):=by rw[hx];exact(by repeat(first|with_reducible exact yA|with_reducible refine l8 ?_))
  clear hx;have H0:Hid (bG x x):=I (bP _ _)
  iterate 5 (
   all_goals rename World=>aaf
   all_goals first
    | refine aN (i:=20) (by decide +kernel) cZ (λK hK=>?_)
    | refine aN (i:=15) (by decide +kernel) cZ (λK hK=>?_)
    | refine aN (i:=21) (by decide +kernel) cZ (λK hK=>?_)
    | refine aN (i:=11) (by decide +kernel) cZ (λK hK=>?_)
    | refine aN (i:=9) (by decide +kernel) cZ (λK hK=>?_)
    | refine eH (i:=15) (k:=21) (by decide +kernel) cZ cZ (λK hK=>?_) (λK hK=>?_)
    | refine eH (i:=20) (k:=21) (by decide +kernel) cZ cZ (λK hK=>?_) (λK hK=>?_)
    | refine eH (i:=9) (k:=11) (by decide +kernel) cZ cZ (λK hK=>?_) (λK hK=>?_)
    | refine eH (i:=9) (k:=21) (by decide +kernel) cZ cZ (λK hK=>?_) (λK hK=>?_)
    | refine eH (i:=11) (k:=21) (by decide +kernel) cZ cZ (λK hK=>?_) (λK hK=>?_)
    | refine ql (i:=9) (j:=11) (k:=21) (by decide +kernel) cZ cZ cZ (λK hK=>?_) (λK hK=>?_) (λK hK=>?_)
   all_goals go_simp
   all_goals first
    | (go_at_call 110;refine(Jb.out _ (by repeat(first|with_reducible exact HX|with_reducible refine l8 ?_|with_reducible refine nV ?_))).mono ?_;rintro e x ⟨rfl,hb⟩;have HS:Hid (bG aaf x):=I (up (gV (by repeat(first|with_reducible exact H0|with_reducible refine l8 ?_|with_reducible refine nV ?_))) hb);clear hb)
    | (go_at_call 112;refine(TP _ _ _ (tp:Int) k HK4.out (by repeat(first|with_reducible exact HL.out|with_reducible refine II ?_|with_reducible refine Qy _ ?_))).mono ?_;rintro e x ⟨B,rfl,hh⟩;have HGB:Hid (w1.heap.size<=B):=I (bF (show w1.heap.size<=_ from (gV (by repeat(first|with_reducible exact HX|with_reducible refine l8 ?_|with_reducible refine nV ?_)):bG w1 _).size) hh.out.1);have HB:Hid (x.heap[B]?=some (.cells (List.replicate k (O (tp:Nat))).toArray 3 (0,0))):=I hh.out.2.1;have HS:Hid (bG aaf x):=I (up (gV (by repeat(first|with_reducible exact H0|with_reducible refine l8 ?_|with_reducible refine nV ?_))) hh.out.2.2);clear hh)
    | skip
   all_goals(
    try(replace HX:=I (up HX.out HS.out);(try replace HO:=I (aU HO.out HS.out));(try replace HL:=I (aD HL.out HS.out));clear HS;replace H0:Hid (bG x x):=I (bP _ _);dsimp only)
    with_reducible refine hK.out _ _ (λ_=>(by repeat(first|with_reducible exact HX|with_reducible refine l8 ?_|with_reducible refine nV ?_))) ?_
    clear hK K
    have HGQ:=I HX.out.size
    rename World=>aaf
    refine lU ?_
    intro x hx
    have HS:Hid (bG aaf x):=by rw[hx];repeat(first|with_reducible exact H0|with_reducible refine l8 ?_|with_reducible refine nV ?_)
    replace HX:=I (up HX.out HS.out)
    try replace HO:=I (aU HO.out HS.out)
    try replace HL:=I (aD HL.out HS.out)
    try replace HB:=I (aU HB.out HS.out)
    first
     | (have HL:Hid (x.cell? (X aaf.heap.size 0)=some (O (tp:Nat))):=I (by rw[hx];with_reducible(first|exact KY _ _ _ rfl|exact II (KY _ _ _ rfl))))
     | (have HO:Hid (x.heap[aaf.heap.size]?=some (aW #[A ⟨#[]⟩,O 0,O 0,J,O 0,J] 35)):=I (by rw[hx];with_reducible(first|exact VY _ _ rfl|exact BU (VY _ _ rfl)));have HGO:=HGQ)
     | skip
    clear hx
    replace H0:Hid (bG x x):=I (bP _ _)))
  all_goals(
   refine aN (i:=22) bR cZ (λK hK=>?_)
   have o0:=aj HO.out 0
   have z0:=aG HO.out 0
   obtain⟨-,o1⟩:=iV HO.out
   have z1:=aG HO.out 1
   have o2:=aj HO.out 2
   have z2:=aG HO.out 2
   have o3:=aj HO.out 3
   have z3:=aG HO.out 3
   have o4:=aj HO.out 4
   have z4:=aG HO.out 4
   have o5:=aj HO.out 5
   have z5:=aG HO.out 5
   go_simp
   with_reducible refine hK.out _ _ (λh=>aM (h.symm.trans bR) gN) ?_
   clear hK K
   have hne:=blk_ne HO.out HB.out dx
   have hs6:=PE HO.out (A f.name) (O (r1:Nat)) (O (r2:Nat)) (Y (some (X B 0)) k k) (O (tp:Nat)) (Y a6 n6 c6)
   have hb6:=Qz (show oM x B (List.replicate k (tp:Int))from by unfold oM;rw[HB.out,List.map_replicate]) hne (A f.name) (O (r1:Nat)) (O (r2:Nat)) (Y (some (X B 0)) k k) (O (tp:Nat)) (Y a6 n6 c6)
   have hw6:=nU HX.out HGO.out (A f.name) (O (r1:Nat)) (O (r2:Nat)) (Y (some (X B 0)) k k) (O (tp:Nat)) (Y a6 n6 c6)
   have vG:=I (And.intro hne (And.intro HGO.out (And.intro HGB.out (And.intro hs6 (And.intro hb6 hw6)))))
   clear hs6 hb6 hw6 hne o0 o1 o2 o3 o4 o5 z0 z1 z2 z3 z4 z5
   refine dB bR ?_ _
   go_wp2_with fail
   go_meet
   exact⟨_,_,rfl,vG⟩)
 case rest=>
  obtain⟨aae,B,rfl,hcc⟩:=hcut;obtain⟨hne,hgo,hgb,ho,hrow,hbel⟩:=hcc.out;obtain⟨og,HGO,HGB,HO,uO,Ht⟩:=vP hne hgo hgb ho hrow hbel;clear hcc hne hgo hgb ho hrow hbel;obtain⟨ax,b4,o4,cx,e4,h40,h4l,h4e⟩:=HS.out.pb.sinks;simp only at e4;injection e4 with e41 e42 e43;subst e41 e43;have yF:=I e42;rw[<-e42]at h40 h4l hl;obtain⟨ay,b8,o8,cy,e8,h80,h8l,h8e⟩:=HS.out.snk;rw[tQ,dO]at e8 h80;simp only at e8;injection e8 with e81 e82 e83;subst e81 e83;have Jf:Hid (n8=n4):=I (by rw[e82,e42]);rw[<-e82]at h80;obtain⟨H40,H4E,H80,H8E,HJ,HME⟩:=vP h40 h4e h80 h8e HS.out.la.joins HS.out.la.meets;have DW:Hid (Sm.top Z ss.length<ss.length):=I (F3 (Z:=bN.tr Z) HJ.out (pU HS.out.la.ok).pos).1;have HK0C:=I (aU nC.out Ht.out);have x4:=aj HK0C.out 4;clear h40 h4e h80 h8e e42 e82 h8l;go_wp2_with fail;clear x4;go_loopw[44] (λi wr=>∃j:Nat,j<=n4/\i=O j/\Hid (wr.heap[aae]?=some (aW #[A f.name,O (r1:Nat),O (r2:Nat),Y (some (X B 0)) k k,O (uW Z ss.length P.sinks j:Nat),Y a6 n6 c6] 35)/\oM wr B (l7 Z ss.length V P.sinks k j 0)/\bG w1 wr)) (λi _=>n4 - (intOf i).toNat);case atStart=>exact⟨0,bL _,rfl,I ⟨by rw[show uW Z ss.length P.sinks 0=tp from HTP.out.symm];exact HO.out,by rw[TS,<-HTP.out];exact uO.out,Ht.out⟩⟩
  case round=>
   obtain⟨j,hj,rfl,kF⟩:=hrel;have oQ:=I (up (up iA.out HB1.out) kF.out.2.2);by_cases hjl:j<n4
   ·obtain⟨y,hy⟩:∃y,P.sinks[j]?=some y:=⟨_,bD (by rw[<-yF.out];exact hjl)⟩;have HYO:=I (HS.out.ok.sinks y (eT hy));obtain⟨tl,htl⟩:∃z,z=Ns Z ss.length V y:=⟨_,rfl⟩;have Fw:Hid (Sv.Ok ss.length tl):=I (by rw[htl];exact siL_ok HJ.out HS.out.oks HYO.out);obtain⟨hyl,hye⟩:=HYO.out.lvN;obtain⟨yl,Qt⟩:∃z,z=y.lv.toNat:=⟨_,rfl⟩;rw[<-Qt]at hyl hye;have HYL:=I hyl;have vR:Hid (uW Z ss.length P.sinks (j+1)=if y.gY then Sm.met Z ss.length (uW Z ss.length P.sinks j) yl else uW Z ss.length P.sinks j):=I (by rw[Yz hy,Qt];rfl);have HBS:Hid (∀t,Sm.lu Z ss.length V P.sinks (j+1) t=if tl.1.testBit t then Sm.met Z ss.length (Sm.lu Z ss.length V P.sinks j t) yl else Sm.lu Z ss.length V P.sinks j t):=I (λt=>by rw[Sm.CG hy,Qt,htl];rfl);have Xz:Hid (uW Z ss.length P.sinks j<ss.length):=I (pcTo_lt HME.out HS.out.ok.sinks DW.out j);have Fv:Hid (∀t,Sm.lu Z ss.length V P.sinks j t<ss.length):=I (λt=>bdTo_lt HME.out HS.out.ok.sinks DW.out j t);obtain rfl:=H40.out aX;obtain⟨vf,g0,g1,g2,g3,g4,g5,hfi⟩:=H4E.out j y hy;obtain⟨fa,fc,hvf⟩:=hfi.IB;obtain⟨nf,hnf⟩:∃n,n=y.fr.length:=⟨_,rfl⟩;rw[<-hnf]at hvf;subst hvf;rw[hye]at g3;replace g0:=aD g0 oQ.out;replace g1:=aD g1 oQ.out;replace g2:=aD g2 oQ.out;replace g3:=aD g3 oQ.out;replace g4:=aD g4 oQ.out;replace g5:=aD g5 oQ.out;obtain rfl:=H80.out (by have:=Jf.out;omega);have K8:=I (H8E.out j _ (Dv (x:=tl) (by rw[qA,hy,htl];rfl))).1;have hj8:(j:Int)<(n8:Int):=by have:=Jf.out;omega
    have hT16:=Fw.out.1;generalize tl.1=t1 at *;clear hy hnf hfi Qt htl hye hyl;go_upto_region 6 with fail;obtain⟨oP,HKS⟩:=rZ wr (aW #[Y fa nf fc,O y.mask,O y.level,O (yl:Nat),A y.name,.bool y.gY] 209);obtain⟨Ca,HROW7,jG⟩:=fD (aU kF.out.1 oP.out) (kF.out.2.1.below oP.out) (up kF.out.2.2 oP.out);generalize wr.alloc (aW #[Y fa nf fc,O y.mask,O y.level,O (yl:Nat),A y.name,.bool y.gY] 209)=W7 at *;generalize wr.heap.size=SK at *;clear g0 g1 g2 g3 g4 g5;have q3:=aj Ca.out 3;go_wp2_with fail;clear q3;go_loopw[52] (λi wr=>∃t:Nat,t<=k/\i=O t/\Hid (wr.heap[aae]?=some (aW #[A f.name,O (r1:Nat),O (r2:Nat),Y (some (X B 0)) k k,O (uW Z ss.length P.sinks j:Nat),Y a6 n6 c6] 35)/\oM wr B (l7 Z ss.length V P.sinks k j t)/\wr.heap[SK]?=some (aW #[Y fa nf fc,O y.mask,O y.level,O (yl:Nat),A y.name,.bool y.gY] 209)/\bG w1 wr)) (λi _=>k - (intOf i).toNat);case atStart=>exact⟨0,bL _,rfl,I ⟨Ca.out,HROW7.out,HKS.out,jG.out⟩⟩
    case round=>
     obtain⟨t,ht,rfl,HT0⟩:=hrel;obtain⟨oQ,Dy⟩:=bU (up (up iA.out HB1.out) HT0.out.2.2.2) (aU nC.out HT0.out.2.2.2);by_cases htk:t<k
     ·have k8:=aD K8.out oQ.out;have x10:=aj Dy.out 10;have ht4:t<=4:=by have:=HK4.out;omega
      have hbt:=bit16 ⟨t1,hT16⟩ ⟨t,by omega⟩;simp only at hbt;cases hbit:Fl.bit (t1:Nat) t
      ·rw[hbit]at hbt;have Sd:Hid (Sm.lu Z ss.length V P.sinks (j+1) t=Sm.lu Z ss.length V P.sinks j t):=I (by rw[HBS.out,aJ];simpa[Fl.bit]using hbit);clear hbit;go_wp2_with fail;go_roundw;case rel=>exact⟨t+1,by omega,by go_num,I ⟨HT0.out.1,by rw[<-TQ htk j Sd.out];exact HT0.out.2.1,HT0.out.2.2.1,HT0.out.2.2.2⟩⟩
       case measure=>simp[intOf];omega
      ·rw[hbit]at hbt;have Sd:Hid (Sm.lu Z ss.length V P.sinks (j+1) t=Sm.met Z ss.length (Sm.lu Z ss.length V P.sinks j t) yl):=I (by rw[HBS.out,aL];simpa[Fl.bit]using hbit);clear hbit;go_upto_region 10 with fail;clear k8 x10 hbt;have Y7:=I (λq os=>VR (gn wr q os) ⟨Y a0 n0 c0,Y a1 n1 c1,Y a2 n2 c2,Y a3 n3 c3,Y (some (X b4 o4)) n4 c4,Y a5 n5 c5,(mk:Nat),(lv:Nat),Y a6 n6 c6,Y a7 n7 c7,Y (some (X b8 o8)) n8 c8⟩ ss G L Z (Sm.lu Z ss.length V P.sinks j t) yl HS.out.form (HS.out.la.below (up oQ.out (bQ wr q os))) (Fv.out t) HYL.out);simp only[So.cs]at Y7;obtain⟨q3,s3,bb,x0,x1,x2,x3⟩:=J5 (aS ((aj HT0.out.1 3).trans rfl)) (aS ((aj HT0.out.2.2.1 3).trans rfl)) (aS (HT0.out.2.1.cell (IE (Z:=Z) (N:=ss.length) (V:=V) (l:=P.sinks) htk j))) (aS ((aj Dy.out 0).trans rfl)) (aS ((aj Dy.out 1).trans rfl)) (aS ((aj Dy.out 2).trans rfl)) (aS ((aj Dy.out 3).trans rfl));obtain⟨x4,x5,x6,x7,x8,x9,x10⟩:=J5 (aS ((aj Dy.out 4).trans rfl)) (aS ((aj Dy.out 5).trans rfl)) (aS ((aj Dy.out 6).trans rfl)) (aS ((aj Dy.out 7).trans rfl)) (aS ((aj Dy.out 8).trans rfl)) (aS ((aj Dy.out 9).trans rfl)) (aS ((aj Dy.out 10).trans rfl));have ht0:(0:Int)<=(t:Int):=by omega
       have htk':(t:Int)<(k:Int):=by omega
       refine eU 13 bR bR ?_;dsimp only[List.take,List.drop];repeat(quiet_step ((exact Calls.nE (Y7.out _ _))))
       refine wpQuiet_nil ?_;intro w6 hw';obtain⟨⟨nq,osq⟩,hw''⟩:=hw';have dX:Hid (bG wr w6):=I (by rw[hw''];exact bQ wr nq osq);obtain⟨HRW6,Al,vG⟩:=fD (HT0.out.2.1.below dX.out) (aU HT0.out.1 dX.out) (aU HT0.out.2.2.1 dX.out);obtain⟨r0,z0⟩:=eY (HRW6.out.cell (IE (Z:=Z) (N:=ss.length) (V:=V) (l:=P.sinks) htk j)) (aG HRW6.out t);have Fz:Hid (SK≠B):=I (λh=>by have h1:=vG.out;rw[h,HRW6.out]at h1;simp at h1);clear hw'' q3 s3 bb x0 x1 x2 x3 x4 x5 x6 x7 x8 x9 x10;go_wp2_with fail;go_roundw;case rel=>exact⟨t+1,by omega,by go_num,I ⟨bI Al.out og.out _,by have h:=HRW6.out.set t (Sm.lu Z ss.length V P.sinks (j+1) t:Nat);rw[KS htk j,Sd.out]at h;exact h,bI vG.out Fz.out _,(up HT0.out.2.2.2 dX.out).setCell HGB.out _⟩⟩
       case measure=>simp[intOf];omega
     ·obtain rfl:t=k:=by omega
      have s5:=aj HT0.out.2.2.1 5;have fO:Hid (oM wr B (l7 Z ss.length V P.sinks t (j+1) 0)):=I (by rw[<-TR];exact HT0.out.2.1);cases hef:y.gY
      ·rw[hef]at s5;have AQ:Hid (uW Z ss.length P.sinks (j+1)=uW Z ss.length P.sinks j):=I (by rw[vR.out,hef];rfl);clear hef;go_wp2_with fail;go_roundw;case rel=>exact⟨j+1,by omega,by go_num,I ⟨by rw[AQ.out];exact HT0.out.1,fO.out,HT0.out.2.2.2⟩⟩
       case measure=>simp[intOf];omega
      ·rw[hef]at s5;have AQ:Hid (uW Z ss.length P.sinks (j+1)=Sm.met Z ss.length (uW Z ss.length P.sinks j) yl):=I (by rw[vR.out,hef];rfl);clear hef;have Y7:=I (VR wr ⟨Y a0 n0 c0,Y a1 n1 c1,Y a2 n2 c2,Y a3 n3 c3,Y (some (X b4 o4)) n4 c4,Y a5 n5 c5,(mk:Nat),(lv:Nat),Y a6 n6 c6,Y a7 n7 c7,Y (some (X b8 o8)) n8 c8⟩ ss G L Z (uW Z ss.length P.sinks j) yl HS.out.form (HS.out.la.below oQ.out) Xz.out HYL.out);simp only[So.cs]at Y7;have q4:=aj HT0.out.1 4;have s3:=aj HT0.out.2.2.1 3;obtain⟨x0,x1,x2,x3,x4,x5,x6,x7,x8,x9,x10⟩:=ZC11 Dy.out;go_wp2_with fail;refine Y7.out.mono ?_;rintro e w8 ⟨rfl,nK⟩;obtain⟨vJ,HO8,HRW8⟩:=fD nK (aU HT0.out.1 nK) (fO.out.below nK);have r4:=aj HO8.out 4;have z4:=aG HO8.out 4;clear nK q4 s3 s5 x0 x1 x2 x3 x4 x5 x6 x7 x8 x9 x10;go_wp2_with fail;go_roundw;case rel=>exact⟨j+1,by omega,by go_num,I ⟨by rw[AQ.out];exact(aO HO8.out 4 _).trans rfl,HRW8.out.apart og.out 4 _,(up HT0.out.2.2.2 vJ.out).setCell HGO.out _⟩⟩
       case measure=>simp[intOf];omega
   ·obtain rfl:j=n4:=by omega
    have vI:Hid (uW Z ss.length P.sinks j=Sm.pc Z ss.length P.sinks):=I (by rw[yF.out];exact pcTo_all);have PI:Hid (l7 Z ss.length V P.sinks k j 0=bds Z ss.length V P.sinks k):=I (by rw[yF.out];exact YC k);have HOR:=I kF.out.1;rw[vI.out]at HOR;have HRR:=I kF.out.2.1;rw[PI.out]at HRR;obtain⟨o0,o1,o2,o3,o4,o5⟩:=NR HOR.out;have HKR:=I (aU HK21.out kF.out.2.2);obtain⟨y0,y1,y2,y3,y4,y5⟩:=NR HKR.out;obtain⟨z0,z1,z2,z3⟩:=tZ (aG HKR.out 0) (aG HKR.out 1) (aG HKR.out 2) (aG HKR.out 3);obtain⟨z4,z5⟩:=eY (aG HKR.out 4) (aG HKR.out 5);have HNR:Hid (w.heap.size+1+1≠B):=I (λh=>by have h1:=HKR.out;rw[h,HRR.out]at h1;simp at h1);go_wp2_with fail;have hs:=PE HKR.out (A f.name) (O (r1:Nat)) (O (r2:Nat)) (Y (some (X B 0)) k k) (O (Sm.pc Z ss.length P.sinks:Nat)) (Y a6 n6 c6);obtain⟨f0,f1,f2,f3,f4,f5⟩:=NR hs;refine bV (v:=.agg #[A f.name,O (r1:Nat),O (r2:Nat),Y (some (X B 0)) k k,O (Sm.pc Z ss.length P.sinks:Nat),Y a6 n6 c6]) (by simp[results,results56,go_sem,f0,f1,f2,f3,f4,f5]) rfl ?_;refine⟨B,by rw[HLB.out,<-HR.out,<-HR1.out,<-HR2.out],I ⟨Qz HRR.out HNR.out _ _ _ _ _ _,?_⟩⟩;exact nU (up (up iA.out HB1.out) kF.out.2.2) (bF (dF _) (dF _)) _ _ _ _ _ _
end Go.Proofs.YtbgkpehhdibaoaaGreatDoor
