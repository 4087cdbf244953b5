/- part -/
import Derived.Test.YtbgkpehhdibaoaaGreatDoorMZAT
import Derived.Test.YtbgkpehhdibaoaaGreatDoorMZAU
import Derived.Test.YtbgkpehhdibaoaaGreatDoorMZLG
set_option maxHeartbeats 0
set_option maxRecDepth 99999
namespace Go.Proofs.YtbgkpehhdibaoaaGreatDoor
open bO aO
open Go.Proofs.Tryz
open Go.RowKit
variable{W0 x w:World}{n m i:Nat}{v v0 v1 v2 v3:Value}{nm:List (aZ × aZ)}
theorem sG{o:Obj}(h:Hid (bG W0 x)):Hid (bG W0 (x.alloc o)):=I (h.alloc h.size o)
theorem iC(h:Hid (bG W0 x)):Hid (bG W0 x.drew):=I h.out.drew
namespace aO
def Aj(names:List ByteArray)(x:Mo)(known:List Mo)(m:Nat):List Dg:=[imD x known,twD x,lvD names x m,clD x known m].flatten
def EC(E:Int)(names:List ByteArray)(x:Mo)(known:List Mo)(m:Nat):List Dg:=if E=0 then once (Aj names x known m)else []
end aO
theorem Ri.drew{ls:List (List Dg)}(h:Ri w n v ls):Ri w.drew n v ls:=by obtain⟨b,off,cap,e,h16,h1⟩:=h;refine⟨b,off,cap,e,h16,λi l hl=>?_⟩;obtain⟨vi,g0,g1⟩:=h1 i l hl;exact⟨vi,g0,g1.below (bN _ _).drew⟩
theorem dgs_four{l0 l1 l2 l3:List Dg}(h0:eT qz w n 80 3 v0 l0)(h1:eT qz w n 80 3 v1 l1)(h2:eT qz w n 80 3 v2 l2)(h3:eT qz w n 80 3 v3 l3):∀(i:Nat) v l,[v0,v1,v2,v3][i]?=some v->[l0,l1,l2,l3][i]?=some l->eT qz w n 80 3 v l:=λi v l hv hl=>by
 match i,hv,hl with
 | 0,hv,hl=>simp at hv hl;subst hv hl;exact h0
 | 1,hv,hl=>simp at hv hl;subst hv hl;exact h1
 | 2,hv,hl=>simp at hv hl;subst hv hl;exact h2
 | 3,hv,hl=>simp at hv hl;subst hv hl;exact h3
 | i+4,hv,hl=>simp at hv
theorem Vj(m:Nat)(w:World)(vn vl vi vv vf vk:Value)(names:List aZ)(x:Mo)(known:List Mo)(E:Int)(hN:Strs w vn names)(h:gT w m (.agg #[A x.name,vi,vv,vf]) x)(hK:nC w m vk known)(hC:nY w vi vf)(hform:∀wx,bG w wx->Calls prog 97 #[.agg #[vn,vl],.agg #[A x.name,vi,vv,vf],vk] wx λe w'=>e=cO (O E)/\bG wx w')(hlv:x.vars.length<=1048576)(hlf:x.bq.length<=1048576)(NI:x.imports.length<=1048576)(hlen:(aO.Aj names x known m).length<=16777216):Calls prog 53 #[.agg #[vn,vl],.agg #[A x.name,vi,vv,vf],vk] w λe w'=>∃u,e=cO (.tuple #[u,O E])/\iE w' u (EC E names x known m)/\(EC E names x known m=[]->u=J)/\bG w w':=by
 obtain⟨HN,HM,HK,HMC⟩:=mg hN h hK hC;obtain⟨hI,hV,hF⟩:=h.split;obtain⟨an,bn,on,cn,rfl,-⟩:=hN;obtain⟨ai,bi,oi,ci,rfl,-⟩:=hI;obtain⟨av,bv,ov,cv,rfl,-⟩:=hV;obtain⟨af,bf,of,cf,rfl,-⟩:=hF;obtain⟨ak,bk,ok,ck,rfl,-⟩:=hK;have Qi:=I hform;obtain⟨D1,hD1⟩:=bC (imD x known);obtain⟨D2,hD2⟩:=bC (twD x);obtain⟨D3,hD3⟩:=bC (lvD names x m);obtain⟨D4,hD4⟩:=bC (clD x known m);have ZN:Hid (aO.Aj names x known m=[D1,D2,D3,D4].flatten):=I (by rw[hD1,hD2,hD3,hD4];rfl);rw[ZN]at hlen;have jR:=I hlen;have Aa:Hid (D1.length<=16777216/\D2.length<=16777216/\D3.length<=16777216/\D4.length<=16777216):=I (by simp only[wN,Jd,gK,aW]at hlen;refine⟨?_,?_,?_,?_⟩<;>omega);have TW:=I (λwx vk' va (hS:ScV wx m x known (Y ai x.imports.length ci) (Y av x.vars.length cv) (Y af x.bq.length cf) vk' va)=>Gj m wx x known _ _ _ vk' va hS (by rw[<-hD1];exact Aa.1));have QJ:=I (λwx (hb:bG w wx)=>Jc m wx _ _ _ x (HM.below hb) (HMC.below hb) hlv hlf (by rw[<-hD2];exact Aa.2.1));have HC3:=I (λwx (hb:bG w wx)=>IZ m wx _ vl _ _ _ names x (HN.below hb) (HM.below hb) (by rw[<-hD3];exact Aa.2.2.1));have HC4:=I (λwx vk' va (hS:ScV wx m x known (Y ai x.imports.length ci) (Y av x.vars.length cv) (Y af x.bq.length cf) vk' va)=>Ld m wx x known _ _ _ vk' va hS (by rw[<-hD4];exact Aa.2.2.2));rw[<-hD1]at TW;rw[<-hD2]at QJ;rw[<-hD3]at HC3;rw[<-hD4]at HC4;have Oe:=I (hC.fus);have xC:=I (λwx (hb:bG w wx)=>Cr m wx _ _ _ _ x known (HM.below hb) (HK.below hb) NI);generalize x.imports.length=ni at *;generalize x.vars.length=nv at *;generalize x.bq.length=nf at *;generalize known.length=nk at *;generalize names.length=nn at *;obtain⟨b0,b1,hb0⟩:=al2 w (aY #[Y an nn cn,vl] 25) (aY #[A x.name,Y ai ni ci,Y av nv cv,Y af nf cf] 58);obtain⟨HB0,HB1,Eb⟩:=fq b0 b1 hb0;obtain⟨q0,q1,r0,r1⟩:=rG ((aj b0 0).trans (rfl:_=some (Y an nn cn))) ((aj b0 1).trans (rfl:_=some vl)) ((aj b1 0).trans (rfl:_=some (A x.name))) ((aj b1 1).trans (rfl:_=some (Y ai ni ci)));obtain⟨r2,r3⟩:=eD ((aj b1 2).trans (rfl:_=some (Y av nv cv))) ((aj b1 3).trans (rfl:_=some (Y af nf cf)));obtain⟨PD,hPD⟩:=bC (EC E names x known m);have HPP:=I hPD;rw[<-hPD];clear h hC hform hlen hD1 hD2 hD3 hD4 b0 b1 hb0 hPD;go_enter func53,ntmps53;go_wp2_with fail;generalize ((w.alloc (aY #[Y an nn cn,vl] 25)).alloc (aY #[A x.name,Y ai ni ci,Y av nv cv,Y af nf cf] 58))=W0 at *;refine(Qi _ Eb).mono ?_;rintro e w1 ⟨rfl,hb1⟩;have HB2:=I (up Eb hb1);replace q0:=aC q0 hb1;replace q1:=aC q1 hb1;replace r0:=aC r0 hb1;replace r1:=aC r1 hb1;replace r2:=aC r2 hb1;replace r3:=aC r3 hb1;clear hb1;by_cases hE:E=0
 ·subst hE;have HPD:Hid (EC 0 names x known m=aO.once [D1,D2,D3,D4].flatten):=I (by unfold EC;rw[aL rfl,ZN]);go_wp2_with fail;refine(xC _ HB2).mono ?_;rintro e w2 ⟨va,rfl,hints,hb2⟩;have XK:=I hints;obtain⟨aa,ba,oa,ca,rfl,-⟩:=hints;generalize (x.imports.map λs=>oI (aO.dw known s)).length=nat at *;obtain⟨HB3,HQ⟩:=bT (up HB2 hb2) (And.intro (aC q0 hb2) (And.intro (aC q1 hb2) (And.intro (aC r0 hb2) (And.intro (aC r1 hb2) (And.intro (aC r2 hb2) (aC r3 hb2))))));have HSV:Hid (ScV w2 m x known (Y ai ni ci) (Y av nv cv) (Y af nf cf) (Y ak nk ck) (Y aa nat ca)):=I ⟨HM.below HB3,HK.below HB3,XK,Oe⟩;clear q0 q1 r0 r1 r2 r3 hb2;go_wp2_with fail;have ZI:=I (aH w2 (aY #[A x.name,Y ai ni ci,Y av nv cv,Y af nf cf,Y ak nk ck,Y aa nat ca] 189));have hs:=Zb w2 (A x.name) (Y ai ni ci) (Y av nv cv) (Y af nf cf) (Y ak nk ck) (Y aa nat ca) 189;have HF:Hid (∀wx,Hid (Below (w2.alloc (aY #[A x.name,Y ai ni ci,Y av nv cv,Y af nf cf,Y ak nk ck,Y aa nat ca] 189)).heap.size (w2.alloc (aY #[A x.name,Y ai ni ci,Y av nv cv,Y af nf cf,Y ak nk ck,Y aa nat ca] 189)) wx)->wx.cell? (X w.heap.size 0)=some (Y an nn cn)/\wx.cell? (X w.heap.size 1)=some vl/\wx.cell? (X (w.heap.size+1) 0)=some (A x.name)/\wx.cell? (X (w.heap.size+1) 1)=some (Y ai ni ci)/\wx.cell? (X (w.heap.size+1) 2)=some (Y av nv cv)/\wx.cell? (X (w.heap.size+1) 3)=some (Y af nf cf)/\wx.cell? (X w2.heap.size 0)=some (A x.name)/\wx.cell? (X w2.heap.size 1)=some (Y ai ni ci)/\wx.cell? (X w2.heap.size 2)=some (Y av nv cv)/\wx.cell? (X w2.heap.size 3)=some (Y af nf cf)/\wx.cell? (X w2.heap.size 4)=some (Y ak nk ck)/\wx.cell? (X w2.heap.size 5)=some (Y aa nat ca)):=I (λwx h=>⟨aC (aC HQ.1 ZI) h,aC (aC HQ.2.1 ZI) h,aC (aC HQ.2.2.1 ZI) h,aC (aC HQ.2.2.2.1 ZI) h,aC (aC HQ.2.2.2.2.1 ZI) h,aC (aC HQ.2.2.2.2.2 ZI) h,aC (hs 0 _ rfl) h,aC (hs 1 _ rfl) h,aC (hs 2 _ rfl) h,aC (hs 3 _ rfl) h,aC (hs 4 _ rfl) h,aC (hs 5 _ rfl) h⟩);obtain⟨HSV4,DT⟩:=bT (HSV.below ZI) (up HB3 ZI);clear hs;generalize (w2.alloc (aY #[A x.name,Y ai ni ci,Y av nv cv,Y af nf cf,Y ak nk ck,Y aa nat ca] 189))=W4 at *;have vw:Hid (bG W4 W4):=I (bN _ _);obtain⟨F,hF⟩:∃F,F=([D1,D2,D3,D4]:List (List Dg)).flatten:=⟨_,rfl⟩;have HFF:=I hF;clear hF
  go_region_held3 (λwx=>wx.cell? (X w.heap.size 0)=some (Y an nn cn)/\wx.cell? (X w.heap.size 1)=some vl/\wx.cell? (X (w.heap.size+1) 0)=some (A x.name)/\wx.cell? (X (w.heap.size+1) 1)=some (Y ai ni ci)/\wx.cell? (X (w.heap.size+1) 2)=some (Y av nv cv)/\wx.cell? (X (w.heap.size+1) 3)=some (Y af nf cf)/\
   wx.cell? (X w2.heap.size 0)=some (A x.name)/\wx.cell? (X w2.heap.size 1)=some (Y ai ni ci)/\wx.cell? (X w2.heap.size 2)=some (Y av nv cv)/\wx.cell? (X w2.heap.size 3)=some (Y af nf cf)/\wx.cell? (X w2.heap.size 4)=some (Y ak nk ck)/\wx.cell? (X w2.heap.size 5)=some (Y aa nat ca))
   ((refine HF _ ?_;repeat(first|exact HW9|exact G9|exact Uf|exact HW6|exact HW5|exact vw|apply iC|apply sG)))
   (first
    | (go_at_call 100;refine(TW _ _ _ (HSV4.below (gM (by repeat(first|exact vw|apply iC))))).mono ?_;rintro e w5 ⟨u5,rfl,hu5,hb5⟩;obtain⟨a5,c5,rfl⟩:=hu5.form;have HW5:Hid (bG W4 w5):=I (up (w:=W4) (gM (by repeat(first|exact vw|apply iC))) hb5);have HU5:=I hu5;clear hu5 hb5)
    | (go_at_call 101;refine(QJ _ (up DT (gM (by repeat(first|exact HW5|apply iC))))).mono ?_;rintro e w6 ⟨u6,rfl,hu6,hb6⟩;obtain⟨a6,c6,rfl⟩:=hu6.form;have HW6:Hid (bG W4 w6):=I (up (w:=W4) (gM (by repeat(first|exact HW5|apply iC))) hb6);have HU6:=I hu6;have HV5:=I (HU5.below (show bG w5 w6 from hb6));clear hu6 hb6)
    | (go_at_call 102;refine(HC3 _ (up DT (gM (by repeat(first|exact HW6|apply iC))))).mono ?_;rintro e w7 ⟨u7,rfl,hu7,pW⟩;obtain⟨a7,c7,rfl⟩:=hu7.form;have Uf:Hid (bG W4 w7):=I (up (w:=W4) (gM (by repeat(first|exact HW6|apply iC))) pW);have HU7:=I hu7;have HX5:=I (HV5.below (show bG w6 w7 from pW));have NY:=I (HU6.below (show bG w6 w7 from pW));clear hu7 pW)
    | (go_at_call 103;refine(HC4 _ _ _ (HSV4.below (gM (by repeat(first|exact Uf|apply iC))))).mono ?_;rintro e w8 ⟨u8,rfl,hu8,oH⟩;obtain⟨a8,c8,rfl⟩:=hu8.form;have G9:Hid (bG W4 w8):=I (up (w:=W4) (gM (by repeat(first|exact Uf|apply iC))) oH);have HU8:=I hu8;have Qj:=I (HX5.below (show bG w7 w8 from oH));have HY6:=I (NY.below (show bG w7 w8 from oH));have HY7:=I (HU7.below (show bG w7 w8 from oH));clear hu8 oH)
    | (go_at_call 99;have HDS:Hid (Ri (w8.alloc (aY #[Y a5 D1.length c5,Y a6 D2.length c6,Y a7 D3.length c7,Y a8 D4.length c8] 59)) W4.heap.size (Y (some (X w8.heap.size 0)) 4 4) [D1,D2,D3,D4]):=I (Ml w8 W4.heap.size 59 [Y a5 D1.length c5,Y a6 D2.length c6,Y a7 D3.length c7,Y a8 D4.length c8] [D1,D2,D3,D4] rfl cZ (dgs_four (Qj.old (bF _)) (HY6.old HW5.size) (HY7.old HW6.size) (HU8.old Uf.size)));refine(FL _ W4.heap.size _ [D1,D2,D3,D4] (by repeat(first|exact HDS|apply Ri.drew)) jR).mono ?_;rintro e w9 ⟨u9,rfl,U1,tL⟩;rw[<-HFF]at U1;have HW9:Hid (bG W4 w9):=I (up (w:=W4) (gM (by repeat(first|exact G9|apply iC|apply sG))) tL);have HU9:=I (U1.old (show W4.heap.size<=_ from (gM (by repeat(first|exact G9|apply iC|apply sG)):bG W4 _).size));obtain⟨a9,c9,rfl⟩:=U1.form;clear U1 tL))
  all_goals
   have HLF:Hid (F.length<=16777216):=I (by rw[HFF];exact jR);have xk:=I (up DT HW9);have HOF:Hid (PD=aO.once F):=I (by rw[HPP,HPD,HFF]);obtain⟨HDG,HSH⟩:=bT (HU9.Gf (by have:=HLF.out;omega)) HU9.out.shape;rcases HSH with⟨h1,h2⟩|⟨g1,q1,h1,-,-,-,h2⟩;·have HON:Hid (PD=[]):=I (by rw[HOF,h2];rfl);rw[h1];clear h1 h2;go_wp2_with fail;refine(RF _).mono ?_;rintro e w11 ⟨rfl,hw11⟩;subst hw11;go_wp2_with fail;refine bW (v:=.tuple #[J,O 0]) (by simp[results,results53,go_sem]) rfl ?_;exact⟨_,rfl,by rw[HON];exact⟨none,0,0,0,rfl,λh=>aN h cZ,by simp,λi d hd=>by simp at hd⟩,λ_=>rfl,xk⟩
   ·have HON:Hid (PD≠[]):=I (by
     rw[HOF];intro h0;cases F with
     | nil=>exact h2 rfl
     | cons y r=>have:=(Ig (y::r) y).2 List.mem_cons_self;rw[h0]at this;cases this)
    clear h1 h2;go_wp2_with fail;refine(yj w9 _ F HDG HLF).mono ?_;rintro e w11 ⟨u11,rfl,hu11,hb11⟩;rw[<-HOF]at hu11;obtain⟨HU11,HB11⟩:=bT hu11 (up xk hb11);obtain⟨a11,b11,o11,c11,rfl,-⟩:=hu11;generalize PD.length=pl at *;clear hb11;go_wp2_with fail;refine bW (v:=.tuple #[Y a11 pl c11,O 0]) (by simp[results,results53,go_sem]) rfl ?_;exact⟨_,rfl,HU11,λh=>aN h HON,HB11⟩
 ·have hE':(E==0)=false:=by simp[hE]
  have HPD:Hid (EC E names x known m=[]):=I (by unfold EC;rw[aJ hE]);clear hE;go_wp2_with fail;refine bW (v:=.tuple #[J,O E]) (by simp[results,results53,go_sem]) rfl ?_;exact⟨_,rfl,by rw[HPP,HPD];exact⟨none,0,0,0,rfl,λh=>aN h cZ,by simp,λi d hd=>by simp at hd⟩,λ_=>rfl,HB2⟩
namespace bO
def ED(s:ByteArray):ByteArray:=brk [⟨#[105,109,112,111,114,116]⟩,s]
def Z4(v:Va):ByteArray:=brk [⟨#[118,97,114]⟩,v.name,v.level]
end bO
namespace bO
def Z5(m:Nat)(f:Fu):ByteArray:=brk [[⟨#[102,117,110]⟩,f.name,brk f.params],KR m f.body,[kP m f.result]].flatten
end bO
theorem par_jn(l:List aZ)(acc:aZ):∀j,j<=l.length->qK l acc j=acc++bO.jn (l.take j)
 | 0,_=>by apply iB;rw[iy,lu];simp[qK,Lib.join_nil]
 | j+1,hj=>by
  obtain⟨y,hy⟩:∃y,l[j]?=some y:=⟨_,bg aV⟩;have e1:l.take (j+1)=l.take j++[y]:=by have:=map_take (f:=id) hy;simpa using this
  have e2:l.getD j ByteArray.empty=y:=by rw[List.getD,hy];rfl
  have e3:(l.take j).length=j:=by rw[jO];omega
  rw[Ji,par_jn l acc j aV,e1,e2,XP,e3];apply iB;by_cases h:0<j;·rw[aL h,aL h];simp only[iy,iM]
  ·rw[aJ h,aJ h];simp only[iy,iM]
theorem tail_jn{l:List aZ}(h:l≠[]):Lib.joinTail [32] (l.map (·.data.toList))=32::(bO.jn l).data.toList:=by
 cases l with
 | nil=>exact aN rfl h
 | cons y l =>rw[lu,fD,Lib.join_cons];simp[Lib.joinTail]
theorem tail_cons(x:List UInt8)(r:List (List UInt8)):Lib.joinTail [32] (x::r)=32::(x++Lib.joinTail [32] r):=by simp[Lib.joinTail]
theorem XY(hm:m≠0)(l:List St):KR m l=[]↔l=[]:=by
 cases m with
 | zero=>exact aN rfl hm
 | succ m=>simp[KR]
theorem fuT_eq(hm:m≠0)(acc:aZ)(f:Fu):(Qf m acc f).data.toList=acc.data.toList++32::(Z5 m f).data.toList:=by
 unfold Qf fuB fuP fuH Z5;rw[par_jn _ _ _ (bF _),iL,iV];by_cases h:0<f.body.length
 ·have hne:KR m f.body≠[]:=by rw[ne_eq,XY hm];intro e;rw[e]at h;simp at h
  rw[aL h,OE];have hfl:[[(⟨#[102,117,110]⟩:aZ),f.name,bO.brk f.params],KR m f.body,[kP m f.result]].flatten=⟨#[102,117,110]⟩::f.name::bO.brk f.params::(KR m f.body++[kP m f.result]):=by simp
  rw[hfl,fD,Lib.join_cons,fD,tail_cons,fD,tail_cons,fH,qY,tail_jn hne,fD,tail_cons,jN,iV,lu];simp[lu,Lib.joinTail]
 ·have he:f.body=[]:=pQ.1 aV;have hne:KR m f.body=[]:=(XY hm _).2 he;rw[aJ h,hne];simp[Lib.join_cons,Lib.joinTail,iV,lu]
open Go.Maps
theorem pos_lt{x y:aZ}(h:Rn.pos nm x y=some i):i<nm.length:=jG.1 (LJ h)
theorem jK{x y:aZ}{o:Rn.Own}(h:Rn.sh nm x o y=some i):i<nm.length:=by
 unfold Rn.sh at h;split at h;·cases h
 ·exact pos_lt h
namespace bO
end bO
theorem Vk(d:Dg):rP d d=true:=rC.2 rfl
theorem RU(w:World)(va vb:Value)(l:List Dg)(ha:iE w va l)(hb:iE w vb l):Calls prog 29 #[va,vb] w λe w'=>e=cO (.bool true)/\bG w w':=by
 obtain⟨a,b,off,cap,rfl,h0,hl,hel⟩:=ha;obtain⟨a',b',off',cap',rfl,h0',-,hel'⟩:=hb;have kg:=I hel;have HEL':=I hel';have HA:=I h0;have HA':=I h0';obtain⟨len,hlen⟩:=bC l.length;have HL:=I hlen;rw[<-hlen]at hl HA HA' ⊢;clear hel hel' h0 h0' hlen;go_enter func29,ntmps29;go_wp2_with fail;go_loopw[5,13] (λ_ i wx=>∃j:Nat,j<=len/\i=O j/\∃n,wx=w.drewN n) (λ_ i _=>len - (intOf i).toNat);case atStart=>exact⟨0,bI _,rfl,0,rfl⟩
 case round=>
  obtain⟨j,hj,rfl,n,rfl⟩:=hrel;by_cases hjl:j<len
  ·obtain⟨d,hd⟩:∃d,l[j]?=some d:=⟨_,bg (by rw[<-HL];exact hjl)⟩;obtain⟨p0,p1,p2⟩:=kg j d hd;obtain⟨q0,q1,q2⟩:=HEL'.out j d hd;obtain rfl:=HA aV;obtain rfl:=HA'.out aV;have heq:∀w,Sem.run prog (Op.equalIn 10000 80 (.agg #[O d.code,A d.fn,A d.name]) (.agg #[O d.code,A d.fn,A d.name])) w=.ok true w:=λw=>by rw[NA d d w,Vk]
   have hgd:∀op a b w,Sem.run prog (eqGuard op 80 a b (.agg #[O d.code,A d.fn,A d.name]) (.agg #[O d.code,A d.fn,A d.name])) w=.ok () w:=λop a b w=>Ii op a b d d w;clear hd;go_wp2_with fail;go_quiet (fail);go_wp2_with fail;go_roundw;case rel=>exact⟨j+1,by omega,by go_num,n+nq,by rw[<-World.drewN_drewN]⟩
   case measure=>simp[intOf];omega
  ·go_wp2_with fail;go_ret;exact⟨rfl,Uw (bN _ _)⟩
end Go.Proofs.YtbgkpehhdibaoaaGreatDoor
