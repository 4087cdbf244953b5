/- part -/
import Derived.Test.YtbgkpehhdibaoaaGreatDoorBZAT
import Derived.Test.YtbgkpehhdibaoaaGreatDoorBZAU
import Derived.Test.YtbgkpehhdibaoaaGreatDoorBZLG
set_option maxHeartbeats 0
set_option maxRecDepth 99999
namespace Go.Proofs.YtbgkpehhdibaoaaGreatDoor
open bN bJ
open Go.Proofs.Tryz
open Go.RowKit
variable{W0 x w:World}{n m i:Nat}{v v0 v1 v2 v3:Value}{nm:List (aY × aY)}
theorem qO{o:Obj}(h:Hid (bG W0 x)):Hid (bG W0 (x.alloc o)):=I (h.alloc h.size o)
theorem gX(h:Hid (bG W0 x)):Hid (bG W0 x.drew):=I h.out.drew
namespace bJ
def Ei(names:List ByteArray)(x:Mo)(known:List Mo)(m:Nat):List Dg:=[imD x known,twD x,lvD names x m,clD x known m].flatten
def Db(E:Int)(names:List ByteArray)(x:Mo)(known:List Mo)(m:Nat):List Dg:=if E=0 then once (Ei names x known m)else []
end bJ
theorem OM.drew{ls:List (List Dg)}(h:OM w n v ls):OM w.drew n v ls:=by obtain⟨b,off,cap,e,h16,h1⟩:=h;refine⟨b,off,cap,e,h16,λi l hl=>?_⟩;obtain⟨vi,g0,g1⟩:=h1 i l hl;exact⟨vi,g0,g1.below (bP _ _).drew⟩
theorem dgs_four{l0 l1 l2 l3:List Dg}(h0:eF oW w n 80 3 v0 l0)(h1:eF oW w n 80 3 v1 l1)(h2:eF oW w n 80 3 v2 l2)(h3:eF oW w n 80 3 v3 l3):∀(i:Nat) v l,[v0,v1,v2,v3][i]?=some v->[l0,l1,l2,l3][i]?=some l->eF oW w n 80 3 v l:=λi v l hv hl=>by
 match i,hv,hl with
 | 0,hv,hl=>simp at hv hl;subst hv hl;exact h0
 | 1,hv,hl=>simp at hv hl;subst hv hl;exact h1
 | 2,hv,hl=>simp at hv hl;subst hv hl;exact h2
 | 3,hv,hl=>simp at hv hl;subst hv hl;exact h3
 | i+4,hv,hl=>simp at hv
theorem SC(m:Nat)(w:World)(vn vl vi vv vf vk:Value)(names:List aY)(x:Mo)(known:List Mo)(E:Int)(hN:Strs w vn names)(h:iY w m (.agg #[A x.name,vi,vv,vf]) x)(hK:nD w m vk known)(hC:yR w vi vf)(hform:∀wx,bG w wx->Calls prog 97 #[.agg #[vn,vl],.agg #[A x.name,vi,vv,vf],vk] wx λe w'=>e=dz (O E)/\bG wx w')(hlv:x.vars.length<=1048576)(hlf:x.bg.length<=1048576)(WK:x.imports.length<=1048576)(hlen:(Ei names x known m).length<=16777216):Calls prog 53 #[.agg #[vn,vl],.agg #[A x.name,vi,vv,vf],vk] w λe w'=>∃u,e=dz (.tuple #[u,O E])/\jf w' u (Db E names x known m)/\(Db E names x known m=[]->u=J)/\bG w w':=by
 obtain⟨HN,HM,HK,Y7⟩:=lY hN h hK hC;obtain⟨hI,hV,hF⟩:=h.split;obtain⟨an,bn,on,cn,rfl,-⟩:=hN;obtain⟨ai,bi,oi,ci,rfl,-⟩:=hI;obtain⟨av,bv,ov,cv,rfl,-⟩:=hV;obtain⟨af,bf,of,cf,rfl,-⟩:=hF;obtain⟨ak,bk,ok,ck,rfl,-⟩:=hK;have NU:=I hform;obtain⟨D1,hD1⟩:=bC (imD x known);obtain⟨D2,hD2⟩:=bC (twD x);obtain⟨D3,hD3⟩:=bC (lvD names x m);obtain⟨D4,hD4⟩:=bC (clD x known m);have Xz:Hid (Ei names x known m=[D1,D2,D3,D4].flatten):=I (by rw[hD1,hD2,hD3,hD4];rfl);rw[Xz]at hlen;have jH:=I hlen;have yO:Hid (D1.length<=16777216/\D2.length<=16777216/\D3.length<=16777216/\D4.length<=16777216):=I (by simp only[uY,GL,gB,aT]at hlen;refine⟨?_,?_,?_,?_⟩<;>omega);have Y9:=I (λwx vk' va (hS:ZY wx m x known (Y ai x.imports.length ci) (Y av x.vars.length cv) (Y af x.bg.length cf) vk' va)=>EB m wx x known _ _ _ vk' va hS (by rw[<-hD1];exact yO.1));have Xt:=I (λwx (hb:bG w wx)=>GK m wx _ _ _ x (HM.below hb) (Y7.below hb) hlv hlf (by rw[<-hD2];exact yO.2.1));have HC3:=I (λwx (hb:bG w wx)=>Gw m wx _ vl _ _ _ names x (HN.below hb) (HM.below hb) (by rw[<-hD3];exact yO.2.2.1));have HC4:=I (λwx vk' va (hS:ZY wx m x known (Y ai x.imports.length ci) (Y av x.vars.length cv) (Y af x.bg.length cf) vk' va)=>Jt m wx x known _ _ _ vk' va hS (by rw[<-hD4];exact yO.2.2.2));rw[<-hD1]at Y9;rw[<-hD2]at Xt;rw[<-hD3]at HC3;rw[<-hD4]at HC4;have RJ:=I (hC.fus);have vC:=I (λwx (hb:bG w wx)=>AO m wx _ _ _ _ x known (HM.below hb) (HK.below hb) WK);generalize x.imports.length=ni at *;generalize x.vars.length=nv at *;generalize x.bg.length=nf at *;generalize known.length=nk at *;generalize names.length=nn at *;obtain⟨b0,b1,hb0⟩:=al2 w (aW #[Y an nn cn,vl] 25) (aW #[A x.name,Y ai ni ci,Y av nv cv,Y af nf cf] 58);obtain⟨HB0,HB1,Fv⟩:=fD b0 b1 hb0;obtain⟨q0,q1,r0,r1⟩:=tZ ((aj b0 0).trans (rfl:_=some (Y an nn cn))) ((aj b0 1).trans (rfl:_=some vl)) ((aj b1 0).trans (rfl:_=some (A x.name))) ((aj b1 1).trans (rfl:_=some (Y ai ni ci)));obtain⟨r2,r3⟩:=eY ((aj b1 2).trans (rfl:_=some (Y av nv cv))) ((aj b1 3).trans (rfl:_=some (Y af nf cf)));obtain⟨PD,hPD⟩:=bC (Db E names x known m);have HPP:=I hPD;rw[<-hPD];clear h hC hform hlen hD1 hD2 hD3 hD4 b0 b1 hb0 hPD;go_enter func53,ntmps53;go_wp2_with fail;generalize ((w.alloc (aW #[Y an nn cn,vl] 25)).alloc (aW #[A x.name,Y ai ni ci,Y av nv cv,Y af nf cf] 58))=W0 at *;refine(NU _ Fv).mono ?_;rintro e w1 ⟨rfl,hb1⟩;have HB2:=I (up Fv hb1);replace q0:=aD q0 hb1;replace q1:=aD q1 hb1;replace r0:=aD r0 hb1;replace r1:=aD r1 hb1;replace r2:=aD r2 hb1;replace r3:=aD r3 hb1;clear hb1;by_cases hE:E=0
 ·subst hE;have HPD:Hid (Db 0 names x known m=bJ.once [D1,D2,D3,D4].flatten):=I (by unfold Db;rw[aL rfl,Xz]);go_wp2_with fail;refine(vC _ HB2).mono ?_;rintro e w2 ⟨va,rfl,hints,hb2⟩;have HIN:=I hints;obtain⟨aa,ba,oa,ca,rfl,-⟩:=hints;generalize (x.imports.map λs=>oI (dI known s)).length=nat at *;obtain⟨HB3,HQ⟩:=bU (up HB2 hb2) (And.intro (aD q0 hb2) (And.intro (aD q1 hb2) (And.intro (aD r0 hb2) (And.intro (aD r1 hb2) (And.intro (aD r2 hb2) (aD r3 hb2))))));have HSV:Hid (ZY w2 m x known (Y ai ni ci) (Y av nv cv) (Y af nf cf) (Y ak nk ck) (Y aa nat ca)):=I ⟨HM.below HB3,HK.below HB3,HIN,RJ⟩;clear q0 q1 r0 r1 r2 r3 hb2;go_wp2_with fail;have Xu:=I (aH w2 (aW #[A x.name,Y ai ni ci,Y av nv cv,Y af nf cf,Y ak nk ck,Y aa nat ca] 189));have hs:=WL w2 (A x.name) (Y ai ni ci) (Y av nv cv) (Y af nf cf) (Y ak nk ck) (Y aa nat ca) 189;have HF:Hid (∀wx,Hid (Below (w2.alloc (aW #[A x.name,Y ai ni ci,Y av nv cv,Y af nf cf,Y ak nk ck,Y aa nat ca] 189)).heap.size (w2.alloc (aW #[A x.name,Y ai ni ci,Y av nv cv,Y af nf cf,Y ak nk ck,Y aa nat ca] 189)) wx)->wx.cell? (X w.heap.size 0)=some (Y an nn cn)/\wx.cell? (X w.heap.size 1)=some vl/\wx.cell? (X (w.heap.size+1) 0)=some (A x.name)/\wx.cell? (X (w.heap.size+1) 1)=some (Y ai ni ci)/\wx.cell? (X (w.heap.size+1) 2)=some (Y av nv cv)/\wx.cell? (X (w.heap.size+1) 3)=some (Y af nf cf)/\wx.cell? (X w2.heap.size 0)=some (A x.name)/\wx.cell? (X w2.heap.size 1)=some (Y ai ni ci)/\wx.cell? (X w2.heap.size 2)=some (Y av nv cv)/\wx.cell? (X w2.heap.size 3)=some (Y af nf cf)/\wx.cell? (X w2.heap.size 4)=some (Y ak nk ck)/\wx.cell? (X w2.heap.size 5)=some (Y aa nat ca)):=I (λwx h=>⟨aD (aD HQ.1 Xu) h,aD (aD HQ.2.1 Xu) h,aD (aD HQ.2.2.1 Xu) h,aD (aD HQ.2.2.2.1 Xu) h,aD (aD HQ.2.2.2.2.1 Xu) h,aD (aD HQ.2.2.2.2.2 Xu) h,aD (hs 0 _ rfl) h,aD (hs 1 _ rfl) h,aD (hs 2 _ rfl) h,aD (hs 3 _ rfl) h,aD (hs 4 _ rfl) h,aD (hs 5 _ rfl) h⟩);obtain⟨HSV4,DZ⟩:=bU (HSV.below Xu) (up HB3 Xu);clear hs;generalize (w2.alloc (aW #[A x.name,Y ai ni ci,Y av nv cv,Y af nf cf,Y ak nk ck,Y aa nat ca] 189))=W4 at *;have yA:Hid (bG W4 W4):=I (bP _ _);obtain⟨F,hF⟩:∃F,F=([D1,D2,D3,D4]:List (List Dg)).flatten:=⟨_,rfl⟩;have HFF:=I hF;clear hF
  go_region_held3 (λwx=>wx.cell? (X w.heap.size 0)=some (Y an nn cn)/\wx.cell? (X w.heap.size 1)=some vl/\wx.cell? (X (w.heap.size+1) 0)=some (A x.name)/\wx.cell? (X (w.heap.size+1) 1)=some (Y ai ni ci)/\wx.cell? (X (w.heap.size+1) 2)=some (Y av nv cv)/\wx.cell? (X (w.heap.size+1) 3)=some (Y af nf cf)/\
   wx.cell? (X w2.heap.size 0)=some (A x.name)/\wx.cell? (X w2.heap.size 1)=some (Y ai ni ci)/\wx.cell? (X w2.heap.size 2)=some (Y av nv cv)/\wx.cell? (X w2.heap.size 3)=some (Y af nf cf)/\wx.cell? (X w2.heap.size 4)=some (Y ak nk ck)/\wx.cell? (X w2.heap.size 5)=some (Y aa nat ca))
   ((refine HF _ ?_;repeat(first|exact HW9|exact FC|exact Ra|exact HW6|exact HW5|exact yA|apply gX|apply qO)))
   (first
    | (go_at_call 100;refine(Y9 _ _ _ (HSV4.below (gV (by repeat(first|exact yA|apply gX))))).mono ?_;rintro e w5 ⟨u5,rfl,hu5,hb5⟩;obtain⟨a5,c5,rfl⟩:=hu5.form;have HW5:Hid (bG W4 w5):=I (up (w:=W4) (gV (by repeat(first|exact yA|apply gX))) hb5);have HU5:=I hu5;clear hu5 hb5)
    | (go_at_call 101;refine(Xt _ (up DZ (gV (by repeat(first|exact HW5|apply gX))))).mono ?_;rintro e w6 ⟨u6,rfl,hu6,hb6⟩;obtain⟨a6,c6,rfl⟩:=hu6.form;have HW6:Hid (bG W4 w6):=I (up (w:=W4) (gV (by repeat(first|exact HW5|apply gX))) hb6);have HU6:=I hu6;have HV5:=I (HU5.below (show bG w5 w6 from hb6));clear hu6 hb6)
    | (go_at_call 102;refine(HC3 _ (up DZ (gV (by repeat(first|exact HW6|apply gX))))).mono ?_;rintro e w7 ⟨u7,rfl,hu7,sW⟩;obtain⟨a7,c7,rfl⟩:=hu7.form;have Ra:Hid (bG W4 w7):=I (up (w:=W4) (gV (by repeat(first|exact HW6|apply gX))) sW);have HU7:=I hu7;have HX5:=I (HV5.below (show bG w6 w7 from sW));have LD:=I (HU6.below (show bG w6 w7 from sW));clear hu7 sW)
    | (go_at_call 103;refine(HC4 _ _ _ (HSV4.below (gV (by repeat(first|exact Ra|apply gX))))).mono ?_;rintro e w8 ⟨u8,rfl,hu8,nK⟩;obtain⟨a8,c8,rfl⟩:=hu8.form;have FC:Hid (bG W4 w8):=I (up (w:=W4) (gV (by repeat(first|exact Ra|apply gX))) nK);have HU8:=I hu8;have NV:=I (HX5.below (show bG w7 w8 from nK));have HY6:=I (LD.below (show bG w7 w8 from nK));have HY7:=I (HU7.below (show bG w7 w8 from nK));clear hu8 nK)
    | (go_at_call 99;have HDS:Hid (OM (w8.alloc (aW #[Y a5 D1.length c5,Y a6 D2.length c6,Y a7 D3.length c7,Y a8 D4.length c8] 59)) W4.heap.size (Y (some (X w8.heap.size 0)) 4 4) [D1,D2,D3,D4]):=I (Kn w8 W4.heap.size 59 [Y a5 D1.length c5,Y a6 D2.length c6,Y a7 D3.length c7,Y a8 D4.length c8] [D1,D2,D3,D4] rfl dx (dgs_four (NV.old (bE _)) (HY6.old HW5.size) (HY7.old HW6.size) (HU8.old Ra.size)));refine(D7 _ W4.heap.size _ [D1,D2,D3,D4] (by repeat(first|exact HDS|apply OM.drew)) jH).mono ?_;rintro e w9 ⟨u9,rfl,RZ,uh⟩;rw[<-HFF]at RZ;have HW9:Hid (bG W4 w9):=I (up (w:=W4) (gV (by repeat(first|exact FC|apply gX|apply qO))) uh);have HU9:=I (RZ.old (show W4.heap.size<=_ from (gV (by repeat(first|exact FC|apply gX|apply qO)):bG W4 _).size));obtain⟨a9,c9,rfl⟩:=RZ.form;clear RZ uh))
  all_goals
   have Vj:Hid (F.length<=16777216):=I (by rw[HFF];exact jH);have xX:=I (up DZ HW9);have HOF:Hid (PD=bJ.once F):=I (by rw[HPP,HPD,HFF]);obtain⟨HDG,HSH⟩:=bU (HU9.F6 (by have:=Vj.out;omega)) HU9.out.shape;rcases HSH with⟨h1,h2⟩|⟨g1,q1,h1,-,-,-,h2⟩;·have HON:Hid (PD=[]):=I (by rw[HOF,h2];rfl);rw[h1];clear h1 h2;go_wp2_with fail;refine(Pe _).mono ?_;rintro e w11 ⟨rfl,hw11⟩;subst hw11;go_wp2_with fail;refine bV (v:=.tuple #[J,O 0]) (by simp[results,results53,go_sem]) rfl ?_;exact⟨_,rfl,by rw[HON];exact⟨none,0,0,0,rfl,λh=>aM h dx,by simp,λi d hd=>by simp at hd⟩,λ_=>rfl,xX⟩
   ·have HON:Hid (PD≠[]):=I (by
     rw[HOF];intro h0;cases F with
     | nil=>exact h2 rfl
     | cons y r=>have:=(Az (y::r) y).2 List.mem_cons_self;rw[h0]at this;cases this)
    clear h1 h2;go_wp2_with fail;refine(wO w9 _ F HDG Vj).mono ?_;rintro e w11 ⟨u11,rfl,hu11,hb11⟩;rw[<-HOF]at hu11;obtain⟨HU11,HB11⟩:=bU hu11 (up xX hb11);obtain⟨a11,b11,o11,c11,rfl,-⟩:=hu11;generalize PD.length=pl at *;clear hb11;go_wp2_with fail;refine bV (v:=.tuple #[Y a11 pl c11,O 0]) (by simp[results,results53,go_sem]) rfl ?_;exact⟨_,rfl,HU11,λh=>aM h HON,HB11⟩
 ·have hE':(E==0)=false:=by simp[hE]
  have HPD:Hid (Db E names x known m=[]):=I (by unfold Db;rw[aJ hE]);clear hE;go_wp2_with fail;refine bV (v:=.tuple #[J,O E]) (by simp[results,results53,go_sem]) rfl ?_;exact⟨_,rfl,by rw[HPP,HPD];exact⟨none,0,0,0,rfl,λh=>aM h dx,by simp,λi d hd=>by simp at hd⟩,λ_=>rfl,HB2⟩
namespace bN
def Dc(s:ByteArray):ByteArray:=brk [⟨#[105,109,112,111,114,116]⟩,s]
def XO(v:Va):ByteArray:=brk [⟨#[118,97,114]⟩,v.name,v.level]
end bN
namespace bN
def XP(m:Nat)(f:Fu):ByteArray:=brk [[⟨#[102,117,110]⟩,f.name,brk f.params],Jc m f.body,[xQ m f.result]].flatten
end bN
theorem par_jn(l:List aY)(acc:aY):∀j,j<=l.length->Ea l acc j=acc++bN.jn (l.take j)
 | 0,_=>by apply gW;rw[gU,kJ];simp[Ea,Lib.join_nil]
 | j+1,hj=>by
  obtain⟨y,hy⟩:∃y,l[j]?=some y:=⟨_,bD aX⟩;have e1:l.take (j+1)=l.take j++[y]:=by have:=map_take (f:=id) hy;simpa using this
  have e2:l.getD j ByteArray.empty=y:=by rw[List.getD,hy];rfl
  have e3:(l.take j).length=j:=by rw[jB];omega
  rw[R4,par_jn l acc j aX,e1,e2,Ve,e3];apply gW;by_cases h:0<j;·rw[aL h,aL h];simp only[gU,iy]
  ·rw[aJ h,aJ h];simp only[gU,iy]
theorem tail_jn{l:List aY}(h:l≠[]):Lib.joinTail [32] (l.map (·.data.toList))=32::(bN.jn l).data.toList:=by
 cases l with
 | nil=>exact aM rfl h
 | cons y l =>rw[kJ,fG,Lib.join_cons];simp[Lib.joinTail]
theorem tail_cons(x:List UInt8)(r:List (List UInt8)):Lib.joinTail [32] (x::r)=32::(x++Lib.joinTail [32] r):=by simp[Lib.joinTail]
theorem Vk(hm:m≠0)(l:List St):Jc m l=[]↔l=[]:=by
 cases m with
 | zero=>exact aM rfl hm
 | succ m=>simp[Jc]
theorem fuT_eq(hm:m≠0)(acc:aY)(f:Fu):(fuT m acc f).data.toList=acc.data.toList++32::(XP m f).data.toList:=by
 unfold fuT fuB fuP fuH XP;rw[par_jn _ _ _ (bE _),jC,iH];by_cases h:0<f.body.length
 ·have hne:Jc m f.body≠[]:=by rw[ne_eq,Vk hm];intro e;rw[e]at h;simp at h
  rw[aL h,Mr];have hfl:[[(⟨#[102,117,110]⟩:aY),f.name,bN.brk f.params],Jc m f.body,[xQ m f.result]].flatten=⟨#[102,117,110]⟩::f.name::bN.brk f.params::(Jc m f.body++[xQ m f.result]):=by simp
  rw[hfl,fG,Lib.join_cons,fG,tail_cons,fG,tail_cons,fQ,qh,tail_jn hne,fG,tail_cons,jA,iH,kJ];simp[kJ,Lib.joinTail]
 ·have he:f.body=[]:=om.1 aX;have hne:Jc m f.body=[]:=(Vk hm _).2 he;rw[aJ h,hne];simp[Lib.join_cons,Lib.joinTail,iH,kJ]
open Go.Maps
theorem pos_lt{x y:aY}(h:Rn.pos nm x y=some i):i<nm.length:=jr.1 (JQ h)
theorem jv{x y:aY}{o:Rn.Own}(h:Rn.sh nm x o y=some i):i<nm.length:=by
 unfold Rn.sh at h;split at h;·cases h
 ·exact pos_lt h
namespace bN
end bN
end Go.Proofs.YtbgkpehhdibaoaaGreatDoor
