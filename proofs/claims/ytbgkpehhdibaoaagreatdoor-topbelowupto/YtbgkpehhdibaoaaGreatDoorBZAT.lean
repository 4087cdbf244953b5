/- part -/
import Derived.Test.YtbgkpehhdibaoaaGreatDoorBZAQ
import Derived.Deep.RegionHeld3
import Derived.Test.YtbgkpehhdibaoaaGreatDoorBZVS
set_option maxHeartbeats 0
set_option maxRecDepth 99999
namespace Go.Proofs.YtbgkpehhdibaoaaGreatDoor
open bJ
open Go.Proofs.Tryz
open Go.RowKit
namespace bJ
def cs(s t:aY):Int:=if Op.bytesLess s.toList t.toList=true then -1 else if (s.toList==t.toList)=true then 0 else 1
def ci(a b:Int):Int:=if a<b then -1 else if a=b then 0 else 1
def or3(a b c:Int):Int:=if a≠0 then a else if b≠0 then b else c
def O6(x y:Dg):Int:=or3 (cs x.fn y.fn) (ci x.code y.code) (cs x.name y.name)
theorem cs_neg(s t:aY):cs s t<0↔Op.bytesLess s.toList t.toList=true:=by
 unfold cs;split;·rename_i h;simp[h]
 ·rename_i h;split<;>simp[h]
theorem U8(s t:aY):cs s t=0↔s=t:=by
 unfold cs;split
 ·rename_i h;constructor;·intro h';simp at h'
  ·rintro rfl;rw[Cu]at h;simp at h
 ·split;·rename_i h;rw[beq_iff_eq]at h;simp[toList_inj h]
  ·rename_i h;constructor;·intro h';simp at h'
   ·rintro rfl;simp at h
theorem ci_neg(a b:Int):ci a b<0↔a<b:=by
 unfold ci;split;·rename_i h;simp[h]
 ·rename_i h;split<;>simp[h]
theorem U9(a b:Int):ci a b=0↔a=b:=by
 unfold ci;split
 ·constructor;·intro h';simp at h'
  ·intro h;omega
 ·split;·rename_i h;simp[h]
  ·rename_i h;simp[h]
theorem R6(x y:Dg):decide (O6 x y<0)=gJ x y:=by
 rw[sK,decide_eq_true_iff,uE];unfold O6 or3;by_cases h1:cs x.fn y.fn=0
 ·rw[aJ (by simp[h1])];have e1:=(U8 _ _).1 h1;by_cases h2:ci x.code y.code=0;·rw[aJ (by simp[h2]),cs_neg];have e2:=(U9 _ _).1 h2;rw[e1,Cu];simp[e2]
  ·rw[aL h2,ci_neg];have e2:¬x.code=y.code:=λh=>h2 ((U9 _ _).2 h);rw[e1,Cu];simp[e2]
 ·rw[aL h1,cs_neg];have e1:¬x.fn=y.fn:=λh=>h1 ((U8 _ _).2 h);simp[e1]
end bJ
variable{w w' b W0 w1:World}{c g i j n k K base cap:Nat}{x y:Dg}{l acc l' s C:List Dg}{cur:Array Value}
theorem cmpS_any(w:World)(s t:aY):Calls prog 181 #[A s,A t] w λe w'=>e=dz (O (bJ.cs s t))/\w'=w:=by
 have HE:Hid (bJ.cs s t=if Op.bytesLess s.toList t.toList=true then -1 else if (s.toList==t.toList)=true then 0 else 1):=rfl;cases h1:Op.bytesLess s.toList t.toList
 ·rw[aJ (by rw[h1];simp)]at HE;cases h2:(s.toList==t.toList);·rw[aJ (by rw[h2];simp)]at HE;go_enter func181,ntmps181;go_wp2;go_ret;exact⟨by rw[HE];rfl,rfl⟩
  ·rw[aL h2]at HE;go_enter func181,ntmps181;go_wp2;go_ret;exact⟨by rw[HE];rfl,rfl⟩
 ·rw[aL h1]at HE;go_enter func181,ntmps181;go_wp2;go_ret;exact⟨by rw[HE];rfl,rfl⟩
theorem cmpI_any(w:World)(s t:Int):Calls prog 182 #[O s,O t] w λe w'=>e=dz (O (bJ.ci s t))/\w'=w:=by
 have HE:Hid (bJ.ci s t=if s<t then -1 else if s=t then 0 else 1):=rfl;by_cases h1:s<t;·rw[aL h1]at HE;go_enter func182,ntmps182;go_wp2;go_ret;exact⟨by rw[HE];rfl,rfl⟩
 ·rw[aJ h1]at HE;by_cases h2:s=t;·rw[aL h2]at HE;subst h2;go_enter func182,ntmps182;go_wp2;go_ret;exact⟨by rw[HE];rfl,rfl⟩
  ·rw[aJ h2]at HE;have h3:t<s:=by omega
   go_enter func182,ntmps182;go_wp2;go_ret;exact⟨by rw[HE];rfl,rfl⟩
theorem or3_any(w:World)(B:Nat)(a b c:Int)(h0:w.cell? (X B 0)=some (O a))(h1:w.cell? (X B 1)=some (O b))(h2:w.cell? (X B 2)=some (O c)):Calls prog 180 #[Y (some (X B 0)) 3 3] w λe w'=>e=dz (O (or3 a b c))/\w'=w:=by
 have HE:Hid (or3 a b c=if a≠0 then a else if b≠0 then b else c):=rfl;obtain⟨R,hR⟩:=bC (or3 a b c);rw[<-hR]at HE ⊢;have HC:Hid (∀j:Nat,j<3->w.cell? (X B j)=some (O ([a,b,c].getD j 0))):=I (λj hj=>by
  match j,hj with
  | 0,_=>exact h0
  | 1,_=>exact h1
  | 2,_=>exact h2)
 clear h0 h1 h2 hR;go_enter func180,ntmps180;go_wp2_with fail;go_loop [5,8] (λ_ i=>∃j:Nat,j<=3/\i=O j/\∀k,k<j->[a,b,c].getD k 0=0) (λ_ i=>3 - (intOf i).toNat);case atStart=>exact⟨0,bL _,rfl,λk hk=>aM hk (fT _)⟩
 case round=>
  obtain⟨j,hj,rfl,hall⟩:=hrel;have HA:=I hall;clear hall;by_cases hjl:j<3
  ·have c0:=HC j hjl;obtain⟨z,hz⟩:=bC ([a,b,c].getD j 0);have HZ:=I hz;rw[<-hz]at c0;clear hz;by_cases hz0:z=0
   ·have hz1:(z==0)=true:=by simp[hz0]
    have HZ0:=I hz0;clear hz0;go_wp2;go_round;case rel=>exact⟨j+1,by omega,by go_num,λk hk=>by
     by_cases e:k=j;·subst e;rw[<-HZ];exact HZ0
     ·exact HA k aX⟩
    case measure=>simp[intOf];omega
   ·have hz1:(z==0)=false:=by simp[hz0]
    have HZ0:=I hz0;clear hz0;go_wp2;go_ret;refine⟨?_,rfl⟩;have hRz:R=z:=by
     rw[HE];obtain⟨h1,h2,h3⟩:=l9 HZ.out HA.out HZ0.out;match j,hjl with
     | 0,_=>simp at h1;subst h1;rw[aL h3]
     | 1,_=>simp at h1;have h4:=h2 0 bO;simp at h4;subst h1;rw[aJ (by simp[h4]),aL h3]
     | 2,_=>simp at h1;obtain⟨h4,h5⟩:=eY (h2 0 bO) (h2 1 bO);simp at h4 h5;subst h1;rw[aJ (by simp[h4]),aJ (by simp[h5])]
    rw[hRz];rfl
  ·have hj3:j=3:=by omega
   have HRZ:Hid (R=0):=I (by rw[HE];have h4:=HA 0 aX;have h5:=HA 1 aX;have h6:=HA 2 aX;simp at h4 h5 h6;rw[aJ (by simp[h4]),aJ (by simp[h5])];exact h6);clear hj3;go_wp2;go_ret;exact⟨by rw[HRZ];rfl,rfl⟩
def CX(w w':World):Prop:=∃q os,w'=Sort.grow (w.drewN q) os
theorem CX.refl(w:World):CX w w:=⟨0,#[],by simp[Sort.grow,World.drewN]⟩
theorem CX.drew(h:CX w w'):CX w w'.drew:=by obtain⟨q,os,rfl⟩:=h;exact⟨q+1,os,rfl⟩
theorem CX.alloc(h:CX w w')(o:Obj):CX w (w'.alloc o):=by obtain⟨q,os,rfl⟩:=h;refine⟨q,os.push o,?_⟩;simp[Sort.grow,World.alloc,World.drewN]
theorem CX.below(h:CX w w'):bG w w':=by obtain⟨q,os,rfl⟩:=h;exact⟨rfl,rfl,rfl,by simp[Sort.grow,World.drewN],λk hk=>by simp[Sort.grow,World.drewN,Array.getElem?_append,hk]⟩
theorem CX.trans{a c:World}(h:CX a b)(k:CX b c):CX a c:=by obtain⟨q,os,rfl⟩:=h;obtain⟨q',os',rfl⟩:=k;exact⟨q+q',os++os',by simp[Sort.grow,World.drewN,Nat.add_assoc]⟩
theorem GQ{x:World}{o:Obj}(h:Hid (CX W0 x)):Hid (CX W0 (x.alloc o)):=I (h.alloc o)
theorem Kq{x:World}(h:Hid (CX W0 x)):Hid (CX W0 x.drew):=I h.out.drew
theorem box3v(w:World)(c0 c1 c2:Value)(t:TypeId)(i:Nat)(v:Value)(h:(#[c0,c1,c2]:Array Value)[i]?=some v):(w.alloc (.cells #[c0,c1,c2] t)).cell? (X w.heap.size i)=some v:=
 (aj (aZ w (.cells #[c0,c1,c2] t)) i).trans h
theorem box3d(w:World)(c0 c1 c2:Value)(t:TypeId)(i:Nat)(v:Value)(h:(#[c0,c1,c2]:Array Value)[i]?=some v):(w.alloc (.cells #[c0,c1,c2] t)).drew.cell? (X w.heap.size i)=some v:=box3v w c0 c1 c2 t i v h
theorem CY(w:World)(x y:Dg):Calls prog 116 #[.agg #[O x.code,A x.fn,A x.name],.agg #[O y.code,A y.fn,A y.name]] w λe w'=>e=dz (O (O6 x y))/\CX w w':=by
 have Y9:Hid (∀w s t,Calls prog 181 #[A s,A t] w λe w'=>e=dz (O (bJ.cs s t))/\w'=w):=I cmpS_any;have Xt:Hid (∀w s t,Calls prog 182 #[O s,O t] w λe w'=>e=dz (O (bJ.ci s t))/\w'=w):=I cmpI_any;have HC4:Hid (∀w (B:Nat),w.cell? (X B 0)=some (O (bJ.cs x.fn y.fn))->w.cell? (X B 1)=some (O (bJ.ci x.code y.code))->w.cell? (X B 2)=some (O (bJ.cs x.name y.name))->Calls prog 180 #[Y (some (X B 0)) 3 3] w λe w'=>e=dz (O (O6 x y))/\w'=w):=I (λw B h0 h1 h2=>or3_any w B _ _ _ h0 h1 h2);obtain⟨R,hR⟩:=bC (O6 x y);rw[<-hR]at HC4 ⊢;clear hR;obtain⟨cx,fx,nx⟩:=x;obtain⟨cy,fy,ny⟩:=y;simp only at HC4 ⊢;obtain⟨b0,b1,hb0⟩:=al2 w (aW #[O cx,A fx,A nx] 80) (aW #[O cy,A fy,A ny] 80);have HG0:Hid (CX w ((w.alloc (aW #[O cx,A fx,A nx] 80)).alloc (aW #[O cy,A fy,A ny] 80))):=I (((CX.refl w).alloc _).alloc _);have HF:Hid (∀wx,Hid (CX ((w.alloc (aW #[O cx,A fx,A nx] 80)).alloc (aW #[O cy,A fy,A ny] 80)) wx)->Hid (CX ((w.alloc (aW #[O cx,A fx,A nx] 80)).alloc (aW #[O cy,A fy,A ny] 80)) wx)/\wx.cell? (X w.heap.size 0)=some (O cx)/\wx.cell? (X w.heap.size 1)=some (A fx)/\wx.cell? (X w.heap.size 2)=some (A nx)/\wx.cell? (X (w.heap.size+1) 0)=some (O cy)/\wx.cell? (X (w.heap.size+1) 1)=some (A fy)/\wx.cell? (X (w.heap.size+1) 2)=some (A ny)):=I (λwx h =>⟨h,aD ((aj b0 0).trans rfl) h.below,aD ((aj b0 1).trans rfl) h.below,aD ((aj b0 2).trans rfl) h.below,aD ((aj b1 0).trans rfl) h.below,aD ((aj b1 1).trans rfl) h.below,aD ((aj b1 2).trans rfl) h.below⟩);clear b0 b1 hb0;go_enter func116,ntmps116;go_wp2_with fail;generalize ((w.alloc (aW #[O cx,A fx,A nx] 80)).alloc (aW #[O cy,A fy,A ny] 80))=W0 at *;have yA:Hid (CX W0 W0):=I (CX.refl _)
 go_region_held3 (λwx=>Hid (CX W0 wx)/\wx.cell? (X w.heap.size 0)=some (O cx)/\wx.cell? (X w.heap.size 1)=some (A fx)/\wx.cell? (X w.heap.size 2)=some (A nx)/\
  wx.cell? (X (w.heap.size+1) 0)=some (O cy)/\wx.cell? (X (w.heap.size+1) 1)=some (A fy)/\wx.cell? (X (w.heap.size+1) 2)=some (A ny))
  ((refine HF _ ?_;repeat(first|exact Xu|exact yA|apply Kq|apply GQ)))
  (first
   | (go_at_call 180;refine(HC4 _ _ (box3d _ _ _ _ _ 0 _ rfl) (box3d _ _ _ _ _ 1 _ rfl) (box3d _ _ _ _ _ 2 _ rfl)).mono ?_;rintro e w4 ⟨rfl,hw4⟩;have Xu:Hid (CX W0 w4):=(by subst hw4;repeat(first|exact yA|apply Kq|apply GQ));clear hw4)
   | (go_at_call 182;refine(Xt _ _ _).mono ?_;rintro e w2 ⟨rfl,rfl⟩)
   | (go_at_call 181;refine(Y9 _ _ _).mono ?_;rintro e w2 ⟨rfl,rfl⟩))
 all_goals go_wp2_with fail;go_ret;exact⟨rfl,HG0.trans Xu⟩
open Go.Shelf
def mO(w:World)(g:Nat)(l:List Dg):Prop:=
 ∃cur,w.heap[g]?=some (.cells cur 80 (0,0))/\l.length*3<=cur.size/\∀i d,l[i]?=some d->cur[i*3]?=some (.int .i64 d.code)/\cur[i*3+1]?=some (.string d.fn)/\cur[i*3+2]?=some (.string d.name)
def O7(d:Dg):List Value:=[.int .i64 d.code,.string d.fn,.string d.name]
instance:Inhabited Dg:=⟨⟨0,⟨#[]⟩,⟨#[]⟩⟩⟩
theorem uN(x y:Dg):ltOf O6 x y=gJ x y:=R6 x y
theorem swoD:Sort.SWO (ltOf O6) where
 irrefl x:=by rw[uN];exact uF x
 trans x y z h1 h2:=by
  rw[uN]at *
  exact p9 h1 h2
 ntrans x y z h1 h2:=by
  rw[uN]at *
  cases h:gJ x z with
  | false=>rfl
  | true=>
   cases hy:gJ y x with
   | true=>rw[p9 hy h]at h2;cases h2
   | false=>rw[zF h1 hy,h2]at h;cases h
theorem O8 (d : Dg) : (O7 d)[0]! = .int .i64 d.code ∧ (O7 d)[1]! = .string d.fn ∧ (O7 d)[2]! = .string d.name := ⟨rfl, rfl, rfl⟩
theorem mO.cell(h:mO w g l){d:Dg}(hd:l[i]?=some d):w.cell? (X g (i*3))=some (O d.code)/\w.cell? (X g (i*3+1))=some (A d.fn)/\w.cell? (X g (i*3+2))=some (A d.name):=by obtain⟨cur,hc,_,hel⟩:=h;obtain⟨h0,h1,h2⟩:=hel i d hd;exact⟨(aj hc _).trans h0,(aj hc _).trans h1,(aj hc _).trans h2⟩
theorem mO.holds    (h : mO w g l) : Sort.HoldsK O7 3 w g 0 l.toArray := by
 obtain ⟨cur, hc, hsz, hel⟩ := h
 intro j hj
 rw [Sort.size_flatK] at hj
 have hjl : j < l.length * 3 := by simpa using hj
 refine ⟨?_, aG hc _⟩
 rw [Nat.zero_add, aj hc, Sort.get_flatK _ _ _ _ hj]
 have hi : j / 3 < l.length := by omega
 have hl : l[j / 3]? = some l[j / 3] := List.getElem?_eq_getElem hi
 have e : (l.toArray)[j / 3]! = l[j / 3] := by simp [hi]
 rw [e]
 obtain ⟨h0, h1, h2⟩ := hel _ _ hl
 obtain ⟨k0, k1, k2⟩ := O8 l[j / 3]
 have hm : j % 3 = 0 ∨ j % 3 = 1 ∨ j % 3 = 2 := by omega
 rcases hm with hm | hm | hm
 ·rw [hm, k0]; rw [show j / 3 * 3 = j by omega] at h0; exact h0
 ·rw [hm, k1]; rw [show j / 3 * 3 + 1 = j by omega] at h1; exact h1
 ·rw [hm, k2]; rw [show j / 3 * 3 + 2 = j by omega] at h2; exact h2
theorem mO.of_holds   {d : Array Dg}  (hc : w.heap[g]? = some (.cells cur 80 (0, 0))) (hsz : d.size * 3 ≤ cur.size) (h : Sort.HoldsK O7 3 w g 0 d) : mO w g d.toList := by
 refine ⟨cur, hc, by simpa using hsz, fun i x hx => ?_⟩
 have hi : i < d.size := by simpa using (List.getElem?_eq_some_iff.1 hx).1
 have e : d[i]! = x := by
  have := (List.getElem?_eq_some_iff.1 hx).2
  simp at this
  simp [hi, this]
 have k0 := (h.cell (c := 0) hi (by decide)).1
 have k1 := (h.cell (c := 1) hi (by decide)).1
 have k2 := (h.cell (c := 2) hi (by decide)).1
 rw [e, aj hc] at k0 k1 k2
 obtain ⟨j0, j1, j2⟩ := O8 x
 rw [j0] at k0
 rw [j1] at k1
 rw [j2] at k2
 refine ⟨?_, ?_, ?_⟩
 ·simpa using k0
 ·simpa using k1
 ·simpa using k2
theorem Xv (w : World) (n g len cap : Nat) (l : List Dg) (h : mO w g l) (hlen : len = l.length) (hn : n ≤ g) (hl : l.length ≤ 16777216) :
  Calls prog 115 #[.slice (some ⟨g, 0, none⟩) len cap, .func (.func 116) #[] #[]] w fun e w' => e = .returned (.tuple #[]) ∧ ∃ l', l'.length = l.length ∧ (∀ x, x ∈ l' ↔ x ∈ l) ∧ (l'.Pairwise fun a b => gJ b a = false) ∧ mO w' g l' ∧ Below n w w' := by
 subst hlen
 have h0 := h
 obtain ⟨cur, hc, hsz, hel⟩ := h
 have hcon := AnyQ.slices_SortFunc Tryz.lSoDg 3 Tryz.isAgg80 Tryz.sizeOf80 O7 (fun _ => rfl) (fun x v hv => by simp [O7] at hv; rcases hv with rfl | rfl | rfl <;> rfl) O6 swoD 116 #[] g 0 cap l.toArray w
  (enters_of func116 (by kernel_rfl) rfl) (fun m os dk _ x y => CY _ x y) h0.holds (bq hc) (by simp; omega)
 refine Calls.mono (show Calls prog 115 #[.slice (some ⟨g, 0, none⟩) l.length cap, .func (.func 116) #[] #[]] w _ from hcon) ?_
 rintro e w' ⟨he, d', k, os, hp, hs, hw⟩
 refine ⟨he, d'.toList, ?_, ?_, ?_, ?_, ?_⟩
 ·simpa using hp.1
 ·intro x
  have h1 := hp.2.2.mem_iff (a := x)
  have e1 : d'.extract 0 l.toArray.size = d' := by
   have : l.toArray.size = d'.size := hp.1.symm
   rw [this]; simp
  rw [e1] at h1
  simpa using h1
 ·rw [List.pairwise_iff_getElem]
  intro i j hi hj hij
  have hsd : d'.size = l.toArray.size := hp.1
  have h1 := hs i j (Nat.zero_le _) hij (by rw [← hsd]; simpa using hj)
  rw [uN] at h1
  have ei : d'[i]! = d'.toList[i] := by simp at hi; simp [hi]
  have ej : d'[j]! = d'.toList[j] := by simp at hj; simp [hj]
  rw [ei, ej] at h1
  exact h1
 ·have hblk : w'.heap[g]? = some (.cells (Sort.putCells id 0 (Sort.flatK O7 3 d') cur) 80 (0, 0)) := by
   rw [hw]
   have hg := bq hc
   simp only [sortWorldK, Sort.grow, Sort.putRowK, Sort.putRow, Sort.mapBlock, Sort.ahead]
   rw [Array.getElem?_append_left (by simpa using hg)]
   simp [Array.getElem?_modify, hc, Sort.onCells]
  refine mO.of_holds hblk ?_ ?_
  ·have : d'.size = l.toArray.size := hp.1
   simp only [Sort.putCells, Array.size_mapIdx]
   rw [this]; simpa using hsz
  ·rw [hw]
   exact holdsK_sortWorldK_c _ _ _ _ _ l.toArray d' k os h0.holds (bq hc) hp.1
 ·rw [hw]
  refine ⟨rfl, rfl, rfl, size_sortWorldK_c _ _ _ _ _ _ _ _, fun j hj => ?_⟩
  have hg := bq hc
  simp only [sortWorldK, Sort.grow, Sort.putRowK, Sort.putRow, Sort.mapBlock, Sort.ahead]
  rw [Array.getElem?_append_left (by simp; omega)]
  simp [Array.getElem?_modify]
  intro e'; omega
theorem GR(w:World)(p:Option Addr)(cap:Nat):Calls prog 115 #[Y p 0 cap,.func (.func 116) #[] #[]] w λe w'=>e=dz (.tuple #[])/\w'=w:=
 AnyF.slices_SortFunc_none { Tryz.lSoDg with } p cap _ w
namespace bJ
def pW(acc:List Dg)(x:Dg):List Dg:=match acc.getLast? with
 | some y=>if rE x y then acc else acc++[x]
 | none=>acc++[x]
def Am(l:List Dg):List Dg:=l.foldl pW []
theorem R8(acc:List Dg)(x:Dg):(pW acc x).getLast?=some x:=by
 unfold pW;split
 ·rename_i y h;split;·rename_i hs;rw[sS]at hs;subst hs;exact h
  ·simp
 ·simp
theorem cpt_snoc(l:List Dg)(x:Dg):Am (l++[x])=pW (Am l) x:=by unfold Am;simp
theorem GU(h:l[j]?=some x):Am (l.take (j+1))=pW (Am (l.take j)) x:=by rw[gy,h];exact cpt_snoc _ _
theorem cpt_last(h:l[j]?=some x):(Am (l.take (j+1))).getLast?=some x:=by rw[GU h];exact R8 _ _
theorem GV(h:l[j]?=some y)(h':l[j+1]?=some x):Am (l.take (j+1+1))=if rE x y then Am (l.take (j+1))else Am (l.take (j+1))++[x]:=by rw[GU h'];have:=cpt_last h;unfold pW;rw[this]
theorem cpt_len(l:List Dg):(Am l).length<=l.length:=by
 have h:∀(l acc:List Dg),(l.foldl pW acc).length<=acc.length+l.length:=by
  intro l;induction l with
  | nil=>intro acc;simp
  | cons x r ih=>
   intro acc;have h1:=ih (pW acc x);have h2:(pW acc x).length<=acc.length+1:=by
    unfold pW;split;·split<;>simp
    ·simp
   simp only[rF,yI];omega
 simpa[Am]using h l []
theorem Xw(h:Asc acc)(hs:l.Pairwise λa b=>gJ b a=false)(hc:∀a∈acc,∀y∈l,gJ y a=false):Asc (l.foldl pW acc)/\∀x,x∈l.foldl pW acc↔x∈acc\/x∈l:=by
 induction l generalizing acc with
 | nil=>exact⟨h,λx=>by simp⟩
 | cons y r ih=>
  obtain⟨h1,h2⟩:=rU.1 hs;have hstep:Asc (pW acc y)/\(∀x,x∈pW acc y↔x∈acc\/x=y):=by
   unfold pW;split
   ·rename_i z hz;split;·rename_i hsm;rw[sS]at hsm;subst hsm;have hm:y∈acc:=OX hz;exact⟨h,λx=>⟨aR,λhx=>hx.elim id (λe=>e ▸ hm)⟩⟩
    ·rename_i hsm;refine⟨CW.2 ⟨h,by simp,λa ha b hb=>?_⟩,λx=>by simp⟩;rw[dD]at hb;subst hb;have hya:=hc a ha b dx;cases hab:gJ a b with
     | true=>rfl
     | false=>
      exfalso;have e:=zF hab hya;subst e;have hzm:z∈acc:=OX hz;have hne:a≠z:=λe=>hsm (sS.2 e);obtain⟨pre,hpre⟩:∃pre,acc=pre++[z]:=by rw[List.getLast?_eq_some_iff]at hz;exact hz
      rw[hpre]at h ha;rcases bZ.1 ha with hp|hp;·have:=(CW.1 h).2.2 a hp z dx;rw[hc z hzm a dx]at this;cases this
      ·rw[dD]at hp;exact hne hp
   ·rename_i hz;have:acc=[]:=by simpa using hz
    subst this;exact⟨by simp[Asc],λx=>by simp⟩
  obtain⟨k1,k2⟩:=ih hstep.1 h2 (λa ha b hb=>by
   rcases(hstep.2 a).1 ha with ha|rfl;·exact hc a ha b (pR _ hb)
   ·exact h1 b hb)
  refine⟨k1,λx=>?_⟩;rw[rF,k2 x,hstep.2 x,fK,or_assoc]
theorem cpt_once(hs:s.Pairwise λa b=>gJ b a=false)(hp:∀x,x∈s↔x∈l')(hm:∀x,x∈l'↔x∈l):Am s=once l:=by obtain⟨h1,h2⟩:=Xw (l:=s) (acc:=[]) List.Pairwise.nil hs (λa ha=>aM ha dx);refine F7 h1 (ZF l) λx=>?_;rw[Am,h2,Az];simp[hp,hm]
end bJ
theorem mO.drew(h:mO w g l):mO (w.drewN n) g l:=h
theorem mO.set(h:mO w g l)(hk:k<l.length)(d:Dg):mO (((w.setCell (X g (k*3)) (O d.code)).setCell (X g (k*3+1)) (A d.fn)).setCell (X g (k*3+2)) (A d.name)) g (l.set k d):=by
 obtain⟨cur,hc,hs,hel⟩:=h;have h0:=aO hc (k*3) (O d.code);have h1:=aO h0 (k*3+1) (A d.fn);have h2:=aO h1 (k*3+2) (A d.name);refine⟨_,h2,by simpa using hs,λi x hx=>?_⟩;rw[List.getElem?_set]at hx;by_cases e:k=i
 ·subst e;simp[hk]at hx;subst hx;refine⟨?_,?_,?_⟩;·simp[Xm];omega
  ·simp[Xm];omega
  ·simp[Xm];omega
 ·rw[aJ e]at hx;obtain⟨a0,a1,a2⟩:=hel i x hx;refine⟨?_,?_,?_⟩;·rw[GJ aX,GJ aX,GJ aX];exact a0
  ·rw[GJ aX,GJ aX,GJ aX];exact a1
  ·rw[GJ aX,GJ aX,GJ aX];exact a2
theorem Xx(hc:w.heap[g]?=some (.cells cur 80 (0,0)))(hn:0<n)(hs:k*3+n*3<=cur.size)(ty:TypeId):(Builtin.clear_ #[59] ty #[Y (some (X g (k*3))) n c]).run prog w=.ok (.tuple #[]) (w.setRow g (cur.toList.take (k*3)++(Builtin.zeroCells (Value.agg #[O 0,A ⟨#[]⟩,A ⟨#[]⟩]).cells n).toList++cur.toList.drop (k*3+(Builtin.zeroCells (Value.agg #[O 0,A ⟨#[]⟩,A ⟨#[]⟩]).cells n).toList.length)).toArray):=by
 have hz:(Builtin.zeroCells (Value.agg #[O 0,A ⟨#[]⟩,A ⟨#[]⟩]).cells n).toList.length=n*3:=by simp[Builtin.zeroCells,Value.cells]
 have h1:∀v∈(Builtin.zeroCells (Value.agg #[O 0,A ⟨#[]⟩,A ⟨#[]⟩]).cells n).toList,v.oneCell'=true:=by
  intro v hv;simp[Builtin.zeroCells,Value.cells]at hv;obtain⟨a,ha,rfl⟩:=hv;have hm:a % 3=0\/a % 3=1\/a % 3=2:=by omega
  rcases hm with hm|hm|hm<;>simp[hm]<;>rfl
 have hst:=run_storeCells_at prog g (k*3) 80 (Builtin.zeroCells (Value.agg #[O 0,A ⟨#[]⟩,A ⟨#[]⟩]).cells n).toList 0 cur w hc (by rw[hz];omega) h1;obtain⟨m,rfl⟩:∃m,n=m+1:=⟨n - 1,by omega⟩;simp only[rY]at hst;simp[Builtin.clear_,run_underlying underlying59,hst]
theorem mO.clear{zs:List Value}(h:mO w g l)(hc:w.heap[g]?=some (.cells cur 80 (0,0)))(hk:k<=l.length)(m:Nat):mO (w.setRow g (cur.toList.take (k*3)++zs++cur.toList.drop m).toArray) g (l.take k):=by
 obtain⟨cur',hc',hs,hel⟩:=h;rw[hc]at hc';simp at hc';subst hc';have hkl:(l.take k).length=k:=by rw[jB];omega
 refine⟨_,setRow_heap w g cur _ 80 (0,0) hc,?_,λi d hd=>?_⟩;·rw[hkl];simp;omega
 ·have hik:i<k:=by have:=(dK.1 hd).1;omega
  rw[qL hik]at hd;obtain⟨a0,a1,a2⟩:=hel i d hd;have key:∀j v,j<k*3->cur[j]?=some v->((cur.toList.take (k*3)++zs++cur.toList.drop m).toArray)[j]?=some v:=λj v hj hv=>by rw[wm,iy,pQ (by simp;omega),qL hj];simpa using hv
  exact⟨key _ _ aX a0,key _ _ aX a1,key _ _ aX a2⟩
theorem O9(h:∀(j:Nat) x y,l[j]?=some y->l[j+1]?=some x->rE x y=false):∀j,j<=l.length->Am (l.take j)=l.take j:=by
 intro j;induction j with
 | zero=>intro _;rfl
 | succ j ih=>
  intro hj;cases j with
  | zero =>have hx:l[0]?=some l[0]:=bD aX;rw[GU hx];simp[Am,pW,gy,hx]
  | succ j =>have hy:l[j]?=some l[j]:=bD aX;have hx:l[j+1]?=some l[j+1]:=bD aX;rw[GV hy hx,h j _ _ hy hx,ih aX];rw[gy (i:=j+1),hx];simp
theorem rP(h:Below n w w1):Below n w (w1.drewN k):=⟨h.os,h.tape,h.output,h.size,h.block⟩
theorem zN{a:Addr}(h:Below n w w1)(ha:n<=a.block)(v:Value):Below n w (w1.setCell a v):=
 ⟨h.os,h.tape,h.output,by simp only[World.setCell,Cr];exact h.size,λk hk=>by rw[um _ _ _ _ aX];exact h.block k hk⟩
theorem R9{cs:Array Value}(h:Below n w w1)(hg:n<=g):Below n w (w1.setRow g cs):=
 ⟨h.os,h.tape,h.output,by rw[setRow_size];exact h.size,λk hk=>by rw[setRow_other _ _ _ _ aX];exact h.block k hk⟩
theorem Sb(hc:c=C.length)(hK:c<=K):(C++l.drop c)[K]?=l[K]?:=by subst hc;rw[oq hK,ZQ58Z];congr 1;omega
theorem row_set(hc:c=C.length)(hl:c<l.length)(x:Dg):(C++l.drop c).set c x=(C++[x])++l.drop (c+1):=by subst hc;rw[List.set_append_right _ _ (bE _),mE,U5 hl,dM];simp
theorem Ml(w:World)(n g len cap:Nat)(l:List Dg)(h:mO w g l)(hlen:len=l.length)(hcap:len<=cap)(hn:n<=g)(hl:len<=16777216):Calls prog 117 #[Y (some (X g 0)) len cap] w λe w'=>∃c',e=dz (Y (some (X g 0)) (Am l).length c')/\mO w' g (Am l)/\Below n w w':=by
 obtain⟨HL,HR⟩:=bU hlen h;clear hlen h;by_cases h2:len<2
 ·have HE:Hid (Am l=l):=I (by
   have hl':=HL.out;match l,hl' with
   | [],_=>rfl
   | [x],_=>rfl
   | x::y::r,h=>simp at h;omega)
  go_enter func117,ntmps117;go_wp2_with fail;go_ret;exact⟨_,by rw[HE,<-HL];rfl,by rw[HE];exact HR,bP _ _⟩
 ·go_enter func117,ntmps117;go_wp2_with fail;go_loopw[3] (λi wr=>∃j:Nat,j+1<=len/\i=O ((j:Int)+1)/\(∀(q:Nat) x y,q<j->l[q]?=some y->l[q+1]?=some x->rE x y=false)/\mO wr g l/\Below n w wr) (λi _=>len - (intOf i).toNat);case atStart=>exact⟨0,by omega,rfl,λq x y hq=>aM hq (fT _),HR,bP _ _⟩
  case round=>
   obtain⟨j,hj,rfl,hall,hrow,hnx⟩:=hrel;obtain⟨fF,uO,fO⟩:=fD hall hrow hnx;clear hall hnx;by_cases hjl:j+1<len
   ·obtain⟨y,hy⟩:∃y,l[j]?=some y:=⟨_,bD (by rw[<-HL];omega)⟩;obtain⟨x,hx⟩:∃y,l[j+1]?=some y:=⟨_,bD (by rw[<-HL];omega)⟩;obtain⟨p0,p1,p2⟩:=hrow.cell hx;obtain⟨k0,k1,k2⟩:=hrow.cell hy;obtain⟨HX,HY⟩:=bU hx hy;have heq:∀w,Sem.run prog (Op.equalIn 10000 80 (.agg #[O x.code,A x.fn,A x.name]) (.agg #[O y.code,A y.fn,A y.name])) w=.ok (rE x y) w:=Uy x y;have hgd:∀op a b w,Sem.run prog (eqGuard op 80 a b (.agg #[O x.code,A x.fn,A x.name]) (.agg #[O y.code,A y.fn,A y.name])) w=.ok () w:=λop a b w=>Og op a b x y w;have hlt:decide ((j:Int)+1<(len:Int))=true:=by simp;omega
    clear hx hy hrow;cases hsm:rE x y
    ·rw[hsm]at heq;have Sd:=I hsm;clear hsm;go_wp2_with fail;go_quiet (fail);go_wp2_with fail;go_roundw;case rel=>exact⟨j+1,by omega,by go_num,λq a b hq h1 h2=>by
      by_cases e:q=j;·subst e;rw[HY]at h1;rw[HX]at h2;cases h1;cases h2;exact Sd
      ·exact fF q a b aX h1 h2,uO.drew,rP fO⟩
     case measure=>simp[intOf];omega
    ·rw[hsm]at heq;have WZ:Hid (Am (l.take (j+1+1))=l.take (j+1)):=I (by
      rw[GV HY HX,hsm,aL rfl];have hll:(l.take (j+1)).length=j+1:=by rw[jB];have:=HL.out;omega
      have h1:=O9 (l:=l.take (j+1)) (λq a b h1 h2=>by have hq:=(dK.1 h2).1;rw[hll]at hq;rw[qL aX]at h1 h2;exact fF q a b aX h1 h2) (j+1) aX;rwa[List.take_take,Nat.min_self]at h1)
     clear hsm;go_wp2_with fail;go_quiet (fail);obtain⟨HR1,LV⟩:=bU (uO.out.drew (n:=nq)) (rP (k:=nq) fO.out);clear p0 p1 p2 k0 k1 k2 heq hgd;generalize wr.drewN nq=W1 at *;go_wp2_with fail;go_loopw[3,5] (λa b wx=>∃c t:Nat,a=O c/\b=O ((t:Int)+1)/\j+1+(t+1)<=len/\c=(Am (l.take (j+1+(t+1)))).length/\c<=j+1+t/\mO wx g (Am (l.take (j+1+(t+1)))++l.drop c)/\Below n w wx) (λ_ b _=>len - (intOf b).toNat);case atStart=>exact⟨j+1,0,by go_num,rfl,by omega,by
      rw[show j+1+(0+1)=j+1+1 from rfl,WZ,jB];have:=HL.out;omega,bE _,by
      rw[show j+1+(0+1)=j+1+1 from rfl,WZ,oV];exact HR1,LV⟩
     case round=>
      obtain⟨c,t,rfl,rfl,htl,hcc,hct,hrow,hnx⟩:=hrel;obtain⟨qK,qM,Pd⟩:=fD hcc hrow hnx;by_cases hend:j+1+(t+1)<len
      ·obtain⟨y',hy⟩:∃y,l[j+1+t]?=some y:=⟨_,bD (by rw[<-HL];omega)⟩;obtain⟨x',hx⟩:∃y,l[j+1+(t+1)]?=some y:=⟨_,bD (by rw[<-HL];omega)⟩;obtain⟨z',hz⟩:∃y,l[c]?=some y:=⟨_,bD (by rw[<-HL];omega)⟩;obtain⟨p0,p1,p2⟩:=hrow.cell (i:=j+1+(t+1)) (d:=x') (by rw[Sb hcc aX];exact hx);obtain⟨k0,k1,k2⟩:=hrow.cell (i:=j+1+t) (d:=y') (by rw[Sb hcc aX];exact hy);obtain⟨m0,m1,m2⟩:=hrow.cell (i:=c) (d:=z') (by rw[Sb hcc aX];exact hz);rw[Nat.add_mul (j+1) (t+1)]at p0 p1 p2;rw[Nat.add_mul (j+1) t]at k0 k1 k2;obtain⟨cur,hcur,-,-⟩:=hrow;obtain⟨f0,f1,f2⟩:=l9 (aG hcur (c*3)) (aG hcur (c*3+1)) (aG hcur (c*3+2));have og:Hid (Am (l.take (j+1+(t+1)+1))=if rE x' y' then Am (l.take (j+1+(t+1)))else Am (l.take (j+1+(t+1)))++[x']):=I (GV (j:=j+1+t) hy hx);have heq:∀w,Sem.run prog (Op.equalIn 10000 80 (.agg #[O x'.code,A x'.fn,A x'.name]) (.agg #[O y'.code,A y'.fn,A y'.name])) w=.ok (rE x' y') w:=Uy x' y';have hgd:∀op a b w,Sem.run prog (eqGuard op 80 a b (.agg #[O x'.code,A x'.fn,A x'.name]) (.agg #[O y'.code,A y'.fn,A y'.name])) w=.ok () w:=λop a b w=>Og op a b x' y' w;have hlt2:decide ((t:Int)+1<((len - (j+1):Nat):Int))=true:=by simp;omega
       clear hx hy hz hcur hcc hnx;cases tu:rE x' y'
       ·rw[tu]at heq;rw[tu,aJ dx]at og;clear tu;go_wp2_with fail;go_quiet (fail);have HR2:Hid (mO (wr.drewN nq) g _):=I (qM.out.drew (n:=nq));have Ao:=I (rP (k:=nq) Pd.out);replace p0:(wr.drewN nq).cell? _=_:=p0;replace p1:(wr.drewN nq).cell? _=_:=p1;replace p2:(wr.drewN nq).cell? _=_:=p2;replace m0:(wr.drewN nq).cell? _=_:=m0;replace m1:(wr.drewN nq).cell? _=_:=m1;replace m2:(wr.drewN nq).cell? _=_:=m2;replace f0:(wr.drewN nq).frozen? _=_:=f0;replace f1:(wr.drewN nq).frozen? _=_:=f1;replace f2:(wr.drewN nq).frozen? _=_:=f2;clear k0 k1 k2 heq hgd;generalize wr.drewN nq=W2 at *;go_wp2_with fail;go_roundw;case rel=>exact⟨c+1,t+1,by go_num,by go_num,by omega,by
         rw[show j+1+(t+1+1)=j+1+(t+1)+1 by omega,og,aT,<-qK];rfl,by omega,by
         rw[show j+1+(t+1+1)=j+1+(t+1)+1 by omega,og,<-row_set qK (by rw[<-HL];omega)];exact HR2.set (by rw[aT,Ee,<-qK,<-HL];omega) x',zN (zN (zN Ao hn _) hn _) hn _⟩
        case measure=>simp[intOf];omega
       ·rw[tu]at heq;rw[tu,aL rfl]at og;clear tu;go_wp2_with fail;go_quiet (fail);have HR2:Hid (mO (wr.drewN nq) g _):=I (qM.out.drew (n:=nq));have Ao:=I (rP (k:=nq) Pd.out);clear p0 p1 p2 m0 m1 m2 f0 f1 f2 k0 k1 k2 heq hgd;generalize wr.drewN nq=W2 at *;go_wp2_with fail;go_roundw;case rel=>exact⟨c,t+1,rfl,by go_num,by omega,by
         rw[show j+1+(t+1+1)=j+1+(t+1)+1 by omega,og];exact qK,by omega,by
         rw[show j+1+(t+1+1)=j+1+(t+1)+1 by omega,og];exact HR2,Ao⟩
        case measure=>simp[intOf];omega
      ·have EJ:Hid (l.take (j+1+(t+1))=l):=I (fU (by rw[<-HL];omega));rw[EJ]at qM qK hrow;have hrow':=hrow;obtain⟨cur,hcur,hsz,-⟩:=hrow;rw[aT,Ee,<-qK,<-HL]at hsz;have hcl:=λty=>Xx (c:=cap - c) hcur (show 0<len - c by omega) (show c*3+(len - c)*3<=cur.size by omega) ty;have Xy:=I (λzs m=>mO.clear (zs:=zs) (k:=c) hrow' hcur (by rw[aT,<-qK];omega) m);have hlt2:decide ((t:Int)+1<((len - (j+1):Nat):Int))=false:=by simp;omega
       have Jb:Hid ((Am l++l.drop c).take c=Am l):=I (by rw[qK,List.take_left]);rw[Jb]at Xy;generalize (Builtin.zeroCells (Value.agg #[O 0,A ⟨#[]⟩,A ⟨#[]⟩]).cells (len - c)).toList=zs at *;obtain⟨Ao,HR2⟩:=bU (R9 (g:=g) (cs:=(cur.toList.take (c*3)++zs++cur.toList.drop (c*3+zs.length)).toArray) hnx hn) (Xy zs (c*3+zs.length));generalize wr.setRow g (cur.toList.take (c*3)++zs++cur.toList.drop (c*3+zs.length)).toArray=W2 at *;clear hrow' hcur hcc hnx;go_wp2_with fail;go_ret;exact⟨_,by rw[<-qK];rfl,HR2,Ao⟩
   ·have HE:Hid (Am l=l):=I (by have h1:=O9 (l:=l) (λq a b h1 h2=>fF q a b (by have:=(dK.1 h2).1;have:=HL.out;omega) h1 h2) l.length (bE _);rwa[jC]at h1);have hlt:decide ((j:Int)+1<(len:Int))=false:=by simp;omega
    clear hrow;go_wp2_with fail;go_ret;exact⟨_,by rw[HE,<-HL];rfl,by rw[HE];exact uO,fO⟩
theorem own_rowD{cs:List (List Value)}(h:w.ownsRow base 80 3 (Y (some (X g 0)) n cap) n cs.flatten)(hn:n=l.length)(hcs:cs.length=l.length)(hat:∀(i:Nat) c y,cs[i]?=some c->l[i]?=some y->oW c y):mO w g l:=by
 have hk:∀c∈cs,c.length=3:=λc hc=>by obtain⟨i,hi,rfl⟩:=gZ.1 hc;have:=hat i _ _ (bD hi) (bD aX);rw[this];rfl
 have hget:=λ(i:Nat) (c:List Value) (hc:cs[i]?=some c) (j:Nat) (hj:j<3)=>Uu h aX hk hc hj;rcases h.2 with⟨h1,_⟩|⟨g',cap',cur,h1,_,hh,_,_,hsz,_⟩;·simp at h1
 ·simp at h1;obtain⟨rfl,rfl⟩:=h1;refine⟨cur,hh,by rw[hsz,<-hn];omega,λi d hd=>?_⟩;have hi:i<cs.length:=by rw[hcs];exact(dK.1 hd).1
  have hc:=bD hi;obtain⟨e,g0,g1,g2⟩:=tZ (hat i _ d hc hd) (hget i _ hc 0 bO) (hget i _ hc 1 bO) (hget i _ hc 2 bO);rw[aj hh,e]at g0 g1 g2;exact⟨g0,g1,g2⟩
theorem Sg(w:World)(v:Value)(l:List Dg)(h:jf w v l)(hl:l.length<=16777216):Calls prog 114 #[v] w λe w'=>∃v',e=dz v'/\Hid (bG w w'/\((v'=J/\l=[])\/∃g cap,v'=Y (some (X g 0)) l.length cap/\l.length<=cap/\w.heap.size<=g/\mO w' g l)):=by
 obtain⟨a,b,off,cap,rfl,h0,-,hel⟩:=h;cases a with
 | none=>
  have hz:l=[]:=by
   cases l with
   | nil=>rfl
   | cons y r=>exact aM (h0 dx) dx
  subst hz;clear h0 hel;have hnil:∀w c,(binOp .eql 59 (Y none 0 c) (J)).run prog w=.ok (.bool true) w:=λw c=>Lib.run_eql_slice_nil w 59 80 none 0 c 0 0 underlying59;go_enter func114,ntmps114;go_wp2_with fail;go_ret;exact⟨_,rfl,I ⟨bP _ _,aR dx⟩⟩
 | some ad=>
  obtain⟨cs,k1,k2,k3,k4⟩:=Zz (At:=oW) (w:=w) (b:=b) (off:=off) (k:=3) (l:=l) bO (λi y hy=>by
   obtain⟨g0,g1,g2⟩:=hel i y hy;refine⟨_,rfl,λj u hu=>?_,rfl⟩;match j,hu with
   | 0,hu=>simp at hu;subst hu;exact g0
   | 1,hu=>simp at hu;subst hu;exact g1
   | 2,hu=>simp at hu;subst hu;exact g2
   | j+3,hu=>simp at hu)
  have Cc:Hid (cs.flatten.length=l.length*3):=I (by rw[qz cs k2,k1]);obtain⟨jh,EI,dQ⟩:=fD k1 k3 (aH w (aW #[] 80));have HK4:Hid (∀(j:Nat) u,cs.flatten[j]?=some u->(w.alloc (aW #[] 80)).cell? (X b (off+j))=some u):=I λj u hu=>aD (k4 j u hu) dQ;have Cb:Hid (∀u∈cs.flatten,u.oneCell'=true):=I λu hu=>by obtain⟨c,hc,hu'⟩:=List.mem_flatten.1 hu;obtain⟨i,hi,rfl⟩:=gZ.1 hc;exact(k3 i _ _ (bD hi) (bD aX)).one u hu'
  have HH0:=I h0;obtain⟨nl,hnl⟩:=bC l.length;rw[<-hnl]at Cc HH0 jh hl ⊢;obtain⟨HNL,HL⟩:=bU hnl hl;clear hnl hl h0 hel k1 k2 k3 k4;have hnil:∀w n c,(binOp .eql 59 (Y (some ad) n c) (J)).run prog w=.ok (.bool false) w:=λw n c=>Lib.run_eql_slice_nil w 59 80 (some ad) n c 0 0 underlying59;have HOW:=I (JU w 80 3);go_enter func114,ntmps114
  go_wp2_with (first
   | (at_builtin;refine j5 rfl _ _ 59 80 3 40 _ rfl underlying59 oZ bO bO w.heap.size _ 0 [] rfl HOW (some ad) b off nl cap cs.flatten rfl HH0 Cc HK4 Cb (by have:=HL.out;unfold maxLen;omega) (by have:=HL.out;omega) dQ.size ?_;intro v7 w7 jg dL RY hp7;have Ca:=I jg;have HZ7:=I RY;have HP7:=I hp7;have jG:=I (Below.grown dQ dL dQ.size (λk e=>by have:=(HOW.lt k e).1;omega));clear jg dL RY hp7)
   | fail)
  go_ret;refine⟨_,rfl,I ⟨jG,aV ?_⟩⟩;have ho:=Ca.out;rw[eD,uL]at ho;have hrow:=ho.2;rcases hrow with⟨h1,h2⟩|⟨g,cap',cur,h1,hg,hh,hc,_⟩;·exfalso;have h3:=(HZ7 h2).symm.trans h1;injection h3 with h4;cases h4
  ·rw[h1]at ho;exact⟨g,cap',h1,hc,hg,own_rowD ho HNL (by rw[jh,HNL]) EI⟩
theorem Bh(w:World)(c:Nat):Calls prog 117 #[Y none 0 c] w λe w'=>e=dz (Y none 0 c)/\w'=w:=by go_enter func117,ntmps117;go_wp2;go_ret;exact⟨rfl,rfl⟩
theorem Sj(w:World):Calls prog 114 #[J] w λe w'=>e=dz (J)/\w'=w:=by have hnil:∀w c,(binOp .eql 59 (Y none 0 c) (J)).run prog w=.ok (.bool true) w:=λw c=>Lib.run_eql_slice_nil w 59 80 none 0 c 0 0 underlying59;go_enter func114,ntmps114;go_wp2_with fail;go_ret;exact⟨rfl,rfl⟩
theorem Pe(w:World):Calls prog 58 #[J] w λe w'=>e=dz (J)/\w'=w:=by go_enter func58,ntmps58;go_wp2_with fail;refine(Sj _).mono ?_;rintro e w1 ⟨rfl,hw1⟩;subst hw1;go_wp2_with fail;refine(GR _ _ _).mono ?_;rintro e w2 ⟨rfl,hw2⟩;subst hw2;go_wp2_with fail;refine(Bh _ _).mono ?_;rintro e w3 ⟨rfl,hw3⟩;subst hw3;go_wp2_with fail;go_ret;exact⟨rfl,rfl⟩
theorem mO.dgsN(h:mO w g l)(hn:n=l.length)(hl:l.length<=9223372036854775807):jf w (Y (some (X g 0)) n c) l:=by subst hn;exact⟨_,g,0,c,rfl,λ_=>rfl,hl,λi d hd=>by rw[eD];exact h.cell hd⟩
theorem wO(w:World)(v:Value)(l:List Dg)(h:jf w v l)(hl:l.length<=16777216):Calls prog 58 #[v] w λe w'=>∃u,e=dz u/\jf w' u (bJ.once l)/\bG w w':=by
 have HC:=I (Sg w v l h hl);obtain⟨a,b,off,cap,rfl,-⟩:=h;have HL:=I hl;obtain⟨fl,hfl⟩:=bC l.length;have Cc:=I hfl;rw[<-hfl]at HC ⊢;clear hl hfl;go_enter func58,ntmps58;go_wp2_with fail;refine HC.mono ?_;rintro e w1 ⟨v1,rfl,Kr⟩;obtain⟨hb1,h1⟩:=Kr.out;clear Kr;have HB1:=I hb1;clear hb1;rcases h1 with⟨rfl,hnil⟩|⟨g,c1,rfl,hcp,hg,hrow⟩;·have HN:=I hnil;clear hnil;go_wp2_with fail;refine(GR _ _ _).mono ?_;rintro e w2 ⟨rfl,hw2⟩;subst hw2;go_wp2_with fail;refine(Bh _ _).mono ?_;rintro e w3 ⟨rfl,hw3⟩;subst hw3;go_wp2_with fail;go_ret;exact⟨_,rfl,by rw[HN];show jf _ _ [];exact⟨none,0,0,0,rfl,λh=>aM h dx,by simp,λi d hd=>by simp at hd⟩,HB1⟩
 ·have uO:=I hrow;have HG:=I hg;clear hrow hg;go_wp2_with fail;refine(Xv w1 w.heap.size g fl c1 l uO Cc HG HL).mono ?_;rintro e w2 ⟨rfl,s,hsl,hsm,hss,hrow,hb2⟩;obtain⟨HSL,Sd,HSS,qM,HB2⟩:=rO hsl hsm hss hrow (HB1.trans hb2);clear hsl hsm hss hrow hb2;go_wp2_with fail;refine(Ml w2 w.heap.size g fl c1 s qM (by rw[HSL];exact Cc) hcp HG (by rw[Cc];exact HL)).mono ?_;rintro e w3 ⟨c3,rfl,hrow,hb3⟩;have HE:Hid (bJ.once l=Am s):=I (cpt_once HSS Sd (λ_=>Iff.rfl)).symm;obtain⟨HROW3,HB3⟩:=bU hrow (HB2.trans hb3);have Xz:Hid ((Am s).length<=9223372036854775807):=I (by have h1:=cpt_len s;rw[HSL]at h1;have:=HL.out;omega);obtain⟨pl,hpl⟩:=bC ((Am s).length);have HP:=I hpl;rw[<-hpl];clear hrow hb3 hpl;go_wp2_with fail;go_ret;exact⟨_,rfl,by rw[HE];exact HROW3.dgsN HP Xz,HB3⟩
end Go.Proofs.YtbgkpehhdibaoaaGreatDoor
