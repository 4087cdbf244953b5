/- part -/
import Derived.Test.YtbgkpehhdibaoaaGreatDoorBZBW
set_option maxHeartbeats 0
set_option maxRecDepth 99999
namespace Go.Proofs.YtbgkpehhdibaoaaGreatDoor
open Ck bJ Rn
open Go.Proofs.Tryz
open Go.RowKit Go.Maps Go.WideMaps
variable{w W w':World}{b n m B i r cnt:Nat}{z key v c v1 v2 v3:Value}{f:aY->Option Value}{s t:aY}{x:Mo}
theorem iD{ops:Array Oper}{rest:List Oper}{o:Oper}{a:Act}{Q:Exit->Act->World->Prop}(hg:o.guard=none)(m x v:Operand)(t e:TypeId)(hop:o.op=Op.insert t m x v)(ht:prog.underlying t=some (.map 9 e))(hm:a.eval m=.map (some b))(h:mV w b n z f)(hn:n<maxLen)(s:aY)(hs:s.size<=maxLen)(val:Value)(hx:a.eval x=A s)(hv:a.eval v=val)(hK:∀w',mV w' b (n+1) z (jk f s val)->w.grownBy w' (some b)->wpList prog ops Q rest (a.put o.dst undef) w'):wpList prog ops Q (o::rest) a w:=by refine wpList_plain hg λK' hK'=>?_;obtain⟨w',hrun,r1,r2⟩:=h.put ht hn hs val;unfold Oper.wp;simp[execOp,hop,hm,hx,hv,hrun,Result.andThen];exact hK' _ _ (hK w' r1 r2)
theorem ze{kl:Lit}(h:keyOf prog 9 key=some kl):∃s:ByteArray,key=.string s/\s.size<=maxLen/\kl=.string s.data.toList:=by cases key<;>simp[keyOf,underlying9,mapKey]at h;exact⟨_,rfl,h.1,h.2.symm⟩
def six:aY->Option Value:=jk (jk (jk (jk (jk (jk (λ_=>none) Rd.u0 (.bool true)) Rd.u1 (.bool false)) Rd.u2 (.bool false)) Rd.u3 (.bool false)) Rd.u4 (.bool false)) Rd.u5 (.bool true)
theorem tY(h:jk f s v t=some c):(t=s/\c=v)\/f t=some c:=by
 unfold jk at h;cases hs:dA t s with
 | true=>rw[hs]at h;exact aR ⟨eu.1 hs,by cases h;rfl⟩
 | false=>rw[hs]at h;exact aV h
theorem six_of(h:six s=some c):∃ok x,c=.bool ok/\Ck.Says s ok x:=by
 rcases tY h with⟨rfl,rfl⟩|h;·exact⟨_,_,rfl,says5⟩
 rcases tY h with⟨rfl,rfl⟩|h;·exact⟨_,_,rfl,says4⟩
 rcases tY h with⟨rfl,rfl⟩|h;·exact⟨_,_,rfl,says3⟩
 rcases tY h with⟨rfl,rfl⟩|h;·exact⟨_,_,rfl,says2⟩
 rcases tY h with⟨rfl,rfl⟩|h;·exact⟨_,_,rfl,says1⟩
 rcases tY h with⟨rfl,rfl⟩|h;·exact⟨_,_,rfl,says0⟩
 cases h
theorem mks_one(hk:w.heap[B]?=some (aW #[A x.name,v1,v2,v3] 58))(hm:iY w m (.agg #[A x.name,v1,v2,v3]) x)(hp:Ip w v1 v3):vD w m (Y (some (X B 0)) 1 1) [x]:=by
 refine⟨_,B,0,1,rfl,λ_=>rfl,by simp,λi y hy=>?_⟩;match i,hy with
 | 0,hy =>simp at hy;subst hy;exact⟨v1,v2,v3,(aj hk 0).trans rfl,(aj hk 1).trans rfl,(aj hk 2).trans rfl,(aj hk 3).trans rfl,hm,⟨hp.1,hp.2.1,hp.2.2⟩⟩
 | i+1,hy=>simp at hy
theorem IX{x:World}(hB:Hid (W.heap.size<=B))(h:Hid (bG W x)):Hid (bG W (x.setCell (X B i) v)):=I (h.setCell (p:=(X B i)) hB v)
def SaidA(w:World)(ok:Bool)(w':World)(e:Ending):Prop:=∃(sa:Option Addr) (sn sc:Nat) (da:Option Addr) (dn dc:Nat),e=.returned (.tuple #[.agg #[.slice sa sn sc,.slice da dn dc],.int .i64 0])/\(decide (dn=0)&&decide (0<sn))=ok/\bG w w'
theorem says_ans{ok:Bool}(hx:Ck.Says t ok x)(w:World)(vn vl vk:Value)(hS:Strs w vn mU)(hR:Fg w vl 2 (λ_=>2) nX)(hK:vD w 8196 vk [x])(ht:Tab w):Calls prog 18 #[.agg #[vn,vl],vk,A ⟨#[109]⟩] w λe w'=>SaidA w ok w' e:=by have h:=Aj 8196 w vn vl vk mU 2 (λ_=>2) nX [x] x.name (Ck.uni mU [x]) hS hR hK (λy hy=>by rw[dD.1 hy];exact hx.small) ht (by rw[hx.name];decide) NK;rw[hx.name]at h;refine h.mono ?_;rintro e w' ⟨vs,vd,rfl,hh⟩;obtain⟨e1,e2⟩:=eY hx.errno hx.acc;rw[hx.name]at e1 e2;obtain⟨h1,h2,h3⟩:=hh.out;obtain⟨sa,sc,rfl⟩:=h1.form;obtain⟨da,db,do',dc,rfl,-⟩:=h2;rw[show(Ck.an ⟨8196,mU,2,λ_=>2,nX,[x]⟩ ⟨#[109]⟩).2.2=0 from e1];exact⟨sa,_,sc,da,_,dc,rfl,e2,h3⟩
theorem BZ{D:DataW Value}{left:Lit->Bool}(h:w.ranges prog 9 jD b r n D left cnt)(hb:bG w w'):w'.ranges prog 9 jD b r n D left cnt:=
 h.kept (row:=none) ⟨hb.os,hb.tape,hb.output,hb.size,λi hi _=>hb.block i hi⟩ dx dx
theorem said_any(w:World)(ht:Tab w)(he:M9 w):Calls prog 23 #[] w λe w'=>e=dz (.bool true)/\bG w w':=by
 have HT:=I ht;have vI:=I (λwx t ok x (hx:Ck.Says t ok x) (hb:bG w wx)=>NQ wx t x hx.err hx.mod hx.size (ht.below hb) (he.below hb));have Zn:Hid (mV (w.alloc (.map #[] 0)) w.heap.size 0 (.bool false) (λ_=>none)):=I (mV.new _ _);have HB0:Hid (bG w (w.alloc (.map #[] 0))):=I (aH _ _);have hmm:=@run_makeMap prog;clear ht he;go_enter func23,ntmps23;go_upto_region 1 with fail
 go_wp2_with (first
  | (refine iD rfl _ _ _ 115 _ rfl underlying115 rfl Zn.out bO Rd.u0 bO (.bool true) bR rfl ?_;intro w1 hm1 hg1;have JG:=I hm1;have HB1:Hid (bG w w1):=I (HB0.out.grown hg1 HB0.out.size (λk hk=>by cases hk;exact bE _));clear hm1 hg1 Zn HB0)
  | (refine iD rfl _ _ _ 115 _ rfl underlying115 rfl JG.out bO Rd.u1 bO (.bool false) bR rfl ?_;intro w2 hm2 hg2;have HM2:=I hm2;have HB2:Hid (bG w w2):=I (HB1.out.grown hg2 HB1.out.size (λk hk=>by cases hk;exact bE _));clear hm2 hg2 JG HB1)
  | (refine iD rfl _ _ _ 115 _ rfl underlying115 rfl HM2.out bO Rd.u2 bO (.bool false) bR rfl ?_;intro w3 hm3 hg3;have HM3:=I hm3;have HB3:Hid (bG w w3):=I (HB2.out.grown hg3 HB2.out.size (λk hk=>by cases hk;exact bE _));clear hm3 hg3 HM2 HB2)
  | (refine iD rfl _ _ _ 115 _ rfl underlying115 rfl HM3.out bO Rd.u3 bO (.bool false) bR rfl ?_;intro w4 hm4 hg4;have VF:=I hm4;have DZ:Hid (bG w w4):=I (HB3.out.grown hg4 HB3.out.size (λk hk=>by cases hk;exact bE _));clear hm4 hg4 HM3 HB3)
  | (refine iD rfl _ _ _ 115 _ rfl underlying115 rfl VF.out bO Rd.u4 bO (.bool false) bR rfl ?_;intro w5 hm5 hg5;have HM5:=I hm5;have d9:Hid (bG w w5):=I (DZ.out.grown hg5 DZ.out.size (λk hk=>by cases hk;exact bE _));clear hm5 hg5 VF DZ)
  | (refine iD rfl _ _ _ 115 _ rfl underlying115 rfl HM5.out bO Rd.u5 bO (.bool true) bR rfl ?_;intro w6 hm6 hg6;have Dp:=I hm6;have dX:Hid (bG w w6):=I (d9.out.grown hg6 d9.out.size (λk hk=>by cases hk;exact bE _));clear hm6 hg6 HM5 d9)
  | (at_range;obtain⟨D,hown,hD⟩:=Dp.out;refine wpList_range_own _ rfl _ 115 rfl 9 4 pJ underlying115 jD _ _ D rfl hown ?_;intro w7 hrg0 hg0 hs0))
 go_frame;have HD:=I hD;have jG:Hid (bG w w7):=I (dX.out.grown hg0 dX.out.size (λk hk=>by cases hk));have HRG:=I hrg0;obtain⟨R7,hR7⟩:∃B,B=w6.heap.size:=⟨_,rfl⟩;have wG:Hid (w.heap.size<=R7):=I (by rw[hR7];exact dX.out.size);rw[<-hR7]at HRG ⊢;clear hD hown hrg0 hg0 hs0 hR7 hmm;obtain⟨MB,hMB⟩:∃B,B=w.heap.size:=⟨_,rfl⟩;rw[<-hMB]at HRG;have HMB:=I hMB;clear hMB;go_loopw[1] (λ_ wr=>∃left cnt,Hid (wr.ranges prog 9 jD MB R7 (0+1+1+1+1+1+1) D left cnt/\(∀kl,left kl=true->Maps.has D kl=true)/\bG w wr)) (λ_ wr=>wr.rangeLeft MB R7);case atStart=>exact⟨_,_,I ⟨HRG.out,λkl h=>h,jG.out⟩⟩
 case round=>
  obtain⟨left,cnt,HR⟩:=hrel;have hrg:=HR.out.1;go_wp2_with (at_next;refine wpList_next_ranges _ rfl _ rfl 9 pJ jD A id (λkey kl hk=>by obtain⟨s,e,-⟩:=ze hk;exact⟨s,e⟩) (λv y _=>⟨v,rfl⟩) _ _ _ _ _ _ rfl hrg ?_ ?_);·intro _ _;go_wp2_with fail;go_ret;exact⟨rfl,HR.out.2.2⟩
  ·intro s c kl yd yp w1 cnt1 hkey hlk hv hat hrg1 hlt hg1 hs1 hen;obtain⟨s',es,hsz,ekl⟩:=ze hkey;cases es;have hc:six s=some c:=by
    obtain⟨h1,h2⟩:=eY (HR.out.2.1 kl hlk) (hat (.held (.bool false)));rw[ekl,(HD.out s hsz).1]at h1;rw[ekl,(HD.out s hsz).2]at h2;obtain⟨c',hc'⟩:=rR.1 h1;have h3:yd=.held c:=by have:some (DataW.held c,[])=some (yd,yp):=hv;cases this;rfl
    have h4:jk (jk (jk (jk (jk (jk (λ_=>none) Rd.u0 (.bool true)) Rd.u1 (.bool false)) Rd.u2 (.bool false)) Rd.u3 (.bool false)) Rd.u4 (.bool false)) Rd.u5 (.bool true) s=some c':=hc';rw[h4,h3]at h2;have h5:c'=c:=by simpa using h2
    rw[<-h5];exact hc'
   obtain⟨ok,x,rfl,hx⟩:=six_of hc;have Zo:=I hx;have iA:Hid (bG w w1):=I (HR.out.2.2.grown hg1 HR.out.2.2.size (λk hk=>by cases hk;exact wG.out));have HRG1:=I hrg1;have lX:Hid (cnt1<cnt):=I hlt;have Vj:=I HR.out.2.1;have KF:Hid (wr.rangeLeft MB R7=cnt):=I hrg.left_eq;clear hc hkey hlk hv hat hrg1 hlt hg1 hs1 hx hsz ekl hrg;go_wp2_with fail;refine(vI.out w1 s ok x Zo.out iA.out).mono ?_;rintro e w2 ⟨a1,n1,c1,a2,n2,c2,a3,n3,c3,z,rfl,Rb⟩;have HH2:=I Rb.out;clear Rb hen;go_upto_region 5 with fail;obtain⟨HBA,HKA⟩:=rZ w2 (aW #[A x.name,Y a1 n1 c1,Y a2 n2 c2,Y a3 n3 c3] 58);obtain⟨B,hB⟩:∃B,B=w2.heap.size:=⟨_,rfl⟩;rw[<-hB]at HKA ⊢;have JG:Hid (iY (w2.alloc (aW #[A x.name,Y a1 n1 c1,Y a2 n2 c2,Y a3 n3 c3] 58)) 8196 (.agg #[A x.name,Y a1 n1 c1,Y a2 n2 c2,Y a3 n3 c3]) x/\Ip (w2.alloc (aW #[A x.name,Y a1 n1 c1,Y a2 n2 c2,Y a3 n3 c3] 58)) (Y a1 n1 c1) (Y a3 n3 c3)):=I ⟨(HH2.out.1.sub (FW _ _)).below HBA.out,(HH2.out.2.1.sub (FW _ _)).below HBA.out⟩;have HB2:Hid (bG w (w2.alloc (aW #[A x.name,Y a1 n1 c1,Y a2 n2 c2,Y a3 n3 c3] 58))):=I (up (up iA.out HH2.out.2.2) HBA.out);have HRG2:Hid ((w2.alloc (aW #[A x.name,Y a1 n1 c1,Y a2 n2 c2,Y a3 n3 c3] 58)).ranges prog 9 jD MB R7 (0+1+1+1+1+1+1) D (λz=>left z&&!z.sameKey kl) cnt1):=I (BZ HRG1.out (up HH2.out.2.2 HBA.out));generalize w2.alloc (aW #[A x.name,Y a1 n1 c1,Y a2 n2 c2,Y a3 n3 c3] 58)=W1 at *;clear hB;have yA:Hid (bG W1 W1):=I (bP _ _);have xm:=Zo.out.name;have Rh:Hid (∀wx,Hid (bG W1 wx)->wx.cell? (X B 0)=some (A x.name)/\wx.cell? (X B 1)=some (Y a1 n1 c1)/\wx.cell? (X B 2)=some (Y a2 n2 c2)/\wx.cell? (X B 3)=some (Y a3 n3 c3)):=I (λwx h=>by have hk:=aU HKA.out h.out;exact⟨(aj hk 0).trans rfl,(aj hk 1).trans rfl,(aj hk 2).trans rfl,(aj hk 3).trans rfl⟩);have HAN:Hid (∀wx vn vl SB,Hid (bG W1 wx)->Strs wx vn mU->Fg wx vl 2 (λ_=>2) nX->wx.heap[SB]?=some (aW #[A x.name,Y a1 n1 c1,Y a2 n2 c2,Y a3 n3 c3] 58)->Calls prog 18 #[.agg #[vn,vl],Y (some (X SB 0)) 1 1,A ⟨#[109]⟩] wx λe w'=>SaidA wx ok w' e):=I (λwx vn vl SB hb hs hr hk=>says_ans Zo.out wx vn vl _ hs hr (mks_one hk (JG.out.1.below hb.out) (JG.out.2.below hb.out)) ((HT.out.below HB2.out).below hb.out));clear xm;go_cut [6,7]from 11 to 48 (λp f x=>∃AB sa sn sc da dn dc,p=iO AB/\f=O 0/\Hid (x.heap[AB]?=some (aW #[Y sa sn sc,Y da dn dc] 61)/\(decide (dn=0)&&decide (0<sn))=ok/\bG W1 x));case first=>
    rename_i Q9 K9 h9 J9 L9 h8 h7;clear h9;refine bW [none,some true,none,none,none,none,none,none,none,none] 8 (λu=>u.cell? (X B 0)=some (A x.name)/\u.cell? (X B 1)=some (Y a1 n1 c1)/\u.cell? (X B 2)=some (Y a2 n2 c2)/\u.cell? (X B 3)=some (Y a3 n3 c3)) 9 bR bR (λ_ _ d _ _ h=>(by cases d<;>exact h)) (Rh.out _ (fP yA)) ?_;dsimp only[fE];repeat(first|(refine fq (v:=?_) cZ ?_ ?_;rotate_left 1;(focus(intro w;go_simp;try(with_reducible rfl)));simp only[Act.put,dG,dM,dU])|(refine fA (v:=?_) cZ ?_ ?_;rotate_left 1;(focus(intro w hSw;obtain⟨q0,q1,q2,q3⟩:=hSw;go_simp;try(with_reducible rfl)));simp only[Act.put,dG,dM,dU]))
    refine dH ?_;refine lU ?_;intro u hu;have HU:Hid (bG W1 u):=by rw[hu];exact(by repeat(first|with_reducible exact yA|with_reducible refine fP ?_))
    clear hu;have H0:Hid (bG u u):=I (bP _ _)
    iterate 9 (
     all_goals rename World=>aaf
     all_goals first
      | refine aN (i:=7) (by decide +kernel) cZ (λK hK=>?_)
      | refine aN (i:=8) (by decide +kernel) cZ (λK hK=>?_)
      | refine aN (i:=9) (by decide +kernel) cZ (λK hK=>?_)
      | refine aN (i:=6) (by decide +kernel) cZ (λK hK=>?_)
      | refine aN (i:=5) (by decide +kernel) cZ (λK hK=>?_)
      | refine aN (i:=4) (by decide +kernel) cZ (λK hK=>?_)
      | refine aN (i:=3) (by decide +kernel) cZ (λK hK=>?_)
      | refine aN (i:=2) (by decide +kernel) cZ (λK hK=>?_)
      | refine aN (i:=0) (by decide +kernel) cZ (λK hK=>?_)
      | refine eH (i:=2) (k:=7) (by decide +kernel) cZ cZ (λK hK=>?_) (λK hK=>?_)
      | refine eH (i:=3) (k:=7) (by decide +kernel) cZ cZ (λK hK=>?_) (λK hK=>?_)
      | refine eH (i:=4) (k:=7) (by decide +kernel) cZ cZ (λK hK=>?_) (λK hK=>?_)
      | refine eH (i:=6) (k:=7) (by decide +kernel) cZ cZ (λK hK=>?_) (λK hK=>?_)
      | refine eH (i:=6) (k:=8) (by decide +kernel) cZ cZ (λK hK=>?_) (λK hK=>?_)
      | refine eH (i:=5) (k:=7) (by decide +kernel) cZ cZ (λK hK=>?_) (λK hK=>?_)
      | refine eH (i:=5) (k:=6) (by decide +kernel) cZ cZ (λK hK=>?_) (λK hK=>?_)
      | refine eH (i:=0) (k:=7) (by decide +kernel) cZ cZ (λK hK=>?_) (λK hK=>?_)
      | refine eH (i:=0) (k:=2) (by decide +kernel) cZ cZ (λK hK=>?_) (λK hK=>?_)
      | refine ql (i:=0) (j:=2) (k:=7) (by decide +kernel) cZ cZ cZ (λK hK=>?_) (λK hK=>?_) (λK hK=>?_)
      | refine ql (i:=5) (j:=6) (k:=7) (by decide +kernel) cZ cZ cZ (λK hK=>?_) (λK hK=>?_) (λK hK=>?_)
     all_goals try(have o0:=(aj HA.out 0).trans rfl;have o1:=(aj HA.out 1).trans rfl;have z0:=aG HA.out 0;have z1:=aG HA.out 1)
     all_goals go_simp
     all_goals first
      | (go_at_call 27;refine(two_any _).mono ?_;rintro e u ⟨vn,vl,rfl,hs,hr,hb⟩;have HS:Hid (bG aaf u):=I (up (gV (by repeat(first|with_reducible exact H0|with_reducible refine fP ?_|with_reducible refine gL ?_))) hb);have HTS:=I hs;have HTR:=I hr;obtain⟨na,nc,rfl⟩:=jF hs;obtain⟨la,lb,lo,lc,lA,lRB,lRO,lC,rfl,-⟩:=hr;clear hs hb)
      | (go_at_call 18;refine(HAN.out _ _ _ _ (by repeat(first|with_reducible exact HU|with_reducible refine fP ?_|with_reducible refine gL ?_|with_reducible refine IX HGA ?_)) (HTS.out.below (gV (by repeat(first|with_reducible exact H0|with_reducible refine fP ?_|with_reducible refine gL ?_)))) (HTR.out.below (gV (by repeat(first|with_reducible exact H0|with_reducible refine fP ?_|with_reducible refine gL ?_)))) (aU OT.out (gV (by repeat(first|with_reducible exact H0|with_reducible refine fP ?_|with_reducible refine gL ?_))))).mono ?_;rintro e u ⟨sa,sn,sc,da,dn,dc,rfl,hok,hb⟩;have HS:Hid (bG aaf u):=I (up (gV (by repeat(first|with_reducible exact H0|with_reducible refine fP ?_|with_reducible refine gL ?_))) hb);have IZ:=I hok;clear hok hb)
      | skip
     all_goals(
      try(replace HU:=I (up HU.out HS.out);(try replace OT:=I (aU OT.out HS.out));(try replace HA:=I (aU HA.out HS.out));clear HS;replace H0:Hid (bG u u):=I (bP _ _);dsimp only)
      with_reducible refine hK.out _ _ (λ_=>Rh.out _ (by repeat(first|with_reducible exact HU|with_reducible refine fP ?_|with_reducible refine gL ?_|with_reducible refine IX HGA ?_))) ?_
      clear hK K
      have HGQ:=I HU.out.size
      rename World=>aaf
      refine lU ?_
      intro u hu
      first
       | (have HS:Hid (bG aaf u):=?h1;(case h1=>(rw[hu];repeat(first|with_reducible exact H0|with_reducible refine fP ?_|with_reducible refine gL ?_)));replace HU:=I (up HU.out HS.out);(try replace OT:=I (aU OT.out HS.out));(try replace HA:=I (aU HA.out HS.out));(try replace HF:=I (aU HF.out HS.out));(try replace HTS:=I (HTS.out.below HS.out));(try replace HTR:=I (HTR.out.below HS.out));(first|(have OT:Hid (u.heap[aaf.heap.size]?=some (aW #[A x.name,Y a1 n1 c1,Y a2 n2 c2,Y a3 n3 c3] 58)):=I (by rw[hu];with_reducible(first|exact tX _ _ rfl|exact BU (tX _ _ rfl))))|(have HA:Hid (u.heap[aaf.heap.size]?=some (aW #[J,J] 61)):=I (by rw[hu];with_reducible(first|exact tX _ _ rfl|exact BU (tX _ _ rfl)));have HGA:=HGQ)|skip);clear HS)
       | (replace HU:Hid (bG W1 u):=(by rw[hu];exact(by repeat(first|with_reducible exact HU|with_reducible refine fP ?_|with_reducible refine gL ?_|with_reducible refine IX HGA ?_)));have HF:=I (Wi HA.out (Y sa sn sc) (Y da dn dc));rw[<-hu]at HF;clear HA HTS HTR OT o0 o1 z0 z1)
      clear hu
      try clear o0 o1 z0 z1
      replace H0:Hid (bG u u):=I (bP _ _)))
    all_goals(refine dB bR ?_ _;go_wp2_with fail;go_meet;exact⟨_,_,_,_,_,_,_,rfl,rfl,I ⟨HF.out,IZ.out,HU.out⟩⟩)
   case rest=>
    obtain⟨AB,sa,sn,sc,da,dn,dc,rfl,rfl,hcc⟩:=hcut;obtain⟨hF,hok,hbc⟩:=hcc.out;obtain⟨HF,IZ,Y4,Y0⟩:=lY hF hok (up HB2.out hbc) (BZ HRG2.out hbc);clear hcc hF hok hbc;obtain⟨o0,o1⟩:=iV HF.out;by_cases hd:dn=0
    ·by_cases hs:sn=0
     ·have hk:ok=false:=by rw[<-IZ.out,hs];simp
      subst hd hs hk;go_wp2_with fail;go_roundw;case rel=>exact⟨_,_,I ⟨Y0.out,λkl' h'=>Vj.out kl' (by simp only[dJ]at h';exact h'.1),Y4.out⟩⟩
      case measure=>rw[Y0.out.left_eq,KF.out];exact lX.out
     ·have hk:ok=true:=by rw[<-IZ.out,hd];simp;omega
      have hs0:(0:Int)<(sn:Int):=by omega
      have hs1:0<sn:=by omega
      subst hd hk;go_wp2_with fail;go_roundw;case rel=>exact⟨_,_,I ⟨Y0.out,λkl' h'=>Vj.out kl' (by simp only[dJ]at h';exact h'.1),Y4.out⟩⟩
      case measure=>rw[Y0.out.left_eq,KF.out];exact lX.out
    ·have hk:ok=false:=by rw[<-IZ.out];simp[hd]
     have hd0:((dn:Int)==0)=false:=by simp;omega
     have hd1:¬((dn:Int)=0):=by omega
     subst hk;go_wp2_with fail;go_roundw;case rel=>exact⟨_,_,I ⟨Y0.out,λkl' h'=>Vj.out kl' (by simp only[dJ]at h';exact h'.1),Y4.out⟩⟩
     case measure=>rw[Y0.out.left_eq,KF.out];exact lX.out
end Go.Proofs.YtbgkpehhdibaoaaGreatDoor
