/- Regions that draw their order, of which a first -/
import Derived.Test.YtfnboapebijcpaaGreatDoorMZAF
import Derived.StillTail
import Derived.Deep.RegionHeld3
set_option maxHeartbeats 16000000
set_option maxRecDepth 100000
namespace Go.Proofs.YtfnboapebijcpaaGreatDoor
open bC
open Go.Proofs.Tryz
open Go.RowKit
section
variable {P : Program} {ops : Array Oper} {md : Region.Mode} {C : World → Prop}
def zZ(P:Program)(md:Region.Mode)(ops:Array Oper)(C:World->Prop)(n:Nat)(L:Array Bool->Act->Prop):Nat->Array Bool->Act->Prop
 | 0,s,a=>L s a
 | f+1,s,a=>Region.ready md ops s≠[]/\∀i∈Region.ready md ops s,i<n/\qOp P ops C i (zZ P md ops C n L f (s.setIfInBounds i true)) a
theorem QN{n g:Nat}{L:Array Bool->Act->Prop}{Q':Exit->Act->World->Prop}(hL:∀s a w,C w->L s a->wpAny P md ops Q' g s a w)(f:Nat):∀(s:Array Bool) (a:Act) (w:World),C w->zZ P md ops C n L f s a->wpAny P md ops Q' (f+g) s a w:=by
 induction f with
 | zero=>intro s a w hw h;rw[fT];exact hL s a w hw h
 | succ f ih =>intro s a w hw h;rw[Nat.add_right_comm];exact⟨λh0=>absurd h0 h.1,λi hi=>wpOp_of_qOp hw (λa' w' hw' h'=>ih _ a' w' hw' h') (h.2 i hi).2⟩
theorem KO{n i:Nat}{oi:Oper}{v:Value}{L:Array Bool->Act->Prop}(hi:ops[i]?=some oi)(hsel:∀(j:Nat) (o:Oper) cs b,ops[j]?=some o->o.op≠.select cs b)(hs:Region.sinkB md ops n=true)(hc:Region.chainB md ops n=true)(hn:n<ops.size)(hin:i<n)(hdone:∀s a,L s a->∀j∈Region.ready md ops s,n<=j)(f:Nat):∀(s:Array Bool) (a:Act),HeadInv md ops n s->(∀j oj,ops[j]?=some oj->j≠i->s.getD j true=false->(∀e∈oj.after,Region.binds md e=true->e.on≠i)->oi.apart ops oj=true)->i∈Region.ready md ops s->YieldsIn P ops C oi v a->zZ P md ops C n L f (s.setIfInBounds i true) (a.put oi.dst v)->zZ P md ops C n L (f+1) s a:=by
 have early:∀{s:Array Bool},HeadInv md ops n s->i∈Region.ready md ops s->∀j∈Region.ready md ops s,j<n:=λ{s} inv hr j hj=>by
  rcases BR j n with h|h;·exact h
  ·exact absurd hj (tail_waits hs hc hn inv _ i rfl hin (mem_ready.1 hr).1 j h)
 induction f with
 | zero=>
  intro s a inv _ hr hy H;refine⟨List.ne_nil_of_mem hr,λj hj=>⟨early inv hr j hj,?_⟩⟩;by_cases e:j=i;·rw[e];exact hy.qOp hi H
  ·have h1:=hdone _ _ H j (ready_mono hj e);have h2:=early inv hr j hj;omega
 | succ f ih=>
  intro s a inv hfree hr hy H;refine⟨List.ne_nil_of_mem hr,λj hj=>⟨early inv hr j hj,?_⟩⟩;by_cases e:j=i;·rw[e];exact hy.qOp hi H
  ·obtain⟨hjun,oj,hoj,hall⟩:=mem_ready.1 hj;have hno:∀e∈oj.after,Region.binds md e=true->e.on≠i:=λe he hb heq=>by have h1:=hall e he hb;rw[heq,getD_both (mem_ready.1 hr).1]at h1;cases h1
   have h2:=qOp_put hoj (hfree j oj hoj e hjun hno) (λcs b=>hsel i oi cs b hi) (λcs b=>hsel j oj cs b hoj) hy (H.2 j (ready_mono hj e)).2;refine qOp_mono (λa' h3=>ih _ a' (inv.set hj (early inv hr j hj)) (λk ok hk hki hun hno'=>hfree k ok hk hki ?_ hno') (ready_mono hr (Ne.symm e)) h3.1 ?_) h2
   ·by_cases hjk:j=k;·rw[<-hjk];exact hjun
    ·rwa[getD_set_ne true hjk]at hun
   ·rw[KP _ _ e];exact h3.2
theorem Oa{n g:Nat}{Lq:Act->Prop}(hsel:Region.noSelect ops=true)(hs:Region.sinkB md ops n=true)(hc:Region.chainB md ops n=true)(hn:n<ops.size):∀(l:List Oper) (k:Nat) (s:Array Bool) (a:Act),(∀j,j<l.length->l[j]?=ops[k+j]?)->k+l.length=n->HeadInv md ops n s->Region.lexHead md ops g l.length k s=true->wpQuiet P ops C Lq l a->zZ P md ops C n (λs' a'=>Region.seqB md ops g n s'=true/\Lq a') l.length s a:=by
 intro l;induction l with
 | nil=>
  intro k s a _ hk _ hB h;obtain rfl:k=n:=by simpa using hk
  exact⟨by simpa[Region.lexHead]using hB,h⟩
 | cons o l ih=>
  intro k s a hl hk inv hB h;have h0:ops[k]?=some o:=by simpa using(hl 0 (by simp)).symm
  simp only[xJ,Region.lexHead,eB]at hB hk;obtain⟨⟨hr,hf⟩,hB'⟩:=hB;have hr':k∈Region.ready md ops s:=by simpa using hr
  have hq:qOp P ops C k (wpQuiet P ops C Lq l) a:=by unfold qOp;simp only[h0];exact h
  obtain⟨v,hy,hK⟩:=yieldsIn_of_qOp h0 hq;refine KO h0 (Region.noSelect_spec hsel) hs hc hn (by omega) (λs' a' hL=>seqB_ready hL.1) l.length s a inv (Region.free_spec h0 hf) hr' hy (ih (k+1) _ _ (λj hj=>?_) (by omega) (inv.set hr' (by omega)) hB' hK);have:=hl (j+1) (by simp;omega);simpa[Nat.add_assoc,Nat.add_comm 1 j]using this
end
theorem vL{P:Program}{C:World->Prop}{id:Nat}{Q:Exit->Act->World->Prop}{a:Act}{w:World}{l:List Oper}(n:Nat)(hm:P.follows .mixedOrders=true)(hB:Region.lexTailB .any l.toArray n=true)(hC:C { w with drawn:=w.drawn+1 })(h:wpQuiet P l.toArray C (λa'=>∀w',C w'->wpList P l.toArray Q (l.drop n) a' w') (l.take n) a):(Code.region id l.toArray true).wp P Q a w:=by
 simp only[Region.lexTailB,Bool.and_eq_true,decide_eq_true_eq]at hB;obtain⟨⟨⟨⟨hsel,hn⟩,hs⟩,hc⟩,hlex⟩:=hB;have hn':n<l.length:=by simpa using hn
 have htl:(l.take n).length=n:=by simp;omega
 have hdl:(l.drop n).length=l.toArray.size - n:=by simp
 have inv0:HeadInv .any l.toArray n (Array.replicate l.toArray.size false):=⟨by simp,λj oj _ hl=>absurd hl (by rw[getD_replicate_false];simp),λt _ ht=>getD_in (by simpa using ht) (getD_replicate_false _ _)⟩;have H:=Oa (md:=.any) (g:=l.toArray.size - n) hsel hs hc hn (l.take n) 0 _ a (λj hj=>by rw[htl]at hj;simp[hj]) (by simpa using htl) inv0 (by rw[htl];exact hlex) h;have K:=QN (Q':=Q) (g:=l.toArray.size - n) (λs a' w' hw' hL=>by have:=wpAny_of_seq (md:=.any) (Q':=Q) (l.drop n) n s a' w' (λj=>by simp[List.getElem?_drop]) (by rw[hdl];exact hL.1) (hL.2 w' hw');rwa[hdl]at this) _ _ _ _ hC H;rw[htl,show n+(l.toArray.size - n)=l.toArray.size by omega]at K;exact wp_region_any hm K
theorem eF{P:Program}{id:Nat}{Q:Exit->Act->World->Prop}{a:Act}{w:World}{l:List Oper}(n:Nat)(hm:P.follows .mixedOrders=true)(hB:Region.lexTailB .any l.toArray n=true)
  (h:wpQuiet P l.toArray (λw'=>∃p:GrownBy,w'=gn w p.n p.os) (λa'=>∀w',(∃p:GrownBy,w'=gn w p.n p.os)->wpList P l.toArray Q (l.drop n) a' w') (l.take n) a):(Code.region id l.toArray true).wp P Q a w:=
 vL (C:=λw'=>∃p:GrownBy,w'=gn w p.n p.os) n hm hB ⟨⟨w.drawn+1,#[]⟩,by simp[gn]⟩ h
namespace bC
def El(et:Ex->ByteArray)(bt:List St->ByteArray)(s:St)(acc:ByteArray):ByteArray:=
 if s.kind=1 then acc++((⟨#[40,115,101,116,32]⟩:ByteArray)++s.name++(⟨#[32]⟩:ByteArray)++et s.e++(⟨#[41]⟩:ByteArray))
 else if s.kind=4 then acc++((⟨#[40,112,114,105,110,116,32]⟩:ByteArray)++s.name++(⟨#[32]⟩:ByteArray)++et s.e++(⟨#[41]⟩:ByteArray))
 else if s.kind=3 then acc++((⟨#[40,119,104,105,108,101,32]⟩:ByteArray)++et s.e++(⟨#[32,40]⟩:ByteArray)++bt s.a++(⟨#[41,41]⟩:ByteArray))
 else if s.kind=2 then acc++((⟨#[40,105,102,32]⟩:ByteArray)++et s.e++(⟨#[32,40]⟩:ByteArray)++bt s.a++(⟨#[41,32,40]⟩:ByteArray)++bt s.b++(⟨#[41,41]⟩:ByteArray))
 else acc
def rM(et:Ex->ByteArray)(bt:List St->ByteArray)(l:List St):Nat->ByteArray
 | 0=>⟨#[]⟩
 | j+1=>match l[j]? with
  | some s=>El et bt s (if 0<j then rM et bt l j++(⟨#[32]⟩:ByteArray)else rM et bt l j)
  | none=>rM et bt l j
def uh:Nat->List St->ByteArray
 | 0,_=>⟨#[]⟩
 | m+1,l=>rM (jI m) (uh m) l l.length
end bC
theorem Cc{et:Ex->ByteArray}{bt:List St->ByteArray}{l:List St}{j:Nat}{s:St}(h:l[j]?=some s):rM et bt l (j+1)=El et bt s (if 0<j then rM et bt l j++(⟨#[32]⟩:ByteArray)else rM et bt l j):=by simp only[rM,h]
theorem XU(et:Ex->ByteArray)(bt:List St->ByteArray)(s:St)(acc:ByteArray):acc.size<=(El et bt s acc).size/\(El et bt s acc).size<=acc.size+s.name.size+(et s.e).size+(bt s.a).size+(bt s.b).size+11:=by
 have z0:(⟨#[40,115,101,116,32]⟩:ByteArray).size=5:=rfl;have z1:(⟨#[40,112,114,105,110,116,32]⟩:ByteArray).size=7:=rfl;have z2:(⟨#[40,119,104,105,108,101,32]⟩:ByteArray).size=7:=rfl;have z3:(⟨#[40,105,102,32]⟩:ByteArray).size=4:=rfl;have z4:(⟨#[32,40]⟩:ByteArray).size=2:=rfl;have z5:(⟨#[41,41]⟩:ByteArray).size=2:=rfl;have z6:(⟨#[41,32,40]⟩:ByteArray).size=3:=rfl;have z7:(⟨#[32]⟩:ByteArray).size=1:=rfl;have z8:(⟨#[41]⟩:ByteArray).size=1:=rfl;unfold El;repeat' split
 all_goals(try simp only[ko,z0,z1,z2,z3,z4,z5,z6,z7,z8])
 all_goals omega
def uj(m:Nat)(s:St):Nat:=s.name.size+3+eu m s.e+bK m s.a+bK m s.b
theorem Cg(m:Nat)(l:List St):bK (m+1) l=(l.map (uj m)).sum+1:=rfl
theorem II{f:St->Nat}{l:List St}{j:Nat}{s:St}(h:l[j]?=some s):((l.take (j+1)).map f).sum=((l.take j).map f).sum+f s:=by obtain⟨hj,rfl⟩:=dG.1 h;rw[lI hj,cZ,nT];simp
theorem Ob{f:St->Nat}(l:List St)(j:Nat):((l.take j).map f).sum<=(l.map f).sum:=by
 conv=>rhs;rw[<-kW j l]
 rw[cZ,nT];omega
theorem Ci{m:Nat}{l:List St}(h:∀(i:Nat) (s:St),l[i]?=some s->(jI m s.e).size+1<=6*eu m s.e/\(uh m s.a).size+1<=6*bK m s.a/\(uh m s.b).size+1<=6*bK m s.b):
 ∀j,j<=l.length->(rM (jI m) (uh m) l j).size<=6*((l.take j).map (uj m)).sum
 | 0,_=>bJ _
 | j+1,hj=>by
  have ih:=Ci h j (by omega);obtain⟨s,hs⟩:∃s,l[j]?=some s:=⟨_,aU (by omega)⟩;rw[Cc hs,II hs];have h1:=(XU (jI m) (uh m) s (if 0<j then rM (jI m) (uh m) l j++(⟨#[32]⟩:ByteArray)else rM (jI m) (uh m) l j)).2;have h2:(if 0<j then rM (jI m) (uh m) l j++(⟨#[32]⟩:ByteArray)else rM (jI m) (uh m) l j).size<=(rM (jI m) (uh m) l j).size+1:=by
   split;·rw[ko];exact bM _
   ·omega
  obtain⟨g1,g2,g3⟩:=h j s hs;have hst:uj m s=s.name.size+3+eu m s.e+bK m s.a+bK m s.b:=rfl;omega
theorem mY{w:World}:∀{m:Nat} {v:Value} {l:List St},dW w m v l->(uh m l).size+1<=6*bK m l
 | 0,_,_,h=>False.elim h
 | m+1,v,l,h=>by obtain⟨a,b,off,cap,_,_,_,h9⟩:=h;have:=Ci (m:=m) (l:=l) (λi s hs=>by obtain⟨_,_,e0,e1,e2,e3,va,vb,_,_,_,_,_,_,_,_,hx,ha,hb⟩:=h9 i s hs;exact⟨mX hx,mY ha,mY hb⟩) l.length (bM _);rw[gG]at this;rw[Cg];simp only[uh];omega
theorem KR(m:Nat):∀(w:World) (v:Value) (l:List St),dW w m v l->bK m l<=1048576->Tab w->Calls prog 222 #[v] w λe w'=>e=.returned (.string (uh m l))/\Below w.heap.size w w':=by
 induction m with
 | zero=>intro w v l h;exact False.elim h
 | succ m ih=>
  intro w v l h hw ht;have HI:=hide ih;clear ih;obtain⟨a,b,off,cap,rfl,ha,hl,hel⟩:=h;have gF:=hide hel;have HA:=hide ha;have HT:=hide ht;have HW:Hid (∀(i:Nat) (s:St),l[i]?=some s->uj m s<=1048576):=hide (λi y hy=>by have:uj m y<=(l.map (uj m)).sum:=jd (gD hy);rw[Cg]at hw;omega);have F7:Hid (∀j,j<=l.length->(rM (jI m) (uh m) l j).size<=6291456):=hide (λj hj=>by have h1:=Ci (m:=m) (l:=l) (λi s hs=>by obtain⟨_,_,e0,e1,e2,e3,va,vb,_,_,_,_,_,_,_,_,hx,ha,hb⟩:=hel i s hs;exact⟨mX hx,mY ha,mY hb⟩) j hj;have h2:=Ob (f:=uj m) l j;rw[Cg]at hw;omega);have HE:Hid (uh (m+1) l=rM (jI m) (uh m) l l.length):=rfl;clear hel ha ht hw;obtain⟨len,hlen⟩:=aG l.length;have HL:=hide hlen;rw[<-hlen]at hl HA HE F7 ⊢;clear hlen;go_enter func222,ntmps222;go_wp2_with fail;go_loopw[3,4] (λo i wr=>∃j:Nat,j<=len/\i=.int .i64 j/\o=.string (rM (jI m) (uh m) l j)/\Below w.heap.size w wr) (λ_ i _=>len - (intOf i).toNat);case atStart=>exact⟨0,bJ _,rfl,rfl,aX _ _⟩
  case round=>
   obtain⟨j,hj,rfl,rfl,hnx⟩:=hrel;by_cases hjl:j<len
   ·obtain⟨y,hy⟩:∃y,l[j]?=some y:=⟨_,aU (by rw[<-HL];exact hjl)⟩;obtain⟨hsk,hsn,e0,e1,e2,e3,va,vb,g0,g1,g2,g3,g4,g5,g6,g7,hxe,hsa,hsb⟩:=gF j y hy;obtain rfl:=HA (by omega);have M7:=HW j y hy;have hacc:=F7 j (by omega);have HST:=hide (Cc (et:=jI m) (bt:=uh m) hy);have s1:=mX hxe;have s2:=mY hsa;have s3:=mY hsb;obtain⟨k,sn,se,sa,sb⟩:=y;simp only at hsk hsn g0 g1 hxe hsa hsb s1 s2 s3 HST;have hye:eu m se<=1048576:=by unfold uj at M7;simp only at M7;omega
    have hya:bK m sa<=1048576:=by unfold uj at M7;simp only at M7;omega
    have hyb:bK m sb<=1048576:=by unfold uj at M7;simp only at M7;omega
    have hyn:sn.size<=1048576:=by unfold uj at M7;simp only at M7;omega
    have s1':(jI m se).size<=6291456:=by omega
    have s2':(uh m sa).size<=6291456:=by omega
    have s3':(uh m sb).size<=6291456:=by omega
    have HX:=hide hxe;have UU:=hide hsa;have vC:=hide hsb;clear hxe hsa hsb hy s1 s2 s3 M7;have u0:=aA g0 hnx;have u1:=aA g1 hnx;have Qt:=aA g2 hnx;have Ed:wr.cell? ⟨b,off+j*8+2+1,none⟩=some e1:=aA g3 hnx;have UW:wr.cell? ⟨b,off+j*8+2+2,none⟩=some e2:=aA g4 hnx;have u5':wr.cell? ⟨b,off+j*8+2+3,none⟩=some e3:=aA g5 hnx;have u6':=aA g6 hnx;have u7':=aA g7 hnx;have bR:=hide hnx;clear g0 g1 g2 g3 g4 g5 g6 g7 hnx;generalize hac:rM (jI m) (uh m) l j=acc at *;have HAC:=hide hac;clear hac;by_cases hj0:0<j
    ·rw[if_pos hj0]at HST;go_wp2_with fail;refine(oq m _ e0 e1 e2 e3 se (HX.below bR) hye (HT.below bR)).mono ?_;rintro e w5 ⟨rfl,hb5⟩;replace u0:=aA u0 hb5;replace u1:=aA u1 hb5;replace u6':=aA u6' hb5;replace u7':=aA u7' hb5;have HN:=hide (up bR hb5);clear hb5 bR Qt Ed UW u5';generalize hac2:acc++(⟨#[32]⟩:ByteArray)=acc2 at *;have Aa:acc2.size<=6291457:=by rw[<-hac2,ko];show acc.size+1<=_;omega
     clear hac2;generalize hte:jI m se=te at *;have M8:=hide hte;clear hte;by_cases k1:k=1
     ·subst k1;go_wp2_with fail;go_roundw;case rel=>exact⟨j+1,by omega,by go_num,iE (by rw[HST];simp[El,M8.out]),HN⟩
      case measure=>simp[intOf];omega
     by_cases k4:k=4
     ·subst k4;go_wp2_with fail;go_roundw;case rel=>exact⟨j+1,by omega,by go_num,iE (by rw[HST];simp[El,M8.out]),HN⟩
      case measure=>simp[intOf];omega
     by_cases k3:k=3
     ·subst k3;go_wp2_with fail;refine(HI _ va sa (UU.below HN) hya (HT.below HN)).mono ?_;rintro e w6 ⟨rfl,hb6⟩;have iM:=hide (up HN hb6);clear hb6 HN;generalize XW:uh m sa=ta at *;have Oc:=hide XW;clear XW;go_wp2_with fail;go_roundw;case rel=>exact⟨j+1,by omega,by go_num,iE (by rw[HST];simp[El,M8.out,Oc.out]),iM⟩
      case measure=>simp[intOf];omega
     by_cases k2:k=2
     ·subst k2
      have HF:Hid (∀wx,Hid (Below w5.heap.size w5 wx)->Hid (Below w5.heap.size w5 wx)/\wx.cell? ⟨b,off+j*8+6,none⟩=some va/\wx.cell? ⟨b,off+j*8+7,none⟩=some vb):=
       λwx h=>⟨h,aA u6' h,aA u7' h⟩
      have xP:Hid (Below w5.heap.size w5 w5):=hide (aX _ _);have b1:(0:Int)<=(j:Int):=by omega
      have b2:(j:Int)<(len:Int):=by omega
      generalize XW:uh m sa=ta at *;have Oc:=hide XW;clear XW;generalize htb:uh m sb=tb at *;have U7:=hide htb;clear htb u6' u7';have q1:¬(9223372036854775807<4+te.size):=by omega
      have q2:¬(9223372036854775807<4+te.size+2):=by omega
      have q3:¬(9223372036854775807<4+te.size+2+ta.size):=by omega
      have q4:¬(9223372036854775807<4+te.size+2+ta.size+3):=by omega
      have q5:¬(9223372036854775807<4+te.size+2+ta.size+3+tb.size):=by omega
      have q6:¬(9223372036854775807<4+te.size+2+ta.size+3+tb.size+2):=by omega
      have q7:¬(9223372036854775807<acc2.size+(4+te.size+2+ta.size+3+tb.size+2)):=by omega
      go_wp2_with fail
      go_region_held3 (λwx=>Hid (Below w5.heap.size w5 wx)/\wx.cell? ⟨b,off+j*8+6,none⟩=some va/\wx.cell? ⟨b,off+j*8+7,none⟩=some vb)
       (first|exact HF _ Ab|exact HF _ qP|exact HF _ (hide xP.drew))
       (first
        | (go_at_call_of 222 (va);refine(HI _ va sa ?_ hya ?_).mono ?_;(exact UU.below (up HN xP.drew));(exact HT.below (up HN xP.drew));rintro e w30 ⟨rfl,Ac⟩;have qP:=hide (up xP.drew Ac);clear Ac;rw[Oc])
        | (go_at_call_of 222 (vb);refine(HI _ vb sb ?_ hyb ?_).mono ?_;(exact vC.below (up HN qP));(exact HT.below (up HN qP));rintro e w31 ⟨rfl,Ad⟩;have Ab:=hide (up qP Ad);clear Ad;rw[U7]))
      all_goals
       go_wp2_with fail;go_roundw;case rel=>exact⟨j+1,by omega,by go_num,iE (by rw[HST];simp[El,M8.out,Oc.out,U7.out]),up HN Ab⟩
       case measure=>simp[intOf];omega
     have k1':(k==1)=false:=by simp[k1]
     have k2':(k==2)=false:=by simp[k2]
     have k3':(k==3)=false:=by simp[k3]
     have k4':(k==4)=false:=by simp[k4]
     have HO:=hide (show El (jI m) (uh m) ⟨k,sn,se,sa,sb⟩ acc2=acc2 by simp[El,k1,k2,k3,k4]);clear k1 k2 k3 k4;go_wp2_with fail;go_roundw;case rel=>exact⟨j+1,by omega,by go_num,iE (by rw[HST,HO]),HN⟩
     case measure=>simp[intOf];omega
    ·rw[if_neg hj0]at HST;go_wp2_with fail;refine(oq m _ e0 e1 e2 e3 se (HX.below bR) hye (HT.below bR)).mono ?_;rintro e w5 ⟨rfl,hb5⟩;replace u0:=aA u0 hb5;replace u1:=aA u1 hb5;replace u6':=aA u6' hb5;replace u7':=aA u7' hb5;have HN:=hide (up bR hb5);clear hb5 bR Qt Ed UW u5';generalize hte:jI m se=te at *;have M8:=hide hte;clear hte;by_cases k1:k=1
     ·subst k1;go_wp2_with fail;go_roundw;case rel=>exact⟨j+1,by omega,by go_num,iE (by rw[HST];simp[El,M8.out]),HN⟩
      case measure=>simp[intOf];omega
     by_cases k4:k=4
     ·subst k4;go_wp2_with fail;go_roundw;case rel=>exact⟨j+1,by omega,by go_num,iE (by rw[HST];simp[El,M8.out]),HN⟩
      case measure=>simp[intOf];omega
     by_cases k3:k=3
     ·subst k3;go_wp2_with fail;refine(HI _ va sa (UU.below HN) hya (HT.below HN)).mono ?_;rintro e w6 ⟨rfl,hb6⟩;have iM:=hide (up HN hb6);clear hb6 HN;generalize XW:uh m sa=ta at *;have Oc:=hide XW;clear XW;go_wp2_with fail;go_roundw;case rel=>exact⟨j+1,by omega,by go_num,iE (by rw[HST];simp[El,M8.out,Oc.out]),iM⟩
      case measure=>simp[intOf];omega
     by_cases k2:k=2
     ·subst k2
      have HF:Hid (∀wx,Hid (Below w5.heap.size w5 wx)->Hid (Below w5.heap.size w5 wx)/\wx.cell? ⟨b,off+j*8+6,none⟩=some va/\wx.cell? ⟨b,off+j*8+7,none⟩=some vb):=
       λwx h=>⟨h,aA u6' h,aA u7' h⟩
      have xP:Hid (Below w5.heap.size w5 w5):=hide (aX _ _);have b1:(0:Int)<=(j:Int):=by omega
      have b2:(j:Int)<(len:Int):=by omega
      generalize XW:uh m sa=ta at *;have Oc:=hide XW;clear XW;generalize htb:uh m sb=tb at *;have U7:=hide htb;clear htb u6' u7';have q1:¬(9223372036854775807<4+te.size):=by omega
      have q2:¬(9223372036854775807<4+te.size+2):=by omega
      have q3:¬(9223372036854775807<4+te.size+2+ta.size):=by omega
      have q4:¬(9223372036854775807<4+te.size+2+ta.size+3):=by omega
      have q5:¬(9223372036854775807<4+te.size+2+ta.size+3+tb.size):=by omega
      have q6:¬(9223372036854775807<4+te.size+2+ta.size+3+tb.size+2):=by omega
      have q7:¬(9223372036854775807<acc.size+(4+te.size+2+ta.size+3+tb.size+2)):=by omega
      go_wp2_with fail
      go_region_held3 (λwx=>Hid (Below w5.heap.size w5 wx)/\wx.cell? ⟨b,off+j*8+6,none⟩=some va/\wx.cell? ⟨b,off+j*8+7,none⟩=some vb)
       (first|exact HF _ Ab|exact HF _ qP|exact HF _ (hide xP.drew))
       (first
        | (go_at_call_of 222 (va);refine(HI _ va sa ?_ hya ?_).mono ?_;(exact UU.below (up HN xP.drew));(exact HT.below (up HN xP.drew));rintro e w30 ⟨rfl,Ac⟩;have qP:=hide (up xP.drew Ac);clear Ac;rw[Oc])
        | (go_at_call_of 222 (vb);refine(HI _ vb sb ?_ hyb ?_).mono ?_;(exact vC.below (up HN qP));(exact HT.below (up HN qP));rintro e w31 ⟨rfl,Ad⟩;have Ab:=hide (up qP Ad);clear Ad;rw[U7]))
      all_goals
       go_wp2_with fail;go_roundw;case rel=>exact⟨j+1,by omega,by go_num,iE (by rw[HST];simp[El,M8.out,Oc.out,U7.out]),up HN Ab⟩
       case measure=>simp[intOf];omega
     have k1':(k==1)=false:=by simp[k1]
     have k2':(k==2)=false:=by simp[k2]
     have k3':(k==3)=false:=by simp[k3]
     have k4':(k==4)=false:=by simp[k4]
     have HO:=hide (show El (jI m) (uh m) ⟨k,sn,se,sa,sb⟩ acc=acc by simp[El,k1,k2,k3,k4]);clear k1 k2 k3 k4;go_wp2_with fail;go_roundw;case rel=>exact⟨j+1,by omega,by go_num,iE (by rw[HST,HO]),HN⟩
     case measure=>simp[intOf];omega
   ·go_wp2_with fail;go_ret;have e:j=len:=by omega
    exact⟨zU (by rw[HE,e]),hnx⟩
namespace bC
def Ae(acc s:ByteArray):ByteArray:=acc++((⟨#[32,40,105,109,112,111,114,116,32]⟩:ByteArray)++s++(⟨#[41]⟩:ByteArray))
def QO(acc:ByteArray)(v:Va):ByteArray:=acc++((⟨#[32,40,118,97,114,32]⟩:ByteArray)++v.name++(⟨#[32]⟩:ByteArray)++v.level++(⟨#[41]⟩:ByteArray))
def nV(l:List ByteArray)(acc:ByteArray):Nat->ByteArray
 | 0=>acc
 | j+1=>(if 0<j then nV l acc j++(⟨#[32]⟩:ByteArray)else nV l acc j)++l.getD j ByteArray.empty
def fuH(acc:ByteArray)(f:Fu):ByteArray:=acc++((⟨#[32,40,102,117,110,32]⟩:ByteArray)++f.name++(⟨#[32,40]⟩:ByteArray))
def fuP(acc:ByteArray)(f:Fu):ByteArray:=nV f.params (fuH acc f) f.params.length++(⟨#[41]⟩:ByteArray)
def fuB(m:Nat)(acc:ByteArray)(f:Fu):ByteArray:=if 0<f.body.length then fuP acc f++((⟨#[32]⟩:ByteArray)++uh m f.body)else fuP acc f
def M9(m:Nat)(acc:ByteArray)(f:Fu):ByteArray:=fuB m acc f++((⟨#[32]⟩:ByteArray)++jI m f.result++(⟨#[41]⟩:ByteArray))
def WC(x:Mo):ByteArray:=(⟨#[40,109,111,100,117,108,101,32]⟩:ByteArray)++x.name
def TK(x:Mo):ByteArray:=x.imports.foldl Ae (WC x)
def WE(x:Mo):ByteArray:=x.vars.foldl QO (TK x)
def moF(m:Nat)(x:Mo):ByteArray:=x.aR.foldl (M9 m) (WE x)
def TL(m:Nat)(x:Mo):ByteArray:=moF m x++(⟨#[41]⟩:ByteArray)
end bC
section
variable {α : Type} {f : ByteArray → α → ByteArray} {wt : α → Nat}
theorem tJ{l:List α}{j:Nat}{y:α}(h:l[j]?=some y)(acc:ByteArray):(l.take (j+1)).foldl f acc=f ((l.take j).foldl f acc) y:=by obtain⟨hj,rfl⟩:=dG.1 h;rw[lI hj,KG];rfl
theorem Jw(l:List α)(j:Nat):((l.take j).map wt).sum<=(l.map wt).sum:=by
 conv=>rhs;rw[<-kW j l]
 rw[cZ,nT];omega
theorem F8{l:List α}(h:∀(i:Nat) (y:α),l[i]?=some y->∀acc,(f acc y).size<=acc.size+12*wt y)(acc:ByteArray):
 ∀j,j<=l.length->((l.take j).foldl f acc).size<=acc.size+12*((l.take j).map wt).sum
 | 0,_=>by simp
 | j+1,hj=>by
  have ih:=F8 h acc j (by omega);obtain⟨y,hy⟩:∃y,l[j]?=some y:=⟨_,aU (by omega)⟩;rw[tJ hy];have h1:=h j y hy ((l.take j).foldl f acc);have h2:((l.take (j+1)).map wt).sum=((l.take j).map wt).sum+wt y:=by obtain⟨hj',rfl⟩:=dG.1 hy;rw[lI hj',cZ,nT];simp
  omega
theorem kY{l:List α}(h:∀(i:Nat) (y:α),l[i]?=some y->∀acc,(f acc y).size<=acc.size+12*wt y)(acc:ByteArray)(j:Nat)(hj:j<=l.length):((l.take j).foldl f acc).size<=acc.size+12*(l.map wt).sum:=by have h1:=F8 h acc j hj;have h2:=Jw (wt:=wt) l j;omega
end
theorem Cj(acc s:ByteArray):(Ae acc s).size<=acc.size+12*(s.size+1):=by unfold Ae;simp only[ko];show acc.size+(9+s.size+1)<=_;omega
theorem F9(acc:ByteArray)(s:Va):(QO acc s).size<=acc.size+12*(s.name.size+s.level.size+3):=by unfold QO;simp only[ko];show acc.size+(6+s.name.size+1+s.level.size+1)<=_;omega
theorem Jy(l:List ByteArray)(j:Nat):(l.getD j ByteArray.empty).size<=(l.map λs=>s.size+1).sum:=by
 by_cases h:j<l.length
 ·have e:l.getD j ByteArray.empty=l[j]:=by simp[h]
  rw[e];have:=jd (f:=λs:ByteArray=>s.size+1) (fI h);omega
 ·have e:l.getD j ByteArray.empty=ByteArray.empty:=by simp[List.getD,List.getElem?_eq_none (Nat.le_of_not_lt h)]
  rw[e];exact bJ _
theorem Ga(l:List ByteArray)(acc:ByteArray):∀j,j<=l.length->(nV l acc j).size<=acc.size+((l.take j).map λs=>s.size+1).sum
 | 0,_=>by simp[nV]
 | j+1,hj=>by
  have ih:=Ga l acc j (by omega);have h2:((l.take (j+1)).map λs=>s.size+1).sum=((l.take j).map λs=>s.size+1).sum+((l.getD j ByteArray.empty).size+1):=by rw[lI (by omega),cZ,nT];simp[show j<l.length by omega]
  have e1:(⟨#[32]⟩:ByteArray).size=1:=rfl;simp only[nV];split<;>simp only[ko,e1]<;>omega
theorem Jz(l:List ByteArray)(acc:ByteArray)(j:Nat)(hj:j<=l.length):(nV l acc j).size<=acc.size+(l.map λs=>s.size+1).sum:=by have h1:=Ga l acc j hj;have h2:=Jw (wt:=λs:ByteArray=>s.size+1) l j;omega
def fuW(m:Nat)(s:Fu):Nat:=s.name.size+2+gY s.params+bK m s.body+eu m s.result
theorem KS(m:Nat)(l:List Fu):p8 m l=(l.map (fuW m)).sum+1:=rfl
theorem Od(acc:ByteArray)(f:Fu):(fuH acc f).size=acc.size+(f.name.size+8):=by unfold fuH;simp only[ko];show acc.size+(6+f.name.size+2)=_;omega
theorem XY(acc:ByteArray)(f:Fu):(fuP acc f).size<=acc.size+(f.name.size+8+gY f.params):=by unfold fuP;have h:=Jz f.params (fuH acc f) f.params.length (bM _);rw[Od]at h;rw[ko];show _+1<=_;unfold gY;omega
theorem Oe{w:World}{m:Nat}{f:Fu}{vb e0 e1 e2 e3:Value}(hb:dW w m vb f.body)(hx:gq w m e0 e1 e2 e3 f.result)(acc:ByteArray):(M9 m acc f).size<=acc.size+12*fuW m f:=by have h1:=XY acc f;have h2:=mY hb;have h3:=mX hx;have e1:(⟨#[32]⟩:ByteArray).size=1:=rfl;have e2:(⟨#[41]⟩:ByteArray).size=1:=rfl;unfold M9 fuB fuW;split<;>simp only[ko,e1,e2]<;>omega
theorem Gb(x:Mo):(WC x).size=8+x.name.size:=by unfold WC;rw[ko];rfl
theorem boxM0(w:World)(c0 c1 c2 c3:Value)(t:TypeId):(w.alloc (.cells #[c0,c1,c2,c3] t)).cell? ⟨w.heap.size,0,none⟩=some c0:=by simp[go_sem]
theorem XZ(w:World)(c0 c1 c2 c3:Value)(t:TypeId):(w.alloc (.cells #[c0,c1,c2,c3] t)).cell? ⟨w.heap.size,1,none⟩=some c1:=by simp[go_sem]
theorem X0(w:World)(c0 c1 c2 c3:Value)(t:TypeId):(w.alloc (.cells #[c0,c1,c2,c3] t)).cell? ⟨w.heap.size,2,none⟩=some c2:=by simp[go_sem]
theorem X3(w:World)(c0 c1 c2 c3:Value)(t:TypeId):(w.alloc (.cells #[c0,c1,c2,c3] t)).cell? ⟨w.heap.size,3,none⟩=some c3:=by simp[go_sem]
end Go.Proofs.YtfnboapebijcpaaGreatDoor
