/- Regions that draw their order and only read: all -/
import Derived.Test.YtfnboapebijcpaaGreatDoorMZAE
import Derived.Test.YtfnboapebijcpaaGreatDoorMZAF
import Derived.Laws.StructEq
set_option maxHeartbeats 16000000
set_option maxRecDepth 100000
namespace Go.Proofs.YtfnboapebijcpaaGreatDoor
open bC aI
open Go.Proofs.Tryz
open Go.RowKit
theorem TF:∀(x y:List UInt8),Op.bytesLess x y=decide (x<y)
 | [],[]=>by simp[Op.bytesLess]
 | _::_,[]=>by simp[Op.bytesLess]
 | [],_::_=>by simp[Op.bytesLess]
 | a::x,b::y=>by rw[Op.bytesLess,TF x y];simp only[List.cons_lt_cons_iff];by_cases h1:a<b<;>by_cases h2:a=b<;>by_cases h3:x<y<;>simp[h1,h2,h3]
theorem Ca(x:List UInt8):Op.bytesLess x x=false:=by rw[TF];simp[List.lt_irrefl]
theorem NW{x y z:List UInt8}(h1:Op.bytesLess x y=true)(h2:Op.bytesLess y z=true):Op.bytesLess x z=true:=by rw[TF]at *;simp only[decide_eq_true_eq]at *;exact List.lt_trans h1 h2
theorem XL{x y:List UInt8}(h1:Op.bytesLess x y=false)(h2:Op.bytesLess y x=false):x=y:=by rw[TF]at *;simp only[decide_eq_false_iff_not]at *;exact List.le_antisymm (List.not_lt.1 h2) (List.not_lt.1 h1)
theorem toList_inj{x y:ByteArray}(h:x.toList=y.toList):x=y:=by rw[Lib.toList_data,Lib.toList_data]at h;cases x;cases y;simp only at h;congr 1;exact Array.toList_inj.1 h
namespace aI
theorem tF(a b:Dg):dV a b=true↔Op.bytesLess a.fn.toList b.fn.toList=true\/(a.fn=b.fn/\(a.code<b.code\/(a.code=b.code/\Op.bytesLess a.name.toList b.name.toList=true))):=by
 unfold dV;by_cases h1:a.fn=b.fn
 ·rw[h1,Ca];rw[if_neg (by simp)];by_cases h2:a.code=b.code;·rw[if_neg (by simp[h2])];simp[h2]
  ·rw[if_pos (by simp[h2])];simp[h2]
 ·have h1':¬a.fn.toList=b.fn.toList:=λh=>h1 (toList_inj h);rw[if_pos (by simpa using h1')];simp[h1]
theorem tH(a:Dg):dV a a=false:=by
 cases h:dV a a with
 | false=>rfl
 | true =>rw[tF,Ca,Ca]at h;simp at h
theorem oC{a b c:Dg}(h1:dV a b=true)(h2:dV b c=true):dV a c=true:=by
 rw[tF]at *;rcases h1 with h1|⟨e1,h1⟩
 ·rcases h2 with h2|⟨e2,h2⟩;·exact Or.inl (NW h1 h2)
  ·rw[<-e2];exact Or.inl h1
 ·rcases h2 with h2|⟨e2,h2⟩;·rw[e1];exact Or.inl h2
  ·refine Or.inr ⟨e1.trans e2,?_⟩;rcases h1 with h1|⟨f1,h1⟩
   ·rcases h2 with h2|⟨f2,h2⟩;·exact Or.inl (by omega)
    ·exact Or.inl (by omega)
   ·rcases h2 with h2|⟨f2,h2⟩;·exact Or.inl (by omega)
    ·exact Or.inr ⟨by omega,NW h1 h2⟩
theorem yu{a b:Dg}(h1:dV a b=false)(h2:dV b a=false):a=b:=by
 have n1:¬dV a b=true:=by rw[h1];simp
 have n2:¬dV b a=true:=by rw[h2];simp
 rw[tF]at n1 n2;have e1:a.fn.toList=b.fn.toList:=XL (Bool.eq_false_iff.2 λh=>n1 (Or.inl h)) (Bool.eq_false_iff.2 λh=>n2 (Or.inl h));have e1':=toList_inj e1;have e2:a.code=b.code:=by have a1:¬a.code<b.code:=λh=>n1 (Or.inr ⟨e1',Or.inl h⟩);have a2:¬b.code<a.code:=λh=>n2 (Or.inr ⟨e1'.symm,Or.inl h⟩);omega
 have e3:a.name.toList=b.name.toList:=XL (Bool.eq_false_iff.2 λh=>n1 (Or.inr ⟨e1',Or.inr ⟨e2,h⟩⟩)) (Bool.eq_false_iff.2 λh=>n2 (Or.inr ⟨e1'.symm,Or.inr ⟨e2.symm,h⟩⟩));have e3':=toList_inj e3;cases a;cases b;simp_all
theorem rH{a b:Dg}:mV a b=true↔a=b:=by
 unfold mV;simp only[eB,beq_iff_eq];constructor;·rintro⟨⟨h1,h2⟩,h3⟩;have h2':=toList_inj h2;have h3':=toList_inj h3;cases a;cases b;simp_all
 ·rintro rfl;simp
def Asc(l:List Dg):Prop:=l.Pairwise λa b=>dV a b=true
theorem TG{l:List Dg}{d x:Dg}:x∈ins l d↔x∈l\/x=d:=by
 induction l with
 | nil=>simp[ins]
 | cons y r ih=>
  unfold ins;split;·simp only[eY,ih,or_assoc]
  ·split
   ·rename_i h;rw[rH]at h;subst h;simp only[eY];constructor;·exact λh=>Or.inl h
    ·rintro(h|h);·exact h
     ·exact Or.inl h
   ·simp only[eY];constructor
    ·rintro(h|h|h);·exact Or.inr h
     ·exact Or.inl (Or.inl h)
     ·exact Or.inl (Or.inr h)
    ·rintro((h|h)|h);·exact Or.inr (Or.inl h)
     ·exact Or.inr (Or.inr h)
     ·exact Or.inl h
theorem asc_ins{l:List Dg}{d:Dg}(h:Asc l):Asc (ins l d):=by
 induction l with
 | nil=>simp[ins,Asc]
 | cons y r ih=>
  have h0:(∀z∈r,dV y z=true)/\Asc r:=xO.1 h;unfold ins;split
  ·rename_i hy;refine xO.2 ⟨λz hz=>?_,ih h0.2⟩;rcases TG.1 hz with hz|rfl;·exact h0.1 z hz
   ·exact hy
  ·rename_i hy;split;·exact h
   ·rename_i hs;have hdy:dV d y=true:=by
     cases hc:dV d y with
     | true=>rfl
     | false=>exact absurd (rH.2 (yu (by simpa using hy) hc)) hs
    refine xO.2 ⟨λz hz=>?_,h⟩;rcases eY.1 hz with rfl|hz;·exact hdy
    ·exact oC hdy (h0.1 z hz)
theorem Js{l acc:List Dg}(h:Asc acc):Asc (l.foldl ins acc)/\∀x,x∈l.foldl ins acc↔x∈acc\/x∈l:=by
 induction l generalizing acc with
 | nil=>exact⟨h,λx=>by simp⟩
 | cons y r ih =>obtain⟨h1,h2⟩:=ih (asc_ins (d:=y) h);refine⟨h1,λx=>?_⟩;rw[pG,h2 x,TG,eY,or_assoc]
theorem FZ(l:List Dg):Asc (once l):=(Js (l:=l) (acc:=[]) List.Pairwise.nil).1
theorem zV(l:List Dg)(x:Dg):x∈once l↔x∈l:=by rw[once,(Js (l:=l) (acc:=[]) List.Pairwise.nil).2 x];simp
theorem yw:∀{l1 l2:List Dg},Asc l1->Asc l2->(∀x,x∈l1↔x∈l2)->l1=l2
 | [],[],_,_,_=>rfl
 | [],y::_,_,_,h=>absurd ((h y).2 (by simp)) (by simp)
 | x::_,[],_,_,h=>absurd ((h x).1 (by simp)) (by simp)
 | x::r,y::s,h1,h2,h=>by
  have a1:(∀z∈r,dV x z=true)/\Asc r:=xO.1 h1;have a2:(∀z∈s,dV y z=true)/\Asc s:=xO.1 h2;have irr:∀{a b:Dg},dV a b=true->dV b a=true->False:=λ{a b} p q=>by have:=tH a;rw[oC p q]at this;cases this
  have hxy:x=y:=by
   rcases eY.1 ((h x).1 (by simp))with e|hx;·exact e
   ·rcases eY.1 ((h y).2 (by simp))with e|hy;·exact e.symm
    ·exact(irr (a1.1 y hy) (a2.1 x hx)).elim
  subst hxy;congr 1;refine yw a1.2 a2.2 λz=>?_;constructor
  ·intro hz;rcases eY.1 ((h z).1 (NY _ hz))with e|hz';·subst e;have:=tH z;rw[a1.1 z hz]at this;cases this
   ·exact hz'
  ·intro hz;rcases eY.1 ((h z).2 (NY _ hz))with e|hz';·subst e;have:=tH z;rw[a2.1 z hz]at this;cases this
   ·exact hz'
end aI
theorem KH(x y:Dg)(w:World):(Op.equalIn 10000 43 (.agg #[.int .i64 x.code,.string x.fn,.string x.name]) (.agg #[.int .i64 y.code,.string y.fn,.string y.name])).run prog w=.ok (mV x y) w:=by
 have u3:=underlying3;have a3:=Tryz.isAgg3;have z3:=Tryz.sizeOf3;have u9:=underlying9;have a9:=Tryz.isAgg9;have z9:=Tryz.sizeOf9;have hS:prog.underlying 43=some (.struct (prog.fieldsOf 43)):=by kernel_rfl
 have hp:prog.stoodInHeld 43=false:=by kernel_rfl
 rw[show(10000:Nat)=9999+1 from rfl,run_equalIn_agg w 9999 43 _ _ hS hp];simp only[Program.fieldsOf,underlying43];go_simp;unfold mV;cases h1:(x.code==y.code)<;>cases h2:(x.fn.toList==y.fn.toList)<;>cases h3:(x.name.toList==y.name.toList)<;>simp_all
theorem F3(op:BinOp)(a b:Operand)(x y:Dg)(w:World):(eqGuard op 43 a b (.agg #[.int .i64 x.code,.string x.fn,.string x.name]) (.agg #[.int .i64 y.code,.string y.fn,.string y.name])).run prog w=.ok () w:=
 run_eqGuard_agg w op _ a b _ _ (by kernel_rfl)
theorem kN{w w1:World}{n:Nat}(h:Below w.heap.size w w1):Below w.heap.size w (w1.drewN n):=⟨h.os,h.tape,h.output,h.size,h.block⟩
theorem XM(w:World)(v:Value)(l:List Dg)(h:xL w v l)(hl:l.length<=16777216):Calls prog 71 #[v] w λe w'=>∃u,e=.returned u/\bI lY w' w.heap.size 43 3 u (aI.once l)/\Below w.heap.size w w':=by
 obtain⟨a,b,off,cap,rfl,ha,hl',hel⟩:=h;have gF:=hide hel;have HA:=hide ha;obtain⟨len,hlen⟩:∃len,len=l.length:=⟨_,rfl⟩;have HL:=hide hlen;rw[<-hlen]at hl hl' HA ⊢;obtain⟨R,hR⟩:∃R,R=aI.once l:=⟨_,rfl⟩;have HR:=hide hR;rw[<-hR];clear hel ha hlen hl' hR;go_enter func71,ntmps71;go_wp2_with fail;go_loopw[3,4] (λv i wr=>∃j:Nat,j<=len/\i=.int .i64 j/\bI lY wr w.heap.size 43 3 v (aI.once (l.take j))/\Below w.heap.size w wr) (λ_ i _=>len - (intOf i).toNat);case atStart=>exact⟨0,Nat.zero_le _,rfl,bI.nil _ _ _ _,Below.refl _ _⟩
 case round=>
  obtain⟨j,hj,rfl,hown,hnx⟩:=hrel;have bR:=hide hnx;by_cases hjl:j<len
  ·obtain⟨d,hd⟩:∃d,l[j]?=some d:=⟨_,List.getElem?_eq_getElem (by rw[<-HL.out];exact hjl)⟩;have HST:=hide (fold_succ hd);have hol:(aI.once (l.take j)).length<=16777215:=by have h1:=NJ (l.take j);rw[List.length_take]at h1;omega
   obtain⟨g0,g1,g2⟩:=gF.out j d hd;obtain rfl:=HA.out (by omega);have HC:=hide (And.intro (aA g0 hnx) (And.intro (aA g1 hnx) (aA g2 hnx)));clear g0 g1 g2 hd hnx;generalize aI.once (l.take j)=out at *;have HOW:=hide hown;have hsh:=hown.form;obtain⟨ao,co,rfl⟩:=hsh;obtain⟨ol,hol'⟩:∃n,n=out.length:=⟨_,rfl⟩;have HOL:=hide hol';rw[<-hol']at HOW hol ⊢;clear hown hol';go_wp2_with fail;go_loopw[5] (λi wx=>∃t:Nat,t<=ol/\i=.int .i64 t/\(∀(q:Nat) x,q<t->out[q]?=some x->dV x d=true)/\Below wr.heap.size wr wx) (λi _=>ol - (intOf i).toNat);case atStart=>exact⟨0,Nat.zero_le _,rfl,λq x hq=>absurd hq (Nat.not_lt_zero _),Below.refl _ _⟩
   case round=>
    obtain⟨t,ht,rfl,hall,hbx⟩:=hrel;have cO:=hide hall;have dH:=hide hbx;have k0:=aM (aA HC.out.1 hbx);have k1:=aM (aA HC.out.2.1 hbx);have k2:=aM (aA HC.out.2.2 hbx);clear hall;by_cases htl:t<ol
    ·obtain⟨x,hx⟩:∃x,out[t]?=some x:=⟨_,List.getElem?_eq_getElem (by rw[<-HOL.out];exact htl)⟩;have HX:=hide hx;obtain⟨g,rfl,p0,p1,p2⟩:=(HOW.out.below hbx).dg2 HOL.out hx;replace p0:=aM p0;replace p1:=aM p1;replace p2:=aM p2;have F4:decide ((t:Int)<(ol:Int))=true:=by simp;omega
     clear hx hbx;cases hah:dV x d
     ·have HAH:=hide hah;have NZ:Hid (∀w,Calls prog 151 #[.agg #[.int .i64 x.code,.string x.fn,.string x.name],.agg #[.int .i64 d.code,.string d.fn,.string d.name]] w λe w'=>e=.returned (.bool false)/\Below w.heap.size w w'):=hide (λw=>(Jj w x d).mono (by rintro e w6 ⟨he,hb6⟩;rw[hah]at he;exact⟨he,hb6⟩));clear hah;go_wp2_with fail;refine aO (by kernel_rfl) (by kernel_rfl) ?_;repeat(quiet_step ((exact Calls.fJ (NZ.out _))))
      refine wpQuiet_nil ?_;intro _ hw';obtain⟨⟨nq,osq⟩,hw''⟩:=hw';subst hw'';have dB:=hide (up dH.out (aS wr nq osq));replace p0:=p0 nq osq;replace p1:=p1 nq osq;replace p2:=p2 nq osq;replace k0:=k0 nq osq;replace k1:=k1 nq osq;replace k2:=k2 nq osq;generalize gn wr nq osq=W1 at *;have hte:((t:Int)==(ol:Int))=false:=by simp;omega
      have heq:∀w,Sem.run prog (Op.equalIn 10000 43 (.agg #[.int .i64 x.code,.string x.fn,.string x.name]) (.agg #[.int .i64 d.code,.string d.fn,.string d.name])) w=.ok (mV x d) w:=KH x d;have hgd:∀op a b w,Sem.run prog (eqGuard op 43 a b (.agg #[.int .i64 x.code,.string x.fn,.string x.name]) (.agg #[.int .i64 d.code,.string d.fn,.string d.name])) w=.ok () w:=λop a b w=>F3 op a b x d w;cases hsm:mV x d
      ·rw[hsm]at heq;have XO:=hide hsm;clear hsm NZ;go_wp2_with fail;go_quiet (fail);have iw:=hide (kN (n:=nq) dB.out);replace p0:(W1.drewN nq).cell? _=_:=p0;replace p1:(W1.drewN nq).cell? _=_:=p1;replace p2:(W1.drewN nq).cell? _=_:=p2;replace k0:(W1.drewN nq).cell? _=_:=k0;replace k1:(W1.drewN nq).cell? _=_:=k1;replace k2:(W1.drewN nq).cell? _=_:=k2;generalize W1.drewN nq=W2 at *;go_wp2_with fail;refine(FU _ w.heap.size _ t (.slice (some ⟨g,0,none⟩) ol co) out d (HOW.out.below (up iw.out (aB _ _))) (by rw[<-HOL.out];omega) (aJ _ _) (λe=>by have:=(HOW.out.lt _ e).2;have:=iw.out.size;omega) (by rw[<-HOL.out];omega) (Nat.le_trans bR.out.size (up iw.out (aB _ _)).size)).mono ?_;rintro e w9 ⟨v9,rfl,jM,nG⟩;have IC:=hide jM;have kI:=hide ((up bR.out (up iw.out (aB _ _))).trans nG);obtain⟨a9,c9,rfl⟩:=jM.form;obtain⟨n9,hn9⟩:∃n,n=(List.take t out++([d]++List.drop t out)).length:=⟨_,rfl⟩;rw[<-hn9]at IC ⊢;clear hn9;clear jM nG;go_wp2_with fail;go_roundw;case rel=>exact⟨j+1,by omega,by go_num,by rw[HST.out,Xx cO.out HX.out HAH.out,if_neg (by rw[XO.out];simp)];exact IC.out,kI.out⟩
       case measure=>simp[intOf];omega
      ·rw[hsm]at heq;have XO:=hide hsm;clear hsm NZ;go_wp2_with fail;go_quiet (fail);go_wp2_with fail;go_roundw;case rel=>exact⟨j+1,by omega,by go_num,by rw[HST.out,Xx cO.out HX.out HAH.out,if_pos XO.out];exact HOW.out.below (kN dB.out),up bR.out (kN dB.out)⟩
       case measure=>simp[intOf];omega
     ·have HAH:=hide hah;have NZ:Hid (∀w,Calls prog 151 #[.agg #[.int .i64 x.code,.string x.fn,.string x.name],.agg #[.int .i64 d.code,.string d.fn,.string d.name]] w λe w'=>e=.returned (.bool true)/\Below w.heap.size w w'):=hide (λw=>(Jj w x d).mono (by rintro e w6 ⟨he,hb6⟩;rw[hah]at he;exact⟨he,hb6⟩));clear hah;go_wp2_with fail;refine aO (by kernel_rfl) (by kernel_rfl) ?_;repeat(quiet_step ((exact Calls.fJ (NZ.out _))))
      refine wpQuiet_nil ?_;intro _ hw';obtain⟨⟨nq,osq⟩,hw''⟩:=hw';subst hw'';have dB:=hide (aS wr nq osq);go_wp2_with fail;go_roundw;case rel=>exact⟨t+1,by omega,by go_num,λq z hq hz=>by
       by_cases e:q=t;·subst e;rw[HX.out]at hz;cases hz;exact HAH.out
       ·exact cO.out q z (by omega) hz,up dH.out dB.out⟩
      case measure=>simp[intOf];omega
    ·have hte:t=ol:=by omega
     have M8:Hid (t=out.length):=hide (by rw[<-HOL.out];exact hte);have F4:decide ((t:Int)<(ol:Int))=false:=by simp;omega
     have hte':((t:Int)==(ol:Int))=true:=by simp;omega
     clear hte hbx;go_wp2_with fail;go_quiet (fail);have dB:=hide (kN (n:=nq) dH.out);replace k0:(wr.drewN nq).cell? _=_:=aA HC.out.1 dB.out;replace k1:(wr.drewN nq).cell? _=_:=aA HC.out.2.1 dB.out;replace k2:(wr.drewN nq).cell? _=_:=aA HC.out.2.2 dB.out;generalize wr.drewN nq=W1 at *;go_wp2_with fail;go_quiet (fail);have iw:=hide (kN (n:=nq) dB.out);replace k0:(W1.drewN nq).cell? _=_:=k0;replace k1:(W1.drewN nq).cell? _=_:=k1;replace k2:(W1.drewN nq).cell? _=_:=k2;generalize W1.drewN nq=W2 at *;go_wp2_with fail;refine(FU _ w.heap.size _ t (.slice ao ol co) out d (HOW.out.below (up iw.out (aB _ _))) (by rw[<-HOL.out];omega) (aJ _ _) (λe=>by have:=(HOW.out.lt _ e).2;have:=iw.out.size;omega) (by rw[<-HOL.out];omega) (Nat.le_trans bR.out.size (up iw.out (aB _ _)).size)).mono ?_;rintro e w9 ⟨v9,rfl,jM,nG⟩;have IC:=hide jM;have kI:=hide ((up bR.out (up iw.out (aB _ _))).trans nG);obtain⟨a9,c9,rfl⟩:=jM.form;obtain⟨n9,hn9⟩:∃n,n=(List.take t out++([d]++List.drop t out)).length:=⟨_,rfl⟩;rw[<-hn9]at IC ⊢;clear hn9;clear jM nG;go_wp2_with fail;go_roundw;case rel=>exact⟨j+1,by omega,by go_num,by rw[HST.out,ins_end (λx hx=>by obtain⟨q,hq,rfl⟩:=List.mem_iff_getElem.1 hx;exact cO.out q _ (by have:=HOL.out;omega) (List.getElem?_eq_getElem hq))];have h9:=IC.out;rw[M8.out,List.take_length,List.drop_length,List.append_nil]at h9;exact h9,kI.out⟩
     case measure=>simp[intOf];omega
  ·have jF:(l.take j)=l:=List.take_of_length_le (by have:=HL.out;omega);rw[jF,<-HR.out]at hown;obtain⟨ao,co,rfl⟩:=hown.form;have HOW:=hide hown;clear hown hnx jF;go_wp2_with fail;go_ret;exact⟨_,rfl,HOW.out,bR.out⟩
namespace aI
def oI:Option Nat->Int
 | some i=>i
 | none=>-1
end aI
def F5(w:World)(m b off:Nat)(l:List Fu):Prop:=
 ∀i s,l[i]?=some s->s.name.size<=maxLen/\∃vp vb e0 e1 e2 e3,w.cell? ⟨b,off+i*7,none⟩=some (.string s.name)/\w.cell? ⟨b,off+i*7+1,none⟩=some vp/\w.cell? ⟨b,off+i*7+2,none⟩=some vb/\
   w.cell? ⟨b,off+i*7+3,none⟩=some e0/\w.cell? ⟨b,off+i*7+4,none⟩=some e1/\w.cell? ⟨b,off+i*7+5,none⟩=some e2/\w.cell? ⟨b,off+i*7+6,none⟩=some e3/\
   Strs w vp s.params/\dW w m vb s.body/\gq w m e0 e1 e2 e3 s.result
theorem F5.below{w w':World}{m b off:Nat}{l:List Fu}(h:F5 w m b off l)(hb:Below w.heap.size w w'):F5 w' m b off l:=λi s hs=>by obtain⟨k1,vp,vb,e0,e1,e2,e3,g0,g1,g2,g3,g4,g5,g6,hp,hs',hx⟩:=h i s hs;exact⟨k1,vp,vb,e0,e1,e2,e3,aA g0 hb,aA g1 hb,aA g2 hb,aA g3 hb,aA g4 hb,aA g5 hb,aA g6 hb,hp.below hb,hs'.below hb,hx.below hb⟩
theorem box7(w:World)(c0 c1 c2 c3 c4 c5 c6:Value)(t:TypeId):(w.alloc (.cells #[c0,c1,c2,c3,c4,c5,c6] t)).cell? ⟨w.heap.size,0,none⟩=some c0:=by simp[go_sem]
theorem box1(w:World)(c0:Value)(t:TypeId):(w.alloc (.cells #[c0] t)).cell? ⟨w.heap.size,0,none⟩=some c0:=by simp[go_sem]
theorem QI(w:World)(B:Nat)(s nm:ByteArray)(c1 c2 c3 c4 c5 c6:Value)(hB:w.cell? ⟨B,0,none⟩=some (.string s)):Calls prog 234 #[.agg #[.string nm,c1,c2,c3,c4,c5,c6],.pointer (some ⟨B,0,none⟩)] w λe w'=>e=.returned (.bool (aI.aZ nm s))/\Below w.heap.size w w':=by have q0:=box7 w (.string nm) c1 c2 c3 c4 c5 c6 132;have HB0:=hide (aB w (.cells #[.string nm,c1,c2,c3,c4,c5,c6] 132));have qB:=aA hB HB0;have HE:Hid (aI.aZ nm s=(nm.toList==s.toList)):=rfl;clear hB;go_enter func234,ntmps234;go_wp2;go_ret;exact⟨aH HE.symm,HB0⟩
theorem XP(m:Nat)(w:World)(a:Option Addr)(b off cap n:Nat)(l:List Fu)(s:ByteArray)(B:Nat)(hn:n<=l.length)(hbig:l.length<=9223372036854775807)(ha:0<n->a=some ⟨b,off,none⟩)(hel:F5 w m b off l)(hB:w.cell? ⟨B,0,none⟩=some (.string s)):Calls prog 170 #[.slice a n cap,.func (.func 234) #[] #[.pointer (some ⟨B,0,none⟩)]] w λe w'=>e=.returned (.int .i64 (oI (sZ l s n)))/\Below w.heap.size w w':=by
 have gF:=hide hel;have HA:=hide ha;have HB:=hide hB;obtain⟨R,hR⟩:=aG (oI (sZ l s n));have HR:=hide hR;rw[<-hR];clear hel ha hB hR;go_enter func170,ntmps170;go_wp2_with fail;go_loopw[5,8] (λ_ i wr=>∃j:Nat,j<=n/\i=.int .i64 j/\(∀d g,d<j->l[d]?=some g->aI.aZ g.name s=false)/\Below w.heap.size w wr) (λ_ i _=>n - (intOf i).toNat);case atStart=>exact⟨0,bJ _,rfl,λd g hd=>absurd hd (dY _),aX _ _⟩
 case round=>
  obtain⟨j,hj,rfl,hall,hnx⟩:=hrel;have cO:=hide hall;have bR:=hide hnx;clear hall;by_cases hjl:j<n
  ·obtain⟨f,hf⟩:∃f,l[j]?=some f:=⟨_,aU (by omega)⟩;obtain⟨-,vp,vb,e0,e1,e2,e3,g0,g1,g2,g3,g4,g5,g6,-⟩:=gF j f hf;obtain rfl:=HA (by omega);have HF:=hide hf;replace g0:=aA g0 hnx;replace g1:=aA g1 hnx;replace g2:=aA g2 hnx;replace g3:=aA g3 hnx;replace g4:=aA g4 hnx;replace g5:=aA g5 hnx;replace g6:=aA g6 hnx;have HC:=hide (QI wr B s f.name vp vb e0 e1 e2 e3 (aA HB hnx));clear hf hnx;generalize hq:aI.aZ f.name s=q at HC;have HQ:=hide hq;clear hq;go_wp2_with fail;refine HC.mono ?_;rintro e w5 ⟨rfl,hb5⟩;have dw:=hide (up bR hb5);clear hb5 g0 g1 g2 g3 g4 g5 g6;cases q
   ·go_wp2_with fail;go_roundw;case rel=>exact⟨j+1,by omega,by go_num,λd g hd hg=>by
     by_cases e:d=j;·subst e;rw[HF]at hg;cases hg;exact HQ
     ·exact cO d g (by omega) hg,dw⟩
    case measure=>simp[intOf];omega
   ·go_wp2_with fail;go_ret;exact⟨by rw[HR,Fy hjl HF HQ cO];rfl,dw⟩
  ·go_wp2_with fail;go_ret;exact⟨by rw[HR,BU λd g hd hg=>cO d g (by omega) hg];rfl,bR⟩
theorem QJ(w:World)(a:Option Addr)(n cap:Nat)(k:Nat)(hk:k<=n)(hn:n<=cap):Calls prog 168 #[.slice a n cap,.int .i64 k] w λe w'=>e=.returned (.slice a k cap)/\w'=w:=by
 have h0:max (k:Int) 0=k:=by omega
 have h1:min (k:Int) n=k:=by omega
 go_enter func168,ntmps168;go_wp2_with fail;go_ret;exact⟨rfl,rfl⟩
def aI.KI(at':Int)(l:List Fu)(s:ByteArray)(n:Nat):Int × Int × Bool:=match sZ l s n with
 | some i=>(at',i,true)
 | none=>(0,0,false)
theorem Jt(m:Nat)(w:World)(a:Option Addr)(b off cap n:Nat)(l:List Fu)(s:ByteArray)(at':Int)(hn:n<=l.length)(hbig:l.length<=9223372036854775807)(ha:0<n->a=some ⟨b,off,none⟩)(hel:F5 w m b off l):Calls prog 167 #[.int .i64 at',.slice a n cap,.string s] w λe w'=>e=.returned (.tuple #[.int .i64 (KI at' l s n).1,.int .i64 (KI at' l s n).2.1,.bool (KI at' l s n).2.2])/\Below w.heap.size w w':=by
 have q0:=box1 w (.string s) 9;have HB0:=hide (aB w (.cells #[.string s] 9));have HC:=hide (XP m (w.alloc (.cells #[.string s] 9)) a b off cap n l s w.heap.size hn hbig ha (hel.below HB0) q0);obtain⟨R,hR⟩:=aG (KI at' l s n);have HR:=hide hR;rw[<-hR];clear hel ha hR q0;cases hf:sZ l s n with
 | none =>rw[hf]at HC;have HF:=hide hf;clear hf;go_enter func167,ntmps167;go_wp2_with fail;refine HC.mono ?_;rintro e w5 ⟨rfl,hb5⟩;have dw:=hide (up HB0 hb5);clear hb5;have ho:oI none=-1:=rfl;rw[ho];clear ho;go_wp2;go_ret3;exact qL (by rw[HR];simp[KI,HF.out]) dw
 | some i =>rw[hf]at HC;have HF:=hide hf;clear hf;go_enter func167,ntmps167;go_wp2_with fail;refine HC.mono ?_;rintro e w5 ⟨rfl,hb5⟩;have dw:=hide (up HB0 hb5);clear hb5;have ho:oI (some i)=(i:Int):=rfl;rw[ho];clear ho;go_wp2;go_ret3;exact qL (by rw[HR];simp[KI,HF.out]) dw
def MoEl(w:World)(m b off:Nat)(l:List Mo):Prop:=
 ∀i x,l[i]?=some x->∃vi vv vf,w.cell? ⟨b,off+i*4,none⟩=some (.string x.name)/\w.cell? ⟨b,off+i*4+1,none⟩=some vi/\w.cell? ⟨b,off+i*4+2,none⟩=some vv/\w.cell? ⟨b,off+i*4+3,none⟩=some vf/\jK w m (.agg #[.string x.name,vi,vv,vf]) x
theorem Ei{w:World}{ops:Array Oper}{o:Oper}{a:Act}{K:Act->World->Prop}{Q:Exit->Act->World->Prop}{E:Prop}(hgd:o.guard=none)(s x:Operand)(ho:o.op=.call { callee:=.builtin .append,args:=#[s,x],argTypes:=#[47,47] })(base:Nat)(v:Value)(l:List Int)(ln:Nat)(hln:l.length=ln)(hs:a.eval s=v)(hown:fD w base v l)(B:Nat)(t:Int)(hx:a.eval x=.slice (some ⟨B,0,none⟩) 1 1)(hc:w.cell? ⟨B,0,none⟩=some (.int .i64 t))(hl:l.length<=1048576)(hbase:base<=w.heap.size)(h:∀g cap w',fD w' base (.slice (some ⟨g,0,none⟩) (ln+1) cap) (l++[t])->w.grownBy w' v.ownBlock->K (a.put o.dst (.slice (some ⟨g,0,none⟩) (ln+1) cap)) w'):if Region.wanted o (yielded ops a.tmps)=true then Oper.wp prog o a w K Q else E:=by
 subst hln;obtain⟨iS,BA,hz0,hz1,hz2⟩:=info_parts zM;have hown':w.ownsRow base 3 1 v l.length (l.map (Value.int .i64)):=hown;refine step_append_lies w hgd s x 47 ho base 3 iS (.int .i64 0) 1 8 underlying47 BA hz0 hz1 hz2 rfl (by decide) v l.length (l.map (Value.int .i64)) hs hown' ⟨B,0,none⟩ 1 1 [.int .i64 t] hx rfl (λj u hu=>?_) (λu hu=>?_) (by decide) (by unfold maxLen;omega) (by omega) hbase w.heap.size rfl ?_
 ·cases j with
  | zero =>simp at hu;subst hu;rw[Addr.add_lit];exact hc
  | succ j=>simp at hu
 ·simp at hu;subst hu;rfl
 ·intro g cap w' h1' h2 h3 _;refine h g cap w' ?_ h2;unfold fD;rw[cZ,aP];exact h1'
theorem QK(w:World)(B:Nat)(s nm:ByteArray)(c1 c2 c3:Value)(hB:w.cell? ⟨B,0,none⟩=some (.string s)):Calls prog 153 #[.agg #[.string nm,c1,c2,c3],.pointer (some ⟨B,0,none⟩)] w λe w'=>e=.returned (.bool (aI.aZ nm s))/\Below w.heap.size w w':=by have q0:=FJ w (.string nm) c1 c2 c3 26;have HB0:=hide (aB w (.cells #[.string nm,c1,c2,c3] 26));have qB:=aA hB HB0;have HE:Hid (aI.aZ nm s=(nm.toList==s.toList)):=rfl;clear hB;go_enter func153,ntmps153;go_wp2;go_ret;exact⟨aH HE.symm,HB0⟩
theorem XQ(m:Nat)(w:World)(v:Value)(l:List Mo)(s:ByteArray)(B:Nat)(h:kV w m v l)(hB:w.cell? ⟨B,0,none⟩=some (.string s)):Calls prog 117 #[v,.func (.func 153) #[] #[.pointer (some ⟨B,0,none⟩)]] w λe w'=>e=.returned (.int .i64 (oI (jk l s)))/\Below w.heap.size w w':=by
 obtain⟨a,b,off,cap,rfl,ha,hbig,hel⟩:=h;have gF:=hide hel;obtain⟨n,hn⟩:=aG l.length;have HN:=hide hn;rw[<-hn]at ha hbig ⊢;have HA:=hide ha;have HB:=hide hB;obtain⟨R,hR⟩:=aG (oI (jk l s));have HR:=hide hR;rw[<-hR];clear hel ha hB hR hn;go_enter func117,ntmps117;go_wp2_with fail;go_loopw[5,8] (λ_ i wr=>∃j:Nat,j<=n/\i=.int .i64 j/\(∀d g,d<j->l[d]?=some g->aI.aZ g.name s=false)/\Below w.heap.size w wr) (λ_ i _=>n - (intOf i).toNat);case atStart=>exact⟨0,bJ _,rfl,λd g hd=>absurd hd (dY _),aX _ _⟩
 case round=>
  obtain⟨j,hj,rfl,hall,hnx⟩:=hrel;have cO:=hide hall;have bR:=hide hnx;clear hall;by_cases hjl:j<n
  ·obtain⟨f,hf⟩:∃f,l[j]?=some f:=⟨_,aU (by have:=HN.out;omega)⟩;obtain⟨vi,vv,vf,g0,g1,g2,g3,-⟩:=gF j f hf;obtain rfl:=HA (by omega);have HF:=hide hf;replace g0:=aA g0 hnx;replace g1:=aA g1 hnx;replace g2:=aA g2 hnx;replace g3:=aA g3 hnx;have HC:=hide (QK wr B s f.name vi vv vf (aA HB hnx));clear hf hnx;generalize hq:aI.aZ f.name s=q at HC;have HQ:=hide hq;clear hq;go_wp2_with fail;refine HC.mono ?_;rintro e w5 ⟨rfl,hb5⟩;have dw:=hide (up bR hb5);clear hb5 g0 g1 g2 g3;cases q
   ·go_wp2_with fail;go_roundw;case rel=>exact⟨j+1,by omega,by go_num,λd g hd hg=>by
     by_cases e:d=j;·subst e;rw[HF]at hg;cases hg;exact HQ
     ·exact cO d g (by omega) hg,dw⟩
    case measure=>simp[intOf];omega
   ·go_wp2_with fail;go_ret;exact⟨by rw[HR,Np HF HQ cO];rfl,dw⟩
  ·go_wp2_with fail;go_ret;exact⟨by rw[HR,Jf λd g hg=>cO d g (by have:=(dG.1 hg).1;have:=HN.out;omega) hg];rfl,bR⟩
structure U3(w W:World)(c0 c1 c2 c3 c4 va:Value):Prop where
 res:W.heap[w.heap.size+1]?=some (.cells #[.string ⟨#[]⟩,.slice none 0 0,.slice none 0 0,.slice none 0 0,.slice none 0 0,.slice none 0 0] 147 (0,0))
 loc:W.heap[w.heap.size+1+1]?=some (.cells #[c0,c1,c2,c3,c4,va] 147 (0,0))
 below:Below w.heap.size w W
 size:w.heap.size+3<=W.heap.size
section
variable {w W W' : World} {c0 c1 c2 c3 c4 va : Value}
theorem U3.grow(h:U3 w W c0 c1 c2 c3 c4 va)(hb:Below W.heap.size W W'):U3 w W' c0 c1 c2 c3 c4 va:=
 ⟨by rw[hb.block _ (block_lt h.res)];exact h.res,by rw[hb.block _ (block_lt h.loc)];exact h.loc,up h.below hb,bS h.size hb.size⟩
theorem U3.grown{r:Option Nat}(h:U3 w W c0 c1 c2 c3 c4 va)(hg:W.grownBy W' r)(hr:∀k,r=some k->w.heap.size+3<=k):U3 w W' c0 c1 c2 c3 c4 va:=by
 have hs:=h.size;refine⟨?_,?_,eD h.below hg (λk hk=>by have:=hr k hk;omega),bS h.size hg.size⟩;·rw[hg.block _ (block_lt h.res) (λe=>by have:=hr _ e.symm;omega)];exact h.res
 ·rw[hg.block _ (block_lt h.loc) (λe=>by have:=hr _ e.symm;omega)];exact h.loc
theorem U3.set(h:U3 w W c0 c1 c2 c3 c4 va)(u:Value):U3 w (W.setCell ⟨w.heap.size+1+1,5,none⟩ u) c0 c1 c2 c3 c4 u:=by refine⟨aV h.res (by simp) _,by rw[aQ h.loc];rfl,?_,by simp only[World.setCell,vw];exact h.size⟩;refine⟨h.below.os,h.below.tape,h.below.output,by simp only[World.setCell,vw];exact h.below.size,λk hk=>?_⟩;rw[qm _ _ _ _ (by simp;omega)];exact h.below.block k hk
end
theorem fD.yx{w:World}{n:Nat}{v:Value}{l:List Int}{a:Addr}(h:fD w n v l)(ha:a.block<n)(x:Value):fD (w.setCell a x) n v l:=by
 obtain⟨h0,h1⟩:=h;refine⟨h0,?_⟩;rcases h1 with h1|⟨g,cap,cur,hv,hg,hh,r⟩;·exact Or.inl h1
 ·exact Or.inr ⟨g,cap,cur,hv,hg,aV hh (by omega) _,r⟩
theorem fD.shape{w:World}{B:Nat}{v:Value}{l:List Int}(h:fD w B v l):∃a cap,v=.slice a l.length cap:=by
 obtain⟨_,h1⟩:=h;rcases h1 with⟨rfl,h1⟩|⟨g,cap,cur,rfl,_⟩;·rw[h1];exact⟨_,_,rfl⟩
 ·exact⟨_,_,rfl⟩
theorem fD.lt{w:World}{B:Nat}{v:Value}{l:List Int}(h:fD w B v l):∀j,v.ownBlock=some j->B<=j/\j<w.heap.size:=World.ownsRow.lt h
theorem DL{w w1:World}(h:Below w.heap.size w w1):Below w.heap.size w w1.drew:=⟨h.os,h.tape,h.output,h.size,h.block⟩
theorem U3.cell{w W:World}{c0 c1 c2 c3 c4 va:Value}(h:U3 w W c0 c1 c2 c3 c4 va):W.cell? ⟨w.heap.size+1+1,5,none⟩=some va/\W.frozen? ⟨w.heap.size+1+1,5,none⟩=false:=⟨(aj h.loc 5).trans rfl,aD h.loc 5⟩
theorem put6{W:World}{r:Nat}{T:TypeId}{a0 a1 a2 a3 a4 a5:Value}(h:W.heap[r]?=some (.cells #[a0,a1,a2,a3,a4,a5] T (0,0)))(v0 v1 v2 v3 v4 v5:Value):∃W',W'=((((((W.setCell ⟨r,0,none⟩ v0).setCell ⟨r,1,none⟩ v1).setCell ⟨r,2,none⟩ v2).setCell ⟨r,3,none⟩ v3).setCell ⟨r,4,none⟩ v4).setCell ⟨r,5,none⟩ v5)/\W'.heap[r]?=some (.cells #[v0,v1,v2,v3,v4,v5] T (0,0)):=by refine⟨_,rfl,?_⟩;have h0:=aQ h 0 v0;have h1:=aQ h0 1 v1;have h2:=aQ h1 2 v2;have h3:=aQ h2 3 v3;have h4:=aQ h3 4 v4;have h5:=aQ h4 5 v5;exact h5
theorem oV{w W:World}{a:Addr}(h:Below w.heap.size w W)(ha:w.heap.size<=a.block)(v:Value):Below w.heap.size w (W.setCell a v):=
 ⟨h.os,h.tape,h.output,by simp only[World.setCell,vw];exact h.size,λk hk=>by rw[qm _ _ _ _ (by omega)];exact h.block k hk⟩
theorem F6{α β:Type}{f:α->β}{l:List α}{j:Nat}{y:α}(h:l[j]?=some y):(l.take (j+1)).map f=(l.take j).map f++[f y]:=by rw[iY,h];simp
theorem zW(m:Nat)(w:World)(vi vv vf vk:Value)(x:Mo)(known:List Mo)(h:jK w m (.agg #[.string x.name,vi,vv,vf]) x)(hK:kV w m vk known)(hni:x.imports.length<=1048576):Calls prog 73 #[.agg #[.string x.name,vi,vv,vf],vk] w λe w'=>∃va,e=.returned (.agg #[.string x.name,vi,vv,vf,vk,va])/\Ints w' va (x.imports.map λs=>oI (jk known s))/\Below w.heap.size w w':=by
 obtain⟨vi',vv',vf',hz,hnm,hI,hV,hF⟩:=h;injection hz with hz;injection hz with hz;injection hz with _ hz;injection hz with hz1 hz;injection hz with hz2 hz;injection hz with hz3 _;subst hz1 hz2 hz3;have HK:=hide hK;obtain⟨ai,bi,oi,ci,rfl,hai,IG,hcs,hci⟩:=hI;obtain⟨av,bv,ov,cv,rfl,-⟩:=hV;obtain⟨af,bf,of,cf,rfl,-⟩:=hF;obtain⟨ak,bk,ok,ck,rfl,-⟩:=hK;have QL:=hide hci;obtain⟨f,hf⟩:∃f:ByteArray->Int,f=λs=>oI (jk known s):=⟨_,rfl⟩;have QM:=hide hf;rw[<-hf];obtain⟨N7,himps⟩:=aG x.imports;rw[<-himps]at hai IG hni QL ⊢;obtain⟨ni,hni'⟩:∃n,n=N7.length:=⟨_,rfl⟩;have yA:=hide hni';rw[<-hni']at hai IG hni ⊢;have HA:=hide hai;generalize x.vars.length=nv at *;generalize x.aR.length=nf at *;generalize hnk:known.length=nk at *;have q1:=DI w (.string x.name) (.slice ai ni ci) (.slice av nv cv) (.slice af nf cf) 26;have HW0:Hid (U3 w (((w.alloc (.cells #[.string x.name,.slice ai ni ci,.slice av nv cv,.slice af nf cf] 26)).alloc (.cells #[.string ⟨#[]⟩,.slice none 0 0,.slice none 0 0,.slice none 0 0,.slice none 0 0,.slice none 0 0] 147)).alloc (.cells #[.string x.name,.slice ai ni ci,.slice av nv cv,.slice af nf cf,.slice ak nk ck,.slice none 0 0] 147)) (.string x.name) (.slice ai ni ci) (.slice av nv cv) (.slice af nf cf) (.slice ak nk ck) (.slice none 0 0)):=by
  refine hide ⟨?_,?_,up (up (aB _ _) (aB _ _)) (aB _ _),?_⟩;·have h1:=aJ (w.alloc (.cells #[.string x.name,.slice ai ni ci,.slice av nv cv,.slice af nf cf] 26)) (.cells #[.string ⟨#[]⟩,.slice none 0 0,.slice none 0 0,.slice none 0 0,.slice none 0 0,.slice none 0 0] 147);rw[(aB _ _).block _ (by simp)];simpa using h1
  ·have h1:=aJ ((w.alloc (.cells #[.string x.name,.slice ai ni ci,.slice av nv cv,.slice af nf cf] 26)).alloc (.cells #[.string ⟨#[]⟩,.slice none 0 0,.slice none 0 0,.slice none 0 0,.slice none 0 0,.slice none 0 0] 147)) (.cells #[.string x.name,.slice ai ni ci,.slice av nv cv,.slice af nf cf,.slice ak nk ck,.slice none 0 0] 147);simpa using h1
  ·simp
 clear hci hcs hf hai hni' hnm himps hnk;go_enter func73,ntmps73;go_wp2_with fail;generalize (((w.alloc (.cells #[.string x.name,.slice ai ni ci,.slice av nv cv,.slice af nf cf] 26)).alloc (.cells #[.string ⟨#[]⟩,.slice none 0 0,.slice none 0 0,.slice none 0 0,.slice none 0 0,.slice none 0 0] 147)).alloc (.cells #[.string x.name,.slice ai ni ci,.slice av nv cv,.slice af nf cf,.slice ak nk ck,.slice none 0 0] 147))=W0 at *;clear q1;go_loopw[14] (λi wr=>∃(j:Nat) (va:Value),j<=ni/\i=.int .i64 j/\U3 w wr (.string x.name) (.slice ai ni ci) (.slice av nv cv) (.slice af nf cf) (.slice ak nk ck) va/\fD wr (w.heap.size+3) va ((N7.take j).map f)) (λi _=>ni - (intOf i).toNat);case atStart=>exact⟨0,.slice none 0 0,bJ _,rfl,HW0,by simp only[vJ,iK];exact nP _ _ _ _⟩
 case round=>
  obtain⟨j,va,hj,rfl,hS,hO⟩:=hrel;have HS:=hide hS;have HO:=hide hO;clear HW0;by_cases hjl:j<ni
  ·obtain⟨s,hs⟩:∃s,N7[j]?=some s:=⟨_,aU (by have:=yA.out;omega)⟩;have c0:=aA (QL j (by have:=yA.out;omega)) hS.below;rw[rJ,hs,kr]at c0;obtain rfl:=HA (by omega);have HST:=hide (F6 (f:=f) hs);have yB:Hid (((N7.take j).map f).length=j):=hide (by rw[cB,d9];have:=yA.out;omega);obtain⟨N8,va2,hva⟩:=hO.shape;rw[yB]at hva;subst hva;have TH:=hide ((HK.below hS.below).below (aB wr (.cells #[.string s] 9)));have HC:=hide (λwx (hb:Below (wr.alloc (.cells #[.string s] 9)).heap.size (wr.alloc (.cells #[.string s] 9)) wx)=>XQ m wx _ known s wr.heap.size (TH.below hb) (aA (box1 wr (.string s) 9) hb));rw[show oI (jk known s)=f s from by rw[QM]]at HC;have M6:=hide (hS.grow (aB wr (.cells #[.string s] 9)));have HO1:=hide (own_below hO (aB wr (.cells #[.string s] 9)));obtain⟨u5,z5⟩:=M6.cell;clear hs hS hO HS HO;go_wp2_with fail;generalize wr.alloc (.cells #[.string s] 9)=W1 at *
   go_region_law (first
    | (go_simp;go_at_call 117;refine(HC _ (by repeat(first|exact aX _ _|apply DL))).mono ?_;rintro e w6 ⟨rfl,hb6⟩;have dB:Hid (Below W1.heap.size W1 w6):=hide (up (by repeat(first|exact aX _ _|apply DL):Below W1.heap.size W1 _) hb6);have je:=hide (M6.grow dB);have HO6:=hide (own_below HO1 dB);obtain⟨u56,z56⟩:=je.cell;have Ej:w.heap.size+1+1<w6.heap.size:=(by have:=je.size;omega);clear hb6;dsimp only)
    | (refine Ei (by rfl) _ _ (by rfl) (w.heap.size+3) _ _ j yB (by rfl) (own_below HO6 (aB _ _)) _ (f s) (by rfl) (box1 _ _ _) (by have:=yB.out;omega) (bS je.size (aB _ _).size) ?_;intro g cap w7 qy pK;have HO7:=hide qy;have nJ:=hide ((je.grow (aB _ _)).grown pK (λk hk=>(fD.lt HO6 k hk).1));obtain⟨u57,z57⟩:=nJ.cell;clear qy pK)
    | fail)
   all_goals
    go_wp2_with fail;go_roundw;case rel=>exact⟨j+1,_,by omega,by go_num,nJ.set _,by rw[HST];exact HO7.yx (a:=⟨w.heap.size+1+1,5,none⟩) (by show w.heap.size+1+1<w.heap.size+3;omega) _⟩
    case measure=>simp[intOf];omega
  ·have jF:(N7.take j)=N7:=eP (by have:=yA.out;omega);have hlen:((N7.take j).map f).length=ni:=by rw[jF,cB,<-yA]
   rw[jF]at HO;obtain⟨N8,va2,hva⟩:=hO.shape;rw[hlen]at hva;subst hva;have HL6:=λi (v:Value) (hv:(#[Value.string x.name,.slice ai ni ci,.slice av nv cv,.slice af nf cf,.slice ak nk ck,.slice N8 ni va2]:Array Value)[i]?=some v)=>(aj HS.loc i).trans hv;have l0:=HL6 0 _ rfl;have l1:=HL6 1 _ rfl;have l2:=HL6 2 _ rfl;have l3:=HL6 3 _ rfl;have l4:=HL6 4 _ rfl;have l5:=HL6 5 _ rfl;have lZ:=λi (v:Value) (hv:(#[Value.string ⟨#[]⟩,.slice none 0 0,.slice none 0 0,.slice none 0 0,.slice none 0 0,.slice none 0 0]:Array Value)[i]?=some v)=>(aj HS.res i).trans hv;have r0:=lZ 0 _ rfl;have r1:=lZ 1 _ rfl;have r2:=lZ 2 _ rfl;have r3:=lZ 3 _ rfl;have r4:=lZ 4 _ rfl;have r5:=lZ 5 _ rfl;have f0:=aD HS.res 0;have f1:=aD HS.res 1;have f2:=aD HS.res 2;have f3:=aD HS.res 3;have f4:=aD HS.res 4;have f5:=aD HS.res 5;clear HL6 lZ hS hO;clear jF hlen;obtain⟨Wf,hWf,hf6⟩:=put6 HS.res (.string x.name) (.slice ai ni ci) (.slice av nv cv) (.slice af nf cf) (.slice ak nk ck) (.slice N8 ni va2);have dB:Hid (Below w.heap.size w Wf):=by rw[hWf];exact hide (oV (oV (oV (oV (oV (oV HS.below (by simp) _) (by simp) _) (by simp) _) (by simp) _) (by simp) _) (by simp) _)
   have hr3:w.heap.size+1<w.heap.size+3:=by omega
   have HO6:Hid (fD Wf (w.heap.size+3) (.slice N8 ni va2) (N7.map f)):=by rw[hWf];exact hide ((((((HO.yx hr3 _).yx hr3 _).yx hr3 _).yx hr3 _).yx hr3 _).yx hr3 _)
   have HWF:=hide hWf;have KJ:=hide hf6;clear hWf hf6;go_wp2_with fail;rw[<-HWF];have g0:=(aj KJ 0).trans rfl;have g1:=(aj KJ 1).trans rfl;have g2:=(aj KJ 2).trans rfl;have g3:=(aj KJ 3).trans rfl;have g4:=(aj KJ 4).trans rfl;have g5:=(aj KJ 5).trans rfl;refine bodyPost_ret (v:=.agg #[.string x.name,.slice ai ni ci,.slice av nv cv,.slice af nf cf,.slice ak nk ck,.slice N8 ni va2]) (by simp[results,results73,go_sem,g0,g1,g2,g3,g4,g5]) rfl ?_;exact⟨_,rfl,fD.ints HO6 (by rw[cB,<-yA];omega),dB⟩
namespace aI
def fO(x:Mo)(k:Nat)(call:ByteArray)(known:List Mo):Int × Int × Bool:=
 match fB call with
 | none=>KI (-1) x.aR call k
 | some _=>if bD x.imports (bC.preS call)<0 then (0,0,false)else
  match jk known (x.imports.getD (bD x.imports (bC.preS call)).toNat ByteArray.empty)with
  | none=>(0,0,false)
  | some a=>KI a ((known[a]?.map (·.aR)).getD []) (jW call) ((known[a]?.map (·.aR)).getD []).length
theorem zX{x:Mo}{k:Nat}{call:ByteArray}{known:List Mo}{d i:Nat}(hd:fB call=some d)(hi:bD x.imports (bC.preS call)=(i:Int))(hm:jk known (x.imports.getD i ByteArray.empty)=none):fO x k call known=(0,0,false):=by unfold fO;rw[hd];simp only;rw[if_neg (by rw[hi];omega),hi,Ju,hm]
theorem EM{x y:Mo}{k:Nat}{call:ByteArray}{known:List Mo}{d i a:Nat}(hd:fB call=some d)(hi:bD x.imports (bC.preS call)=(i:Int))(hm:jk known (x.imports.getD i ByteArray.empty)=some a)(hy:known[a]?=some y):fO x k call known=KI a y.aR (jW call) y.aR.length:=by unfold fO;rw[hd];simp only;rw[if_neg (by rw[hi];omega),hi,Ju,hm];simp only[hy,vK,kr]
theorem zY{l:List Mo}{s:ByteArray}{a:Nat}(h:jk l s=some a):∃y,l[a]?=some y/\aZ y.name s=true:=by
 unfold jk at h;have h1:=Fg h;cases hy:l[a]? with
 | none=>rw[hy]at h1;simp at h1
 | some y=>rw[hy]at h1;exact⟨y,rfl,h1⟩
end aI
theorem U4(w:World)(c0 c1 c2 c3 c4 c5:Value)(t:TypeId)(i:Nat)(v:Value)(h:(#[c0,c1,c2,c3,c4,c5]:Array Value)[i]?=some v):(w.alloc (.cells #[c0,c1,c2,c3,c4,c5] t)).cell? ⟨w.heap.size,i,none⟩=some v:=
 (aj (aJ w (.cells #[c0,c1,c2,c3,c4,c5] t)) i).trans h
theorem TI{P:Prop}{R R':Int × Int × Bool}(h:R=R')(hb:P):(Ending.returned (.tuple #[.int .i64 R.1,.int .i64 R.2.1,.bool R.2.2])=Ending.returned (.tuple #[.int .i64 R'.1,.int .i64 R'.2.1,.bool R'.2.2]))/\P:=by subst h;exact⟨rfl,hb⟩
theorem mD(l:List ByteArray)(s:ByteArray):bD l s=-1\/∃i:Nat,bD l s=i/\i<l.length:=by
 unfold bD;cases h:(List.range l.length).find? (BQ l s)with
 | none=>exact Or.inl rfl
 | some i=>exact Or.inr ⟨i,rfl,j6.1 (Nc h)⟩
structure XR(w:World)(m:Nat)(x:Mo)(known:List Mo)(vi vv vf vk va:Value):Prop where
 mo:jK w m (.agg #[.string x.name,vi,vv,vf]) x
 kn:kV w m vk known
 ats:Ints w va (x.imports.map λs=>oI (jk known s))
 cap:∀a n c,vf=.slice a n c->n<=c
theorem XR.below{w w':World}{m:Nat}{x:Mo}{known:List Mo}{vi vv vf vk va:Value}(h:XR w m x known vi vv vf vk va)(hb:Below w.heap.size w w'):XR w' m x known vi vv vf vk va:=
 ⟨h.mo.below hb,h.kn.below hb,h.ats.below hb,h.cap⟩
theorem jK.split{w:World}{m:Nat}{x:Mo}{vi vv vf:Value}(h:jK w m (.agg #[.string x.name,vi,vv,vf]) x):Strs w vi x.imports/\Dv w vv x.vars/\mP w m vf x.aR:=by obtain⟨vi',vv',vf',hz,hnm,hI,hV,hF⟩:=h;injection hz with hz;injection hz with hz;injection hz with _ hz;injection hz with hz1 hz;injection hz with hz2 hz;injection hz with hz3 _;subst hz1 hz2 hz3;exact⟨hI,hV,hF⟩
theorem DN(m:Nat)(w:World)(x:Mo)(known:List Mo)(vi vv vf vk va:Value)(k:Nat)(call:ByteArray)(h:XR w m x known vi vv vf vk va)(hk:k<=x.aR.length)(hc:call.size<=maxLen):Calls prog 80 #[.agg #[.string x.name,vi,vv,vf,vk,va],.int .i64 k,.string call] w λe w'=>e=.returned (.tuple #[.int .i64 (fO x k call known).1,.int .i64 (fO x k call known).2.1,.bool (fO x k call known).2.2])/\Below w.heap.size w w':=by
 obtain⟨hI,hV,hF⟩:=h.mo.split;have hK:=h.kn;have hA:=h.ats;have HI:=hide hI;have nU:=hide h.cap;obtain⟨ai,bi,oi,ci,rfl,-⟩:=hI;obtain⟨av,bv,ov,cv,rfl,-⟩:=hV;obtain⟨af,bf,of,cf,rfl,BD,hlf,hcf⟩:=hF;obtain⟨ak,bk,ok,ck,rfl,hak,hlk,hck⟩:=hK;have hcap:=h.cap _ _ _ rfl;have HEF:Hid (F5 w m bf of x.aR):=hcf;have BF:=hide BD;have Nt:=hide hak;have qM:=hide hck;obtain⟨aa,ba,oa,ca,rfl,haa,hla,hca⟩:=hA;have HAA:=hide haa;have p9:=hide hca;obtain⟨R,hR⟩:∃R,R=fO x k call known:=⟨_,rfl⟩;have HR:=hide hR;rw[<-hR];have uZ:Hid (∀w,Calls prog 166 #[.string call,.string ⟨#[46]⟩] w λe w'=>e=.returned (.tuple #[.string (bC.preS call),.string (jW call),.bool (fB call).isSome])/\Below w.heap.size w w'):=λw=>Tw w call hc;obtain⟨ni,hni⟩:∃n,n=x.imports.length:=⟨_,rfl⟩;obtain⟨nf,hnf⟩:∃n,n=x.aR.length:=⟨_,rfl⟩;obtain⟨nk,hnk⟩:∃n,n=known.length:=⟨_,rfl⟩;have Qw:(x.imports.map λs=>oI (jk known s)).length=ni:=by rw[List.length_map,hni]
 rw[Qw]at hla HAA ⊢;have og:=hide hnf;have Kt:=hide hnk;have yA:=hide hni;rw[<-hni]at HI;rw[<-hnf]at hcap hk hlf BF;rw[<-hnk]at hlk Nt;rw[<-hni,<-hnf,<-hnk];generalize x.vars.length=nv at *;have dH:=λi v h=>U4 w (.string x.name) (.slice ai ni ci) (.slice av nv cv) (.slice af nf cf) (.slice ak nk ck) (.slice aa ni ca) 147 i v h;have q1:=dH 1 _ rfl;have q3:=dH 3 _ rfl;have q4:=dH 4 _ rfl;have q5:=dH 5 _ rfl;have HB0:=hide (aB w (.cells #[.string x.name,.slice ai ni ci,.slice av nv cv,.slice af nf cf,.slice ak nk ck,.slice aa ni ca] 147));clear dH BD hak hcf hck haa hca hni hnf hnk Qw hR h;cases hd:fB call with
 | none =>rw[hd]at uZ;have HD:=hide hd;clear hd;generalize jW call=suf at *;generalize bC.preS call=pre at *;go_enter func80,ntmps80;go_wp2_with fail;refine(uZ.out _).mono ?_;rintro e w1 ⟨rfl,hb1⟩;replace q3:=aA q3 hb1;have HB1:=hide (up HB0.out hb1);clear hb1 q1 q4 q5;go_wp2_with fail;refine(QJ _ af nf cf k hk hcap).mono ?_;rintro e w2 ⟨rfl,hw2⟩;subst hw2;go_wp2_with fail;refine(Jt m _ af bf of cf k x.aR call (-1) (by rw[<-og.out];exact hk) (by rw[<-og.out];exact hlf) (λh=>BF.out (by omega)) (HEF.out.below HB1.out)).mono ?_;rintro e w3 ⟨rfl,hb3⟩;have HB3:=hide (up HB1.out hb3);clear hb3;go_wp2_with fail;go_ret3;exact TI (by rw[HR.out];simp[fO,HD.out]) HB3.out
 | some dd=>
  rw[hd]at uZ;have HD:=hide hd;clear hd;obtain⟨suf,Qy⟩:∃s,s=jW call:=⟨_,rfl⟩;obtain⟨pre,hpre⟩:∃s,s=bC.preS call:=⟨_,rfl⟩;have HSU:=hide Qy;have EN:=hide hpre;rw[<-Qy,<-hpre]at uZ;clear Qy hpre;have U5:=hide (λwx (hb:Below w.heap.size w wx)=>mg wx _ x.imports pre (HI.out.below hb));rcases mD x.imports pre with hix|⟨i,hi,hil⟩;·rw[hix]at U5;have HXX:=hide hix;clear hix;go_enter func80,ntmps80;go_wp2_with fail;refine(uZ.out _).mono ?_;rintro e w1 ⟨rfl,hb1⟩;replace q1:=aA q1 hb1;have HB1:=hide (up HB0.out hb1);clear hb1 q3 q4 q5;go_wp2_with fail;refine(U5.out _ HB1.out).mono ?_;rintro e w2 ⟨rfl,hw2⟩;subst hw2;go_wp2;go_ret3;exact qL (by rw[HR.out];simp[fO,HD.out,<-EN.out,HXX.out]) HB1.out
  ·rw[hi]at U5;have HXX:=hide hi;rw[<-yA.out]at hil;have haI:=HAA.out (by omega);subst haI;have c5:=p9.out i (oI (jk known (x.imports.getD i ByteArray.empty))) (by
    have hil':i<x.imports.length:=by rw[<-yA.out];exact hil
    simp[List.getD_eq_getElem?_getD,hil'])
   clear hi;cases hm:jk known (x.imports.getD i ByteArray.empty)with
   | none =>rw[hm]at c5;have HM:=hide hm;have ho:oI none=-1:=rfl;rw[ho]at c5;clear hm ho;go_enter func80,ntmps80;go_wp2_with fail;refine(uZ.out _).mono ?_;rintro e w1 ⟨rfl,hb1⟩;replace q1:=aA q1 hb1;replace q5:=aA q5 hb1;have HB1:=hide (up HB0.out hb1);replace c5:=aA c5 HB1.out;clear hb1 q3 q4;go_wp2_with fail;refine(U5.out _ HB1.out).mono ?_;rintro e w2 ⟨rfl,hw2⟩;subst hw2;go_wp2;go_ret3;exact qL (by rw[HR.out];exact zX HD.out (by rw[<-EN.out];exact HXX.out) HM.out) HB1.out
   | some a=>
    rw[hm]at c5;have HM:=hide hm;have ho:oI (some a)=(a:Int):=rfl;rw[ho]at c5;obtain⟨y,hy,-⟩:=zY hm;have hak:a<nk:=by have:=(List.getElem?_eq_some_iff.1 hy).1;rw[Kt.out];exact this
    obtain⟨yi,yv,yf,g0,g1,g2,g3,TJ⟩:=qM.out a y hy;obtain⟨-,-,hyF⟩:=TJ.split;obtain⟨ay,bY,oy,cy,rfl,hay,hly,hcy⟩:=hyF;have HY:=hide hy;obtain⟨ny,hny⟩:∃n,n=y.aR.length:=⟨_,rfl⟩;have HNY:=hide hny;have nU:=hide (λwx (hb:Below w.heap.size w wx)=>Jt m wx ay bY oy cy y.aR.length y.aR suf a (Nat.le_refl _) hly hay ((show F5 w m bY oy y.aR from hcy).below hb));rw[<-hny]at nU g3;have hkk:=Nt.out (by omega);subst hkk;obtain⟨T,hT⟩:∃T,T=KI a y.aR suf ny:=⟨_,rfl⟩;have HT:=hide hT;rw[<-hT]at nU;clear hm ho hy TJ hay hly hcy g0 g1 g2 hny hT;go_enter func80,ntmps80;go_wp2_with fail;refine(uZ.out _).mono ?_;rintro e w1 ⟨rfl,hb1⟩;replace q1:=aA q1 hb1;replace q4:=aA q4 hb1;replace q5:=aA q5 hb1;have HB1:=hide (up HB0.out hb1);replace c5:=aA c5 HB1.out;replace g3:=aA g3 HB1.out;clear hb1 q3;go_wp2_with fail;refine(U5.out _ HB1.out).mono ?_;rintro e w2 ⟨rfl,hw2⟩;subst hw2;go_wp2_with fail;replace q4:=aM q4;replace q5:=aM q5;replace c5:=aM c5;replace g3:=aM g3;have HFG:=hide (λn os=>nU.out _ (up HB1.out (aS w2 n os)));refine aO (by kernel_rfl) (by kernel_rfl) ?_;repeat(quiet_step ((exact Calls.fJ (HFG.out _ _))))
    refine wpQuiet_nil ?_;intro _ hw';obtain⟨⟨nq,osq⟩,hw''⟩:=hw';subst hw'';have dB:=hide (up HB1.out (aS w2 nq osq));go_wp2_with fail;go_ret3;exact TI (by rw[HT.out,HR.out,EM HD.out (by rw[<-EN.out];exact HXX.out) HM.out HY.out,HNY.out,HSU.out]) dB.out
namespace aI
theorem KL{l:List Fu}{s:ByteArray}{n i:Nat}(h:sZ l s n=some i):i<n/\∃f,l[i]?=some f:=by
 unfold sZ at h;have h1:=Fg h;refine⟨j6.1 (Nc h),?_⟩;cases hy:l[i]? with
 | none=>rw[hy]at h1;simp at h1
 | some y=>exact⟨y,rfl⟩
def KM(x:Mo)(known:List Mo)(t:Int × Int × Bool):Option Fu:=
 if t.1=-1 then x.aR[t.2.1.toNat]? else known[t.1.toNat]?.bind λy=>y.aR[t.2.1.toNat]?
def code(x:Mo)(known:List Mo)(k:Nat)(name:ByteArray)(nargs:Nat):Int:=
 if (fO x k name known).2.2=false then 4 else match KM x known (fO x k name known)with
  | some f=>if f.params.length=nargs then 0 else 5
  | none=>0
theorem Cb{x:Mo}{k:Nat}{call:ByteArray}{known:List Mo}(h:(fO x k call known).2.2=true):(∃(i:Nat) (f:Fu),fO x k call known=(-1,(i:Int),true)/\x.aR[i]?=some f)\/(∃(a:Nat) (y:Mo) (j:Nat) (f:Fu),fO x k call known=((a:Int),(j:Int),true)/\known[a]?=some y/\y.aR[j]?=some f):=by
 cases hd:fB call with
 | none=>
  have e:fO x k call known=KI (-1) x.aR call k:=by simp[fO,hd]
  rw[e]at h ⊢;unfold KI at h ⊢;cases hf:sZ x.aR call k with
  | none=>rw[hf]at h;simp at h
  | some i =>obtain⟨_,f,hf'⟩:=KL hf;exact Or.inl ⟨i,f,rfl,hf'⟩
 | some d=>
  rcases mD x.imports (bC.preS call)with hi|⟨i,hi,_⟩
  ·have e:fO x k call known=(0,0,false):=by simp[fO,hd,hi]
   rw[e]at h;simp at h
  ·cases hm:jk known (x.imports.getD i ByteArray.empty)with
   | none=>rw[zX hd hi hm]at h;simp at h
   | some a=>
    obtain⟨y,hy,_⟩:=zY hm;rw[EM hd hi hm hy]at h ⊢;unfold KI at h ⊢;cases hf:sZ y.aR (jW call) y.aR.length with
    | none=>rw[hf]at h;simp at h
    | some j =>obtain⟨_,f,hf'⟩:=KL hf;exact Or.inr ⟨a,y,j,f,rfl,hy,hf'⟩
end aI
theorem U6(w:World)(c0 c1 c2 vf c4 c5:Value):Calls prog 228 #[.agg #[c0,c1,c2,vf,c4,c5],.int .i64 (-1)] w λe w'=>e=.returned vf/\Below w.heap.size w w':=by have q3:=U4 w c0 c1 c2 vf c4 c5 147 3 _ rfl;have HB0:=hide (aB w (.cells #[c0,c1,c2,vf,c4,c5] 147));go_enter func228,ntmps228;go_wp2;go_ret;exact⟨rfl,HB0⟩
theorem N9(w:World)(c0 c1 c2 vf c5 vy:Value)(bk ok nk ck a:Nat)(ha:a<nk)(hc:w.cell? ⟨bk,ok+a*4+3,none⟩=some vy):Calls prog 228 #[.agg #[c0,c1,c2,vf,.slice (some ⟨bk,ok,none⟩) nk ck,c5],.int .i64 a] w λe w'=>e=.returned vy/\Below w.heap.size w w':=by
 have q4:=U4 w c0 c1 c2 vf (.slice (some ⟨bk,ok,none⟩) nk ck) c5 147 4 _ rfl;have HB0:=hide (aB w (.cells #[c0,c1,c2,vf,.slice (some ⟨bk,ok,none⟩) nk ck,c5] 147));replace hc:=aA hc HB0;have h1:((a:Int)==-1)=false:=by simp
 go_enter func228,ntmps228;go_wp2;go_ret;exact⟨rfl,HB0⟩
theorem KN(m m':Nat)(w:World)(x:Mo)(known:List Mo)(vi vv vf vk va:Value)(k:Nat)(c0 c1 c2 c3:Value)(y:Ex)(h:XR w m x known vi vv vf vk va)(hk:k<=x.aR.length)(hE:gq w m' c0 c1 c2 c3 y):Calls prog 161 #[.agg #[.string x.name,vi,vv,vf,vk,va],.int .i64 k,.agg #[c0,c1,c2,c3]] w λe w'=>e=.returned (.int .i64 (aI.code x known k y.name y.args.length))/\Below w.heap.size w w':=by
 obtain⟨mm,rfl⟩:∃mm,m'=mm+1:=by cases m' with
  | zero=>exact False.elim hE
  | succ n=>exact⟨n,rfl⟩
 obtain⟨rfl,rfl,rfl,hsz,-,-,ea,eb,eo,ec,rfl,-,hel,-⟩:=hE;have HS:=hide h;obtain⟨R,hR⟩:=aG (aI.code x known k y.name y.args.length);have HR:=hide hR;rw[<-hR];have q5:=U4 w (.string x.name) vi vv vf vk va 147;have HB0:=hide (aB w (.cells #[.string x.name,vi,vv,vf,vk,va] 147));have u0:=aA (q5 0 _ rfl) (aB _ (.cells #[.int .i64 y.kind,.int .i64 y.n,.string y.name,.slice ea y.args.length ec] 129));have u1:=aA (q5 1 _ rfl) (aB _ (.cells #[.int .i64 y.kind,.int .i64 y.n,.string y.name,.slice ea y.args.length ec] 129));have u2:=aA (q5 2 _ rfl) (aB _ (.cells #[.int .i64 y.kind,.int .i64 y.n,.string y.name,.slice ea y.args.length ec] 129));have Ed:=aA (q5 3 _ rfl) (aB _ (.cells #[.int .i64 y.kind,.int .i64 y.n,.string y.name,.slice ea y.args.length ec] 129));have UW:=aA (q5 4 _ rfl) (aB _ (.cells #[.int .i64 y.kind,.int .i64 y.n,.string y.name,.slice ea y.args.length ec] 129));have u5:=aA (q5 5 _ rfl) (aB _ (.cells #[.int .i64 y.kind,.int .i64 y.n,.string y.name,.slice ea y.args.length ec] 129));have z2:=DJ (w.alloc (.cells #[.string x.name,vi,vv,vf,vk,va] 147)) (.int .i64 y.kind) (.int .i64 y.n) (.string y.name) (.slice ea y.args.length ec) 129;have z3:=Dy (w.alloc (.cells #[.string x.name,vi,vv,vf,vk,va] 147)) (.int .i64 y.kind) (.int .i64 y.n) (.string y.name) (.slice ea y.args.length ec) 129;rw[Jv]at z2 z3;have HB1:=hide (up HB0 (aB _ (.cells #[.int .i64 y.kind,.int .i64 y.n,.string y.name,.slice ea y.args.length ec] 129)));have HT:=hide (λwx (hb:Below w.heap.size w wx)=>DN m wx x known vi vv vf vk va k y.name (HS.below hb) hk hsz);generalize y.args.length=na at *;obtain⟨hI,hV,hF⟩:=h.mo.split;have hK:=h.kn;have hA:=h.ats;obtain⟨ai,bi,oi,ci,rfl,-⟩:=hI;obtain⟨av,bv,ov,cv,rfl,-⟩:=hV;obtain⟨af,bf,of,cf,rfl,BD,hlf,hcf⟩:=hF;obtain⟨ak,bk,ok,ck,rfl,hak,hlk,hck⟩:=hK;obtain⟨aa,ba,oa,ca,rfl,-⟩:=hA;generalize (x.imports.map λs=>oI (jk known s)).length=nat at *;generalize x.imports.length=ni at *;generalize x.vars.length=nv at *;have qM:=hide hck;have Eh:=hide hcf;have BF:=hide BD;have Nt:=hide hak;clear hR h q5 hck hcf BD hak;cases ht:(fO x k y.name known).2.2;·have yC:Hid (R=4):=hide (by rw[HR];unfold aI.code;rw[if_pos ht]);rw[ht]at HT;generalize (fO x k y.name known).1=t1 at *;generalize (fO x k y.name known).2.1=t2 at *;clear ht;go_enter func161,ntmps161;go_wp2_with fail;refine(HT _ HB1).mono ?_;rintro e w1 ⟨rfl,hb1⟩;have HB2:=hide (up HB1 hb1);clear hb1;go_wp2_with fail;go_ret;exact⟨by rw[yC];rfl,HB2⟩
 ·rcases Cb ht with⟨i,f,he,hf⟩|⟨a,z,j,f,he,hz,hf⟩
  ·rw[he]at HT;have yC:Hid (R=if f.params.length=na then 0 else 5):=hide (by rw[HR];unfold aI.code;rw[if_neg (by rw[ht];simp),he];simp only[KM,if_true,Ju,hf]);obtain⟨-,vp,vb,e0,e1,e2,e3,g0,g1,-,-,-,-,-,hp,-⟩:=Eh i f hf;obtain⟨ap,bp,op,cp,rfl,-⟩:=hp;have hil:i<x.aR.length:=(dG.1 hf).1;obtain rfl:=BF (by omega);generalize x.aR.length=nf at *;generalize known.length=nk at *;generalize f.params.length=np at *;clear ht hf g0 he;simp only at HT;go_enter func161,ntmps161;go_wp2_with fail;refine(HT _ HB1).mono ?_;rintro e w1 ⟨rfl,hb1⟩;have HB2:=hide (up HB1 hb1);replace u0:=aM (aA u0 hb1);replace u1:=aM (aA u1 hb1);replace u2:=aM (aA u2 hb1);replace Ed:=aM (aA Ed hb1);replace UW:=aM (aA UW hb1);replace u5:=aM (aA u5 hb1);replace z3:=aM (aA z3 hb1);replace g1:=aM (aA g1 HB2);clear hb1 z2;have HFG:=hide (λn os=>U6 (gn w1 n os) (.string x.name) (.slice ai ni ci) (.slice av nv cv) (.slice (some ⟨bf,of,none⟩) nf cf) (.slice ak nk ck) (.slice aa nat ca));go_wp2_with fail;refine aO (by kernel_rfl) (by kernel_rfl) ?_;repeat(quiet_step ((exact Calls.fJ (HFG _ _))))
   refine wpQuiet_nil ?_;intro _ hw';obtain⟨⟨nq,osq⟩,hw''⟩:=hw';subst hw'';have dB:=hide (up HB2 (aS w1 nq osq));by_cases hn:np=na
   ·have hn':((np:Int)==(na:Int))=true:=by simp[hn]
    rw[if_pos hn]at yC;clear hn;go_wp2_with fail;go_ret;exact⟨by rw[yC];rfl,dB⟩
   ·have hn':((np:Int)==(na:Int))=false:=by simp;omega
    rw[if_neg hn]at yC;clear hn;go_wp2_with fail;go_ret;exact⟨by rw[yC];rfl,dB⟩
  ·rw[he]at HT;have yC:Hid (R=if f.params.length=na then 0 else 5):=hide (by rw[HR];unfold aI.code;rw[if_neg (by rw[ht];simp),he];simp only[KM,Ju,hz,Option.bind_some,hf];rw[if_neg (by omega)]);have hal:a<known.length:=(dG.1 hz).1;have hjl:j<z.aR.length:=(dG.1 hf).1;obtain rfl:=Nt (by omega);obtain⟨yi,yv,yf,k0,k1,k2,k3,hmz⟩:=qM a z hz;obtain⟨-,-,hzF⟩:=hmz.split;obtain⟨az,bz,oz,cz,rfl,haz,hlz,hcz⟩:=hzF;obtain⟨-,vp,vb,e0,e1,e2,e3,g0,g1,-,-,-,-,-,hp,-⟩:=hcz j f hf;obtain⟨ap,bp,op,cp,rfl,-⟩:=hp;obtain rfl:=haz (by omega);generalize z.aR.length=nz at *;generalize x.aR.length=nf at *;generalize known.length=nk at *;generalize f.params.length=np at *;clear hmz hcz haz hz k0 k1 k2;clear ht hf g0 he;simp only at HT;go_enter func161,ntmps161;go_wp2_with fail;refine(HT _ HB1).mono ?_;rintro e w1 ⟨rfl,hb1⟩;have HB2:=hide (up HB1 hb1);replace u0:=aM (aA u0 hb1);replace u1:=aM (aA u1 hb1);replace u2:=aM (aA u2 hb1);replace Ed:=aM (aA Ed hb1);replace UW:=aM (aA UW hb1);replace u5:=aM (aA u5 hb1);replace z3:=aM (aA z3 hb1);replace g1:=aM (aA g1 HB2);clear hb1 z2;have HFG:=hide (λn os=>N9 (gn w1 n os) (.string x.name) (.slice ai ni ci) (.slice av nv cv) (.slice af nf cf) (.slice aa nat ca) (.slice (some ⟨bz,oz,none⟩) nz cz) bk ok nk ck a hal (aM (aA k3 HB2) n os));go_wp2_with fail;refine aO (by kernel_rfl) (by kernel_rfl) ?_;repeat(quiet_step ((exact Calls.fJ (HFG _ _))))
   refine wpQuiet_nil ?_;intro _ hw';obtain⟨⟨nq,osq⟩,hw''⟩:=hw';subst hw'';have dB:=hide (up HB2 (aS w1 nq osq));by_cases hn:np=na
   ·have hn':((np:Int)==(na:Int))=true:=by simp[hn]
    rw[if_pos hn]at yC;clear hn;go_wp2_with fail;go_ret;exact⟨by rw[yC];rfl,dB⟩
   ·have hn':((np:Int)==(na:Int))=false:=by simp;omega
    rw[if_neg hn]at yC;clear hn;go_wp2_with fail;go_ret;exact⟨by rw[yC];rfl,dB⟩
end Go.Proofs.YtfnboapebijcpaaGreatDoor
