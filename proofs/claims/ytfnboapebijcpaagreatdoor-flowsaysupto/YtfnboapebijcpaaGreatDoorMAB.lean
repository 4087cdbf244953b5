/- Are schemes such as functions need, the -/
import Derived.Test.YtfnboapebijcpaaGreatDoorMZBD
set_option maxHeartbeats 16000000
set_option maxRecDepth 100000
namespace Go.Proofs.YtfnboapebijcpaaGreatDoor
open Fl Sv
open Go.Proofs.Tryz
open Go.RowKit Go.Maps Go.WideMaps
namespace Fl
def Ie(N:Nat)(x:Fu)(y:Sc):Bool:=decide (y.bounds.length=x.params.length)&&(yg N y.mask y.level&&(lG N y.pc&&!(aI.zD y.dF ⟨#[]⟩)))
theorem fit1_eq(N:Nat)(x:Fu)(y:Sc):lU N (x,y)=(Ie N x y&&y.bounds.all (lG N)):=by unfold lU Ie Zq;cases decide (y.bounds.length=x.params.length)<;>cases y.bounds.all (lG N)<;>cases yg N y.mask y.level<;>cases lG N y.pc<;>cases aI.zD y.dF ⟨#[]⟩<;>rfl
theorem nZ(a b:Nat):((a:Int)==(b:Int))=decide (a=b):=by
 by_cases h:a=b;·simp[h]
 ·rw[decide_eq_false h];simp only[beq_eq_false_iff_ne,ne_eq];omega
theorem predN:∀j:Fin 7,IntKind.i64.wrap (((j:Nat):Int) - 1)=((j:Nat):Int) - 1:=by decide +kernel
theorem predW:∀j:Fin 7,wrap64 (((j:Nat):Int) - 1)=((j:Nat):Int) - 1:=by decide +kernel
theorem ZT{N:Nat}(a:Int):(decide (0<=a)&&decide (a<=(N:Int) - 1))=lG N a:=by
 unfold lG;have:(a<=(N:Int) - 1)↔a<N:=by omega
 rw[decide_eq_decide.2 this]
end Fl
theorem Pp(m:Nat)(w:World)(va:Option Addr)(vl:Value)(N cap:Nat)(vf vs:Value)(fs:List Fu)(ys:List Sc)(hN:N<=6)(hvl:∃a n c,vl=.slice a n c)(hF:mP w m vf fs)(hS:uq w vs ys):Calls prog 25 #[.agg #[.slice va N cap,vl],vs,vf] w λe w'=>e=.returned (.bool (jH N fs ys))/\Below w.heap.size w w':=by
 obtain⟨la,ln,lc,rfl⟩:=hvl;obtain⟨af,bf,of,cf,rfl,hf0,ZG,tT⟩:=hF;obtain⟨asx,bs,os,cs,rfl,hs0,ZH,hsel⟩:=hS;obtain⟨nf,hnf⟩:∃n,n=fs.length:=⟨_,rfl⟩;obtain⟨ns,hns⟩:∃n,n=ys.length:=⟨_,rfl⟩;rw[<-hnf]at hf0 ZG ⊢;rw[<-hns]at hs0 ZH ⊢;have og:=hide hnf;have tQ:=hide hns;have qZ:=hide hf0;have Yu:=hide hs0;have zG:=hide tT;have xY:=hide hsel;have dH:=hide (aB w (.cells #[.slice va N cap,.slice la ln lc] 34));have gB:=hide (aJ w (.cells #[.slice va N cap,.slice la ln lc] 34));have hw1:=predN ⟨N,by omega⟩;have hw2:=predW ⟨N,by omega⟩;simp only at hw1 hw2;have HFB:Hid (jH N fs ys=(decide (ns=nf)&&(List.zip fs ys).all (lU N))):=hide (by unfold jH;rw[og.out,tQ.out]);rw[HFB.out];clear hf0 hs0 tT hsel hnf hns;by_cases hln:ns=nf;rotate_left
 ·have hz:((ns:Int)==(nf:Int))=false:=by rw[Fl.nZ];exact decide_eq_false hln
  have QM:Hid ((decide (ns=nf)&&(List.zip fs ys).all (lU N))=false):=hide (by rw[decide_eq_false hln,Bool.false_and]);rw[QM.out];clear hln;go_enter func25,ntmps25;go_wp2_with fail;generalize w.alloc (.cells #[.slice va N cap,.slice la ln lc] 34)=W at *;go_loopw[7,8] (λb i wr=>i=.int .i64 0/\b=.bool false/\Below W.heap.size W wr) (λ_ i _=>0);case atStart=>exact⟨rfl,rfl,Below.refl _ _⟩
  case round=>
   obtain⟨rfl,rfl,hbr⟩:=hrel;have rU:=hide hbr;clear hbr;by_cases h0:(0:Int)<(ns:Int);·go_wp2_with fail;go_ret;exact⟨rfl,up dH.out rU.out⟩
   ·go_wp2_with fail;go_ret;exact⟨rfl,up dH.out rU.out⟩
 subst hln;have hz:((ns:Int)==(ns:Int))=true:=by simp
 have QM:Hid ((decide (ns=ns)&&(List.zip fs ys).all (lU N))=(List.zip fs ys).all (lU N)):=hide (by rw[decide_eq_true rfl,Bool.true_and]);rw[QM.out];go_enter func25,ntmps25;go_wp2_with fail;generalize w.alloc (.cells #[.slice va N cap,.slice la ln lc] 34)=W at *;go_loopw[7,8] (λb i wr=>∃(j:Nat) (z:Bool),j<=ns/\i=.int .i64 j/\b=.bool z/\Hid (z=((List.zip fs ys).take j).all (lU N))/\Below W.heap.size W wr) (λ_ i _=>ns - (intOf i).toNat);case atStart=>exact⟨0,_,Nat.zero_le _,rfl,rfl,hide (by rw[List.take_zero,List.all_nil]),Below.refl _ _⟩
 case round=>
  obtain⟨j,z,hj,rfl,rfl,HZ,hbr⟩:=hrel;have rU:=hide hbr;by_cases hjl:j<ns
  ·cases z with
   | false=>
    have QM:Hid ((List.zip fs ys).all (lU N)=false):=hide (by
     have h1:=HZ.out;cases ha:(List.zip fs ys).all (lU N)with
     | false=>rfl
     | true =>have h2:((List.zip fs ys).take j).all (lU N)=true:=List.all_eq_true.2 λx hx=>List.all_eq_true.1 ha x (List.mem_of_mem_take hx);rw[h2]at h1;cases h1)
    clear hbr;go_wp2_with fail;go_ret;exact⟨by rw[QM.out];rfl,up dH.out rU.out⟩
   | true=>
    have cO:Hid (((List.zip fs ys).take j).all (lU N)=true):=hide HZ.out.symm;obtain⟨x,hx⟩:∃z,fs[j]?=some z:=⟨_,List.getElem?_eq_getElem (by rw[<-og.out];omega)⟩;obtain⟨y,hy⟩:∃z,ys[j]?=some z:=⟨_,List.getElem?_eq_getElem (by rw[<-tQ.out];omega)⟩;obtain rfl:=qZ.out (by omega);obtain rfl:=Yu.out (by omega);obtain⟨_,vp,vb,e0,e1,e2,e3,g0,g1,g2,g3,g4,g5,g6,kp,kb,ke⟩:=zG.out j x hx;obtain⟨ap,bp,op,cp,rfl,-⟩:=kp;obtain⟨vbs,ve,s0,s1,s2,s3,s4,s5,kbs,kes⟩:=xY.out j y hy;have hb0:=up dH.out hbr;have HKE:=hide kes;obtain⟨ab,bb,ob,cb,rfl,hab,hb63,hbel⟩:=kbs;obtain⟨ae,be,oe,ce,rfl,hae,-,-,-⟩:=kes;obtain⟨np,hnp⟩:∃n,n=x.params.length:=⟨_,rfl⟩;obtain⟨nb,hnb⟩:∃n,n=y.bounds.length:=⟨_,rfl⟩;obtain⟨ne,hne⟩:∃n,n=y.dF.length:=⟨_,rfl⟩;have wM:=hide hnp;have nR:=hide hnb;rw[<-hnp]at g1;rw[<-hnb]at s3 hab hb63;rw[<-hne]at s5;have Fx:=hide hab;have Pq:=hide hbel;replace g1:=aM (aA g1 hb0);have HS3:=hide (aA s3 hb0);replace s1:=aM (aA s1 hb0);replace s2:=aM (aA s2 hb0);replace s3:=aM (aA s3 hb0);replace s4:=aM (aA s4 hb0);replace s5:=aM (aA s5 hb0);have HK0R:=hide (aN gB.out hbr);have l0:=aM ((aj HK0R.out 0).trans rfl);have l1:=aM ((aj HK0R.out 1).trans rfl);have Qe:Hid (∀q os',Calls prog 90 #[.agg #[.slice va N cap,.slice la ln lc],.agg #[.int .i64 y.mask,.int .i64 y.level]] (gn wr q os') λe w'=>e=.returned (.bool (yg N y.mask y.level))/\Below (gn wr q os').heap.size (gn wr q os') w'):=hide λq os'=>RJ _ va _ N cap y.mask y.level (by omega);have Yf:Hid (∀a q os',Calls prog 24 #[.int .i64 a,.int .i64 0,.int .i64 ((N:Int) - 1)] (gn wr q os') λe w'=>e=.returned (.bool (lG N a))/\Below (gn wr q os').heap.size (gn wr q os') w'):=hide λa q os'=>(o8 _ a 0 ((N:Int) - 1)).mono (by rintro e w' ⟨rfl,rfl⟩;rw[ZT];exact⟨rfl,Below.refl _ _⟩);have nY:Hid (∀q os',Calls prog 68 #[.slice ae ne ce,.string ⟨#[]⟩] (gn wr q os') λe w'=>e=.returned (.bool (aI.zD y.dF ⟨#[]⟩))/\Below (gn wr q os').heap.size (gn wr q os') w'):=hide λq os'=>by have h:=dh (gn wr q os') _ y.dF ⟨#[]⟩ (HKE.out.below (up hb0 (aS wr q os')));rw[<-hne]at h;exact h.mono (by rintro e w' ⟨rfl,rfl⟩;exact⟨rfl,Below.refl _ _⟩)
    have nU:Hid (lU N (x,y)=(Ie N x y&&y.bounds.all (lG N))/\Ie N x y=(decide (nb=np)&&(yg N y.mask y.level&&(lG N y.pc&&!(aI.zD y.dF ⟨#[]⟩))))):=hide ⟨fit1_eq N x y,by unfold Ie;rw[hnb,hnp]⟩;have bR:Hid (((List.zip fs ys).take (j+1)).all (lU N)=lU N (x,y)):=hide (by have hz:(List.zip fs ys)[j]?=some (x,y):=List.getElem?_zip_eq_some.2 ⟨hx,hy⟩;rw[List.take_add_one,hz,Option.toList_some,List.all_append,cO.out,Bool.true_and,List.all_cons,List.all_nil,Bool.and_true]);clear hbr hx hy kb ke g0 g2 g3 g4 g5 g6 s0 hnp hnb hne hab hbel hae;go_upto_region 5 with fail;go_cut [7]from 15 to 92 (λt wx=>t=.bool (Ie N x y)/\Hid (Below wr.heap.size wr wx));case first=>
     generalize yg N y.mask y.level=b2 at *;generalize hb3:lG N y.pc=b3 at *;generalize hb4:aI.zD y.dF ⟨#[]⟩=b4 at *;have HIP:Hid (∀q os',Calls prog 24 #[.int .i64 y.pc,.int .i64 0,.int .i64 ((N:Int) - 1)] (gn wr q os') λe w'=>e=.returned (.bool b3)/\Below (gn wr q os').heap.size (gn wr q os') w'):=hide λq os'=>by rw[<-hb3];exact Yf.out y.pc q os'
     clear hb3 hb4;by_cases hd:nb=np
     ·have hd1:((nb:Int)==(np:Int))=true:=by simp[hd]
      have HD:Hid (decide (nb=np)=true):=hide (by simp[hd]);rw[HD.out,Bool.true_and]at nU;clear hd;cases b2 with
      | true=>
       cases b3 with
       | true=>
        cases b4 with
        | true=>
         refine aO (by kernel_rfl) (by kernel_rfl) ?_;repeat(with_reducible(refine wpQuiet_step (λKQ eG=>?_));go_simp;first|(with_reducible(refine eG _ ?_);clear eG KQ)|(rw[if_neg (by simp[undef])];with_reducible(refine eG _ ?_);clear eG KQ)|(apply Exists.intro;refine⟨λ_=>?_,eG _ ?_⟩;(first|(exact Calls.fJ (Qe.out _ _))|(exact Calls.fJ (HIP.out _ _))|(exact Calls.fJ (nY.out _ _)));clear eG KQ))
         refine wpQuiet_nil ?_;intro w6 hw';obtain⟨⟨nq,osq⟩,hw''⟩:=hw';subst hw'';go_wp2_with fail;go_meet;case rel =>exact⟨by rw[nU.out.2];rfl,hide (aS wr nq osq)⟩
        | false=>
         refine aO (by kernel_rfl) (by kernel_rfl) ?_;repeat(with_reducible(refine wpQuiet_step (λKQ eG=>?_));go_simp;first|(with_reducible(refine eG _ ?_);clear eG KQ)|(rw[if_neg (by simp[undef])];with_reducible(refine eG _ ?_);clear eG KQ)|(apply Exists.intro;refine⟨λ_=>?_,eG _ ?_⟩;(first|(exact Calls.fJ (Qe.out _ _))|(exact Calls.fJ (HIP.out _ _))|(exact Calls.fJ (nY.out _ _)));clear eG KQ))
         refine wpQuiet_nil ?_;intro w6 hw';obtain⟨⟨nq,osq⟩,hw''⟩:=hw';subst hw'';go_wp2_with fail;go_meet;case rel =>exact⟨by rw[nU.out.2];rfl,hide (aS wr nq osq)⟩
       | false=>
        refine aO (by kernel_rfl) (by kernel_rfl) ?_;repeat(with_reducible(refine wpQuiet_step (λKQ eG=>?_));go_simp;first|(with_reducible(refine eG _ ?_);clear eG KQ)|(rw[if_neg (by simp[undef])];with_reducible(refine eG _ ?_);clear eG KQ)|(apply Exists.intro;refine⟨λ_=>?_,eG _ ?_⟩;(first|(exact Calls.fJ (Qe.out _ _))|(exact Calls.fJ (HIP.out _ _))|(exact Calls.fJ (nY.out _ _)));clear eG KQ))
        refine wpQuiet_nil ?_;intro w6 hw';obtain⟨⟨nq,osq⟩,hw''⟩:=hw';subst hw'';go_wp2_with fail;go_meet;case rel =>exact⟨by rw[nU.out.2];rfl,hide (aS wr nq osq)⟩
      | false=>
       refine aO (by kernel_rfl) (by kernel_rfl) ?_;repeat(with_reducible(refine wpQuiet_step (λKQ eG=>?_));go_simp;first|(with_reducible(refine eG _ ?_);clear eG KQ)|(rw[if_neg (by simp[undef])];with_reducible(refine eG _ ?_);clear eG KQ)|(apply Exists.intro;refine⟨λ_=>?_,eG _ ?_⟩;(first|(exact Calls.fJ (Qe.out _ _))|(exact Calls.fJ (HIP.out _ _))|(exact Calls.fJ (nY.out _ _)));clear eG KQ))
       refine wpQuiet_nil ?_;intro w6 hw';obtain⟨⟨nq,osq⟩,hw''⟩:=hw';subst hw'';go_wp2_with fail;go_meet;case rel =>exact⟨by rw[nU.out.2];rfl,hide (aS wr nq osq)⟩
     ·have hd1:((nb:Int)==(np:Int))=false:=by simp;omega
      have HD:Hid (decide (nb=np)=false):=hide (by simp[hd]);rw[HD.out,Bool.false_and]at nU;clear hd;refine aO (by kernel_rfl) (by kernel_rfl) ?_;repeat(with_reducible(refine wpQuiet_step (λKQ eG=>?_));go_simp;first|(with_reducible(refine eG _ ?_);clear eG KQ)|(rw[if_neg (by simp[undef])];with_reducible(refine eG _ ?_);clear eG KQ)|(apply Exists.intro;refine⟨λ_=>?_,eG _ ?_⟩;(first|(exact Calls.fJ (Qe.out _ _))|(exact Calls.fJ (HIP.out _ _))|(exact Calls.fJ (nY.out _ _)));clear eG KQ))
      refine wpQuiet_nil ?_;intro w6 hw';obtain⟨⟨nq,osq⟩,hw''⟩:=hw';subst hw'';go_wp2_with fail;go_meet;case rel =>exact⟨by rw[nU.out.2],hide (aS wr nq osq)⟩
    case rest=>
     obtain⟨rfl,hcc⟩:=hcut;have X9:=hide hcc.out;have HBW5:=hide (up rU.out hcc.out);clear hcc g1 s1 s2 s3 s4 s5 l0 l1;go_upto_region 6 with fail;go_wp2_with fail;go_loopw[7,9] (λb i wy=>∃u:Nat,u<=nb/\i=.int .i64 u/\b=.bool (Ie N x y&&(y.bounds.take u).all (lG N))/\Below wc.heap.size wc wy) (λ_ i _=>nb - (intOf i).toNat);case atStart=>exact⟨0,Nat.zero_le _,rfl,by rw[List.take_zero,List.all_nil,Bool.and_true],Below.refl _ _⟩
     case round=>
      obtain⟨u,hu,rfl,rfl,hby⟩:=hrel;have VG:=hide hby;have s3:=aA HS3.out (up X9.out hby);by_cases TQ:u<nb
      ·obtain⟨bd,hbd⟩:∃z,y.bounds[u]?=some z:=⟨_,List.getElem?_eq_getElem (by rw[<-nR.out];exact TQ)⟩;obtain rfl:=Fx.out (by omega);have gb:=aM (aA (Pq.out u bd hbd) (up (up dH.out HBW5.out) hby));have s3g:=aM s3;have l0:=aM ((aj (aN HK0R.out (up X9.out hby)) 0).trans rfl);have HIU:Hid (∀q os',Calls prog 24 #[.int .i64 bd,.int .i64 0,.int .i64 ((N:Int) - 1)] (gn wr q os') λe w'=>e=.returned (.bool (lG N bd))/\Below (gn wr q os').heap.size (gn wr q os') w'):=hide λq os'=>(o8 _ bd 0 ((N:Int) - 1)).mono (by rintro e w' ⟨rfl,rfl⟩;rw[ZT];exact⟨rfl,Below.refl _ _⟩);have HUN:Hid ((Ie N x y&&(y.bounds.take (u+1)).all (lG N))=((Ie N x y&&(y.bounds.take u).all (lG N))&&lG N bd)):=hide (by rw[List.take_add_one,hbd,Option.toList_some,List.all_append,List.all_cons,List.all_nil,Bool.and_true,Bool.and_assoc]);clear hby hbd;generalize (Ie N x y&&(y.bounds.take u).all (lG N))=bu at *;generalize lG N bd=bv at *;cases bu with
       | true=>
        go_wp2_with fail;clear s3;refine aO (by kernel_rfl) (by kernel_rfl) ?_;repeat(with_reducible(refine wpQuiet_step (λKQ eG=>?_));go_simp;first|(with_reducible(refine eG _ ?_);clear eG KQ)|(rw[if_neg (by simp[undef])];with_reducible(refine eG _ ?_);clear eG KQ)|(apply Exists.intro;refine⟨λ_=>?_,eG _ ?_⟩;((exact Calls.fJ (HIU.out _ _)));clear eG KQ))
        refine wpQuiet_nil ?_;intro w6 hw';obtain⟨⟨nq,osq⟩,hw''⟩:=hw';have dB:Hid (Below wr.heap.size wr w6):=hide (by rw[hw''];exact aS wr nq osq);clear hw'';go_wp2_with fail;go_roundw;case rel=>exact⟨u+1,by omega,by go_num,by rw[HUN.out,Bool.true_and],up VG.out dB.out⟩
        case measure=>simp[intOf];omega
       | false=>
        go_wp2_with fail;clear s3;refine aO (by kernel_rfl) (by kernel_rfl) ?_;repeat(with_reducible(refine wpQuiet_step (λKQ eG=>?_));go_simp;first|(with_reducible(refine eG _ ?_);clear eG KQ)|(rw[if_neg (by simp[undef])];with_reducible(refine eG _ ?_);clear eG KQ)|(apply Exists.intro;refine⟨λ_=>?_,eG _ ?_⟩;((exact Calls.fJ (HIU.out _ _)));clear eG KQ))
        refine wpQuiet_nil ?_;intro w6 hw';obtain⟨⟨nq,osq⟩,hw''⟩:=hw';have dB:Hid (Below wr.heap.size wr w6):=hide (by rw[hw''];exact aS wr nq osq);clear hw'';go_wp2_with fail;go_roundw;case rel=>exact⟨u+1,by omega,by go_num,by rw[HUN.out,Bool.false_and],up VG.out dB.out⟩
        case measure=>simp[intOf];omega
      ·obtain rfl:u=nb:=by omega
       have HE:Hid ((Ie N x y&&(y.bounds.take u).all (lG N))=lU N (x,y)):=hide (by rw[nR.out,List.take_length,nU.out.1]);rw[HE.out];clear hby;go_wp2_with fail;go_roundw;case rel=>exact⟨j+1,_,by omega,by go_num,rfl,hide bR.out.symm,up (up rU.out X9.out) VG.out⟩
       case measure=>simp[intOf];omega
  ·obtain rfl:j=ns:=by omega
   have QM:Hid (z=(List.zip fs ys).all (lU N)):=hide (by have h1:=HZ.out;rw[List.take_of_length_le (by rw[List.length_zip,tQ.out];omega)]at h1;exact h1);clear hbr;go_wp2_with fail;go_ret;exact⟨by rw[<-QM.out];rfl,up dH.out rU.out⟩
end Go.Proofs.YtfnboapebijcpaaGreatDoor
