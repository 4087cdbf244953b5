/- Walks over package downref, seventh part -/
import Derived.Test.YtfnboapebijcpaaGreatDoorMZAU
set_option maxHeartbeats 16000000
set_option maxRecDepth 100000
namespace Go.Proofs.YtfnboapebijcpaaGreatDoor
open bC
open Go.Proofs.Tryz
open Go.RowKit
namespace bC
def aZ(ss:List ByteArray)(i d:Nat):Bool:=(ss.getD i ByteArray.empty).toList==(ss.getD d ByteArray.empty).toList
theorem J2(ss:List ByteArray)(p:ByteArray->Bool):∀k,k<=ss.length->(ss.take k).any p=(List.range k).any (λd=>p (ss.getD d ByteArray.empty))
 | 0,_=>rfl
 | k+1,h=>by rw[NR ss k (by omega),J2 ss p k (by omega),rA,List.any_append];simp
theorem J3(ss:List ByteArray)(i:Nat)(hi:i<ss.length):kM ss i=(!((List.range i).any (aZ ss i))&&bL (ss.getD i ByteArray.empty).data.toList):=by unfold kM;rw[J2 ss _ i (by omega)];congr 2;refine congrArg _ (funext λd=>?_);unfold aZ;rw[ByteArray.toList_eq,ByteArray.toList_eq,rD];simp only[beq_iff_eq];exact eq_comm
theorem J4{ss:List ByteArray}{i:Nat}(hi:i<ss.length)(h:kM ss i=false):gZ ss=false:=by unfold gZ;rw[all_false hi h];rfl
theorem RP{ss:List ByteArray}(h0:0<ss.length)(h:∀d,d<ss.length->kM ss d=true):gZ ss=true:=by unfold gZ;rw[all_true h];simpa using h0
theorem O7{ss:List ByteArray}{i d:Nat}(hi:i<ss.length)(hd:d<i)(h:aZ ss i d=true):kM ss i=false:=by rw[J3 ss i hi];have:(List.range i).any (aZ ss i)=true:=Cv.2 ⟨d,j6.2 hd,h⟩;rw[this];rfl
theorem RQ{ss:List ByteArray}{i:Nat}(hi:i<ss.length)(h:∀d,d<i->aZ ss i d=false):kM ss i=bL (ss.getD i ByteArray.empty).data.toList:=by
 rw[J3 ss i hi];have:(List.range i).any (aZ ss i)=false:=by rw[List.any_eq_false];intro x hx;simp[h x (j6.1 hx)]
 rw[this];rfl
end bC
namespace bC
variable {Z : Nat → Nat → Bool} {n : Nat}
theorem EX{a b:Nat}(ha:a<n)(hb:b<n)(h:AA Z n a b=false):VK Z n=false:=all_false ha (all_false hb h)
theorem J5{a b:Nat}(h:uJ Z a b=false):AA Z n a b=false:=by unfold AA;rw[h];rfl
theorem J6{a b c:Nat}(hc:c<n)(h:EA Z a b c=false):AA Z n a b=false:=by unfold AA;rw[all_false hc h,Af]
theorem CV{a b:Nat}(h:uJ Z a b=true)(h2:∀c,c<n->EA Z a b c=true):AA Z n a b=true:=by unfold AA;rw[h,all_true h2];rfl
theorem J7{a b:Nat}(ha:a<n)(hb:b<n)(h:jP Z n a b=false):yR Z n=false:=all_false ha (all_false hb h)
end bC
theorem Ma(w:World)(vn vl:Value)(ss:List ByteArray)(G:Nat)(L:Nat->Nat)(Z:Nat->Nat->Bool)(hS:Strs w vn ss)(hR:Qb w vl G L Z):Calls prog 42 #[.agg #[vn,vl]] w λe w'=>e=.returned (.int .i64 (dD ss G L Z))/\Below w.heap.size w w':=by
 have HE:=hide (VN ss G L Z);obtain⟨ad,b,off,cap,rfl,ha,hl,hs,h1⟩:=hS.below (aB w (.cells #[vn,vl] 34));have HR:=hide (hR.below (aB w (.cells #[.slice ad ss.length cap,vl] 34)));have q0:=zJ w (.slice ad ss.length cap) vl 34;have q1:=mQ w (.slice ad ss.length cap) vl 34;have HB0:=hide (aB w (.cells #[.slice ad ss.length cap,vl] 34));clear hS hR;generalize hlen:ss.length=n at *;have HN:=hide hlen;clear hlen;by_cases hn0:n=0
 ·subst hn0;have hE1:Hid (gZ ss=false):=by show gZ ss=false;unfold gZ;rw[HN.out];simp
  clear ha h1 hs q1;go_enter func42,ntmps42;go_wp2;go_ret;exact⟨bA (by rw[HE.out,if_pos hE1.out]),HB0.out⟩
 obtain rfl:=ha (by omega);have hn0':((n:Int)==0)=false:=by simp;omega
 go_enter func42,ntmps42;go_wp2;generalize w.alloc (.cells #[.slice (some ⟨b,off,none⟩) n cap,vl] 34)=W0 at *;go_loopw[4] (λi wr=>∃k:Nat,k<=n/\i=.int .i64 k/\(∀d,d<k->kM ss d=true)/\Below W0.heap.size W0 wr) (λi _=>n - (intOf i).toNat);case atStart=>exact⟨0,Nat.zero_le _,rfl,λd hd=>absurd hd (Nat.not_lt_zero _),Below.refl _ _⟩
 case round=>
  obtain⟨i,hi,rfl,hall,hnx⟩:=hrel;have HA:=hide hall;clear hall;by_cases hlt:i<n
  ·obtain⟨s,hsk⟩:∃s,s=ss.getD i ByteArray.empty:=⟨_,rfl⟩;have hc0:=h1 i hlt;rw[<-hsk]at hc0;have hsz:s.size<=maxLen:=by rw[hsk];exact Jq hs i
   have HK:=hide hsk;have bR:=hide hnx;clear hsk hnx;go_wp2;go_loopw[5] (λj wi=>∃k:Nat,k<=i/\j=.int .i64 k/\(∀d,d<k->bC.aZ ss i d=false)/\Below W0.heap.size W0 wi) (λj _=>i - (intOf j).toNat);case atStart=>exact⟨0,Nat.zero_le _,rfl,λd hd=>absurd hd (Nat.not_lt_zero _),bR.out⟩
   case round=>
    obtain⟨k,hk,rfl,hall,hnx⟩:=hrel;have HB:=hide hall;clear hall bR;have t0:=aA q0 hnx;have t1:=aA hc0 hnx;by_cases hki:k<i
    ·obtain⟨t,htk⟩:∃t,t=ss.getD k ByteArray.empty:=⟨_,rfl⟩;have t2:=aA (h1 k (by omega)) hnx;rw[<-htk]at t2;have HT:=hide htk;have b1:(0:Int)<=(i:Int):=by omega
     have b2:(i:Int)<(n:Int):=by omega
     have b3:(0:Int)<=(k:Int):=by omega
     have b4:(k:Int)<(n:Int):=by omega
     have vC:Hid (bC.aZ ss i k=(s.toList==t.toList)):=by show bC.aZ ss i k=_;unfold bC.aZ;rw[<-HK.out,<-htk]
     clear htk h1 hs q0 q1 hc0;cases hst:(s.toList==t.toList)
     ·go_wp2_with fail;go_quiet (fail);go_wp2;go_roundw;case rel=>exact⟨k+1,by omega,by go_num,λd hd=>by
       by_cases e:d=k;·subst e;rw[vC.out];exact hst
       ·exact HB.out d (by omega),iP hnx _⟩
      case measure=>simp[intOf];omega
     ·go_wp2_with fail;go_quiet (fail);go_wp2;go_ret;exact⟨bA (by rw[HE.out,if_pos (J4 (by rw[HN.out];exact hlt) (O7 (by rw[HN.out];exact hlt) hki (by rw[vC.out];exact hst)))]),up HB0.out (iP hnx _)⟩
    ·go_wp2_with fail;refine(iQ _ s hsz).mono ?_;rintro e w' ⟨rfl,hw⟩;subst hw;have e:k=i:=by omega
     subst e;have RS:Hid (kM ss k=bL s.data.toList):=by rw[HK.out];exact RQ (by rw[HN.out];exact hlt) HB.out
     cases hnm:bL s.data.toList;·go_wp2;go_ret;exact⟨bA (by rw[HE.out,if_pos (J4 (by rw[HN.out];exact hlt) (by rw[RS.out];exact hnm))]),up HB0.out hnx⟩
     ·go_wp2;go_roundw;case rel=>exact⟨k+1,by omega,by go_num,λd hd=>by
       by_cases e:d=k;·subst e;rw[RS.out];exact hnm
       ·exact HA.out d (by omega),hnx⟩
      case measure=>simp[intOf];omega
  ·have nR:Hid (gZ ss=true):=RP (by rw[HN.out];omega) (λd hd=>HA.out d (by have:=HN.out;omega));by_cases h6:6<n;·go_wp2;go_ret;exact⟨bA (by rw[HE.out,nR.out,if_neg (by simp),if_pos h6]),up HB0.out hnx⟩
   have Qk:Hid (dD ss G L Z=if fG G L n=false then 5 else if VK Z n=false then 5 else if yR Z n=false then 5 else 0):=hide (by rw[HE.out,nR.out,if_neg (by simp),if_neg h6]);clear HE nR HA;have HR1:=hide (HR.out.below hnx);have bR:=hide hnx;have p1:=aA q1 hnx;have P0:=hide (aA q0 hnx);have P1:=hide p1;obtain⟨ga,gb,go,gc,A,RB,RO,C,hvl,hg,Wx,hLm,r1,r2⟩:=HR1.out;rw[hvl]at p1;clear hnx hs h1 q0 HR;by_cases hGn:n=G
   ·subst hGn;obtain rfl:=hg (by omega);have hnb:((n:Int) != (n:Int))=false:=by simp
    clear r2 Wx;go_wp2;go_loop [6] (λi=>∃k:Nat,k<=n/\i=.int .i64 k/\∀d,d<k->mJ L n d=true) (λi=>n - (intOf i).toNat);case atStart=>exact⟨0,Nat.zero_le _,rfl,λd hd=>absurd hd (Nat.not_lt_zero _)⟩
    case round=>
     obtain⟨k,hk,rfl,hall⟩:=hrel;have HA:=hide hall;clear hall;by_cases hkn:k<n
     ·have rk:=r1 k hkn;have lk:=hLm k hkn;by_cases hLk:L k=n
      ·have hs':((L k:Int) != (n:Int))=false:=by rw[wK];simp[hLk]
       have HS:=hide hLk;clear hLk r1 hLm;go_wp2;go_round;case rel=>exact⟨k+1,by omega,by go_num,λd hd=>by
        by_cases e:d=k;·subst e;simp[mJ,HS.out]
        ·exact HA.out d (by omega)⟩
       case measure=>simp[intOf];omega
      ·have hs':((L k:Int) != (n:Int))=true:=by rw[wK];simp[hLk]
       have HS:=hide hLk;clear hLk r1 hLm;go_wp2;go_ret;have hsq:fG n L n=false:=by unfold fG;rw[bC.all_false hkn (by simp[mJ,HS.out])];simp
       exact⟨bA (by rw[Qk.out,if_pos hsq]),up HB0.out bR.out⟩
     ·have HSQ:Hid (fG n L n=true):=by show fG n L n=true;unfold fG;rw[bC.all_true (λd hd=>HA.out d (by omega))];simp
      have HG:=hide (zT HR1.out (by omega) HSQ.out);clear HA HR1 r1 hLm;have HE4:Hid (dD ss n L Z=if VK Z n=false then 5 else if yR Z n=false then 5 else 0):=hide (by rw[Qk.out,HSQ.out,if_neg (by simp)]);clear Qk HSQ;obtain⟨gb',go',gc',RB',RO'',C',hv2,g1,g2⟩:=HG.out;rw[<-hvl]at p1;rw[hv2]at p1;have h6':n<=6:=by omega
      have Qf:=hide g1;have HG2:=hide g2;clear hvl q1 g1 g2;go_wp2;go_loop [7] (λi=>∃k:Nat,k<=n/\i=.int .i64 k/\∀d,d<k->ordA Z n d=true) (λi=>n - (intOf i).toNat);case atStart=>exact⟨0,Nat.zero_le _,rfl,λd hd=>absurd hd (Nat.not_lt_zero _)⟩
      case round=>
       obtain⟨a,hka,rfl,hall⟩:=hrel;have HA:=hide hall;clear hall;by_cases han:a<n
       ·have ra:=Qf.out a han;go_wp2;go_loop [8] (λi=>∃k:Nat,k<=n/\i=.int .i64 k/\∀d,d<k->AA Z n a d=true) (λi=>n - (intOf i).toNat);case atStart=>exact⟨0,Nat.zero_le _,rfl,λd hd=>absurd hd (Nat.not_lt_zero _)⟩
        case round=>
         obtain⟨c,hkc,rfl,hall⟩:=hrel;have HB:=hide hall;clear hall;by_cases hcn:c<n
         ·have rc:=Qf.out c hcn;have cac:=HG2.out a c han hcn;have cca:=HG2.out c a hcn han;by_cases hac:a=c
          ·subst hac;have hee:((a:Int)==(a:Int))=true:=by simp
           cases zaa:Z a a;·rw[zaa]at cac;have HT:Hid (uJ Z a a=false):=hide (by simp[uJ,zaa]);clear zaa cca;go_wp2;go_ret;exact⟨bA (by rw[HE4.out,if_pos (EX han han (J5 HT.out))]),up HB0.out bR.out⟩
           ·have HT:Hid (uJ Z a a=true):=hide (by simp[uJ,zaa]);rw[zaa]at cac;clear cca zaa;go_wp2;clear cac;go_loop [9] (λi=>∃k:Nat,k<=n/\i=.int .i64 k/\∀d,d<k->EA Z a a d=true) (λi=>n - (intOf i).toNat);case atStart=>exact⟨0,Nat.zero_le _,rfl,λd hd=>absurd hd (Nat.not_lt_zero _)⟩
            case round=>
             obtain⟨d,hkd,rfl,hall⟩:=hrel;have HC:=hide hall;clear hall;by_cases hdn:d<n
             ·have cab:=HG2.out a a han han;have cbd:=HG2.out a d han hdn;have cad:=HG2.out a d han hdn;have BK:Hid (EA Z a a d=!(Z a a&&Z a d&&!Z a d)):=rfl;generalize Z a a=x1 at *;generalize Z a d=x2 at *;cases x1
              ·go_wp2;go_round;case rel=>exact⟨d+1,by omega,by go_num,λy hy=>by
                by_cases e:y=d;·subst e;rw[BK.out];rfl
                ·exact HC.out y (by omega)⟩
               case measure=>simp[intOf];omega
              ·cases x2
               ·go_wp2;go_round;case rel=>exact⟨d+1,by omega,by go_num,λy hy=>by
                 by_cases e:y=d;·subst e;rw[BK.out];rfl
                 ·exact HC.out y (by omega)⟩
                case measure=>simp[intOf];omega
               ·go_wp2;go_round;case rel=>exact⟨d+1,by omega,by go_num,λy hy=>by
                 by_cases e:y=d;·subst e;rw[BK.out];rfl
                 ·exact HC.out y (by omega)⟩
                case measure=>simp[intOf];omega
             ·have HR2:Hid (AA Z n a a=true):=hide (CV HT.out (λx hx=>HC.out x (by omega)));go_wp2;go_round;case rel=>exact⟨a+1,by omega,by go_num,λy hy=>by
               by_cases e:y=a;·subst e;exact HR2.out
               ·exact HB.out y (by omega)⟩
              case measure=>simp[intOf];omega
          ·have hee:((a:Int)==(c:Int))=false:=by rw[nZ];simp[hac]
           cases zac:Z a c
           ·have HT:Hid (uJ Z a c=true):=hide (by simp[uJ,zac,hac]);rw[zac]at cac;clear zac cca;go_wp2;clear cac;go_loop [9] (λi=>∃k:Nat,k<=n/\i=.int .i64 k/\∀d,d<k->EA Z a c d=true) (λi=>n - (intOf i).toNat);case atStart=>exact⟨0,Nat.zero_le _,rfl,λd hd=>absurd hd (Nat.not_lt_zero _)⟩
            case round=>
             obtain⟨d,hkd,rfl,hall⟩:=hrel;have HC:=hide hall;clear hall;by_cases hdn:d<n
             ·have cab:=HG2.out a c han hcn;have cbd:=HG2.out c d hcn hdn;have cad:=HG2.out a d han hdn;have BK:Hid (EA Z a c d=!(Z a c&&Z c d&&!Z a d)):=rfl;generalize Z a c=x1 at *;generalize Z c d=x2 at *;generalize Z a d=x3 at *;cases x1
              ·go_wp2;go_round;case rel=>exact⟨d+1,by omega,by go_num,λy hy=>by
                by_cases e:y=d;·subst e;rw[BK.out];rfl
                ·exact HC.out y (by omega)⟩
               case measure=>simp[intOf];omega
              ·cases x2
               ·go_wp2;go_round;case rel=>exact⟨d+1,by omega,by go_num,λy hy=>by
                 by_cases e:y=d;·subst e;rw[BK.out];rfl
                 ·exact HC.out y (by omega)⟩
                case measure=>simp[intOf];omega
               ·cases x3;·go_wp2;go_ret;exact⟨bA (by rw[HE4.out,if_pos (EX han hcn (J6 hdn (by rw[BK.out];rfl)))]),up HB0.out bR.out⟩
                ·go_wp2;go_round;case rel=>exact⟨d+1,by omega,by go_num,λy hy=>by
                  by_cases e:y=d;·subst e;rw[BK.out];rfl
                  ·exact HC.out y (by omega)⟩
                 case measure=>simp[intOf];omega
             ·have HR2:Hid (AA Z n a c=true):=hide (CV HT.out (λx hx=>HC.out x (by omega)));go_wp2;go_round;case rel=>exact⟨c+1,by omega,by go_num,λy hy=>by
               by_cases e:y=c;·subst e;exact HR2.out
               ·exact HB.out y (by omega)⟩
              case measure=>simp[intOf];omega
           ·rw[zac]at cac;cases zca:Z c a
            ·have HT:Hid (uJ Z a c=true):=hide (by simp[uJ,zca,hac]);rw[zca]at cca;clear zac zca;go_wp2;clear cac cca;go_loop [9] (λi=>∃k:Nat,k<=n/\i=.int .i64 k/\∀d,d<k->EA Z a c d=true) (λi=>n - (intOf i).toNat);case atStart=>exact⟨0,Nat.zero_le _,rfl,λd hd=>absurd hd (Nat.not_lt_zero _)⟩
             case round=>
              obtain⟨d,hkd,rfl,hall⟩:=hrel;have HC:=hide hall;clear hall;by_cases hdn:d<n
              ·have cab:=HG2.out a c han hcn;have cbd:=HG2.out c d hcn hdn;have cad:=HG2.out a d han hdn;have BK:Hid (EA Z a c d=!(Z a c&&Z c d&&!Z a d)):=rfl;generalize Z a c=x1 at *;generalize Z c d=x2 at *;generalize Z a d=x3 at *;cases x1
               ·go_wp2;go_round;case rel=>exact⟨d+1,by omega,by go_num,λy hy=>by
                 by_cases e:y=d;·subst e;rw[BK.out];rfl
                 ·exact HC.out y (by omega)⟩
                case measure=>simp[intOf];omega
               ·cases x2
                ·go_wp2;go_round;case rel=>exact⟨d+1,by omega,by go_num,λy hy=>by
                  by_cases e:y=d;·subst e;rw[BK.out];rfl
                  ·exact HC.out y (by omega)⟩
                 case measure=>simp[intOf];omega
                ·cases x3;·go_wp2;go_ret;exact⟨bA (by rw[HE4.out,if_pos (EX han hcn (J6 hdn (by rw[BK.out];rfl)))]),up HB0.out bR.out⟩
                 ·go_wp2;go_round;case rel=>exact⟨d+1,by omega,by go_num,λy hy=>by
                   by_cases e:y=d;·subst e;rw[BK.out];rfl
                   ·exact HC.out y (by omega)⟩
                  case measure=>simp[intOf];omega
              ·have HR2:Hid (AA Z n a c=true):=hide (CV HT.out (λx hx=>HC.out x (by omega)));go_wp2;go_round;case rel=>exact⟨c+1,by omega,by go_num,λy hy=>by
                by_cases e:y=c;·subst e;exact HR2.out
                ·exact HB.out y (by omega)⟩
               case measure=>simp[intOf];omega
            ·have HT:Hid (uJ Z a c=false):=hide (by simp[uJ,zca,zac,hac]);rw[zca]at cca;clear zac zca;go_wp2;go_ret;exact⟨bA (by rw[HE4.out,if_pos (EX han hcn (J5 HT.out))]),up HB0.out bR.out⟩
         ·go_wp2;go_round;case rel=>exact⟨a+1,by omega,by go_num,λd hd=>by
           by_cases e:d=a;·subst e;exact bC.all_true (λx hx=>HB.out x (by omega))
           ·exact HA.out d (by omega)⟩
          case measure=>simp[intOf];omega
       ·have HO:Hid (VK Z n=true):=bC.all_true (λx hx=>HA.out x (by omega));have HE3:Hid (dD ss n L Z=if yR Z n=false then 5 else 0):=hide (by rw[HE4.out,HO.out,if_neg (by simp)]);clear HE4 HO HA Qf HG2;go_wp2;clear p1;have Iy:=hide (up HB0.out bR.out);generalize wr=wb at *;clear bR HB0 hv2;go_loopw[10] (λi wi=>∃k:Nat,k<=n/\i=.int .i64 k/\(∀d,d<k->jA Z n d=true)/\Below wb.heap.size wb wi) (λi _=>n - (intOf i).toNat);case atStart=>exact⟨0,Nat.zero_le _,rfl,λd hd=>absurd hd (Nat.not_lt_zero _),Below.refl _ _⟩
        case round=>
         obtain⟨a,hka,rfl,hall,hnx⟩:=hrel;have HA:=hide hall;clear hall;by_cases han:a<n
         ·have bR:=hide hnx;clear hnx;go_wp2;go_loopw[11] (λi wi=>∃k:Nat,k<=n/\i=.int .i64 k/\(∀d,d<k->jP Z n a d=true)/\Below wb.heap.size wb wi) (λi _=>n - (intOf i).toNat);case atStart=>exact⟨0,Nat.zero_le _,rfl,λd hd=>absurd hd (Nat.not_lt_zero _),bR.out⟩
          case round=>
           obtain⟨c,hkc,rfl,hall,hnx⟩:=hrel;have HB:=hide hall;clear hall bR;by_cases hcn:c<n
           ·have t0:=aA P0.out hnx;have t1:=aA P1.out hnx;have bR:=hide hnx;clear hnx;go_wp2_with fail;refine(wU _ _ vl n cap a c Z (HG.out.below bR.out) h6' han hcn).mono ?_;rintro e w5 ⟨rfl,hb5⟩;have HJ:Hid (jP Z n a c=(decide (0<=nX Z n a c)&&decide (0<=nX (bC.tr Z) n a c))):=rfl;generalize nX Z n a c=x at *;replace t0:=aA t0 hb5;replace t1:=aA t1 hb5;have iL:=hide (up bR.out hb5);clear hb5 bR;by_cases hx:x<0;·go_wp2;go_ret;exact⟨bA (by rw[HE3.out,if_pos (J7 han hcn (by rw[HJ.out,decide_eq_false (by omega)];rfl))]),up Iy.out iL.out⟩
            ·go_wp2_with fail;refine(JY _ _ vl n cap a c Z (HG.out.below iL.out) h6' han hcn).mono ?_;rintro e w6 ⟨rfl,hb6⟩;generalize nX (bC.tr Z) n a c=y at *;have iM:=hide (up iL.out hb6);clear hb6 iL t0 t1;by_cases hy:y<0;·go_wp2;go_ret;exact⟨bA (by rw[HE3.out,if_pos (J7 han hcn (by rw[HJ.out,decide_eq_false (by omega:¬0<=y),Bool.and_false]))]),up Iy.out iM.out⟩
             ·have HJ2:Hid (jP Z n a c=true):=hide (by rw[HJ.out,decide_eq_true (by omega:0<=x),decide_eq_true (by omega:0<=y)];rfl);go_wp2;go_roundw;case rel=>exact⟨c+1,by omega,by go_num,λd hd=>by
               by_cases e:d=c;·subst e;exact HJ2.out
               ·exact HB.out d (by omega),iM.out⟩
              case measure=>simp[intOf];omega
           ·go_wp2;go_roundw;case rel=>exact⟨a+1,by omega,by go_num,λd hd=>by
             by_cases e:d=a;·subst e;exact bC.all_true (λx hx=>HB.out x (by omega))
             ·exact HA.out d (by omega),hnx⟩
            case measure=>simp[intOf];omega
         ·have HJJ:Hid (yR Z n=true):=bC.all_true (λx hx=>HA.out x (by omega));go_wp2;go_ret;exact⟨bA (by rw[HE3.out,HJJ.out,if_neg (by simp)]),up Iy.out hnx⟩
   ·have hnb:((G:Int) != (n:Int))=true:=by rw[wK];simp;omega
    have hsq:Hid (fG G L n=false):=by show fG G L n=false;unfold fG;rw[show(G==n)=false from by simp;omega];rfl
    clear r1 r2 hg hLm;go_wp2;go_ret;exact⟨bA (by rw[Qk.out,if_pos hsq.out]),up HB0.out bR.out⟩
end Go.Proofs.YtfnboapebijcpaaGreatDoor
