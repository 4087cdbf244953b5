/- part -/
import Derived.Test.YtbgkpehhdibaoaaGreatDoorMZAA
import Derived.BigQuiet
set_option maxHeartbeats 0
set_option maxRecDepth 99999
namespace Go.Proofs.YtbgkpehhdibaoaaGreatDoor
open bO
open Go.Proofs.Tryz
open Go.RowKit
namespace bO
def jo(s:aZ):Option Nat:=(List.range s.size).find? λi=>s.data.toList.getD i 0==46
def preS(s:aZ):aZ:=match jo s with|some i=>s.extract 0 i|none=>s
def om(s:aZ):aZ:=match jo s with|some i=>s.extract (i+1) s.size|none=>⟨#[]⟩
end bO
variable{p:Ex->Bool}{l:List Ex}
theorem byte_at(s:aZ)(k:Nat)(hk:k<s.size):s.data.toList.getD k 0=s[k]:=by
 have h:k<s.data.toList.length:=by simpa using hk
 rw[List.getD,bg h];rfl
theorem extract_size(s:aZ)(a b:Nat):(s.extract a b).size<=s.size:=by rw[Qx];omega
theorem WY(s:aZ):(bO.preS s).size<=s.size:=by
 unfold bO.preS;split;·exact extract_size _ _ _
 ·exact bF _
theorem WZ(s:aZ):(om s).size<=s.size:=by
 unfold om;split;·exact extract_size _ _ _
 ·exact bI _
theorem byte_eq(c:UInt8)(n:Nat)(hn:n<256):(c==UInt8.ofNat n)=((c.toNat:Int)==(n:Int)):=by
 rw[qH];simp only[beq_iff_eq];constructor;·rintro rfl;simp;omega
 ·intro h;have:c.toNat=n:=by omega
  rw[<-this];simp
theorem Us(w:World)(s:aZ)(hs:s.size<=maxLen):
  Calls prog 73 #[A s] w λe w'=>e=cO (.tuple #[A (bO.preS s),A (om s),.bool (jo s).isSome])/\bG w w':=by
 unfold maxLen at hs
 go_enter func73,ntmps73
 go_wp2
 go_loop [5] (λi=>∃k:Nat,k<=s.size/\i=O k/\∀d,d<k->(s.data.toList.getD d 0==46)=false) (λi=>s.size - (intOf i).toNat)
 case atStart=>exact⟨0,Nat.zero_le _,rfl,λd hd=>absurd hd (Nat.not_lt_zero _)⟩
 case round=>
  obtain⟨k,hk,rfl,hall⟩:=hrel
  have HA:=I hall
  clear hall
  by_cases hlt:k<s.size
  ·have hb:(s.data.toList.getD k 0==46)=((s[k].toNat:Int)==46):=by rw[byte_at s k hlt];exact byte_eq _ 46 bP
   have HB:=I hb
   clear hb
   cases hc:((s[k].toNat:Int)==46)
   ·go_wp2
    go_round
    case rel=>exact⟨k+1,by omega,by go_num,λd hd=>by
      by_cases e:d=k
      ·subst e;rw[HB.out];exact hc
      ·exact HA.out d aV⟩
    case measure=>simp[intOf];omega
   ·have hd:jo s=some k:=pO hlt HA.out (by rw[HB.out];exact hc)
    have HD:=I hd
    have b1:(0:Int)<=(k:Int):=by omega
    have b2:(k:Int)<=(s.size:Int):=by omega
    have b3:(k:Int)+1<=(s.size:Int):=by omega
    clear hd
    go_wp2_with fail
    go_quiet (fail)
    go_wp2
    go_ret3
    exact⟨by simp[bO.preS,om,HD.out],jJ (Below.refl _ _) _⟩
  ·go_wp2
   go_ret3
   have hd:jo s=none:=kF (λd hd=>HA.out d aV)
   exact⟨by simp[bO.preS,om,hd],Below.refl _ _⟩
namespace bO
def opS:List aZ:=[⟨#[43]⟩,⟨#[45]⟩,⟨#[42]⟩,⟨#[60]⟩,⟨#[61]⟩]
def TV(s:aZ):Bool:=decide (0<=dF opS s)
def rH(s:aZ):Bool:=dx (preS s).data.toList&&(!(jo s).isSome||dx (om s).data.toList)
def fA:Nat->Ex->Bool
 | 0,_=>false
 | m+1,x=>
  if x.kind=1 then decide (0<=x.n)&&decide (x.n<=999999)&&x.name.toList.isEmpty&&(x.args.length==0)
  else if x.kind=2 then (x.n==0)&&dx x.name.data.toList&&(x.args.length==0)
  else if x.kind=3 then (x.n==0)&&TV x.name&&(x.args.length==2)&&x.args.all (fA m)
  else if x.kind=4 then (x.n==0)&&rH x.name&&decide (x.args.length<=4)&&x.args.all (fA m)
  else false
end bO
theorem jA(w:World)(v:Value)(ss:List aZ)(t:aZ)(hS:Strs w v ss):
  Calls prog 14 #[v,A t] w λe w'=>e=cO (.bool (decide (0<=dF ss t)))/\w'=w:=by
 have HS:=I hS
 obtain⟨a,b,off,cap,rfl,_⟩:=hS
 go_enter func14,ntmps14
 go_wp2_with fail
 refine(Av w _ ss t HS.out).mono ?_
 rintro e w' ⟨rfl,hw⟩
 subst hw
 obtain⟨i,hi⟩:∃i,i=dF ss t:=⟨_,rfl⟩
 have HI:=I hi
 rw[<-hi]
 clear hi
 go_wp2
 go_ret
 exact⟨aM (by rw[HI.out]),rfl⟩
theorem oq(w:World)(c0 c1 c2 c3:Value)(t:TypeId):(w.alloc (.cells #[c0,c1,c2,c3] t)).cell? (X w.heap.size 3)=some c3:=by simp[go_sem]
theorem Cb(h:∀(i:Nat) (x:Ex),l[i]?=some x->p x=true):l.all p=true:=by rw[gY];intro x hx;obtain⟨i,hi,rfl⟩:=gP.1 hx;exact h i _ (bg hi)
theorem Cc{i:Nat}{x:Ex}(hx:l[i]?=some x)(h:p x=false):l.all p=false:=by rw[BZ];exact⟨x,dN hx,by simp[h]⟩
theorem ops_strs(w2:World):Strs (w2.alloc (aY #[A ⟨#[43]⟩,A ⟨#[45]⟩,A ⟨#[42]⟩,A ⟨#[60]⟩,A ⟨#[61]⟩] 9)) (Y (some (X w2.heap.size 0)) 5 5) opS:=by
 refine⟨_,w2.heap.size,0,5,rfl,λ_=>rfl,by decide,λs hs=>?_,λj hj=>?_⟩;·simp only[opS,gy,tT,or_false]at hs;rcases hs with rfl|rfl|rfl|rfl|rfl<;>decide
 ·have hj':j<5:=hj;obtain rfl|rfl|rfl|rfl|rfl:j=0\/j=1\/j=2\/j=3\/j=4:=by omega
  all_goals simp[go_sem,opS]
theorem xE(m:Nat):∀(w:World) (c0 c1 c2 c3:Value) (x:Ex),gQ w m c0 c1 c2 c3 x->
  Calls prog 44 #[.agg #[c0,c1,c2,c3]] w λe w'=>e=cO (.bool (fA m x))/\bG w w':=by
 induction m with
 | zero=>intro w c0 c1 c2 c3 x h;exact False.elim h
 | succ m ih=>
  intro w c0 c1 c2 c3 x h
  have HI:=I ih
  clear ih
  obtain⟨rfl,rfl,rfl,hsz,hk1,hk2,a,b,off,cap,rfl,ha,hl,hel⟩:=h
  obtain⟨k,n,s,args⟩:=x
  simp only at hsz hk1 hk2 ha hl hel ⊢
  have kg:=I hel
  have HA:=I ha
  clear hel ha
  obtain⟨len,hlen⟩:∃len,len=args.length:=⟨_,rfl⟩
  have HL:=I hlen
  rw[<-hlen]at hl HA ⊢
  clear hlen
  by_cases h1:k=1
  ·subst h1
   have HE:Hid (fA (m+1) ⟨1,n,s,args⟩=(decide (0<=n)&&decide (n<=999999)&&s.toList.isEmpty&&(len==0))):=I (by
    rw[HL.out];simp[fA])
   go_enter func44,ntmps44
   go_wp2_with fail
   refine(Au _ _ _ _).mono ?_
   rintro e w' ⟨rfl,hw⟩
   subst hw
   generalize (decide (0<=n)&&decide (n<=999999))=b1 at *
   cases b1
   ·go_wp2
    go_ret
    exact⟨aM (by rw[HE.out];rfl),aH _ _⟩
   ·cases hb2:s.toList.isEmpty
    ·have HB2:=I hb2
     go_wp2
     go_ret
     exact⟨aM (by rw[HE.out,HB2.out];rfl),aH _ _⟩
    ·have HB2:=I hb2
     go_wp2
     go_ret
     exact⟨aM (by rw[HE.out,HB2.out];exact yY len 0),aH _ _⟩
  by_cases h2:k=2
  ·subst h2
   have HE:Hid (fA (m+1) ⟨2,n,s,args⟩=((n==0)&&dx s.data.toList&&(len==0))):=I (by
    rw[HL.out];simp[fA])
   cases hn:(n==0)
   ·have HN:=I hn
    go_enter func44,ntmps44
    go_wp2_with fail
    go_ret
    exact⟨aM (by rw[HE.out,HN.out];rfl),aH _ _⟩
   ·have HN:=I hn
    go_enter func44,ntmps44
    go_wp2_with fail
    refine(j6 _ s hsz).mono ?_
    rintro e w' ⟨rfl,hw⟩
    subst hw
    cases hb2:dx s.data.toList
    ·have HB2:=I hb2
     go_wp2
     go_ret
     exact⟨aM (by rw[HE.out,HN.out,HB2.out];rfl),aH _ _⟩
    ·have HB2:=I hb2
     by_cases hl0:len=0
     ·have hl0':((len:Int)==0)=true:=by simp[hl0]
      have vH:=I hl0
      clear hl0
      go_wp2
      refine wp_loop_rounds 1 ?_
      rw[rounds_succ]
      go_wp2
      go_ret
      exact⟨aM (by rw[HE.out,HN.out,HB2.out,vH.out];rfl),aH _ _⟩
     ·have hl0':((len:Int)==0)=false:=by simp[hl0]
      have vH:=I hl0
      clear hl0
      go_wp2
      go_ret
      exact⟨aM (by rw[HE.out,HN.out,HB2.out,show(len==0)=false from by simp[vH.out]];rfl),aH _ _⟩
  by_cases h3:k=3
  ·subst h3
   have HE:Hid (fA (m+1) ⟨3,n,s,args⟩=((n==0)&&TV s&&(len==2)&&args.all (fA m))):=I (by
    rw[HL.out];simp[fA])
   cases hn:(n==0)
   ·have HN:=I hn
    go_enter func44,ntmps44
    go_wp2_with fail
    go_ret
    exact⟨aM (by rw[HE.out,HN.out];rfl),aH _ _⟩
   ·have HN:=I hn
    have HS:Hid (∀w2:World,Strs (w2.alloc (aY #[A ⟨#[43]⟩,A ⟨#[45]⟩,A ⟨#[42]⟩,A ⟨#[60]⟩,A ⟨#[61]⟩] 9)) (Y (some (X w2.heap.size 0)) 5 5) opS):=I (ops_strs)
    go_enter func44,ntmps44
    go_wp2_with fail
    refine(jA _ _ opS s ?_).mono ?_
    ·have:=HS.out (w.alloc (aY #[O 3,O n,A s,Y a len cap] 107))
     simpa using this
    rintro e w' ⟨rfl,hw⟩
    rw[show decide (0<=dF opS s)=TV s from rfl]
    cases hb2:TV s
    ·have HB2:=I hb2
     subst hw
     go_wp2
     go_ret
     exact⟨aM (by rw[HE.out,HN.out,HB2.out];rfl),((Below.refl _ _).alloc (Nat.le_refl _) _).alloc cZ _⟩
    ·have HB2:=I hb2
     have HB0:Hid (bG w w'):=I (by rw[hw];exact((Below.refl _ _).alloc (Nat.le_refl _) _).alloc cZ _)
     have q3:w'.cell? (X w.heap.size 3)=some (Y a len cap):=by rw[hw];simp[go_sem]
     clear hw
     by_cases hl0:len=2
     ·have hl0':((len:Int)==2)=true:=by simp;omega
      have vH:=I hl0
      have hl2:(2:Int)=(len:Int):=by omega
      clear hl0
      go_wp2
      rw[hl2]
      clear hl2 hl0'
      generalize hW0:w'=W0 at *
      clear hW0
      go_loopw[8] (λi wr=>∃j:Nat,j<=len/\i=O j/\(∀d y,d<j->args[d]?=some y->fA m y=true)/\bG W0 wr) (λi _=>len - (intOf i).toNat)
      case atStart=>exact⟨0,Nat.zero_le _,rfl,λd y hd=>absurd hd (Nat.not_lt_zero _),Below.refl _ _⟩
      case round=>
       obtain⟨j,hj,rfl,hall,hnx⟩:=hrel
       have dU:=I hall
       clear hall
       have t3:=aC q3 hnx
       by_cases hjl:j<len
       ·obtain⟨y,hy⟩:∃y,args[j]?=some y:=⟨_,List.getElem?_eq_getElem (by rw[<-HL.out];exact hjl)⟩
        obtain⟨e0,e1,e2,e3,g0,g1,g2,g3,hye⟩:=kg.out j y hy
        have HY:=I hy
        obtain rfl:=HA.out aV
        have hbb:=up HB0.out hnx
        have u0:=aC g0 hbb
        have u1:=aC g1 hbb
        have Xa:=aC g2 hbb
        have KD:=aC g3 hbb
        have Nr:=I (hye.below hbb)
        have dM:=I hnx
        clear g0 g1 g2 g3 hye hy hbb hnx
        go_wp2_with fail
        refine(HI.out _ e0 e1 e2 e3 y Nr.out).mono ?_
        rintro e w5 ⟨rfl,hb5⟩
        have kG:=I (up dM.out hb5)
        clear hb5 dM
        cases hyb:fA m y
        ·have Ns:=I hyb
         go_wp2
         go_ret
         exact⟨aM (by rw[HE.out,Cc HY.out Ns.out];rw[HN.out,HB2.out,vH.out];rfl),up HB0.out kG.out⟩
        ·have Ns:=I hyb
         go_wp2
         go_roundw
         case rel=>exact⟨j+1,by omega,by go_num,λd z hd hz=>by
           by_cases e:d=j
           ·subst e
            rw[HY.out]at hz
            cases hz
            exact Ns.out
           ·exact dU.out d z aV hz,kG.out⟩
         case measure=>simp[intOf];omega
       ·go_wp2
        go_ret
        have hall:args.all (fA m)=true:=Cb (λd z hz=>dU.out d z (by
         have:=(List.getElem?_eq_some_iff.1 hz).1
         have:=HL.out
         omega) hz)
        exact⟨aM (by rw[HE.out,hall];rw[HN.out,HB2.out,vH.out];rfl),up HB0.out hnx⟩
     ·have hl0':((len:Int)==2)=false:=by simp;omega
      have vH:=I hl0
      clear hl0
      go_wp2
      go_ret
      exact⟨aM (by rw[HE.out,HN.out,HB2.out,show(len==2)=false from by simp[vH.out]];rfl),HB0.out⟩
  by_cases h4:k=4
  ·subst h4
   have HE:Hid (fA (m+1) ⟨4,n,s,args⟩=((n==0)&&rH s&&decide (len<=4)&&args.all (fA m))):=I (by
    rw[HL.out];simp[fA])
   have hp1:(bO.preS s).size<=maxLen:=Nat.le_trans (WY s) hsz
   have hp2:(om s).size<=maxLen:=Nat.le_trans (WZ s) hsz
   have HC:Hid (rH s=(dx (bO.preS s).data.toList&&(!(jo s).isSome||dx (om s).data.toList))):=rfl
   have KU:Hid (∀w,Calls prog 73 #[A s] w λe w'=>e=cO (.tuple #[A (bO.preS s),A (om s),.bool (jo s).isSome])/\bG w w'):=λw=>Us w s hsz
   generalize bO.preS s=pre at *
   generalize om s=suf at *
   generalize (jo s).isSome=dot at *
   cases hn:(n==0)
   ·have HN:=I hn
    go_enter func44,ntmps44
    go_wp2_with fail
    refine(KU.out _).mono ?_
    rintro e w1 ⟨rfl,hb1⟩
    have q3:=aC (oq w (O 4) (O n) (A s) (Y a len cap) 107) hb1
    have HB0:=I (TU hb1)
    clear hb1
    go_wp2_with fail
    go_ret
    exact⟨aM (by rw[HE.out,HN.out];rfl),HB0.out⟩
   ·have HN:=I hn
    go_enter func44,ntmps44
    go_wp2_with fail
    refine(KU.out _).mono ?_
    rintro e w1 ⟨rfl,hb1⟩
    have q3:=aC (oq w (O 4) (O n) (A s) (Y a len cap) 107) hb1
    have HB0:=I (TU hb1)
    clear hb1
    go_wp2_with fail
    refine(j6 _ pre hp1).mono ?_
    rintro e w' ⟨rfl,hw⟩
    subst hw
    cases hb2:dx pre.data.toList
    ·have HB2:=I hb2
     go_wp2_with fail
     go_ret
     exact⟨aM (by rw[HE.out,HN.out,HC.out,HB2.out];rfl),HB0.out⟩
    ·have HB2:=I hb2
     by_cases hl0:len<=4
     ·have hl0':decide ((len:Int)<=4)=true:=by simp;omega
      have vH:Hid (decide (len<=4)=true):=I (by simp[hl0])
      cases dot
      ·have KV:Hid (rH s=true):=I (by rw[HC.out,HB2.out];rfl)
       go_wp2_with fail
       generalize hW0:w'=W0 at *
       clear hW0
       go_loopw[8] (λi wr=>∃j:Nat,j<=len/\i=O j/\(∀d y,d<j->args[d]?=some y->fA m y=true)/\bG W0 wr) (λi _=>len - (intOf i).toNat)
       case atStart=>exact⟨0,Nat.zero_le _,rfl,λd y hd=>absurd hd (Nat.not_lt_zero _),Below.refl _ _⟩
       case round=>
        obtain⟨j,hj,rfl,hall,hnx⟩:=hrel
        have dU:=I hall
        clear hall
        have t3:=aC q3 hnx
        by_cases hjl:j<len
        ·obtain⟨y,hy⟩:∃y,args[j]?=some y:=⟨_,List.getElem?_eq_getElem (by rw[<-HL.out];exact hjl)⟩
         obtain⟨e0,e1,e2,e3,g0,g1,g2,g3,hye⟩:=kg.out j y hy
         have HY:=I hy
         obtain rfl:=HA.out aV
         have hbb:=up HB0.out hnx
         have u0:=aC g0 hbb
         have u1:=aC g1 hbb
         have Xa:=aC g2 hbb
         have KD:=aC g3 hbb
         have Nr:=I (hye.below hbb)
         have dM:=I hnx
         clear g0 g1 g2 g3 hye hy hbb hnx
         go_wp2_with fail
         refine(HI.out _ e0 e1 e2 e3 y Nr.out).mono ?_
         rintro e w5 ⟨rfl,hb5⟩
         have kG:=I (up dM.out hb5)
         clear hb5 dM
         cases hyb:fA m y
         ·have Ns:=I hyb
          go_wp2
          go_ret
          exact⟨aM (by rw[HE.out,Cc HY.out Ns.out];rw[HN.out,KV.out,vH.out];rfl),up HB0.out kG.out⟩
         ·have Ns:=I hyb
          go_wp2
          go_roundw
          case rel=>exact⟨j+1,by omega,by go_num,λd z hd hz=>by
            by_cases e:d=j
            ·subst e
             rw[HY.out]at hz
             cases hz
             exact Ns.out
            ·exact dU.out d z aV hz,kG.out⟩
          case measure=>simp[intOf];omega
        ·go_wp2
         go_ret
         have hall:args.all (fA m)=true:=Cb (λd z hz=>dU.out d z (by
          have:=(List.getElem?_eq_some_iff.1 hz).1
          have:=HL.out
          omega) hz)
         exact⟨aM (by rw[HE.out,hall];rw[HN.out,KV.out,vH.out];rfl),up HB0.out hnx⟩
      ·go_wp2_with fail
       refine(j6 _ suf hp2).mono ?_
       rintro e w'' ⟨rfl,hw⟩
       subst hw
       cases hb3:dx suf.data.toList
       ·have HB3:=I hb3
        go_wp2_with fail
        go_ret
        exact⟨aM (by rw[HE.out,HN.out,HC.out,HB2.out,HB3.out];rfl),HB0.out⟩
       ·have KV:Hid (rH s=true):=I (by rw[HC.out,HB2.out,hb3];rfl)
        go_wp2_with fail
        generalize hW0:w''=W0 at *
        clear hW0
        go_loopw[8] (λi wr=>∃j:Nat,j<=len/\i=O j/\(∀d y,d<j->args[d]?=some y->fA m y=true)/\bG W0 wr) (λi _=>len - (intOf i).toNat)
        case atStart=>exact⟨0,Nat.zero_le _,rfl,λd y hd=>absurd hd (Nat.not_lt_zero _),Below.refl _ _⟩
        case round=>
         obtain⟨j,hj,rfl,hall,hnx⟩:=hrel
         have dU:=I hall
         clear hall
         have t3:=aC q3 hnx
         by_cases hjl:j<len
         ·obtain⟨y,hy⟩:∃y,args[j]?=some y:=⟨_,List.getElem?_eq_getElem (by rw[<-HL.out];exact hjl)⟩
          obtain⟨e0,e1,e2,e3,g0,g1,g2,g3,hye⟩:=kg.out j y hy
          have HY:=I hy
          obtain rfl:=HA.out aV
          have hbb:=up HB0.out hnx
          have u0:=aC g0 hbb
          have u1:=aC g1 hbb
          have Xa:=aC g2 hbb
          have KD:=aC g3 hbb
          have Nr:=I (hye.below hbb)
          have dM:=I hnx
          clear g0 g1 g2 g3 hye hy hbb hnx
          go_wp2_with fail
          refine(HI.out _ e0 e1 e2 e3 y Nr.out).mono ?_
          rintro e w5 ⟨rfl,hb5⟩
          have kG:=I (up dM.out hb5)
          clear hb5 dM
          cases hyb:fA m y
          ·have Ns:=I hyb
           go_wp2
           go_ret
           exact⟨aM (by rw[HE.out,Cc HY.out Ns.out];rw[HN.out,KV.out,vH.out];rfl),up HB0.out kG.out⟩
          ·have Ns:=I hyb
           go_wp2
           go_roundw
           case rel=>exact⟨j+1,by omega,by go_num,λd z hd hz=>by
             by_cases e:d=j
             ·subst e
              rw[HY.out]at hz
              cases hz
              exact Ns.out
             ·exact dU.out d z aV hz,kG.out⟩
           case measure=>simp[intOf];omega
         ·go_wp2
          go_ret
          have hall:args.all (fA m)=true:=Cb (λd z hz=>dU.out d z (by
           have:=(List.getElem?_eq_some_iff.1 hz).1
           have:=HL.out
           omega) hz)
          exact⟨aM (by rw[HE.out,hall];rw[HN.out,KV.out,vH.out];rfl),up HB0.out hnx⟩
     ·have hl0':decide ((len:Int)<=4)=false:=by simp;omega
      have vH:Hid (decide (len<=4)=false):=I (by simp;omega)
      cases dot
      ·go_wp2_with fail
       go_ret
       exact⟨aM (by rw[HE.out,HN.out,vH.out,Bool.and_false];rfl),HB0.out⟩
      ·go_wp2_with fail
       refine(j6 _ suf hp2).mono ?_
       rintro e w'' ⟨rfl,hw⟩
       subst hw
       cases hb3:dx suf.data.toList
       ·go_wp2_with fail
        go_ret
        exact⟨aM (by rw[HE.out,HN.out,vH.out,Bool.and_false];rfl),HB0.out⟩
       ·go_wp2_with fail
        go_ret
        exact⟨aM (by rw[HE.out,HN.out,vH.out,Bool.and_false];rfl),HB0.out⟩
  ·have hk1':(k==1)=false:=by simp[h1]
   have hk2':(k==2)=false:=by simp[h2]
   have hk3':(k==3)=false:=by simp[h3]
   have hk4':(k==4)=false:=by simp[h4]
   have HE:Hid (fA (m+1) ⟨k,n,s,args⟩=false):=I (by simp[fA,h1,h2,h3,h4])
   clear h1 h2 h3 h4
   go_enter func44,ntmps44
   go_wp2_with fail
   go_ret
   exact⟨aM HE.out.symm,aH _ _⟩
end Go.Proofs.YtbgkpehhdibaoaaGreatDoor
