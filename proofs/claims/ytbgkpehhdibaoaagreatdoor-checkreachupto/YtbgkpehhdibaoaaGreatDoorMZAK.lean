/- part -/
import Derived.Test.YtbgkpehhdibaoaaGreatDoorMZI2
import Derived.Deep.RegionHeld3
set_option maxHeartbeats 0
set_option maxRecDepth 99999
namespace Go.Proofs.YtbgkpehhdibaoaaGreatDoor
open bO
open Go.Proofs.Tryz
open Go.RowKit
namespace bO
def Gi(et:Ex->aZ)(bt:List St->aZ)(s:St)(acc:aZ):aZ:=
 if s.kind=1 then acc++((⟨#[40,115,101,116,32]⟩:aZ)++s.name++(⟨#[32]⟩:aZ)++et s.e++(⟨#[41]⟩:aZ))
 else if s.kind=4 then acc++((⟨#[40,112,114,105,110,116,32]⟩:aZ)++s.name++(⟨#[32]⟩:aZ)++et s.e++(⟨#[41]⟩:aZ))
 else if s.kind=3 then acc++((⟨#[40,119,104,105,108,101,32]⟩:aZ)++et s.e++(⟨#[32,40]⟩:aZ)++bt s.a++(⟨#[41,41]⟩:aZ))
 else if s.kind=2 then acc++((⟨#[40,105,102,32]⟩:aZ)++et s.e++(⟨#[32,40]⟩:aZ)++bt s.a++(⟨#[41,32,40]⟩:aZ)++bt s.b++(⟨#[41,41]⟩:aZ))
 else acc
def jH(et:Ex->aZ)(bt:List St->aZ)(l:List St):Nat->aZ
 | 0=>⟨#[]⟩
 | j+1=>match l[j]? with
  | some s=>Gi et bt s (if 0<j then jH et bt l j++(⟨#[32]⟩:aZ)else jH et bt l j)
  | none=>jH et bt l j
def wQ:Nat->List St->aZ
 | 0,_=>⟨#[]⟩
 | m+1,l=>jH (kP m) (wQ m) l l.length
end bO
variable{l:List St}{j m:Nat}{s:St}{f:St->Nat}
theorem uJ{et:Ex->aZ}{bt:List St->aZ}(h:l[j]?=some s):bO.jH et bt l (j+1)=Gi et bt s (if 0<j then bO.jH et bt l j++(⟨#[32]⟩:aZ)else bO.jH et bt l j):=by simp only[bO.jH,h]
theorem stT_size(et:Ex->aZ)(bt:List St->aZ)(s:St)(acc:aZ):acc.size<=(Gi et bt s acc).size/\(Gi et bt s acc).size<=acc.size+s.name.size+(et s.e).size+(bt s.a).size+(bt s.b).size+11:=by
 have z0:(⟨#[40,115,101,116,32]⟩:aZ).size=5:=rfl;have z1:(⟨#[40,112,114,105,110,116,32]⟩:aZ).size=7:=rfl;have z2:(⟨#[40,119,104,105,108,101,32]⟩:aZ).size=7:=rfl;have z3:(⟨#[40,105,102,32]⟩:aZ).size=4:=rfl;have z4:(⟨#[32,40]⟩:aZ).size=2:=rfl;have z5:(⟨#[41,41]⟩:aZ).size=2:=rfl;have z6:(⟨#[41,32,40]⟩:aZ).size=3:=rfl;have z7:(⟨#[32]⟩:aZ).size=1:=rfl;have z8:(⟨#[41]⟩:aZ).size=1:=rfl;unfold Gi;repeat' split
 all_goals(try simp only[nH,z0,z1,z2,z3,z4,z5,z6,z7,z8])
 all_goals omega
def Md(m:Nat)(s:St):Nat:=s.name.size+3+iO m s.e+dQ m s.a+dQ m s.b
theorem uK(m:Nat)(l:List St):dQ (m+1) l=(l.map (Md m)).sum+1:=rfl
theorem K6(h:l[j]?=some s):((l.take (j+1)).map f).sum=((l.take j).map f).sum+f s:=by obtain⟨hj,rfl⟩:=dz.1 h;rw[kR hj,fH,kU];simp
theorem QY(l:List St)(j:Nat):((l.take j).map f).sum<=(l.map f).sum:=by
 conv=>rhs;rw[<-mE j l]
 rw[fH,kU];omega
theorem Ec(h:∀(i:Nat) (s:St),l[i]?=some s->(kP m s.e).size+1<=6*iO m s.e/\(wQ m s.a).size+1<=6*dQ m s.a/\(wQ m s.b).size+1<=6*dQ m s.b):
 ∀j,j<=l.length->(bO.jH (kP m) (wQ m) l j).size<=6*((l.take j).map (Md m)).sum
 | 0,_=>bI _
 | j+1,hj=>by
  have ih:=Ec h j aV;obtain⟨s,hs⟩:∃s,l[j]?=some s:=⟨_,bg aV⟩;rw[uJ hs,K6 hs];have h1:=(stT_size (kP m) (wQ m) s (if 0<j then bO.jH (kP m) (wQ m) l j++(⟨#[32]⟩:aZ)else bO.jH (kP m) (wQ m) l j)).2;have h2:(if 0<j then bO.jH (kP m) (wQ m) l j++(⟨#[32]⟩:aZ)else bO.jH (kP m) (wQ m) l j).size<=(bO.jH (kP m) (wQ m) l j).size+1:=by
   split;·rw[nH];exact bF _
   ·omega
  obtain⟨g1,g2,g3⟩:=h j s hs;have hst:Md m s=s.name.size+3+iO m s.e+dQ m s.a+dQ m s.b:=rfl;omega
theorem qg{w:World}:∀{m:Nat} {v:Value} {l:List St},eU w m v l->(wQ m l).size+1<=6*dQ m l
 | 0,_,_,h=>iG h
 | m+1,v,l,h=>by obtain⟨a,b,off,cap,_,_,_,h9⟩:=h;have:=Ec (m:=m) (l:=l) (λi s hs=>by obtain⟨_,_,e0,e1,e2,e3,va,vb,_,_,_,_,_,_,_,_,hx,ha,hb⟩:=h9 i s hs;exact⟨qc hx,qg ha,qg hb⟩) l.length (bF _);rw[iL]at this;rw[uK];simp only[wQ];omega
theorem NZ(m:Nat):∀(w:World) (v:Value) (l:List St),eU w m v l->dQ m l<=1048576->Tab w->Calls prog 74 #[v] w λe w'=>e=cO (A (wQ m l))/\bG w w':=by
 induction m with
 | zero=>intro w v l h;exact iG h
 | succ m ih=>
  intro w v l h hw ht;have HI:=I ih;clear ih;obtain⟨a,b,off,cap,rfl,ha,hl,hel⟩:=h;obtain⟨kg,HA,HT⟩:=fq hel ha ht;have HW:Hid (∀(i:Nat) (s:St),l[i]?=some s->Md m s<=1048576):=I (λi y hy=>by have:Md m y<=(l.map (Md m)).sum:=jY (dN hy);rw[uK]at hw;omega);have zh:Hid (∀j,j<=l.length->(bO.jH (kP m) (wQ m) l j).size<=6291456):=I (λj hj=>by have h1:=Ec (m:=m) (l:=l) (λi s hs=>by obtain⟨_,_,e0,e1,e2,e3,va,vb,_,_,_,_,_,_,_,_,hx,ha,hb⟩:=hel i s hs;exact⟨qc hx,qg ha,qg hb⟩) j hj;have h2:=QY (f:=Md m) l j;rw[uK]at hw;omega);have HE:Hid (wQ (m+1) l=bO.jH (kP m) (wQ m) l l.length):=rfl;clear hel ha ht hw;obtain⟨len,hlen⟩:=bC l.length;have HL:=I hlen;rw[<-hlen]at hl HA HE zh ⊢;clear hlen;go_enter func74,ntmps74;go_wp2_with fail;go_loopw[3,4] (λo i wr=>∃j:Nat,j<=len/\i=O j/\o=A (bO.jH (kP m) (wQ m) l j)/\bG w wr) (λ_ i _=>len - (intOf i).toNat);case atStart=>exact⟨0,bI _,rfl,rfl,bN _ _⟩
  case round=>
   obtain⟨j,hj,rfl,rfl,hnx⟩:=hrel;by_cases hjl:j<len
   ·obtain⟨y,hy⟩:∃y,l[j]?=some y:=⟨_,bg (by rw[<-HL];exact hjl)⟩;obtain⟨hsk,hsn,e0,e1,e2,e3,va,vb,g0,g1,g2,g3,g4,g5,g6,g7,hxe,hsa,hsb⟩:=kg j y hy;obtain rfl:=HA aV;have HST:=I (uJ (et:=kP m) (bt:=wQ m) hy);obtain⟨Qc,hacc,s1,s2⟩:=rG (HW j y hy) (zh j aV) (qc hxe) (qg hsa);have s3:=qg hsb;obtain⟨k,sn,se,sa,sb⟩:=y;simp only at hsk hsn g0 g1 hxe hsa hsb s1 s2 s3 HST;have hye:iO m se<=1048576:=by unfold Md at Qc;simp only at Qc;omega
    have hya:dQ m sa<=1048576:=by unfold Md at Qc;simp only at Qc;omega
    have hyb:dQ m sb<=1048576:=by unfold Md at Qc;simp only at Qc;omega
    have hyn:sn.size<=1048576:=by unfold Md at Qc;simp only at Qc;omega
    have s1':(kP m se).size<=6291456:=by omega
    have s2':(wQ m sa).size<=6291456:=by omega
    have s3':(wQ m sb).size<=6291456:=by omega
    obtain⟨HX,GU,DL⟩:=fq hxe hsa hsb;clear hxe hsa hsb hy s1 s2 s3 Qc;obtain⟨u0,u1⟩:=eD (aC g0 hnx) (aC g1 hnx);have Xa:=aC g2 hnx;have KD:wr.cell? (X b (off+j*8+2+1))=some e1:=aC g3 hnx;have u4':wr.cell? (X b (off+j*8+2+2))=some e2:=aC g4 hnx;have u5':wr.cell? (X b (off+j*8+2+3))=some e3:=aC g5 hnx;have u6':=aC g6 hnx;have u7':=aC g7 hnx;have dM:=I hnx;clear g0 g1 g2 g3 g4 g5 g6 g7 hnx;generalize hac:bO.jH (kP m) (wQ m) l j=acc at *;have HAC:=I hac;clear hac;by_cases hj0:0<j
    ·rw[aL hj0]at HST;go_wp2_with fail;refine(qQ m _ e0 e1 e2 e3 se (HX.below dM) hye (HT.below dM)).mono ?_;rintro e w5 ⟨rfl,hb5⟩;replace u0:=aC u0 hb5;replace u1:=aC u1 hb5;replace u6':=aC u6' hb5;replace u7':=aC u7' hb5;have HN:=I (up dM hb5);clear hb5 Xa KD u4' u5';generalize hac2:acc++(⟨#[32]⟩:aZ)=acc2 at *;have rV:acc2.size<=6291457:=by rw[<-hac2,nH];show acc.size+1<=_;omega
     clear hac2;generalize hte:kP m se=te at *;have HTE:=I hte;clear hte;by_cases k1:k=1
     ·subst k1;go_wp2_with fail;go_roundw;case rel=>exact⟨j+1,by omega,by go_num,jy (by rw[HST];simp[Gi,HTE.out]),HN⟩
      case measure=>simp[intOf];omega
     by_cases k4:k=4
     ·subst k4;go_wp2_with fail;go_roundw;case rel=>exact⟨j+1,by omega,by go_num,jy (by rw[HST];simp[Gi,HTE.out]),HN⟩
      case measure=>simp[intOf];omega
     by_cases k3:k=3
     ·subst k3;go_wp2_with fail;refine(HI _ va sa (GU.below HN) hya (HT.below HN)).mono ?_;rintro e w6 ⟨rfl,hb6⟩;have lI:=I (up HN hb6);clear hb6;generalize hta:wQ m sa=ta at *;have HTA:=I hta;clear hta;go_wp2_with fail;go_roundw;case rel=>exact⟨j+1,by omega,by go_num,jy (by rw[HST];simp[Gi,HTE.out,HTA.out]),lI⟩
      case measure=>simp[intOf];omega
     by_cases k2:k=2
     ·subst k2
      have HF:Hid (∀wx,Hid (bG w5 wx)->Hid (bG w5 wx)/\wx.cell? (X b (off+j*8+6))=some va/\wx.cell? (X b (off+j*8+7))=some vb):=
       λwx h=>⟨h,aC u6' h,aC u7' h⟩
      have vw:Hid (bG w5 w5):=I (bN _ _);have b1:(0:Int)<=(j:Int):=by omega
      have b2:(j:Int)<(len:Int):=by omega
      generalize hta:wQ m sa=ta at *;have HTA:=I hta;clear hta;generalize htb:wQ m sb=tb at *;have HTB:=I htb;clear htb u6' u7';have q1:¬(9223372036854775807<4+te.size):=by omega
      have q2:¬(9223372036854775807<4+te.size+2):=by omega
      have q3:¬(9223372036854775807<4+te.size+2+ta.size):=by omega
      have q4:¬(9223372036854775807<4+te.size+2+ta.size+3):=by omega
      have q5:¬(9223372036854775807<4+te.size+2+ta.size+3+tb.size):=by omega
      have q6:¬(9223372036854775807<4+te.size+2+ta.size+3+tb.size+2):=by omega
      have q7:¬(9223372036854775807<acc2.size+(4+te.size+2+ta.size+3+tb.size+2)):=by omega
      go_wp2_with fail
      go_region_held3 (λwx=>Hid (bG w5 wx)/\wx.cell? (X b (off+j*8+6))=some va/\wx.cell? (X b (off+j*8+7))=some vb)
       (first|exact HF _ IQ|exact HF _ xV|exact HF _ (I vw.out.drew))
       (first
        | (go_at_call_of 74 (va);refine(HI _ va sa ?_ hya ?_).mono ?_;(exact GU.below (up HN vw.drew));(exact HT.below (up HN vw.drew));rintro e w30 ⟨rfl,IU⟩;have xV:=I (up vw.drew IU);clear IU;rw[HTA])
        | (go_at_call_of 74 (vb);refine(HI _ vb sb ?_ hyb ?_).mono ?_;(exact DL.below (up HN xV));(exact HT.below (up HN xV));rintro e w31 ⟨rfl,IV⟩;have IQ:=I (up xV IV);clear IV;rw[HTB]))
      all_goals
       go_wp2_with fail;go_roundw;case rel=>exact⟨j+1,by omega,by go_num,jy (by rw[HST];simp[Gi,HTE.out,HTA.out,HTB.out]),up HN IQ⟩
       case measure=>simp[intOf];omega
     have k1':(k==1)=false:=by simp[k1]
     have k2':(k==2)=false:=by simp[k2]
     have k3':(k==3)=false:=by simp[k3]
     have k4':(k==4)=false:=by simp[k4]
     have HO:=I (show Gi (kP m) (wQ m) ⟨k,sn,se,sa,sb⟩ acc2=acc2 by simp[Gi,k1,k2,k3,k4]);clear k1 k2 k3 k4;go_wp2_with fail;go_roundw;case rel=>exact⟨j+1,by omega,by go_num,jy (by rw[HST,HO]),HN⟩
     case measure=>simp[intOf];omega
    ·rw[aJ hj0]at HST;go_wp2_with fail;refine(qQ m _ e0 e1 e2 e3 se (HX.below dM) hye (HT.below dM)).mono ?_;rintro e w5 ⟨rfl,hb5⟩;replace u0:=aC u0 hb5;replace u1:=aC u1 hb5;replace u6':=aC u6' hb5;replace u7':=aC u7' hb5;have HN:=I (up dM hb5);clear hb5 Xa KD u4' u5';generalize hte:kP m se=te at *;have HTE:=I hte;clear hte;by_cases k1:k=1
     ·subst k1;go_wp2_with fail;go_roundw;case rel=>exact⟨j+1,by omega,by go_num,jy (by rw[HST];simp[Gi,HTE.out]),HN⟩
      case measure=>simp[intOf];omega
     by_cases k4:k=4
     ·subst k4;go_wp2_with fail;go_roundw;case rel=>exact⟨j+1,by omega,by go_num,jy (by rw[HST];simp[Gi,HTE.out]),HN⟩
      case measure=>simp[intOf];omega
     by_cases k3:k=3
     ·subst k3;go_wp2_with fail;refine(HI _ va sa (GU.below HN) hya (HT.below HN)).mono ?_;rintro e w6 ⟨rfl,hb6⟩;have lI:=I (up HN hb6);clear hb6;generalize hta:wQ m sa=ta at *;have HTA:=I hta;clear hta;go_wp2_with fail;go_roundw;case rel=>exact⟨j+1,by omega,by go_num,jy (by rw[HST];simp[Gi,HTE.out,HTA.out]),lI⟩
      case measure=>simp[intOf];omega
     by_cases k2:k=2
     ·subst k2
      have HF:Hid (∀wx,Hid (bG w5 wx)->Hid (bG w5 wx)/\wx.cell? (X b (off+j*8+6))=some va/\wx.cell? (X b (off+j*8+7))=some vb):=
       λwx h=>⟨h,aC u6' h,aC u7' h⟩
      have vw:Hid (bG w5 w5):=I (bN _ _);have b1:(0:Int)<=(j:Int):=by omega
      have b2:(j:Int)<(len:Int):=by omega
      generalize hta:wQ m sa=ta at *;have HTA:=I hta;clear hta;generalize htb:wQ m sb=tb at *;have HTB:=I htb;clear htb u6' u7';have q1:¬(9223372036854775807<4+te.size):=by omega
      have q2:¬(9223372036854775807<4+te.size+2):=by omega
      have q3:¬(9223372036854775807<4+te.size+2+ta.size):=by omega
      have q4:¬(9223372036854775807<4+te.size+2+ta.size+3):=by omega
      have q5:¬(9223372036854775807<4+te.size+2+ta.size+3+tb.size):=by omega
      have q6:¬(9223372036854775807<4+te.size+2+ta.size+3+tb.size+2):=by omega
      have q7:¬(9223372036854775807<acc.size+(4+te.size+2+ta.size+3+tb.size+2)):=by omega
      go_wp2_with fail
      go_region_held3 (λwx=>Hid (bG w5 wx)/\wx.cell? (X b (off+j*8+6))=some va/\wx.cell? (X b (off+j*8+7))=some vb)
       (first|exact HF _ IQ|exact HF _ xV|exact HF _ (I vw.out.drew))
       (first
        | (go_at_call_of 74 (va);refine(HI _ va sa ?_ hya ?_).mono ?_;(exact GU.below (up HN vw.drew));(exact HT.below (up HN vw.drew));rintro e w30 ⟨rfl,IU⟩;have xV:=I (up vw.drew IU);clear IU;rw[HTA])
        | (go_at_call_of 74 (vb);refine(HI _ vb sb ?_ hyb ?_).mono ?_;(exact DL.below (up HN xV));(exact HT.below (up HN xV));rintro e w31 ⟨rfl,IV⟩;have IQ:=I (up xV IV);clear IV;rw[HTB]))
      all_goals
       go_wp2_with fail;go_roundw;case rel=>exact⟨j+1,by omega,by go_num,jy (by rw[HST];simp[Gi,HTE.out,HTA.out,HTB.out]),up HN IQ⟩
       case measure=>simp[intOf];omega
     have k1':(k==1)=false:=by simp[k1]
     have k2':(k==2)=false:=by simp[k2]
     have k3':(k==3)=false:=by simp[k3]
     have k4':(k==4)=false:=by simp[k4]
     have HO:=I (show Gi (kP m) (wQ m) ⟨k,sn,se,sa,sb⟩ acc=acc by simp[Gi,k1,k2,k3,k4]);clear k1 k2 k3 k4;go_wp2_with fail;go_roundw;case rel=>exact⟨j+1,by omega,by go_num,jy (by rw[HST,HO]),HN⟩
     case measure=>simp[intOf];omega
   ·go_wp2_with fail;go_ret;have e:j=len:=by omega
    exact⟨Cv (by rw[HE,e]),hnx⟩
end Go.Proofs.YtbgkpehhdibaoaaGreatDoor
