/- part -/
import Derived.Test.YtbgkpehhdibaoaaGreatDoorMZAK
set_option maxHeartbeats 0
set_option maxRecDepth 99999
namespace Go.Proofs.YtbgkpehhdibaoaaGreatDoor
open bO
open Go.Proofs.Tryz
open Go.RowKit
namespace bO
def CV(acc s:ByteArray):ByteArray:=acc++((⟨#[32,40,105,109,112,111,114,116,32]⟩:ByteArray)++s++(⟨#[41]⟩:ByteArray))
def U2(acc:ByteArray)(v:Va):ByteArray:=acc++((⟨#[32,40,118,97,114,32]⟩:ByteArray)++v.name++(⟨#[32]⟩:ByteArray)++v.level++(⟨#[41]⟩:ByteArray))
def qK(l:List ByteArray)(acc:ByteArray):Nat->ByteArray
 | 0=>acc
 | j+1=>(if 0<j then qK l acc j++(⟨#[32]⟩:ByteArray)else qK l acc j)++l.getD j ByteArray.empty
def fuH(acc:ByteArray)(f:Fu):ByteArray:=acc++((⟨#[32,40,102,117,110,32]⟩:ByteArray)++f.name++(⟨#[32,40]⟩:ByteArray))
def fuP(acc:ByteArray)(f:Fu):ByteArray:=qK f.params (fuH acc f) f.params.length++(⟨#[41]⟩:ByteArray)
def fuB(m:Nat)(acc:ByteArray)(f:Fu):ByteArray:=if 0<f.body.length then fuP acc f++((⟨#[32]⟩:ByteArray)++wQ m f.body)else fuP acc f
def Qf(m:Nat)(acc:ByteArray)(f:Fu):ByteArray:=fuB m acc f++((⟨#[32]⟩:ByteArray)++kP m f.result++(⟨#[41]⟩:ByteArray))
def moH(x:Mo):ByteArray:=(⟨#[40,109,111,100,117,108,101,32]⟩:ByteArray)++x.name
def XG(x:Mo):ByteArray:=x.imports.foldl CV (moH x)
def moV(x:Mo):ByteArray:=x.vars.foldl U2 (XG x)
def moF(m:Nat)(x:Mo):ByteArray:=x.bq.foldl (Qf m) (moV x)
def XJ(m:Nat)(x:Mo):ByteArray:=moF m x++(⟨#[41]⟩:ByteArray)
end bO
section
variable {α : Type} {f : ByteArray → α → ByteArray} {wt : α → Nat}
theorem wB{l:List α}{j:Nat}{y:α}(h:l[j]?=some y)(acc:ByteArray):(l.take (j+1)).foldl f acc=f ((l.take j).foldl f acc) y:=by obtain⟨hj,rfl⟩:=dz.1 h;rw[kR hj,IC];rfl
theorem Mq(l:List α)(j:Nat):((l.take j).map wt).sum<=(l.map wt).sum:=by
 conv=>rhs;rw[<-mE j l]
 rw[fH,kU];omega
theorem Je{l:List α}(h:∀(i:Nat) (y:α),l[i]?=some y->∀acc,(f acc y).size<=acc.size+12*wt y)(acc:ByteArray):
 ∀j,j<=l.length->((l.take j).foldl f acc).size<=acc.size+12*((l.take j).map wt).sum
 | 0,_=>by simp
 | j+1,hj=>by
  have ih:=Je h acc j aV;obtain⟨y,hy⟩:∃y,l[j]?=some y:=⟨_,bg aV⟩;rw[wB hy];have h1:=h j y hy ((l.take j).foldl f acc);have h2:((l.take (j+1)).map wt).sum=((l.take j).map wt).sum+wt y:=by obtain⟨hj',rfl⟩:=dz.1 hy;rw[kR hj',fH,kU];simp
  omega
theorem mP{l:List α}(h:∀(i:Nat) (y:α),l[i]?=some y->∀acc,(f acc y).size<=acc.size+12*wt y)(acc:ByteArray)(j:Nat)(hj:j<=l.length):((l.take j).foldl f acc).size<=acc.size+12*(l.map wt).sum:=by have h1:=Je h acc j hj;have h2:=Mq (wt:=wt) l j;omega
end
variable{m n j:Nat}
theorem Er(acc s:ByteArray):(CV acc s).size<=acc.size+12*(s.size+1):=by unfold CV;simp only[nH];show acc.size+(9+s.size+1)<=_;omega
theorem Jf(acc:ByteArray)(s:Va):(U2 acc s).size<=acc.size+12*(s.name.size+s.level.size+3):=by unfold U2;simp only[nH];show acc.size+(6+s.name.size+1+s.level.size+1)<=_;omega
theorem Mr(l:List ByteArray)(j:Nat):(l.getD j ByteArray.empty).size<=(l.map λs=>s.size+1).sum:=by
 by_cases h:j<l.length
 ·have e:l.getD j ByteArray.empty=l[j]:=by simp[h]
  rw[e];have:=jY (f:=λs:ByteArray=>s.size+1) (jS h);omega
 ·have e:l.getD j ByteArray.empty=ByteArray.empty:=by simp[List.getD,L6 (Nat.le_of_not_lt h)]
  rw[e];exact bI _
theorem Jg(l:List ByteArray)(acc:ByteArray):∀j,j<=l.length->(qK l acc j).size<=acc.size+((l.take j).map λs=>s.size+1).sum
 | 0,_=>by simp[qK]
 | j+1,hj=>by
  have ih:=Jg l acc j aV;have h2:((l.take (j+1)).map λs=>s.size+1).sum=((l.take j).map λs=>s.size+1).sum+((l.getD j ByteArray.empty).size+1):=by rw[kR aV,fH,kU];simp[show j<l.length by omega]
  have e1:(⟨#[32]⟩:ByteArray).size=1:=rfl;simp only[qK];split<;>simp only[nH,e1]<;>omega
theorem Ms(l:List ByteArray)(acc:ByteArray)(j:Nat)(hj:j<=l.length):(qK l acc j).size<=acc.size+(l.map λs=>s.size+1).sum:=by have h1:=Jg l acc j hj;have h2:=Mq (wt:=λs:ByteArray=>s.size+1) l j;omega
def fuW(m:Nat)(s:Fu):Nat:=s.name.size+2+iI s.params+dQ m s.body+iO m s.result
theorem G7(m:Nat)(l:List Fu):vT m l=(l.map (fuW m)).sum+1:=rfl
theorem Rv(acc:ByteArray)(f:Fu):(fuH acc f).size=acc.size+(f.name.size+8):=by unfold fuH;simp only[nH];show acc.size+(6+f.name.size+2)=_;omega
theorem fuP_size(acc:ByteArray)(f:Fu):(fuP acc f).size<=acc.size+(f.name.size+8+iI f.params):=by unfold fuP;have h:=Ms f.params (fuH acc f) f.params.length (bF _);rw[Rv]at h;rw[nH];show _+1<=_;unfold iI;omega
theorem Rw{w:World}{f:Fu}{vb e0 e1 e2 e3:Value}(hb:eU w m vb f.body)(hx:gQ w m e0 e1 e2 e3 f.result)(acc:ByteArray):(Qf m acc f).size<=acc.size+12*fuW m f:=by have h1:=fuP_size acc f;obtain⟨h2,h3⟩:=eD (qg hb) (qc hx);have e1:(⟨#[32]⟩:ByteArray).size=1:=rfl;have e2:(⟨#[41]⟩:ByteArray).size=1:=rfl;unfold Qf fuB fuW;split<;>simp only[nH,e1,e2]<;>omega
theorem Jh(x:Mo):(moH x).size=8+x.name.size:=by unfold moH;rw[nH];rfl
theorem boxM0(w:World)(c0 c1 c2 c3:Value)(t:TypeId):(w.alloc (.cells #[c0,c1,c2,c3] t)).cell? (X w.heap.size 0)=some c0:=by simp[go_sem]
theorem boxM1(w:World)(c0 c1 c2 c3:Value)(t:TypeId):(w.alloc (.cells #[c0,c1,c2,c3] t)).cell? (X w.heap.size 1)=some c1:=by simp[go_sem]
theorem boxM2(w:World)(c0 c1 c2 c3:Value)(t:TypeId):(w.alloc (.cells #[c0,c1,c2,c3] t)).cell? (X w.heap.size 2)=some c2:=by simp[go_sem]
theorem boxM3(w:World)(c0 c1 c2 c3:Value)(t:TypeId):(w.alloc (.cells #[c0,c1,c2,c3] t)).cell? (X w.heap.size 3)=some c3:=by simp[go_sem]
theorem boxF0(w:World)(c0 c1 c2 c3 c4 c5 c6:Value)(t:TypeId):(w.alloc (.cells #[c0,c1,c2,c3,c4,c5,c6] t)).cell? (X w.heap.size 0)=some c0:=by simp[go_sem]
theorem boxF1(w:World)(c0 c1 c2 c3 c4 c5 c6:Value)(t:TypeId):(w.alloc (.cells #[c0,c1,c2,c3,c4,c5,c6] t)).cell? (X w.heap.size 1)=some c1:=by simp[go_sem]
theorem boxF2(w:World)(c0 c1 c2 c3 c4 c5 c6:Value)(t:TypeId):(w.alloc (.cells #[c0,c1,c2,c3,c4,c5,c6] t)).cell? (X w.heap.size 2)=some c2:=by simp[go_sem]
theorem boxF3(w:World)(c0 c1 c2 c3 c4 c5 c6:Value)(t:TypeId):(w.alloc (.cells #[c0,c1,c2,c3,c4,c5,c6] t)).cell? (X w.heap.size 3)=some c3:=by simp[go_sem]
theorem boxF4(w:World)(c0 c1 c2 c3 c4 c5 c6:Value)(t:TypeId):(w.alloc (.cells #[c0,c1,c2,c3,c4,c5,c6] t)).cell? (X w.heap.size 4)=some c4:=by simp[go_sem]
theorem boxF5(w:World)(c0 c1 c2 c3 c4 c5 c6:Value)(t:TypeId):(w.alloc (.cells #[c0,c1,c2,c3,c4,c5,c6] t)).cell? (X w.heap.size 5)=some c5:=by simp[go_sem]
theorem boxF6(w:World)(c0 c1 c2 c3 c4 c5 c6:Value)(t:TypeId):(w.alloc (.cells #[c0,c1,c2,c3,c4,c5,c6] t)).cell? (X w.heap.size 6)=some c6:=by simp[go_sem]
theorem Ji(l:List ByteArray)(acc:ByteArray)(j:Nat):qK l acc (j+1)=(if 0<j then qK l acc j++(⟨#[32]⟩:ByteArray)else qK l acc j)++l.getD j ByteArray.empty:=rfl
theorem Jj{α:Type}{f:ByteArray->α->ByteArray}{l:List α}{acc:ByteArray}(h:n=l.length)(e:j=n):(l.take j).foldl f acc=l.foldl f acc:=by rw[fJ aV]
theorem text_any(m:Nat)(w:World)(v:Value)(x:Mo)(h:gT w m v x)(hw:qx m x<=1048576)(ht:Tab w):Calls prog 45 #[v] w λe w'=>e=cO (A (XJ m x))/\bG w w':=by
 obtain⟨vi,vv,vf,rfl,hnm,hI,hV,hF⟩:=h;have Zr:x.name.size+2+iI x.imports+zF x.vars+vT m x.bq<=1048576:=hw;clear hw;have hnz:x.name.size<=1048576:=by omega
 have HI1:Hid (∀j,j<=x.imports.length->((x.imports.take j).foldl CV (moH x)).size<=12582920):=I (λj hj=>by have:=mP (f:=CV) (wt:=λs:ByteArray=>s.size+1) (l:=x.imports) (λi y _ acc=>Er acc y) (moH x) j hj;rw[Jh]at this;unfold iI at Zr;omega);have HI2:Hid (∀j,(x.imports.getD j ByteArray.empty).size<=1048576):=I (λj=>by have:=Mr x.imports j;unfold iI at Zr;omega);have hIs:(XG x).size<=8+x.name.size+12*iI x.imports:=by have:=mP (f:=CV) (wt:=λs:ByteArray=>s.size+1) (l:=x.imports) (λi y _ acc=>Er acc y) (moH x) x.imports.length (bF _);rw[Jh,iL]at this;unfold iI XG;omega
 have HV1:Hid (∀j,j<=x.vars.length->((x.vars.take j).foldl U2 (XG x)).size<=12582920):=I (λj hj=>by have:=mP (f:=U2) (wt:=λs:Va=>s.name.size+s.level.size+3) (l:=x.vars) (λi y _ acc=>Jf acc y) (XG x) j hj;unfold zF at Zr;omega);have HV2:Hid (∀(j:Nat) (y:Va),x.vars[j]?=some y->y.name.size<=1048576/\y.level.size<=1048576):=I (λj y hy=>by have:=jY (f:=λs:Va=>s.name.size+s.level.size+3) (dN hy);unfold zF at Zr;omega);have hVs:(moV x).size<=8+x.name.size+12*iI x.imports+12*zF x.vars:=by have:=mP (f:=U2) (wt:=λs:Va=>s.name.size+s.level.size+3) (l:=x.vars) (λi y _ acc=>Jf acc y) (XG x) x.vars.length (bF _);rw[iL]at this;have e:(x.vars.foldl U2 (XG x))=moV x:=rfl;rw[e]at this;unfold zF;omega
 have HF2:Hid (∀(j:Nat) (y:Fu),x.bq[j]?=some y->fuW m y<=1048576):=I (λj y hy=>by have:=jY (f:=fuW m) (dN hy);rw[G7]at Zr;omega);have HF1:Hid (∀j,j<=x.bq.length->((x.bq.take j).foldl (Qf m) (moV x)).size<=12582920):=I (λj hj=>by obtain⟨a,b,off,cap,_,_,_,h9⟩:=hF;have:=mP (f:=Qf m) (wt:=fuW m) (l:=x.bq) (λi y hy acc=>by obtain⟨_,vp,vb,e0,e1,e2,e3,_,_,_,_,_,_,_,_,hsb,hx⟩:=h9 i y hy;exact Rw hsb hx acc) (moV x) j hj;rw[G7]at Zr;omega);clear hIs hVs Zr;obtain⟨ai,bi,oi,ci,rfl,hai,NI,_,hci⟩:=hI;obtain⟨av,bv,ov,cv,rfl,Ub,hlv,hcv⟩:=hV;obtain⟨af,bf,of,cf,rfl,KF,hlf,hcf⟩:=hF;have HT:=I ht;obtain⟨xn,xi,xv,xf⟩:=x;simp only at hnm hnz hai NI hci Ub hlv hcv KF hlf hcf HI1 HI2 HV1 HV2 HF1 HF2 ⊢;have HE:Hid (XJ m ⟨xn,xi,xv,xf⟩=xf.foldl (Qf m) (moV ⟨xn,xi,xv,xf⟩)++(⟨#[41]⟩:ByteArray)):=rfl;have HVE:Hid (moV ⟨xn,xi,xv,xf⟩=xv.foldl U2 (XG ⟨xn,xi,xv,xf⟩)):=rfl;have HIE:Hid (XG ⟨xn,xi,xv,xf⟩=xi.foldl CV (moH ⟨xn,xi,xv,xf⟩)):=rfl;have HHE:Hid (moH ⟨xn,xi,xv,xf⟩=(⟨#[40,109,111,100,117,108,101,32]⟩:ByteArray)++xn):=rfl;generalize XJ m ⟨xn,xi,xv,xf⟩=XT at *;generalize moV ⟨xn,xi,xv,xf⟩=XV at *;generalize XG ⟨xn,xi,xv,xf⟩=XI at *;generalize moH ⟨xn,xi,xv,xf⟩=XH at *;obtain⟨HAI,Uc,KG,HCI,HCV,Oe⟩:=vC hai Ub KF hci hcv hcf;obtain⟨ni,hni⟩:=bC xi.length;obtain⟨nv,xg⟩:=bC xv.length;obtain⟨nf,hnf⟩:=bC xf.length;obtain⟨DR,Mg,uH⟩:=fq hni xg hnf;rw[<-hni,<-xg,<-hnf];rw[<-hni]at NI HAI HCI HI1;rw[<-xg]at hlv Uc HV1;rw[<-hnf]at hlf KG HF1;clear hai Ub KF hci hcv hcf hni xg hnf ht;have HB0:=I (aH w (aY #[A xn,Y ai ni ci,Y av nv cv,Y af nf cf] 58));obtain⟨q1,q2,q3⟩:=lQ (boxM1 w (A xn) (Y ai ni ci) (Y av nv cv) (Y af nf cf) 58) (boxM2 w (A xn) (Y ai ni ci) (Y av nv cv) (Y af nf cf) 58) (boxM3 w (A xn) (Y ai ni ci) (Y av nv cv) (Y af nf cf) 58);go_enter func45,ntmps45;go_wp2_with fail;rw[<-HHE];generalize w.alloc (aY #[A xn,Y ai ni ci,Y av nv cv,Y af nf cf] 58)=W0 at *;clear hnm hnz;go_loopw[3,4] (λo i wr=>∃j:Nat,j<=ni/\i=O j/\o=A ((xi.take j).foldl CV XH)/\bG W0 wr) (λ_ i _=>ni - (intOf i).toNat);case atStart=>exact⟨0,bI _,rfl,rfl,bN _ _⟩
 case round=>
  obtain⟨j,hj,rfl,rfl,hnx⟩:=hrel;have t1:=aC q1 hnx;by_cases hjl:j<ni
  ·have hacc:=HI1 j hj;obtain⟨hs,hc⟩:=eD (HI2 j) (aC (HCI j hjl) (up HB0 hnx));have hgd:xi[j]?=some (xi.getD j ByteArray.empty):=by
    have:j<xi.length:=by have:=DR.out;omega
    simp[this]
   have HST:=I (wB (f:=CV) hgd XH);obtain rfl:=HAI aV;generalize xi.getD j ByteArray.empty=s at *;generalize (xi.take j).foldl CV XH=acc at *;clear hgd q1 q2 q3;have dM:=I hnx;clear hnx;go_wp2_with fail;go_roundw;case rel=>exact⟨j+1,by omega,by go_num,jy (by rw[HST];rfl),dM⟩
   case measure=>simp[intOf];omega
  ·have hjn:j=ni:=by omega
   clear hj;go_wp2_with fail;rw[Jj DR hjn,<-HIE];clear q1 t1 hjl hjn;have HB1:=I (up HB0 hnx);replace q2:=aC q2 hnx;replace q3:=aC q3 hnx;clear hnx;go_loopw[3,5] (λo i wy=>∃k:Nat,k<=nv/\i=O k/\o=A ((xv.take k).foldl U2 XI)/\bG wr wy) (λ_ i _=>nv - (intOf i).toNat);case atStart=>exact⟨0,bI _,rfl,rfl,bN _ _⟩
   case round=>
    obtain⟨k,hk,rfl,rfl,hnx⟩:=hrel;have t2:=aC q2 hnx;by_cases hkl:k<nv
    ·obtain⟨y,hy⟩:∃y,xv[k]?=some y:=⟨_,bg (by rw[<-Mg];exact hkl)⟩;have hacc:=HV1 k hk;obtain⟨hs1,hs2⟩:=HV2 k y hy;obtain⟨_,_,g0,g1⟩:=HCV k y hy;have HST:=I (wB (f:=U2) hy XI);obtain rfl:=Uc aV;obtain⟨yn,yl⟩:=y;simp only at hs1 hs2 g0 g1;obtain⟨u0,u1⟩:=eD (aC g0 (up HB1 hnx)) (aC g1 (up HB1 hnx));generalize (xv.take k).foldl U2 XI=acc at *;have dM:=I hnx;have b1:(0:Int)<=(k:Int):=by omega
     have b2:(k:Int)<(nv:Int):=by omega
     have c1:¬(9223372036854775807<6+yn.size):=by omega
     have c2:¬(9223372036854775807<6+yn.size+1):=by omega
     have c3:¬(9223372036854775807<6+yn.size+1+yl.size):=by omega
     have c4:¬(9223372036854775807<6+yn.size+1+yl.size+1):=by omega
     have c5:¬(9223372036854775807<acc.size+(6+yn.size+1+yl.size+1)):=by omega
     clear hy g0 g1 hnx q2 q3;go_wp2_with fail;go_quiet (fail);go_wp2_with fail;go_roundw;case rel=>exact⟨k+1,by omega,by go_num,jy (by rw[HST.out];rfl),jJ dM.out _⟩
     case measure=>simp[intOf];omega
    ·have hkn:k=nv:=by omega
     clear hk;go_wp2_with fail;rw[Jj Mg hkn,<-HVE];clear q2 t2 hkl hkn;have HB2:=I (up HB1 hnx);replace q3:=aC q3 hnx;clear hnx;go_loopw[3,6] (λo i wz=>∃k:Nat,k<=nf/\i=O k/\o=A ((xf.take k).foldl (Qf m) XV)/\bG wr wz) (λ_ i _=>nf - (intOf i).toNat);case atStart=>exact⟨0,bI _,rfl,rfl,bN _ _⟩
     case round=>
      obtain⟨i,hi,rfl,rfl,hnx⟩:=hrel;obtain⟨t3,hacc⟩:=eD (aC q3 hnx) (HF1 i hi);by_cases hil:i<nf
      ·obtain⟨y,hy⟩:∃y,xf[i]?=some y:=⟨_,bg (by rw[<-uH];exact hil)⟩;have hfw:=HF2 i y hy;obtain⟨_,vp,vb,e0,e1,e2,e3,g0,g1,g2,g3,g4,g5,g6,hp,hsb,hx⟩:=Oe i y hy;have HST:=I (wB (f:=Qf m) hy XV);obtain rfl:=KG aV;obtain⟨s1,s2,hps,hpd⟩:=rG (qg hsb) (qc hx) (Ms y.params (fuH ((xf.take i).foldl (Qf m) XV) y)) (Mr y.params);rw[Rv]at hps;obtain⟨yn,yp,yb,yr⟩:=y;simp only at g0 hp hsb hx s1 s2 hps hpd;have hfw':yn.size+2+((yp.map λs=>s.size+1).sum+1)+dQ m yb+iO m yr<=1048576:=hfw;clear hfw;generalize (xf.take i).foldl (Qf m) XV=acc at *;generalize (yp.map λs=>s.size+1).sum=pw at *;have hn:yn.size<=1048576:=by omega
       have hyb:dQ m yb<=1048576:=by omega
       have hyr:iO m yr<=1048576:=by omega
       have s1':(wQ m yb).size<=6291456:=by omega
       have s2':(kP m yr).size<=6291456:=by omega
       have wu:Hid (∀j,j<=yp.length->(qK yp (fuH acc ⟨yn,yp,yb,yr⟩) j).size<=25165824):=I (λj hj=>by have:=hps j hj;omega);have HPD:Hid (∀j,(yp.getD j ByteArray.empty).size<=1048576):=I (λj=>by have:=hpd j;omega);have HFT:Hid (Qf m acc ⟨yn,yp,yb,yr⟩=(if 0<yb.length then fuP acc ⟨yn,yp,yb,yr⟩++((⟨#[32]⟩:ByteArray)++wQ m yb)else fuP acc ⟨yn,yp,yb,yr⟩)++((⟨#[32]⟩:ByteArray)++kP m yr++(⟨#[41]⟩:ByteArray))):=rfl;have HFP:Hid (fuP acc ⟨yn,yp,yb,yr⟩=qK yp (fuH acc ⟨yn,yp,yb,yr⟩) yp.length++(⟨#[41]⟩:ByteArray)):=rfl;have HFH:Hid (fuH acc ⟨yn,yp,yb,yr⟩=acc++((⟨#[32,40,102,117,110,32]⟩:ByteArray)++yn++(⟨#[32,40]⟩:ByteArray))):=rfl;generalize Qf m acc ⟨yn,yp,yb,yr⟩=FT at *;generalize fuP acc ⟨yn,yp,yb,yr⟩=FP at *;generalize fuH acc ⟨yn,yp,yb,yr⟩=FH at *;obtain⟨ap,bp,op,cp,rfl,hap,hlp,_,hcp⟩:=hp;obtain⟨DL,HX⟩:=bT hsb hx;obtain⟨ab,cb,rfl,hlb⟩:=hsb.shape;obtain⟨xa,xc,rfl,rfl,rfl,rfl⟩:=hx.shape;obtain⟨Mt,Ue⟩:=bT hap hcp;obtain⟨np,hnp⟩:=bC yp.length;obtain⟨nb,hnb⟩:=bC yb.length;obtain⟨FQ,HNB⟩:=bT hnp hnb;rw[<-hnp]at g1 hlp Mt Ue wu HFP;rw[<-hnb]at g2 hlb DL HFT;have hbb:=up HB2 hnx;obtain⟨dM,rA⟩:=bT hnx hbb;obtain⟨u0,u1,u2,u3,u4,u5,u6⟩:=Iz (aC g0 hbb) (aC g1 hbb) (aC g2 hbb) (aC g3 hbb) (aC g4 hbb) (aC g5 hbb) (aC g6 hbb);clear hps hpd hap hcp hsb hx hnp hnb hy hfw' s1 s2 g0 g1 g2 g3 g4 g5 g6 hbb hnx q3;have HB3:=I (aH wr (aY #[A yn,Y ap np cp,Y ab nb cb,O yr.kind,O yr.n,A yr.name,Y xa yr.args.length xc] 109));obtain⟨r1,r2,r3,r4⟩:=rG (boxF1 wr (A yn) (Y ap np cp) (Y ab nb cb) (O yr.kind) (O yr.n) (A yr.name) (Y xa yr.args.length xc) 109) (boxF2 wr (A yn) (Y ap np cp) (Y ab nb cb) (O yr.kind) (O yr.n) (A yr.name) (Y xa yr.args.length xc) 109) (boxF3 wr (A yn) (Y ap np cp) (Y ab nb cb) (O yr.kind) (O yr.n) (A yr.name) (Y xa yr.args.length xc) 109) (boxF4 wr (A yn) (Y ap np cp) (Y ab nb cb) (O yr.kind) (O yr.n) (A yr.name) (Y xa yr.args.length xc) 109);obtain⟨r5,r6⟩:=eD (boxF5 wr (A yn) (Y ap np cp) (Y ab nb cb) (O yr.kind) (O yr.n) (A yr.name) (Y xa yr.args.length xc) 109) (boxF6 wr (A yn) (Y ap np cp) (Y ab nb cb) (O yr.kind) (O yr.n) (A yr.name) (Y xa yr.args.length xc) 109);go_wp2_with fail;rw[<-HFH];generalize wr.alloc (aY #[A yn,Y ap np cp,Y ab nb cb,O yr.kind,O yr.n,A yr.name,Y xa yr.args.length xc] 109)=W3 at *;clear u0 u1 u2 u3 u4 u5 u6;go_loopw[3,8] (λo i wp=>∃k:Nat,k<=np/\i=O k/\o=A (qK yp FH k)/\bG W3 wp) (λ_ i _=>np - (intOf i).toNat);case atStart=>exact⟨0,bI _,rfl,rfl,bN _ _⟩
       case round=>
        obtain⟨d,hd,rfl,rfl,hnx⟩:=hrel;obtain⟨t1,hpa⟩:=eD (aC r1 hnx) (wu d hd);by_cases hdl:d<np
        ·have hs:=HPD d;have hc:=aC (Ue d hdl) (up (up rA HB3) hnx);obtain rfl:=Mt aV;have HPT:=I (Ji yp FH d);generalize yp.getD d ByteArray.empty=s at *;generalize qK yp FH d=pa at *;have qX:=I hnx;clear r1 r2 r3 r4 r5 r6 hnx t3;by_cases hd0:0<d
         ·rw[aL hd0]at HPT;go_wp2_with fail;go_roundw;case rel=>exact⟨d+1,by omega,by go_num,jy (by rw[HPT]),qX⟩
          case measure=>simp[intOf];omega
         ·rw[aJ hd0]at HPT;go_wp2_with fail;go_roundw;case rel=>exact⟨d+1,by omega,by go_num,jy (by rw[HPT]),qX⟩
          case measure=>simp[intOf];omega
        ·have hdn:d=np:=by omega
         subst hdn;replace r2:=aC r2 hnx;replace r3:=aC r3 hnx;replace r4:=aC r4 hnx;replace r5:=aC r5 hnx;replace r6:=aC r6 hnx;have qX:=I hnx;clear r1 hnx t3;have hfp:FP.size<=25165825:=by rw[HFP,nH];show _+1<=_;omega
         by_cases hb0:0<nb
         ·rw[aL hb0]at HFT;go_wp2_with fail;rw[<-HFP];refine(NZ m _ _ yb (DL.below (up (up rA HB3) qX)) hyb (HT.below (up (up rA HB3) qX))).mono ?_;rintro e w5 ⟨rfl,hb5⟩;have kG:=I (up qX hb5);replace r3:=aC r3 hb5;replace r4:=aC r4 hb5;replace r5:=aC r5 hb5;replace r6:=aC r6 hb5;clear r2 hb5;generalize wQ m yb=tb at *;go_wp2_with fail;refine(qQ m _ _ _ _ _ yr (HX.below (up (up rA HB3) kG)) hyr (HT.below (up (up rA HB3) kG))).mono ?_;rintro e w6 ⟨rfl,hb6⟩;have lI:=I (up kG hb6);clear hb6;generalize kP m yr=tx at *;go_wp2_with fail;go_roundw;case rel=>exact⟨i+1,by omega,by go_num,jy (by rw[HST,HFT]),up dM (up HB3 lI)⟩
          case measure=>simp[intOf];omega
         ·rw[aJ hb0]at HFT;go_wp2_with fail;rw[<-HFP];refine(qQ m _ _ _ _ _ yr (HX.below (up (up rA HB3) qX)) hyr (HT.below (up (up rA HB3) qX))).mono ?_;rintro e w6 ⟨rfl,hb6⟩;have lI:=I (up qX hb6);clear hb6;generalize kP m yr=tx at *;go_wp2_with fail;go_roundw;case rel=>exact⟨i+1,by omega,by go_num,jy (by rw[HST,HFT]),up dM (up HB3 lI)⟩
          case measure=>simp[intOf];omega
      ·have XK:=I (Jj (f:=Qf m) (acc:=XV) uH (show i=nf by omega));generalize (xf.take i).foldl (Qf m) XV=acc at *;go_wp2_with fail;go_ret;exact⟨Cv (by rw[HE,XK]),up HB2 hnx⟩
end Go.Proofs.YtbgkpehhdibaoaaGreatDoor
