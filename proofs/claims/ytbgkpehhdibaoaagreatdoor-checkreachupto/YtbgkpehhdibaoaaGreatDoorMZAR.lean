/- part -/
import Derived.Test.YtbgkpehhdibaoaaGreatDoorMZAO
import Derived.Test.YtbgkpehhdibaoaaGreatDoorMZAP
set_option maxHeartbeats 0
set_option maxRecDepth 99999
namespace Go.Proofs.YtbgkpehhdibaoaaGreatDoor
open bO Rn Sv
open Go.Proofs.Tryz
open Go.RowKit
variable{b:Bool}{k n m j:Nat}{t:aZ}
def l7{α:Type}(b:Bool)(p:α->Bool)(l:List α)(k:Nat):Bool:=b&&(l.take k).all p
theorem Bc{α:Type}(b:Bool)(p:α->Bool)(l:List α):l7 b p l 0=b:=by simp[l7]
theorem Bd{α:Type}{p:α->Bool}{l:List α}{y:α}(h:l[k]?=some y):l7 b p l (k+1)=(l7 b p l k&&p y):=by obtain⟨hj,rfl⟩:=dz.1 h;unfold l7;rw[kR hj,Qs];simp[Fg]
theorem Eu{α:Type}{p:α->Bool}{l:List α}(h:n=l.length)(e:k=n):l7 b p l k=(b&&l.all p):=by unfold l7;rw[fJ aV]
namespace bO
def fU(s:ByteArray):Bool:=dx s.data.toList
def KP(v:Va):Bool:=fU v.name&&fU v.level
def ZP(m:Nat)(f:Fu):Bool:=fU f.name&&iP m f.body&&fA m f.result&&f.params.all fU
def Jr(m:Nat)(f:Fu):Int:=if 4<f.params.length then 2 else if ZP m f then 0 else 5
def uj(m:Nat):List Fu->Int
 | []=>0
 | f::l=>if Jr m f=0 then uj m l else Jr m f
def step(b:UInt8):Int:=if b=40 then 1 else if b=41 then -1 else 0
def kW(t:ByteArray):Nat->Int
 | 0=>0
 | j+1=>kW t j+step (t.data.getD j 0)
def Ah(t:ByteArray):Bool:=(List.range t.size).any λj=>decide (20<kW t (j+1))
def oM(m:Nat)(x:Mo):Int:=
 if 8<x.imports.length\/8<x.vars.length\/8<x.bq.length then 2
 else if ((fU x.name&&x.imports.all fU)&&x.vars.all KP)=false then 5
 else if uj m x.bq≠0 then uj m x.bq
 else if Ah (XJ m x)then 2 else 0
end bO
theorem OD:∀{l:List Fu} {k:Nat} {y:Fu},(∀(d:Nat) (z:Fu),d<k->l[d]?=some z->Jr m z=0)->l[k]?=some y->Jr m y≠0->uj m l=Jr m y
 | [],k,y,_,h,_=>by simp at h
 | f::l,0,y,_,h,h0=>by simp only[List.getElem?_cons_zero,Bf]at h;subst h;simp only[uj];rw[aJ h0]
 | f::l,k+1,y,ha,h,h0=>by have:=ha 0 f aV rfl;simp only[uj];rw[aL this];exact OD (k:=k) (λd z hd hz=>ha (d+1) z aV (by simpa using hz)) (by simpa using h) h0
theorem Ev:∀{l:List Fu},(∀(d:Nat) (z:Fu),l[d]?=some z->Jr m z=0)->uj m l=0
 | [],_=>rfl
 | f::l,ha=>by simp only[uj];rw[aL (ha 0 f rfl)];exact Ev (λd z hz=>ha (d+1) z (by simpa using hz))
theorem MB(t:aZ):∀j:Nat,-(j:Int)<=kW t j/\kW t j<=j
 | 0=>⟨Int.le_refl _,Int.le_refl _⟩
 | j+1=>by
  have:=MB t j;simp only[kW,bO.step];split;·omega
  ·split<;>omega
theorem FX(t:aZ)(j:Nat)(h:j<t.size):kW t (j+1)=kW t j+bO.step t[j]:=by
 have e:t.data.getD j 0=t[j]:=by have:j<t.data.size:=h;unfold Array.getD;rw[dif_pos this];rfl
 simp only[kW,e]
theorem CX(hj:j<t.size)(h:20<kW t (j+1)):Ah t=true:=
 Q8.2 ⟨j,jG.2 hj,fQ h⟩
theorem MC(h:∀j,j<t.size->¬20<kW t (j+1)):Ah t=false:=by unfold Ah;rw[List.any_eq_false];intro j hj;simpa using h j (jG.1 hj)
theorem moT_size{w:World}{v:Value}{x:Mo}(h:gT w m v x)(hw:qx m x<=1048576):(XJ m x).size<=12582920:=by obtain⟨vi,vv,vf,rfl,hnm,hI,hV,hF⟩:=h;have Zr:x.name.size+2+iI x.imports+zF x.vars+vT m x.bq<=1048576:=hw;have h1:=mP (f:=CV) (wt:=λs:ByteArray=>s.size+1) (l:=x.imports) (λi y _ acc=>Er acc y) (moH x) x.imports.length (bF _);rw[Jh,iL]at h1;have h2:=mP (f:=U2) (wt:=λs:Va=>s.name.size+s.level.size+3) (l:=x.vars) (λi y _ acc=>Jf acc y) (XG x) x.vars.length (bF _);rw[iL]at h2;obtain⟨a,b,off,cap,_,_,_,h9⟩:=hF;have h3:=mP (f:=Qf m) (wt:=fuW m) (l:=x.bq) (λi y hy acc=>by obtain⟨_,vp,vb,e0,e1,e2,e3,_,_,_,_,_,_,_,_,hsb,hx⟩:=h9 i y hy;exact Rw hsb hx acc) (moV x) x.bq.length (bF _);rw[iL]at h3;have e1:x.imports.foldl CV (moH x)=XG x:=rfl;have e2:x.vars.foldl U2 (XG x)=moV x:=rfl;have e3:x.bq.foldl (Qf m) (moV x)=moF m x:=rfl;rw[e1]at h1;rw[e2]at h2;rw[e3]at h3;unfold XJ;rw[nH];show _+1<=_;rw[G7]at Zr;unfold iI zF at Zr;omega
theorem byteEq(a c:UInt8)(n:Int)(h:(c.toNat:Int)=n):((a.toNat:Int)==n)=(a==c):=by
 rw[qH];simp only[beq_iff_eq];constructor;·intro e;exact UInt8.toNat_inj.1 aV
 ·intro e;subst e;exact h
theorem step3(c:UInt8):(((c.toNat:Int)==40)=true/\((c.toNat:Int)==41)=false/\bO.step c=1)\/(((c.toNat:Int)==40)=false/\((c.toNat:Int)==41)=true/\bO.step c=-1)\/(((c.toNat:Int)==40)=false/\((c.toNat:Int)==41)=false/\bO.step c=0):=by
 rw[byteEq c 40 40 rfl,byteEq c 41 41 rfl];unfold bO.step;by_cases h:c=40;·subst h;exact aR ⟨rfl,rfl,rfl⟩
 ·by_cases h':c=41;·subst h';exact aT (aR ⟨rfl,rfl,rfl⟩)
  ·refine aT (aT ⟨by simp[h],by simp[h'],by simp[h,h']⟩)
theorem FY(m:Nat)(w:World)(v:Value)(x:Mo)(h:gT w m v x)(hw:qx m x<=1048576)(ht:Tab w):Calls prog 19 #[v] w λe w'=>e=cO (O (oM m x))/\bG w w':=by
 obtain⟨HM,HMW,HMS⟩:=fq h hw (moT_size h hw);obtain⟨vi,vv,vf,rfl,hnm,hI,hV,hF⟩:=h;clear hw;obtain⟨ai,bi,oi,ci,rfl,hai,NI,hsi,hci⟩:=hI;obtain⟨av,bv,ov,cv,rfl,Ub,hlv,hcv⟩:=hV;obtain⟨af,bf,of,cf,rfl,KF,hlf,hcf⟩:=hF;have HT:=I ht
 have HE:Hid (oM m x=if 8<x.imports.length\/8<x.vars.length\/8<x.bq.length then 2
  else if ((fU x.name&&x.imports.all fU)&&x.vars.all KP)=false then 5
  else if uj m x.bq≠0 then uj m x.bq
  else if Ah (XJ m x)then 2 else 0):=rfl
 generalize oM m x=XE at *;obtain⟨XT,hxt⟩:=bC (XJ m x);have HXT:=I hxt;rw[<-hxt]at HE HMS;have hms:=HMS.out;clear hxt;obtain⟨xn,xi,xv,xf⟩:=x;simp only at hnm hai NI hsi hci Ub hlv hcv KF hlf hcf HE HM ⊢;obtain⟨HSI,HAI,Uc,KG,HCI,HCV⟩:=vC hsi hai Ub KF hci hcv;have Oe:=I hcf;obtain⟨ni,hni⟩:=bC xi.length;obtain⟨nv,xg⟩:=bC xv.length;obtain⟨nf,hnf⟩:=bC xf.length;obtain⟨DR,Mg,uH⟩:=fq hni xg hnf;rw[<-hni,<-xg,<-hnf];rw[<-hni,<-xg,<-hnf]at HE HM;rw[<-hni]at NI HAI HCI;rw[<-xg]at hlv Uc;rw[<-hnf]at hlf KG;clear hai Ub KF hci hcv hcf hni xg hnf ht hsi;have HB0:=I (aH w (aY #[A xn,Y ai ni ci,Y av nv cv,Y af nf cf] 58));obtain⟨q0,q1,q2,q3⟩:=rG (boxM0 w (A xn) (Y ai ni ci) (Y av nv cv) (Y af nf cf) 58) (boxM1 w (A xn) (Y ai ni ci) (Y av nv cv) (Y af nf cf) 58) (boxM2 w (A xn) (Y ai ni ci) (Y av nv cv) (Y af nf cf) 58) (boxM3 w (A xn) (Y ai ni ci) (Y av nv cv) (Y af nf cf) 58);by_cases h8:8<ni\/8<nv\/8<nf
 ·rw[aL h8]at HE;by_cases i1:8<ni
  ·have i1':(8:Int)<(ni:Int):=by omega
   clear h8;go_enter func19,ntmps19;go_wp2_with fail;go_ret;exact⟨bQ HE.symm,HB0⟩
  ·have i1':¬(8:Int)<(ni:Int):=by omega
   by_cases i2:8<nv
   ·have i2':(8:Int)<(nv:Int):=by omega
    clear h8;go_enter func19,ntmps19;go_wp2_with fail;go_ret;exact⟨bQ HE.symm,HB0⟩
   ·have i2':¬(8:Int)<(nv:Int):=by omega
    have i3':(8:Int)<(nf:Int):=by omega
    clear h8;go_enter func19,ntmps19;go_wp2_with fail;go_ret;exact⟨bQ HE.symm,HB0⟩
 rw[aJ h8]at HE;have i1':¬(8:Int)<(ni:Int):=by omega
 have i2':¬(8:Int)<(nv:Int):=by omega
 have i3':¬(8:Int)<(nf:Int):=by omega
 clear h8;go_enter func19,ntmps19;go_wp2_with fail;refine(j6 _ xn hnm).mono ?_;rintro e w' ⟨rfl,hw'⟩;subst hw';have UE:=I (Bc (fU xn) fU xi);rw[show dx xn.data.toList=l7 (fU xn) fU xi 0 from UE.symm];clear hnm;go_wp2_with fail;generalize w.alloc (aY #[A xn,Y ai ni ci,Y av nv cv,Y af nf cf] 58)=W0 at *;go_loopw[3,4] (λo i wr=>∃j:Nat,j<=ni/\i=O j/\o=.bool (l7 (fU xn) fU xi j)/\bG W0 wr) (λ_ i _=>ni - (intOf i).toNat);case atStart=>exact⟨0,bI _,rfl,rfl,bN _ _⟩
 case round=>
  obtain⟨j,hj,rfl,rfl,hnx⟩:=hrel;have t1:=aC q1 hnx;by_cases hjl:j<ni
  ·have hc:=aC (HCI j hjl) (up HB0 hnx);have hgd:xi[j]?=some (xi.getD j ByteArray.empty):=by
    have:j<xi.length:=by have:=DR.out;omega
    simp[this]
   have HST:=I (Bd (b:=fU xn) (p:=fU) hgd);have hsz:=HSI _ (dN hgd);obtain rfl:=HAI aV;generalize xi.getD j ByteArray.empty=s at *;have dM:=I hnx;clear hgd q0 q1 q2 q3 hnx;cases hok:l7 (fU xn) fU xi j
   ·have wV:=I hok;go_wp2_with fail;go_roundw;case rel=>exact⟨j+1,by omega,by go_num,lT (by rw[HST,wV];rfl),dM⟩
    case measure=>simp[intOf];omega
   ·have wV:=I hok;go_wp2_with fail;refine(j6 _ s hsz).mono ?_;rintro e w' ⟨rfl,hw'⟩;subst hw';go_wp2_with fail;go_roundw;case rel=>exact⟨j+1,by omega,by go_num,lT (by rw[HST,wV];rfl),dM⟩
    case measure=>simp[intOf];omega
  ·have hjn:j=ni:=by omega
   clear hj;go_wp2_with fail;obtain⟨wV,UE⟩:=bT (Eu (b:=fU xn) (p:=fU) DR hjn) (Bc (fU xn&&xi.all fU) KP xv);rw[show l7 (fU xn) fU xi j=l7 (fU xn&&xi.all fU) KP xv 0 by rw[wV,UE]];clear t1 hjl hjn;have HB1:=I (up HB0 hnx);replace q0:=aC q0 hnx;replace q1:=aC q1 hnx;replace q2:=aC q2 hnx;replace q3:=aC q3 hnx;clear hnx;go_loopw[3,5] (λo i wy=>∃k:Nat,k<=nv/\i=O k/\o=.bool (l7 (fU xn&&xi.all fU) KP xv k)/\bG wr wy) (λ_ i _=>nv - (intOf i).toNat);case atStart=>exact⟨0,bI _,rfl,rfl,bN _ _⟩
   case round=>
    obtain⟨k,hk,rfl,rfl,hnx⟩:=hrel;have t2:=aC q2 hnx;by_cases hkl:k<nv
    ·obtain⟨y,hy⟩:∃y,xv[k]?=some y:=⟨_,bg (by rw[<-Mg];exact hkl)⟩;obtain⟨hs1,hs2,g0,g1⟩:=HCV k y hy;have HST:=I (Bd (b:=fU xn&&xi.all fU) (p:=KP) hy);obtain rfl:=Uc aV;obtain⟨yn,yl⟩:=y;simp only at hs1 hs2 g0 g1;have HVB:Hid (KP ⟨yn,yl⟩=(dx yn.data.toList&&dx yl.data.toList)):=rfl;have dM:=I hnx;obtain⟨u0,u1⟩:=eD (aC g0 (up HB1 hnx)) (aC g1 (up HB1 hnx));clear hy g0 g1 hnx q0 q1 q2 q3;cases hok:l7 (fU xn&&xi.all fU) KP xv k
     ·have wV:=I hok;go_wp2_with fail;go_roundw;case rel=>exact⟨k+1,by omega,by go_num,lT (by rw[HST,wV];rfl),dM⟩
      case measure=>simp[intOf];omega
     ·have wV:=I hok;go_wp2_with fail;refine(j6 _ yn hs1).mono ?_;rintro e w' ⟨rfl,hw'⟩;subst hw';cases hn1:dx yn.data.toList
      ·have IY:=I hn1;go_wp2_with fail;go_roundw;case rel=>exact⟨k+1,by omega,by go_num,lT (by rw[HST,wV,HVB,IY];rfl),dM⟩
       case measure=>simp[intOf];omega
      ·have IY:=I hn1;go_wp2_with fail;refine(j6 _ yl hs2).mono ?_;rintro e w' ⟨rfl,hw'⟩;subst hw';go_wp2_with fail;go_roundw;case rel=>exact⟨k+1,by omega,by go_num,lT (by rw[HST,wV,HVB,IY];rfl),dM⟩
       case measure=>simp[intOf];omega
    ·have hkn:k=nv:=by omega
     have wV:=I (Eu (b:=fU xn&&xi.all fU) (p:=KP) Mg hkn);clear hk hkn;generalize l7 (fU xn&&xi.all fU) KP xv k=ok at *;have HB2:=I (up HB1 hnx);replace q0:=aC q0 hnx;replace q1:=aC q1 hnx;replace q2:=aC q2 hnx;replace q3:=aC q3 hnx;clear hnx;cases ok;·have RG:Hid (XE=5):=I (by rw[HE,aL wV.out.symm]);go_wp2_with fail;go_ret;exact⟨bQ RG.symm,HB2⟩
     rw[aJ (by rw[<-wV];exact Bool.noConfusion)]at HE;go_wp2_with fail;clear t2 hkl;go_loopw[6] (λi wz=>∃k:Nat,k<=nf/\i=O k/\(∀(d:Nat) (z:Fu),d<k->xf[d]?=some z->Jr m z=0)/\bG wr wz) (λi _=>nf - (intOf i).toNat);case atStart=>exact⟨0,bI _,rfl,λd z hd=>aN hd (fK _),bN _ _⟩
     case round=>
      obtain⟨i,hi,rfl,hall,hnx⟩:=hrel;have dU:=I hall;clear hall;have t3:=aC q3 hnx;by_cases hil:i<nf
      ·obtain⟨y,hy⟩:∃y,xf[i]?=some y:=⟨_,bg (by rw[<-uH];exact hil)⟩;obtain⟨hnm,vp,vb,e0,e1,e2,e3,g0,g1,g2,g3,g4,g5,g6,hp,hsb,hx⟩:=Oe i y hy;obtain rfl:=KG aV;have HBAD:Hid (Jr m y≠0->XE=Jr m y):=I (λh=>by have e:=OD (m:=m) dU hy h;rw[HE,e,aL h]);have HGOOD:Hid (Jr m y=0->∀(d:Nat) (z:Fu),d<i+1->xf[d]?=some z->Jr m z=0):=I (λh d z hd hz=>by
        by_cases e:d=i;·subst e;rw[hy]at hz;cases hz;exact h
        ·exact dU d z aV hz)
       obtain⟨yn,yp,yb,yr⟩:=y;simp only at g0 hp hsb hx hnm;have uO:Hid (Jr m ⟨yn,yp,yb,yr⟩=if 4<yp.length then 2 else if (fU yn&&iP m yb&&fA m yr&&yp.all fU)then 0 else 5):=rfl;generalize Jr m ⟨yn,yp,yb,yr⟩=FE at *;obtain⟨ap,bp,op,cp,rfl,hap,hlp,hsp,hcp⟩:=hp;obtain⟨HSP,DL,HX⟩:=fq hsp hsb hx;obtain⟨ab,cb,rfl,hlb⟩:=hsb.shape;obtain⟨xa,xc,rfl,rfl,rfl,rfl⟩:=hx.shape;obtain⟨Mt,Ue⟩:=bT hap hcp;obtain⟨np,hnp⟩:=bC yp.length;obtain⟨nb,hnb⟩:=bC yb.length;obtain⟨FQ,HNB⟩:=bT hnp hnb;rw[<-hnp]at g1 hlp Mt Ue uO;rw[<-hnb]at g2 hlb DL;have hbb:=up HB2 hnx;obtain⟨dM,rA⟩:=bT hnx hbb;obtain⟨u0,u1,u2,u3,u4,u5,u6⟩:=Iz (aC g0 hbb) (aC g1 hbb) (aC g2 hbb) (aC g3 hbb) (aC g4 hbb) (aC g5 hbb) (aC g6 hbb);clear hap hcp hsp hsb hx hnp hnb hy g0 g1 g2 g3 g4 g5 g6 hbb hnx q0 q1 q2 q3;have HB3:=I (aH wr (aY #[A yn,Y ap np cp,Y ab nb cb,O yr.kind,O yr.n,A yr.name,Y xa yr.args.length xc] 109));obtain⟨r0,r1,r2,r3,r4,r5,r6⟩:=Iz (boxF0 wr (A yn) (Y ap np cp) (Y ab nb cb) (O yr.kind) (O yr.n) (A yr.name) (Y xa yr.args.length xc) 109) (boxF1 wr (A yn) (Y ap np cp) (Y ab nb cb) (O yr.kind) (O yr.n) (A yr.name) (Y xa yr.args.length xc) 109) (boxF2 wr (A yn) (Y ap np cp) (Y ab nb cb) (O yr.kind) (O yr.n) (A yr.name) (Y xa yr.args.length xc) 109) (boxF3 wr (A yn) (Y ap np cp) (Y ab nb cb) (O yr.kind) (O yr.n) (A yr.name) (Y xa yr.args.length xc) 109) (boxF4 wr (A yn) (Y ap np cp) (Y ab nb cb) (O yr.kind) (O yr.n) (A yr.name) (Y xa yr.args.length xc) 109) (boxF5 wr (A yn) (Y ap np cp) (Y ab nb cb) (O yr.kind) (O yr.n) (A yr.name) (Y xa yr.args.length xc) 109) (boxF6 wr (A yn) (Y ap np cp) (Y ab nb cb) (O yr.kind) (O yr.n) (A yr.name) (Y xa yr.args.length xc) 109);by_cases hp4:4<np
       ·have hp4':(4:Int)<(np:Int):=by omega
        rw[aL hp4]at uO;have HXE:=I ((HBAD (by rw[uO];decide)).trans uO);clear hp4;go_wp2_with fail;go_ret;exact⟨bQ HXE.symm,up rA HB3⟩
       have hp4':¬(4:Int)<(np:Int):=by omega
       rw[aJ hp4]at uO;clear hp4;go_wp2_with fail;generalize wr.alloc (aY #[A yn,Y ap np cp,Y ab nb cb,O yr.kind,O yr.n,A yr.name,Y xa yr.args.length xc] 109)=W3 at *;clear u0 u1 u2 u3 u4 u5 u6;refine(j6 _ yn hnm).mono ?_;rintro e w' ⟨rfl,hw'⟩;rw[hw'];clear hw' w';have HB:Hid ((fU yn&&iP m yb&&fA m yr)=(dx yn.data.toList&&iP m yb&&fA m yr)):=rfl;generalize (fU yn&&iP m yb&&fA m yr)=B at *;have HZ:=I (Bc B fU yp);cases hn1:dx yn.data.toList;case' false =>have HB':Hid (false=l7 B fU yp 0):=I (by rw[HZ,HB,hn1];rfl);have HQ:=I (bN W3.heap.size W3);go_wp2_with fail
       case' true=>
        go_wp2_with fail;refine(body_any m _ _ yb (DL.below (up rA HB3))).mono ?_;rintro e w5 ⟨rfl,hb5⟩;have kG:=I hb5;obtain⟨t3,t4,t5,t6⟩:=rG (aC r3 hb5) (aC r4 hb5) (aC r5 hb5) (aC r6 hb5);clear hb5;cases hn2:iP m yb;case' false =>have HB':Hid (false=l7 B fU yp 0):=I (by rw[HZ,HB,hn1,hn2];rfl);have HQ:=kG;go_wp2_with fail
        case' true =>go_wp2_with fail;refine(xE m _ _ _ _ _ yr (HX.below (up (up rA HB3) kG))).mono ?_;rintro e w6 ⟨rfl,hb6⟩;have HQ:=I (up kG hb6);have HB':Hid (fA m yr=l7 B fU yp 0):=I (by rw[HZ,HB,hn1,hn2];rfl);clear hb6;go_wp2_with fail
       all_goals
        clear r0 r2 r3 r4 r5 r6;go_loopw[8,9] (λo i wp=>∃k:Nat,k<=np/\i=O k/\o=.bool (l7 B fU yp k)/\bG W3 wp) (λ_ i _=>np - (intOf i).toNat);case atStart=>exact⟨0,bI _,rfl,lT HB'.out,HQ⟩
        case round=>
         obtain⟨d,hd,rfl,rfl,hnx⟩:=hrel;have t1:=aC r1 hnx;by_cases hdl:d<np
         ·have hc:=aC (Ue d hdl) (up (up rA HB3) hnx);have hgd:yp[d]?=some (yp.getD d ByteArray.empty):=by
           have:d<yp.length:=by have:=FQ.out;omega
           simp[this]
          have HST:=I (Bd (b:=B) (p:=fU) hgd);have hsz:=HSP _ (dN hgd);obtain rfl:=Mt aV;generalize yp.getD d ByteArray.empty=s at *;have qX:=I hnx;clear hgd r1 hnx;cases hok:l7 B fU yp d
          ·have wV:=I hok;go_wp2_with fail;go_roundw;case rel=>exact⟨d+1,by omega,by go_num,lT (by rw[HST,wV];rfl),qX⟩
           case measure=>simp[intOf];omega
          ·have wV:=I hok;go_wp2_with fail;refine(j6 _ s hsz).mono ?_;rintro e w' ⟨rfl,hw'⟩;subst hw';go_wp2_with fail;go_roundw;case rel=>exact⟨d+1,by omega,by go_num,lT (by rw[HST,wV];rfl),qX⟩
           case measure=>simp[intOf];omega
         ·have wV:=I (Eu (b:=B) (p:=fU) FQ (show d=np by omega));rw[<-wV]at uO;have qX:=I hnx;clear hd hnx r1;generalize l7 B fU yp d=ok at *;cases ok;·have HXE:Hid (XE=5):=I ((HBAD (by rw[uO];decide)).trans uO);go_wp2_with fail;go_ret;exact⟨bQ HXE.symm,up (up rA HB3) qX⟩
          ·go_wp2_with fail;go_roundw;case rel=>exact⟨i+1,by omega,by go_num,HGOOD (by rw[uO];rfl),up dM (up HB3 qX)⟩
           case measure=>simp[intOf];omega
      ·have HFZ:=I (Ev (m:=m) (l:=xf) (λd z hz=>dU d z (by have:=(dz.1 hz).1;have:=uH.out;omega) hz));rw[aJ (λh=>h HFZ)]at HE;have rA:=I (up HB2 hnx);obtain⟨t0,t1,t2⟩:=lQ (aC q0 hnx) (aC q1 hnx) (aC q2 hnx);clear hnx q0 q1 q2 q3 hi;go_wp2_with fail;refine(text_any m _ _ _ (HM.below rA) HMW (HT.below rA)).mono ?_;rintro e w5 ⟨rfl,hb5⟩;have kG:=I (up rA hb5);clear hb5 t0 t1 t2 t3;rw[<-HXT];go_wp2_with fail;go_loopw[11,12] (λo i wt=>∃j:Nat,j<=XT.size/\i=O j/\o=O (kW XT j)/\(∀d,d<j->kW XT (d+1)<=20)/\bG w5 wt) (λ_ i _=>XT.size - (intOf i).toNat);case atStart=>exact⟨0,bI _,rfl,rfl,λd hd=>aN hd (fK _),bN _ _⟩
       case round=>
        obtain⟨j,hj,rfl,rfl,hall,hnx⟩:=hrel;obtain⟨dU,dM⟩:=bT hall hnx;clear hall hnx;by_cases hjl:j<XT.size
        ·have hol:=MB XT j;have HST:=I (FX XT j hjl);obtain⟨hol1,hol2⟩:=hol;generalize kW XT j=o at *;rcases step3 XT[j]with⟨f1,f2,f3⟩|⟨f1,f2,f3⟩|⟨f1,f2,f3⟩
         ·have HO:Hid (kW XT (j+1)=o+1):=I (by rw[HST,f3]);clear f3;by_cases h20:20<o+1;·have HD:=I (CX (t:=XT) hjl (by rw[HO];exact h20));rw[HD,aL rfl]at HE;go_wp2_with fail;go_ret;exact⟨bQ HE.symm,up kG dM⟩
          ·have HH:=I h20;go_wp2_with fail;go_roundw;case rel=>exact⟨j+1,by omega,by go_num,by rw[HO],λd hd=>by
            by_cases e:d=j;·subst e;rw[HO];have:=HH.out;omega
            ·exact dU d aV,dM⟩
           case measure=>simp[intOf];omega
         ·have HO:Hid (kW XT (j+1)=o - 1):=I (by rw[HST,f3];rfl);clear f3;by_cases h20:20<o - 1;·have HD:=I (CX (t:=XT) hjl (by rw[HO];exact h20));rw[HD,aL rfl]at HE;go_wp2_with fail;go_ret;exact⟨bQ HE.symm,up kG dM⟩
          ·have HH:=I h20;go_wp2_with fail;go_roundw;case rel=>exact⟨j+1,by omega,by go_num,by rw[HO],λd hd=>by
            by_cases e:d=j;·subst e;rw[HO];have:=HH.out;omega
            ·exact dU d aV,dM⟩
           case measure=>simp[intOf];omega
         ·have HO:Hid (kW XT (j+1)=o):=I (by rw[HST,f3,Int.add_zero]);clear f3;by_cases h20:20<o;·have HD:=I (CX (t:=XT) hjl (by rw[HO];exact h20));rw[HD,aL rfl]at HE;go_wp2_with fail;go_ret;exact⟨bQ HE.symm,up kG dM⟩
          ·have HH:=I h20;go_wp2_with fail;go_roundw;case rel=>exact⟨j+1,by omega,by go_num,by rw[HO],λd hd=>by
            by_cases e:d=j;·subst e;rw[HO];have:=HH.out;omega
            ·exact dU d aV,dM⟩
           case measure=>simp[intOf];omega
        ·have HD:=I (MC (t:=XT) (λd hd=>by have:=dU d aV;omega));rw[HD,aJ bP]at HE;go_wp2_with fail;go_ret;exact⟨bQ HE.symm,up kG dM⟩
namespace Rn
structure Rel(nm:List (ByteArray × ByteArray))(ρ:Sta->Sta->Prop):Prop where
 refl:∀s,ρ s s
 trans:∀{s t u},ρ s t->ρ t u->ρ s u
 gt:∀m o n s,ρ s (Rn.gt nm m o n s).2
 pt:∀m o n x s,ρ s (Rn.pt nm m o n x s).2
 burn:∀s s1,burn s=some s1->ρ s s1
 pr:∀s d,ρ s { s with pr:=s.pr++[d] }
section
variable {nm : List (ByteArray × ByteArray)} {ρ : Sta → Sta → Prop} (U : Rel nm ρ)
include U
end
end Rn
theorem boxC(w:World)(vn vl:Value)(a b c d:Value)(W:World)(hW:W=(w.alloc (aY #[vn,vl] 25)).alloc (aY #[a,b,c,d] 261)):W.heap[w.heap.size]?=some (aY #[vn,vl] 25)/\W.heap[w.heap.size+1]?=some (aY #[a,b,c,d] 261)/\bG w W:=by subst hW;refine⟨dB (bD w _) _,?_,((bN _ _).alloc (bF _) _).alloc cZ _⟩;have h:=bD (w.alloc (aY #[vn,vl] 25)) (aY #[a,b,c,d] 261);rw[show(w.alloc (aY #[vn,vl] 25)).heap.size=w.heap.size+1 by simp]at h;exact h
theorem Ew(w:World)(vn vl:Value)(ss:List aZ)(n:Nat)(c:Co)(vf:Value)(hS:Strs w vn ss)(hF:Ints w vf c.fr)(_hn:n<=40):Calls prog 219 #[.agg #[vn,vl],O n,.agg #[O c.to,vf,O c.mask,O c.level]] w λe w'=>e=cO (.bool (La ss.length n c))/\bG w w':=by
 obtain⟨ct,cf,cm,cl⟩:=c;simp only at hF ⊢;obtain⟨E,hE⟩:=bC (La ss.length n ⟨ct,cf,cm,cl⟩);have HE:=I hE;rw[<-hE];obtain⟨ad,bl,off,cap,rfl,-,hl,-,-⟩:=hS;obtain⟨N,hN⟩:=bC ss.length;have HN:=I hN;rw[<-hN]at hl ⊢;obtain⟨fa,fb,fo,fc,rfl,hf0,hfl,hfe⟩:=hF;obtain⟨len,hlen⟩:=bC cf.length;have ZQ:=I hlen;rw[<-hlen]at hf0 hfl ⊢;obtain⟨W,hW⟩:=bC ((w.alloc (aY #[Y ad N cap,vl] 25)).alloc (aY #[O ct,Y fa len fc,O cm,O cl] 261));obtain⟨b0,b1,hB⟩:=boxC w _ _ _ _ _ _ W hW;obtain⟨q0,q1⟩:=jm b0;obtain⟨q2,q3,q4,q5⟩:=Js b1;obtain⟨H0,H1,HB,uO,vD⟩:=tq b0 b1 hB hfe hf0;clear b0 b1 hB hfe hf0 hE hN hlen;go_enter func219,ntmps219;go_wp2_with fail;try rw[<-hW]
 clear hW;go_loop [12] (λi=>∃k:Nat,k<=len/\i=O k/\∀f∈cf.take k,sZ n f=true) (λi=>len - (intOf i).toNat);case atStart=>exact⟨0,bI _,rfl,by simp⟩
 case round=>
  obtain⟨k,hk,rfl,hall⟩:=hrel;have HA:=I hall;clear hall;by_cases hlt:k<len
  ·obtain⟨f,hf⟩:∃f,cf[k]?=some f:=⟨_,bg (by rw[<-ZQ];exact hlt)⟩;have cf':=aC (uO k f hf) HB;obtain rfl:=vD aV;have HFK:=I hf;clear hf;go_wp2_with fail;refine(yh W n f).mono ?_;rintro e w' ⟨rfl,rfl⟩;cases hv:sZ n f;·go_wp2_with fail;go_ret;refine⟨aM ?_,HB⟩;rw[HE,La,BZ.2 ⟨f,dN HFK,by simp[hv]⟩];rfl
   ·go_wp2_with fail;go_round;case rel=>exact⟨k+1,by omega,by go_num,λg hg=>by
     rw[gH,HFK]at hg;rcases bV.1 hg with h|h;·exact HA g h
     ·simp at h;subst h;exact hv⟩
    case measure=>simp[intOf];omega
  ·have dU:Hid (cf.all (sZ n)=true):=I (gY.2 λf hf=>HA f (by rw[fJ (by rw[<-ZQ];omega)];exact hf));go_wp2_with fail;refine(yh W n ct).mono ?_;rintro e w' ⟨rfl,rfl⟩;cases hv:sZ n ct;·go_wp2_with fail;go_ret;exact⟨aM (by rw[HE,La,dU,hv];rfl),HB⟩
   ·go_wp2_with fail;refine(FR w' ad vl N cap cm cl).mono ?_;rintro e w2 ⟨rfl,hb2⟩;have HB2:=I (up HB hb2);clear hb2;cases hb:wZ N cm cl;·go_wp2_with fail;go_ret;exact⟨aM (by rw[HE,La,dU,hv,<-HN,hb];rfl),HB2⟩
    ·go_wp2_with fail;go_ret;exact⟨aM (by rw[HE,La,dU,hv,<-HN,hb];rfl),HB2⟩
namespace Sv
def Jt(N:Nat)(n:Int)(cs:List Co):Int:=if n<0 then 1 else if 40<n then 1 else if 1000<cs.length then 2 else if cs.all (La N n.toNat)then 0 else 1
end Sv
theorem XO(w:World)(vn vl:Value)(W:World)(hW:W=w.alloc (aY #[vn,vl] 25)):W.heap[w.heap.size]?=some (aY #[vn,vl] 25)/\bG w W:=by subst hW;exact⟨bD w _,aH w _⟩
theorem Gr(w:World)(vn vl vc:Value)(ss:List aZ)(ni:Int)(cs:List Co)(hS:Strs w vn ss)(hC:Mv w vc cs):Calls prog 171 #[.agg #[vn,vl],O ni,vc] w λe w'=>e=cO (O (Jt ss.length ni cs))/\bG w w':=by
 have HS:=I hS;obtain⟨E,hE⟩:=bC (Jt ss.length ni cs);have HE:=I hE;rw[<-hE];obtain⟨W,hW⟩:=bC (w.alloc (aY #[vn,vl] 25));obtain⟨b0,hB⟩:=XO w vn vl W hW;obtain⟨H0,HB⟩:=bT b0 hB;obtain⟨a,b,off,cap,rfl,h0,hl,hel⟩:=hC;obtain⟨len,hlen⟩:=bC cs.length;have ZQ:=I hlen;rw[<-hlen]at h0 hl ⊢;obtain⟨kg,FZ⟩:=bT hel h0;clear b0 hB hS hE hel h0 hlen;by_cases hn0:ni<0;·have HX:Hid (E=1):=I (by rw[HE,Jt,aL hn0]);go_enter func171,ntmps171;go_wp2_with fail;go_ret;exact⟨bQ HX.symm,by rw[<-hW];exact HB⟩
 ·by_cases hn1:40<ni;·have HX:Hid (E=1):=I (by rw[HE,Jt,aJ hn0,aL hn1]);go_enter func171,ntmps171;go_wp2_with fail;go_ret;exact⟨bQ HX.symm,by rw[<-hW];exact HB⟩
  ·obtain⟨n,rfl⟩:∃n:Nat,ni=n:=⟨ni.toNat,by omega⟩;by_cases hbig:1000<len;·have HX:Hid (E=2):=I (by rw[HE,Jt,aJ hn0,aJ hn1,aL (by rw[<-ZQ];exact hbig)]);go_enter func171,ntmps171;go_wp2_with fail;go_ret;exact⟨bQ HX.symm,by rw[<-hW];exact HB⟩
   ·have HX:Hid (E=if cs.all (La ss.length n)then 0 else 1):=I (by rw[HE,Jt,aJ hn0,aJ hn1,aJ (by rw[<-ZQ];exact hbig)];rfl);go_enter func171,ntmps171;go_wp2_with fail;try rw[<-hW]
    clear hW;go_loopw[20] (λi wx=>∃k:Nat,k<=len/\i=O k/\bG W wx/\∀f∈cs.take k,La ss.length n f=true) (λi _=>len - (intOf i).toNat);case atStart=>exact⟨0,bI _,rfl,bN _ _,by simp⟩
    case round=>
     obtain⟨k,hk,rfl,hbw,hall⟩:=hrel;obtain⟨HA,HW⟩:=bT hall hbw;clear hall hbw;by_cases hlt:k<len
     ·obtain⟨f,hf⟩:∃f,cs[k]?=some f:=⟨_,bg (by rw[<-ZQ];exact hlt)⟩;have HFK:=I hf;have hbx:=up HB HW;obtain⟨vf,hvf,g0,g1,g2,g3⟩:=kg k f hf;have HVF:=I (hvf.below hbx);obtain⟨g0,g1,g2,g3⟩:=rG (aC g0 hbx) (aC g1 hbx) (aC g2 hbx) (aC g3 hbx);obtain⟨fa,fb,fo,fc,rfl,-⟩:=hvf;obtain rfl:=FZ aV;have p0:=dB (aU H0 HW) (aY #[O f.to,Y fa f.fr.length fc,O f.mask,O f.level] 261);obtain⟨q0,q1⟩:=jm p0;obtain⟨dO,HWX,HVX⟩:=fq (up hbx (aH wr (aY #[O f.to,Y fa f.fr.length fc,O f.mask,O f.level] 261))) (up HW (aH wr (aY #[O f.to,Y fa f.fr.length fc,O f.mask,O f.level] 261))) (HVF.below (aH wr (aY #[O f.to,Y fa f.fr.length fc,O f.mask,O f.level] 261)));clear hf hbx p0;go_wp2_with fail;refine(Ew _ vn vl ss n f _ (HS.below dO) HVX aV).mono ?_;rintro e w2 ⟨rfl,hb2⟩;have HW2:=I (up HWX hb2);clear hb2;cases hv:La ss.length n f;·go_wp2_with fail;go_ret;refine⟨bQ ?_,up HB HW2⟩;rw[HX,BZ.2 ⟨f,dN HFK,by simp[hv]⟩];rfl
      ·go_wp2_with fail;go_roundw;case rel=>exact⟨k+1,by omega,by go_num,HW2,λg hg=>by
        rw[gH,HFK]at hg;rcases bV.1 hg with h|h;·exact HA g h
        ·simp at h;subst h;exact hv⟩
       case measure=>simp[intOf];omega
     ·have dU:Hid (cs.all (La ss.length n)=true):=I (gY.2 λf hf=>HA f (by rw[fJ (by rw[<-ZQ];omega)];exact hf));go_wp2_with fail;go_ret;exact⟨bQ (by rw[HX,dU];rfl),up HB HW⟩
end Go.Proofs.YtbgkpehhdibaoaaGreatDoor
