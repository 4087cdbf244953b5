/- part -/
import Derived.Test.YtbgkpehhdibaoaaGreatDoorMZAJ
import Derived.Laws.EntriesVeiled
set_option maxHeartbeats 0
set_option maxRecDepth 99999
namespace Go.Proofs.YtbgkpehhdibaoaaGreatDoor
open bO aO
open Go.Proofs.Tryz
open Go.RowKit
namespace aO
theorem Oc{l:List Fu}{s:aZ}{n i:Nat}(h:Ia l s n=some i):i<n/\∃f,l[i]?=some f:=by
 unfold Ia at h;have h1:=Qp h;refine⟨jG.1 (LJ h),?_⟩;cases hy:l[i]? with
 | none=>rw[hy]at h1;simp at h1
 | some y=>exact⟨y,rfl⟩
def Rb(x:Mo)(known:List Mo)(t:Int × Int × Bool):Option Fu:=
 if t.1=-1 then x.bq[t.2.1.toNat]? else known[t.1.toNat]?.bind λy=>y.bq[t.2.1.toNat]?
def code(x:Mo)(known:List Mo)(k:Nat)(name:aZ)(nargs:Nat):Int:=
 if (gq x k name known).2.2=false then 4 else match Rb x known (gq x k name known)with
  | some f=>if f.params.length=nargs then 0 else 5
  | none=>0
theorem Ee{x:Mo}{k:Nat}{call:aZ}{known:List Mo}(h:(gq x k call known).2.2=true):(∃(i:Nat) (f:Fu),gq x k call known=(-1,(i:Int),true)/\x.bq[i]?=some f)\/(∃(a:Nat) (y:Mo) (j:Nat) (f:Fu),gq x k call known=((a:Int),(j:Int),true)/\known[a]?=some y/\y.bq[j]?=some f):=by
 cases hd:jo call with
 | none=>
  have e:gq x k call known=AQ (-1) x.bq call k:=by simp[gq,hd]
  rw[e]at h ⊢;unfold AQ at h ⊢;cases hf:Ia x.bq call k with
  | none=>rw[hf]at h;simp at h
  | some i =>obtain⟨_,f,hf'⟩:=Oc hf;exact aR ⟨i,f,rfl,hf'⟩
 | some d=>
  rcases y9 x.imports (bO.preS call)with hi|⟨i,hi,_⟩
  ·have e:gq x k call known=(0,0,false):=by simp[gq,hd,hi]
   rw[e]at h;simp at h
  ·cases hm:dw known (x.imports.getD i ByteArray.empty)with
   | none=>rw[IB hd hi hm]at h;simp at h
   | some a=>
    obtain⟨y,hy,_⟩:=vV hm;rw[NJ hd hi hm hy]at h ⊢;unfold AQ at h ⊢;cases hf:Ia y.bq (om call) y.bq.length with
    | none=>rw[hf]at h;simp at h
    | some j =>obtain⟨_,f,hf'⟩:=Oc hf;exact aT ⟨a,y,j,f,rfl,hy,hf'⟩
end aO
theorem Zk(w:World)(c0 c1 c2 vf c4 c5:Value):Calls prog 209 #[.agg #[c0,c1,c2,vf,c4,c5],O (-1)] w λe w'=>e=cO vf/\bG w w':=by have q3:=Zb w c0 c1 c2 vf c4 c5 189 3 _ rfl;have HB0:=I (aH w (aY #[c0,c1,c2,vf,c4,c5] 189));go_enter func209,ntmps209;go_wp2;go_ret;exact⟨rfl,HB0⟩
theorem Rc(w:World)(c0 c1 c2 vf c5 vy:Value)(bk ok nk ck a:Nat)(ha:a<nk)(hc:w.cell? (X bk (ok+a*4+3))=some vy):Calls prog 209 #[.agg #[c0,c1,c2,vf,Y (some (X bk ok)) nk ck,c5],O a] w λe w'=>e=cO vy/\bG w w':=by
 have HB0:=I (aH w (aY #[c0,c1,c2,vf,Y (some (X bk ok)) nk ck,c5] 189));have q4:=Zb w c0 c1 c2 vf (Y (some (X bk ok)) nk ck) c5 189 4 _ rfl;replace hc:=aC hc HB0;have h1:((a:Int)==-1)=false:=by simp
 go_enter func209,ntmps209;go_wp2;go_ret;exact⟨rfl,HB0⟩
theorem Od(m m':Nat)(w:World)(x:Mo)(known:List Mo)(vi vv vf vk va:Value)(k:Nat)(c0 c1 c2 c3:Value)(y:Ex)(h:ScV w m x known vi vv vf vk va)(hk:k<=x.bq.length)(hE:gQ w m' c0 c1 c2 c3 y):Calls prog 161 #[.agg #[A x.name,vi,vv,vf,vk,va],O k,.agg #[c0,c1,c2,c3]] w λe w'=>e=cO (O (aO.code x known k y.name y.args.length))/\bG w w':=by
 obtain⟨mm,rfl⟩:∃mm,m'=mm+1:=by cases m' with
  | zero=>exact iG hE
  | succ n=>exact⟨n,rfl⟩
 obtain⟨rfl,rfl,rfl,hsz,-,-,ea,eb,eo,ec,rfl,-,hel,-⟩:=hE;have HS:=I h;obtain⟨R,hR⟩:=bC (aO.code x known k y.name y.args.length);have HR:=I hR;rw[<-hR];have HB0:=I (aH w (aY #[A x.name,vi,vv,vf,vk,va] 189));have q5:=Zb w (A x.name) vi vv vf vk va 189;obtain⟨u0,u1,u2⟩:=lQ (aC (q5 0 _ rfl) (aH _ (aY #[O y.kind,O y.n,A y.name,Y ea y.args.length ec] 107))) (aC (q5 1 _ rfl) (aH _ (aY #[O y.kind,O y.n,A y.name,Y ea y.args.length ec] 107))) (aC (q5 2 _ rfl) (aH _ (aY #[O y.kind,O y.n,A y.name,Y ea y.args.length ec] 107)));have KD:=aC (q5 3 _ rfl) (aH _ (aY #[O y.kind,O y.n,A y.name,Y ea y.args.length ec] 107));have u4':=aC (q5 4 _ rfl) (aH _ (aY #[O y.kind,O y.n,A y.name,Y ea y.args.length ec] 107));obtain⟨u5,z2,z3⟩:=lQ (aC (q5 5 _ rfl) (aH _ (aY #[O y.kind,O y.n,A y.name,Y ea y.args.length ec] 107))) (Fw (w.alloc (aY #[A x.name,vi,vv,vf,vk,va] 189)) (O y.kind) (O y.n) (A y.name) (Y ea y.args.length ec) 107) (Fp (w.alloc (aY #[A x.name,vi,vv,vf,vk,va] 189)) (O y.kind) (O y.n) (A y.name) (Y ea y.args.length ec) 107);rw[Ef]at z2 z3;have HB1:=I (up HB0 (aH _ (aY #[O y.kind,O y.n,A y.name,Y ea y.args.length ec] 107)));have HT:=I (λwx (hb:bG w wx)=>FI m wx x known vi vv vf vk va k y.name (HS.below hb) hk hsz);generalize y.args.length=na at *;obtain⟨hI,hV,hF⟩:=h.mo.split;obtain⟨hK,hA⟩:=eD h.kn h.ats;obtain⟨ai,bi,oi,ci,rfl,-⟩:=hI;obtain⟨av,bv,ov,cv,rfl,-⟩:=hV;obtain⟨af,bf,of,cf,rfl,KF,hlf,hcf⟩:=hF;obtain⟨ak,bk,ok,ck,rfl,hak,hlk,hck⟩:=hK;obtain⟨aa,ba,oa,ca,rfl,-⟩:=hA;generalize (x.imports.map λs=>oI (aO.dw known s)).length=nat at *;generalize x.imports.length=ni at *;generalize x.vars.length=nv at *;obtain⟨vW,Oe,KG,HAK⟩:=mg hck hcf KF hak;clear hR h q5 hck hcf KF hak;cases ht:(aO.gq x k y.name known).2.2;·have zm:Hid (R=4):=I (by rw[HR];unfold aO.code;rw[aL ht]);rw[ht]at HT;generalize (aO.gq x k y.name known).1=t1 at *;generalize (aO.gq x k y.name known).2.1=t2 at *;clear ht;go_enter func161,ntmps161;go_wp2_with fail;refine(HT _ HB1).mono ?_;rintro e w1 ⟨rfl,hb1⟩;have HB2:=I (up HB1 hb1);clear hb1;go_wp2_with fail;go_ret;exact⟨by rw[zm];rfl,HB2⟩
 ·rcases Ee ht with⟨i,f,he,hf⟩|⟨a,z,j,f,he,hz,hf⟩
  ·rw[he]at HT;have zm:Hid (R=if f.params.length=na then 0 else 5):=I (by rw[HR];unfold aO.code;rw[aJ (by rw[ht];simp),he];simp only[Rb,if_true,Ct,hf]);obtain⟨-,vp,vb,e0,e1,e2,e3,g0,g1,-,-,-,-,-,hp,-⟩:=Oe i f hf;obtain⟨ap,bp,op,cp,rfl,-⟩:=hp;have hil:i<x.bq.length:=(dz.1 hf).1;obtain rfl:=KG aV;generalize x.bq.length=nf at *;generalize known.length=nk at *;generalize f.params.length=np at *;clear ht hf g0 he;simp only at HT;go_enter func161,ntmps161;go_wp2_with fail;refine(HT _ HB1).mono ?_;rintro e w1 ⟨rfl,hb1⟩;have HB2:=I (up HB1 hb1);replace u0:=aX (aC u0 hb1);replace u1:=aX (aC u1 hb1);replace u2:=aX (aC u2 hb1);replace KD:=aX (aC KD hb1);replace u4':=aX (aC u4' hb1);replace u5:=aX (aC u5 hb1);replace z3:=aX (aC z3 hb1);replace g1:=aX (aC g1 HB2);clear hb1 z2;have HFG:=I (λn os=>Zk (gn w1 n os) (A x.name) (Y ai ni ci) (Y av nv cv) (Y (some (X bf of)) nf cf) (Y ak nk ck) (Y aa nat ca));go_wp2_with fail;refine bS bU bU ?_;repeat(quiet_step ((exact Calls.pX (HFG.out _ _))))
   refine wpQuiet_nil ?_;intro _ hw';obtain⟨⟨nq,osq⟩,hw''⟩:=hw';subst hw'';have eF:=I (up HB2.out (bR w1 nq osq));by_cases hn:np=na
   ·have hn':((np:Int)==(na:Int))=true:=by simp[hn]
    rw[aL hn]at zm;clear hn;go_wp2_with fail;go_ret;exact⟨by rw[zm];rfl,eF⟩
   ·have hn':((np:Int)==(na:Int))=false:=by simp;omega
    rw[aJ hn]at zm;clear hn;go_wp2_with fail;go_ret;exact⟨by rw[zm];rfl,eF⟩
  ·rw[he]at HT;have zm:Hid (R=if f.params.length=na then 0 else 5):=I (by rw[HR];unfold aO.code;rw[aJ (by rw[ht];simp),he];simp only[Rb,Ct,hz,Option.bind_some,hf];rw[aJ aV]);have hal:a<known.length:=(dz.1 hz).1;have hjl:j<z.bq.length:=(dz.1 hf).1;obtain rfl:=HAK aV;obtain⟨yi,yv,yf,k0,k1,k2,k3,hmz⟩:=vW a z hz;obtain⟨-,-,hzF⟩:=hmz.split;obtain⟨az,bz,oz,cz,rfl,haz,hlz,hcz⟩:=hzF;obtain⟨-,vp,vb,e0,e1,e2,e3,g0,g1,-,-,-,-,-,hp,-⟩:=hcz j f hf;obtain⟨ap,bp,op,cp,rfl,-⟩:=hp;obtain rfl:=haz aV;generalize z.bq.length=nz at *;generalize x.bq.length=nf at *;generalize known.length=nk at *;generalize f.params.length=np at *;clear hmz hcz haz hz k0 k1 k2;clear ht hf g0 he;simp only at HT;go_enter func161,ntmps161;go_wp2_with fail;refine(HT _ HB1).mono ?_;rintro e w1 ⟨rfl,hb1⟩;have HB2:=I (up HB1 hb1);replace u0:=aX (aC u0 hb1);replace u1:=aX (aC u1 hb1);replace u2:=aX (aC u2 hb1);replace KD:=aX (aC KD hb1);replace u4':=aX (aC u4' hb1);replace u5:=aX (aC u5 hb1);replace z3:=aX (aC z3 hb1);replace g1:=aX (aC g1 HB2);clear hb1 z2;have HFG:=I (λn os=>Rc (gn w1 n os) (A x.name) (Y ai ni ci) (Y av nv cv) (Y af nf cf) (Y aa nat ca) (Y (some (X bz oz)) nz cz) bk ok nk ck a hal (aX (aC k3 HB2) n os));go_wp2_with fail;refine bS bU bU ?_;repeat(quiet_step ((exact Calls.pX (HFG.out _ _))))
   refine wpQuiet_nil ?_;intro _ hw';obtain⟨⟨nq,osq⟩,hw''⟩:=hw';subst hw'';have eF:=I (up HB2.out (bR w1 nq osq));by_cases hn:np=na
   ·have hn':((np:Int)==(na:Int))=true:=by simp[hn]
    rw[aL hn]at zm;clear hn;go_wp2_with fail;go_ret;exact⟨by rw[zm];rfl,eF⟩
   ·have hn':((np:Int)==(na:Int))=false:=by simp;omega
    rw[aJ hn]at zm;clear hn;go_wp2_with fail;go_ret;exact⟨by rw[zm];rfl,eF⟩
namespace aO
def fG:Nat->Ex->List Ex
 | 0,_=>[]
 | m+1,x=>(if x.kind=4 then [x]else [])++x.args.flatMap (fG m)
end aO
def UO(W0 W:World)(M p g:Nat)(cb:Array Value)(D:Ex->List Dg):Prop:=
 ∀(w:World) (c0 c1 c2 c3:Value) (y:Ex) (l:List Dg),bG W0 w->dV p W w->Told w W0.heap.size p l->gQ W0 M c0 c1 c2 c3 y->l.length+(D y).length<=16777216->
  Calls prog g (#[.agg #[c0,c1,c2,c3]]++cb) w λe w'=>e=.returned (.tuple #[])/\Told w' W0.heap.size p (l++D y)/\Below W0.heap.size w w'/\dV p w w'
theorem Told.lt{w:World}{n p:Nat}{l:List Dg}(h:Told w n p l):p<w.heap.size:=by obtain⟨_,v,h1,_⟩:=h;exact bE h1
theorem AY{α β γ:Type}{f:α->List β}{g:β->List γ}{l:List α}(j:Nat):(((l.take j).flatMap f).flatMap g).length<=((l.flatMap f).flatMap g).length:=by have h:=congrArg (λt=>((t.flatMap f).flatMap g).length) (mE j l);simp only[lH,aW]at h;omega
theorem FJ(W0 W:World)(M p g:Nat)(cb:Array Value)(D:Ex->List Dg)(eg:∀args w,(callFunc g args).run prog w=.ok (.enter g args) w)(hv:UO W0 W M p g cb D)(m:Nat):∀(w:World) (c0 c1 c2 c3:Value) (x:Ex) (l:List Dg),m<=M->bG W0 w->dV p W w->Told w W0.heap.size p l->gQ W0 m c0 c1 c2 c3 x->l.length+((fG m x).flatMap D).length<=16777216->Calls prog 207 #[.agg #[c0,c1,c2,c3],.func (.func g) #[] cb] w λe w'=>e=cO (.tuple #[])/\Told w' W0.heap.size p (l++(fG m x).flatMap D)/\Below W0.heap.size w w'/\dV p w w':=by
 induction m with
 | zero=>intro w c0 c1 c2 c3 x l _ _ _ _ h;exact iG h
 | succ m ih=>
  intro w c0 c1 c2 c3 x l hM hW hT hl h hlen;obtain⟨HI,HX,HV,HW,HT,GZ⟩:=vC ih (h.mono M hM) hv hW hT hl;clear ih hW hv hT;obtain⟨rfl,rfl,rfl,hsz,hk1,hk2,a,b,off,cap,rfl,ha,hbig,hel⟩:=h;obtain⟨k,n,s,args⟩:=x;simp only at hsz hk1 hk2 ha hbig hel HX ⊢;obtain⟨kg,HA,HLEN⟩:=fq hel ha hlen;have xY:Hid (fG (m+1) ⟨k,n,s,args⟩=(if k=4 then [⟨k,n,s,args⟩]else [])++args.flatMap (fG m)):=rfl;obtain⟨len,hlen'⟩:∃len,len=args.length:=⟨_,rfl⟩;have HL:=I hlen';rw[<-hlen']at hbig HA HX ⊢;obtain⟨R,hR⟩:=bC (fG (m+1) ⟨k,n,s,args⟩);rw[<-hR]at xY HLEN ⊢;obtain⟨HB0,dO⟩:=sS w (aY #[O k,O n,A s,Y a len cap] 107);have HP:=I hl.lt;obtain⟨q0,q1,q2,q3⟩:=rG (Ie w (O k) (O n) (A s) (Y a len cap) 107) (Fv w (O k) (O n) (A s) (Y a len cap) 107) (Fw w (O k) (O n) (A s) (Y a len cap) 107) (Fp w (O k) (O n) (A s) (Y a len cap) 107);clear hel ha hlen hlen' hR hl;by_cases h4:k=4
  ·have h4':(k==4)=true:=by simp[h4]
   rw[aL h4]at xY;clear h4;go_enter func207,ntmps207;go_wp2_with fail;refine(HV _ _ _ _ _ ⟨k,n,s,args⟩ l (HW.trans (HB0.mono HW.size)) (HT.trans (dV.of_below HB0)) (GZ.below HB0) HX (by have h1:=HLEN.out;rw[xY]at h1;simp only[lH,aW,IX,List.flatMap_nil,gK]at h1;omega)).mono ?_;rintro e w1 ⟨rfl,hto1,hb1,ht1⟩;obtain⟨HT1,HB1,rU⟩:=fq hto1 ((HB0.mono HW.size).trans hb1) ((dV.of_below HB0).trans ht1);replace q3:=(aj (ht1.at (by have:=HP.out;omega) dO bP) 3).trans (rfl:_=some (Y a len cap));clear hto1 hb1 ht1 q0 q1 q2;go_wp2_with fail;go_loopw[15] (λi wr=>∃j:Nat,j<=len/\i=O j/\Told wr W0.heap.size p ((l++D ⟨k,n,s,args⟩)++((args.take j).flatMap (fG m)).flatMap D)/\Below W0.heap.size w wr/\dV p w wr) (λi _=>len - (intOf i).toNat);case atStart=>exact⟨0,bI _,rfl,by simpa using HT1.out,HB1.out,rU.out⟩
   case round=>
    obtain⟨j,hj,rfl,hto,hnx,htl⟩:=hrel;obtain⟨AZ,dM,FC⟩:=fq hto hnx htl;clear hto htl;by_cases hjl:j<len
    ·obtain⟨y,hy⟩:∃y,args[j]?=some y:=⟨_,bg (by rw[<-HL];exact hjl)⟩;obtain⟨e0,e1,e2,e3,g0,g1,g2,g3,hye⟩:=kg j y hy;have HY:=I hy;obtain rfl:=HA aV;have hbb:=HW.trans hnx;have rA:=I hbb;replace g0:=aC g0 hbb;replace g1:=aC g1 hbb;replace g2:=aC g2 hbb;replace g3:=aC g3 hbb;have Nr:=I hye;obtain⟨xa,xc,rfl,rfl,rfl,rfl⟩:=hye.shape;have fM:Hid (((l++D ⟨k,n,s,args⟩)++((args.take j).flatMap (fG m)).flatMap D).length+((fG m y).flatMap D).length<=16777216):=I (by have h1:=HLEN.out;rw[xY]at h1;have h2:=AY (f:=fG m) (g:=D) (l:=args) (j+1);rw[jM hy,lH,aW]at h2;simp only[lH,aW,IX,List.flatMap_nil,gK]at h1 h2 ⊢;omega);have HB3:=I (aH wr (aY #[O y.kind,O y.n,A y.name,Y xa y.args.length xc] 107));obtain⟨z0,z1,z2,z3⟩:=rG (Ie wr (O y.kind) (O y.n) (A y.name) (Y xa y.args.length xc) 107) (Fv wr (O y.kind) (O y.n) (A y.name) (Y xa y.args.length xc) 107) (Fw wr (O y.kind) (O y.n) (A y.name) (Y xa y.args.length xc) 107) (Fp wr (O y.kind) (O y.n) (A y.name) (Y xa y.args.length xc) 107);clear hye hy hbb hnx;generalize y.args.length=ny at *;go_wp2_with fail;refine(HI _ _ _ _ _ y _ aV (rA.trans (HB3.mono rA.size)) ((HT.trans FC).trans (dV.of_below HB3)) (AZ.below HB3) Nr fM).mono ?_;rintro e w5 ⟨rfl,nP,hb5,CJ⟩;obtain⟨xZ,dW,Zl⟩:=fq nP ((dM.trans (HB3.mono rA.size)).trans hb5) ((FC.trans (dV.of_below HB3)).trans CJ);clear nP hb5 CJ z0 z1 z2 z3 g0 g1 g2 g3;go_wp2_with fail;go_roundw;case rel=>exact⟨j+1,by omega,by go_num,by rw[jM HY,lH,<-iM];exact xZ,dW,Zl⟩
     case measure=>simp[intOf];omega
    ·have wY:(args.take j)=args:=fJ (by have:=HL.out;omega);rw[wY]at AZ;clear wY hnx;go_wp2_with fail;go_end0;exact⟨rfl,by rw[xY,lH,<-iM];simpa using AZ.out,dM.out,FC.out⟩
  ·have h4':(k==4)=false:=by simp[h4]
   rw[aJ h4,rX]at xY;clear h4;obtain⟨HT1,HB1⟩:=bT (GZ.below HB0) (HB0.mono HW.size);have rU:Hid (dV p w _):=I (dV.of_below HB0);go_enter func207,ntmps207;go_wp2_with fail;go_loopw[15] (λi wr=>∃j:Nat,j<=len/\i=O j/\Told wr W0.heap.size p (l++((args.take j).flatMap (fG m)).flatMap D)/\Below W0.heap.size w wr/\dV p w wr) (λi _=>len - (intOf i).toNat);case atStart=>exact⟨0,bI _,rfl,by simpa using HT1.out,HB1.out,rU.out⟩
   case round=>
    obtain⟨j,hj,rfl,hto,hnx,htl⟩:=hrel;obtain⟨AZ,dM,FC⟩:=fq hto hnx htl;clear hto htl;by_cases hjl:j<len
    ·obtain⟨y,hy⟩:∃y,args[j]?=some y:=⟨_,bg (by rw[<-HL];exact hjl)⟩;obtain⟨e0,e1,e2,e3,g0,g1,g2,g3,hye⟩:=kg j y hy;have HY:=I hy;obtain rfl:=HA aV;have hbb:=HW.trans hnx;have rA:=I hbb;replace g0:=aC g0 hbb;replace g1:=aC g1 hbb;replace g2:=aC g2 hbb;replace g3:=aC g3 hbb;have Nr:=I hye;obtain⟨xa,xc,rfl,rfl,rfl,rfl⟩:=hye.shape;have fM:Hid ((l++((args.take j).flatMap (fG m)).flatMap D).length+((fG m y).flatMap D).length<=16777216):=I (by have h1:=HLEN.out;rw[xY]at h1;have h2:=AY (f:=fG m) (g:=D) (l:=args) (j+1);rw[jM hy,lH,aW]at h2;rw[aW];omega);have HB3:=I (aH wr (aY #[O y.kind,O y.n,A y.name,Y xa y.args.length xc] 107));obtain⟨z0,z1,z2,z3⟩:=rG (Ie wr (O y.kind) (O y.n) (A y.name) (Y xa y.args.length xc) 107) (Fv wr (O y.kind) (O y.n) (A y.name) (Y xa y.args.length xc) 107) (Fw wr (O y.kind) (O y.n) (A y.name) (Y xa y.args.length xc) 107) (Fp wr (O y.kind) (O y.n) (A y.name) (Y xa y.args.length xc) 107);clear hye hy hbb hnx;generalize y.args.length=ny at *;go_wp2_with fail;refine(HI _ _ _ _ _ y _ aV (rA.trans (HB3.mono rA.size)) ((HT.trans FC).trans (dV.of_below HB3)) (AZ.below HB3) Nr fM).mono ?_;rintro e w5 ⟨rfl,nP,hb5,CJ⟩;obtain⟨xZ,dW,Zl⟩:=fq nP ((dM.trans (HB3.mono rA.size)).trans hb5) ((FC.trans (dV.of_below HB3)).trans CJ);clear nP hb5 CJ z0 z1 z2 z3 g0 g1 g2 g3;go_wp2_with fail;go_roundw;case rel=>exact⟨j+1,by omega,by go_num,by rw[jM HY,lH,<-iM];exact xZ,dW,Zl⟩
     case measure=>simp[intOf];omega
    ·have wY:(args.take j)=args:=fJ (by have:=HL.out;omega);rw[wY]at AZ;clear wY hnx;go_wp2_with fail;go_end0;exact⟨rfl,by rw[xY];exact AZ,dM,FC⟩
def VisS(W0 W:World)(M p g:Nat)(cb:Array Value)(D:St->List Dg):Prop:=
 ∀(w:World) (e0 e1 e2 e3 va vb:Value) (s:St) (l:List Dg),bG W0 w->dV p W w->Told w W0.heap.size p l->StC W0 M [.int .i64 s.kind,.string s.name,e0,e1,e2,e3,va,vb] s->l.length+(D s).length<=16777216->
  Calls prog g (#[.agg #[.int .i64 s.kind,.string s.name,e0,e1,e2,e3,va,vb]]++cb) w λe w'=>e=.returned (.tuple #[])/\Told w' W0.heap.size p (l++D s)/\Below W0.heap.size w w'/\dV p w w'
theorem box8(w:World)(c0 c1 c2 c3 c4 c5 c6 c7:Value)(t:TypeId)(i:Nat)(v:Value)(h:(#[c0,c1,c2,c3,c4,c5,c6,c7]:Array Value)[i]?=some v):(w.alloc (.cells #[c0,c1,c2,c3,c4,c5,c6,c7] t)).cell? (X w.heap.size i)=some v:=
 (aj (bD w (.cells #[c0,c1,c2,c3,c4,c5,c6,c7] t)) i).trans h
theorem wR(W0 W:World)(M p g:Nat)(cb:Array Value)(D:St->List Dg)(eg:∀args w,(callFunc g args).run prog w=.ok (.enter g args) w)(hv:VisS W0 W M p g cb D)(m:Nat):∀(w:World) (v:Value) (b:List St) (l:List Dg),m<=M->bG W0 w->dV p W w->Told w W0.heap.size p l->eU W0 m v b->l.length+((aO.all m b).flatMap D).length<=16777216->Calls prog 157 #[v,.func (.func g) #[] cb] w λe w'=>e=cO (.tuple #[])/\Told w' W0.heap.size p (l++(aO.all m b).flatMap D)/\Below W0.heap.size w w'/\dV p w w':=by
 induction m with
 | zero=>intro w v b l _ _ _ _ h;exact iG h
 | succ m ih=>
  intro w v body l hM hW hT hl h hlen;obtain⟨HI,HV,HW,HT,GZ,HLEN⟩:=vC ih hv hW hT hl hlen;clear ih hW hv hT;obtain⟨a,b,off,cap,rfl,ha,hbig,hel⟩:=h;obtain⟨kg,HA⟩:=bT hel ha;obtain⟨len,hlen'⟩:∃len,len=body.length:=⟨_,rfl⟩;have HL:=I hlen';rw[<-hlen']at hbig HA ⊢;have HP:=I hl.lt;have xY:Hid (aO.all (m+1) body=body.flatMap (aO.within (aO.all m))):=rfl;obtain⟨R,hR⟩:=bC (aO.all (m+1) body);rw[<-hR]at xY HLEN ⊢;clear hel ha hlen hlen' hR hl;go_enter func157,ntmps157;go_wp2_with fail;go_loopw[8] (λi wr=>∃j:Nat,j<=len/\i=O j/\Told wr W0.heap.size p (l++((body.take j).flatMap (aO.within (aO.all m))).flatMap D)/\Below W0.heap.size w wr/\dV p w wr) (λi _=>len - (intOf i).toNat);case atStart=>exact⟨0,bI _,rfl,by simpa using GZ.out,bN _ _,dV.refl _ _⟩
  case round=>
   obtain⟨j,hj,rfl,hto,hnx,htl⟩:=hrel;obtain⟨AZ,dM,FC,HP2⟩:=mg hto hnx htl hto.lt;clear hto htl;by_cases hjl:j<len
   ·obtain⟨y,hy⟩:∃y,body[j]?=some y:=⟨_,bg (by rw[<-HL];exact hjl)⟩;obtain⟨k1,k2,e0,e1,e2,e3,va,vb,g0,g1,g2,g3,g4,g5,g6,g7,hx,hva,hvb⟩:=kg j y hy;have HY:=I hy;obtain rfl:=HA aV;have hbb:=HW.trans hnx;have rA:=I hbb;replace g0:=aC g0 hbb;replace g1:=aC g1 hbb;replace g2:=aC g2 hbb;replace g3:=aC g3 hbb;replace g4:=aC g4 hbb;replace g5:=aC g5 hbb;replace g6:=aC g6 hbb;replace g7:=aC g7 hbb;have HST:Hid (StC W0 M [O y.kind,A y.name,e0,e1,e2,e3,va,vb] y):=I ⟨e0,e1,e2,e3,va,vb,rfl,k1,k2,hx.mono M aV,hva.mono M aV,hvb.mono M aV⟩;obtain⟨HVA,HVB⟩:=bT hva hvb;have fM:Hid ((l++((body.take j).flatMap (aO.within (aO.all m))).flatMap D).length+((D y).length+((aO.all m y.a).flatMap D).length+((aO.all m y.b).flatMap D).length)<=16777216):=I (by have h1:=HLEN.out;rw[xY]at h1;have h2:=AY (f:=aO.within (aO.all m)) (g:=D) (l:=body) (j+1);rw[jM hy,lH,aW]at h2;simp only[aO.within,lH,aW,IX,List.flatMap_nil,gK]at h2;rw[aW];omega);obtain⟨sa,ca,rfl⟩:=hva.tV;obtain⟨sb,cb',rfl⟩:=hvb.tV;obtain⟨xa,xc,rfl,rfl,rfl,rfl⟩:=hx.shape;generalize y.a.length=na at *;generalize y.b.length=nb at *;generalize y.e.args.length=ne at *;obtain⟨HB3,dO⟩:=sS wr (aY #[O y.kind,A y.name,O y.e.kind,O y.e.n,A y.e.name,Y xa ne xc,Y sa na ca,Y sb nb cb'] 164);have hz:=box8 wr (O y.kind) (A y.name) (O y.e.kind) (O y.e.n) (A y.e.name) (Y xa ne xc) (Y sa na ca) (Y sb nb cb') 164;obtain⟨z0,z1,z2,z3,z4,z5,z6⟩:=Iz (hz 0 _ rfl) (hz 1 _ rfl) (hz 2 _ rfl) (hz 3 _ rfl) (hz 4 _ rfl) (hz 5 _ rfl) (hz 6 _ rfl);have z7:=hz 7 _ rfl;clear hx hva hvb hy hbb hnx hz;go_wp2_with fail;refine(HV _ _ _ _ _ _ _ y _ (rA.trans (HB3.mono rA.size)) ((HT.trans FC).trans (dV.of_below HB3)) (AZ.below HB3) HST (by have:=fM.out;omega)).mono ?_;rintro e w5 ⟨rfl,nP,hb5,CJ⟩;obtain⟨xZ,dW,Zl⟩:=fq nP ((dM.trans (HB3.mono rA.size)).trans hb5) ((FC.trans (dV.of_below HB3)).trans CJ);have hbx5:=CJ.at (by have:=HP2.out;omega) dO bP;have HBX5:=I hbx5;have y6:=(aj hbx5 6).trans (rfl:_=some (Y sa na ca));clear nP hb5 CJ hbx5 z0 z1 z2 z3 z4 z5 z6 z7 g0 g1 g2 g3 g4 g5 g6 g7;go_wp2_with fail;refine(HI _ _ y.a _ aV (HW.trans dW) (HT.trans Zl) xZ HVA (by have:=fM.out;rw[aW];omega)).mono ?_;rintro e w6 ⟨rfl,hto6,hb6,ht6⟩;obtain⟨HTO6,eF,HT6⟩:=fq hto6 (dW.trans hb6) (Zl.trans ht6);have hbx6:=ht6.at (by have:=HP2.out;omega) HBX5 bP;have y7:=(aj hbx6 7).trans (rfl:_=some (Y sb nb cb'));clear hto6 hb6 ht6 hbx6 y6;go_wp2_with fail;refine(HI _ _ y.b _ aV (HW.trans eF) (HT.trans HT6) HTO6 HVB (by have:=fM.out;rw[aW,aW];omega)).mono ?_;rintro e w7 ⟨rfl,hto7,pW,ht7⟩;obtain⟨HTO7,jB,HT7⟩:=fq hto7 (eF.trans pW) (HT6.trans ht7);clear hto7 pW ht7 y7;go_wp2_with fail;go_roundw;case rel=>exact⟨j+1,by omega,by go_num,by rw[jM HY,aO.within,lH,lH,lH,<-iM,<-iM,<-iM,IX,List.flatMap_nil,gK];exact HTO7,jB,HT7⟩
    case measure=>simp[intOf];omega
   ·have wY:(body.take j)=body:=fJ (by have:=HL.out;omega);rw[wY]at AZ;clear wY hnx;go_wp2_with fail;go_end0;exact⟨rfl,by rw[xY];exact AZ,dM,FC⟩
theorem Xx(w:World)(n p q:Nat)(l:List Dg)(vn:Value)(names:List aZ)(fn name:aZ)(h:Told w n p l)(hn:n<=w.heap.size)(hl:l.length+(aO.nE names fn name).length<=16777216)(hq:w.cell? (X q 0)=some vn)(hN:Strs w vn names):Calls prog 156 #[A fn,A name,jk q,jk p] w λe w'=>e=cO (.tuple #[])/\Told w' n p (l++aO.nE names fn name)/\Below n w w'/\dV p w w':=by
 obtain⟨HN,HT⟩:=bT hN h;obtain⟨a,b,off,cap,rfl,_⟩:=hN;have HL:Hid (aO.nE names fn name=if decide (0<=dF names name)=true then []else [⟨3,fn,name⟩]):=rfl;obtain⟨h0,v,h1,h2⟩:=h;have q0:w.cell? (X p 0)=some v:=by rw[aj h1];rfl
 obtain⟨H0,H1,H2,HR⟩:=mg h0 h1 h2 (jA w _ names name HN);rw[HL]at hl;generalize decide (0<=dF names name)=is at *;clear h0 h1 h2;go_enter func156,ntmps156;go_wp2_with fail;refine HR.mono ?_;rintro e w' ⟨rfl,hw'⟩;subst hw';cases is
 ·have hl2:l.length<16777216:=by simp at hl;omega
  clear hl
  go_wp2_with (first
   | (at_builtin;refine gG (At:=qz) rfl _ _ 59 80 3 40 _ rfl underlying59 qA bP bP bP n _ _ rfl (H2.below (aH _ _)) _ _ [⟨3,fn,name⟩] rfl (eT.one _ _ rfl (qz.one (d:=⟨3,fn,name⟩) rfl) rfl) (by simp only[iT];omega) (bH hn (aH _ _).size) ?_;intro v6 w6 hown6 eG;obtain⟨a6,c6,hv6⟩:=hown6.form;subst hv6;have HP:=I (Told.push H0 H1 H2 hown6 eG);have z0:=(aj HP.1 0).trans (show _=some v from rfl);have zf:=aG HP.1 0;clear hown6 eG)
   | fail)
  go_end0;have hl1:(l++[(⟨3,fn,name⟩:Dg)]).length=l.length+1:=by simp
  rw[hl1]at HP;exact⟨rfl,by rw[HL];exact HP.2.1,HP.2.2⟩
 ·go_wp2_with fail;go_end0;exact⟨rfl,by rw[HL];simpa using HT.out,bN _ _,dV.refl _ _⟩
namespace aO
def zK(names:List aZ)(fn:aZ)(s:St):List Dg:=if s.kind=4 then nE names fn s.name else []
theorem Xy(names:List aZ)(fn name:aZ):(nE names fn name).length<=1:=by unfold nE;split<;>simp
theorem levS_len(names:List aZ)(fn:aZ)(s:St):(zK names fn s).length<=1:=by
 unfold zK;split;·exact Xy _ _ _
 ·simp
end aO
theorem askS_any(W0 W:World)(M p q r bf:Nat)(vn:Value)(names:List aZ)(fn:aZ)(cf lc:Array Value)(hN:Strs W0 vn names)(hq:W.heap[q]?=some (.cells lc 25 (0,0)))(hqn:lc[0]?=some vn)(hr:W.heap[r]?=some (aY #[.func (.func 156) #[] #[jk q,jk p]] 248))(hf:W.heap[bf]?=some (.cells cf 109 (0,0)))(hfn:cf[0]?=some (A fn))(hqp:q≠p)(hrp:r≠p)(hfp:bf≠p):VisS W0 W M p 158 #[jk r,jk bf] (zK names fn):=by
 intro w e0 e1 e2 e3 va vb s l hW hT hl hst hlen;have HB0:=I (aH w (aY #[O s.kind,A s.name,e0,e1,e2,e3,va,vb] 164));have hz:=box8 w (O s.kind) (A s.name) e0 e1 e2 e3 va vb 164;obtain⟨z0,z1,hq1⟩:=lQ (hz 0 _ rfl) (hz 1 _ rfl) (aC ((aj (hT.at hqp hq bP) 0).trans hqn) HB0);obtain⟨HQ1,IY,GZ,HW,HTO0⟩:=tq hq1 ((hN.below hW).below HB0) (hl.below HB0) hW hl;obtain⟨hr1,hf1⟩:=eD (aC ((aj (hT.at hrp hr bP) 0).trans rfl) HB0) (aC ((aj (hT.at hfp hf bP) 0).trans hfn) HB0);clear hz hq hqn hr hf hfn hN hst hl hT hW;show Calls prog 158 #[.agg #[O s.kind,A s.name,e0,e1,e2,e3,va,vb],jk r,jk bf] w _;by_cases h4:s.kind=4
 ·have h4':(s.kind==4)=true:=by simp[h4]
  have HL:Hid (zK names fn s=aO.nE names fn s.name):=I (by unfold zK;rw[aL h4]);rw[HL]at hlen ⊢;have jR:=I hlen;clear h4 hlen;go_enter func158,ntmps158;go_wp2_with fail;refine(Xx _ W0.heap.size p q l vn names fn s.name GZ (bH HW.out.size HB0.size) jR HQ1 IY).mono ?_;rintro e w5 ⟨rfl,nP,hb5,CJ⟩;obtain⟨xZ,dW⟩:=bT nP ((HB0.mono HW.size).trans hb5);have Zl:Hid (dV p w w5):=I ((dV.of_below HB0).trans CJ);clear nP hb5 CJ;go_wp2;go_end0;exact⟨rfl,xZ,dW,Zl⟩
 ·have h4':(s.kind==4)=false:=by simp[h4]
  have HL:Hid (zK names fn s=[]):=I (by unfold zK;rw[aJ h4]);clear h4;go_enter func158,ntmps158;go_wp2_with fail;go_end0;exact⟨rfl,by rw[HL,gK];exact GZ,HB0.mono HW.size,dV.of_below HB0⟩
namespace aO
def lvD(names:List aZ)(x:Mo)(m:Nat):List Dg:=(x.vars.flatMap λv=>nE names ⟨#[]⟩ v.level)++x.bq.flatMap λf=>(all m f.body).flatMap (zK names f.name)
end aO
theorem al4(w:World)(a b c d:Obj):((((w.alloc a).alloc b).alloc c).alloc d).heap[w.heap.size]?=some a/\((((w.alloc a).alloc b).alloc c).alloc d).heap[w.heap.size+1]?=some b/\((((w.alloc a).alloc b).alloc c).alloc d).heap[w.heap.size+1+1]?=some c/\((((w.alloc a).alloc b).alloc c).alloc d).heap[w.heap.size+1+1+1]?=some d/\bG w ((((w.alloc a).alloc b).alloc c).alloc d):=by
 obtain⟨h1,h2,h3,h4⟩:=rG (bD w a) (bD (w.alloc a) b) (bD ((w.alloc a).alloc b) c) (bD (((w.alloc a).alloc b).alloc c) d);simp only[Ef]at h2 h3 h4;refine⟨?_,?_,?_,h4,up (up (up (aH _ _) (aH _ _)) (aH _ _)) (aH _ _)⟩;·rw[(aH _ d).block _ (by simp;omega),(aH _ c).block _ (by simp;omega),(aH _ b).block _ cZ];exact h1
 ·rw[(aH _ d).block _ cZ,(aH _ c).block _ cZ];exact h2
 ·rw[(aH _ d).block _ cZ];exact h3
theorem IZ(m:Nat)(w:World)(vn vl vi vv vf:Value)(names:List aZ)(x:Mo)(hN:Strs w vn names)(h:gT w m (.agg #[A x.name,vi,vv,vf]) x)(hlen:(lvD names x m).length<=16777216):Calls prog 102 #[.agg #[vn,vl],.agg #[A x.name,vi,vv,vf]] w λe w'=>∃u,e=cO u/\eT qz w' w.heap.size 80 3 u (lvD names x m)/\bG w w':=by
 obtain⟨hI,hV,hF⟩:=h.split;have HN:=I hN;obtain⟨an,bn,on,cn,rfl,-⟩:=hN;obtain⟨ai,bi,oi,ci,rfl,-⟩:=hI;obtain⟨av,bv,ov,cv,rfl,Ub,hlv,hcv⟩:=hV;obtain⟨af,bf,of,cf,rfl,KF,hlf,hcf⟩:=hF;obtain⟨HCV,Uc⟩:=bT hcv Ub;have Oe:Hid (KY w m bf of x.bq):=hcf;have KG:=I KF;have KL:Hid (lvD names x m=(x.vars.flatMap λv=>aO.nE names ⟨#[]⟩ v.level)++x.bq.flatMap λf=>(aO.all m f.body).flatMap (zK names f.name)):=rfl;have jR:=I hlen;obtain⟨R,hR⟩:=bC (lvD names x m);rw[<-hR]at KL jR ⊢;obtain⟨vars,hvars⟩:=bC x.vars;obtain⟨bq,Rf⟩:=bC x.bq;rw[<-hvars]at hlv HCV Uc KL ⊢;rw[<-Rf]at hlf Oe KG KL ⊢;obtain⟨nv,xg⟩:=bC vars.length;obtain⟨nf,hnf⟩:=bC bq.length;obtain⟨Mg,uH⟩:=bT xg hnf;rw[<-xg]at hlv Uc ⊢;rw[<-hnf]at hlf KG ⊢;generalize x.imports.length=ni at *;generalize names.length=nn at *;generalize x.name=xn at *;obtain⟨b0,b1,b2,b3,hb0⟩:=al4 w (aY #[Y an nn cn,vl] 25) (aY #[A xn,Y ai ni ci,Y av nv cv,Y af nf cf] 58) (aY #[J] 59) (aY #[.func (.func 156) #[] #[jk w.heap.size,jk (w.heap.size+1+1)]] 248);obtain⟨HB0,HB1,HB3,Eb⟩:=mg b0 b1 b3 hb0;have q12:=(aj b1 2).trans (rfl:_=some (Y av nv cv));have GZ:Hid (Told _ w.heap.size (w.heap.size+1+1) []):=I ⟨by omega,_,b2,eT.nil _ _ _ _⟩;clear hcv Ub hcf KF hlen hR hvars Rf xg hnf h b0 b1 b2 b3 hb0;go_enter func102,ntmps102;go_wp2_with fail;generalize ((((w.alloc (aY #[Y an nn cn,vl] 25)).alloc (aY #[A xn,Y ai ni ci,Y av nv cv,Y af nf cf] 58)).alloc (aY #[J] 59)).alloc (aY #[.func (.func 156) #[] #[jk w.heap.size,jk (w.heap.size+1+1)]] 248))=W1 at *;clear q12;go_loopw[15] (λi wr=>∃j:Nat,j<=nv/\i=O j/\Told wr w.heap.size (w.heap.size+1+1) ((vars.take j).flatMap λv=>aO.nE names ⟨#[]⟩ v.level)/\bG w wr/\dV (w.heap.size+1+1) W1 wr) (λi _=>nv - (intOf i).toNat);case atStart=>exact⟨0,bI _,rfl,by simpa using GZ.out,Eb.out,dV.refl _ _⟩
 case round=>
  obtain⟨j,hj,rfl,hto,hnx,htl⟩:=hrel;obtain⟨AZ,dM,FC⟩:=fq hto hnx htl;by_cases hjl:j<nv
  ·obtain⟨y,hy⟩:∃y,vars[j]?=some y:=⟨_,bg (by rw[<-Mg];exact hjl)⟩;obtain⟨-,-,g0,g1⟩:=HCV j y hy;obtain rfl:=Uc aV;replace g0:=aC g0 hnx;replace g1:=aC g1 hnx;obtain⟨HY,dW⟩:=bT hy (aH wr (aY #[A y.name,A y.level] 93));have c1:=(aj (bD wr (aY #[A y.name,A y.level] 93)) 1).trans (rfl:_=some (A y.level));obtain⟨c3,c0⟩:=eD (aC ((aj (htl.at aV HB3 bP) 0).trans rfl) dW) (aC ((aj (htl.at aV HB0 bP) 0).trans (rfl:_=some (Y an nn cn))) dW);have Zm:=I c0;have fM:Hid (((vars.take j).flatMap λv=>aO.nE names ⟨#[]⟩ v.level).length+(aO.nE names ⟨#[]⟩ y.level).length<=16777216):=I (by have h1:=vQ (f:=λv:Va=>aO.nE names ⟨#[]⟩ v.level) (l:=vars) (j+1);rw[jM hy,aW]at h1;have h2:=jR.out;rw[KL,aW]at h2;omega);clear hto hnx htl hy c0;go_wp2_with fail;refine(Xx _ w.heap.size (w.heap.size+1+1) w.heap.size _ _ names ⟨#[]⟩ y.level (AZ.below dW) (bH dM.out.size dW.size) fM Zm (HN.below (up dM dW))).mono ?_;rintro e w5 ⟨rfl,nP,hb5,CJ⟩;obtain⟨xZ,eF,HT6⟩:=fq nP ((up dM dW).trans hb5) ((FC.trans (dV.of_below dW)).trans CJ);clear nP hb5 CJ g0 g1 c1 c3;go_wp2_with fail;go_roundw;case rel=>exact⟨j+1,by omega,by go_num,by rw[jM HY];exact xZ,eF,HT6⟩
   case measure=>simp[intOf];omega
  ·have wY:(vars.take j)=vars:=fJ (by have:=Mg.out;omega);rw[wY]at AZ;have q13:=(aj (htl.at aV HB1 bP) 3).trans (rfl:_=some (Y af nf cf));clear wY hnx htl hto;generalize hF1:(vars.flatMap λv=>aO.nE names ⟨#[]⟩ v.level)=F1 at *;go_wp2_with fail;go_loopw[27] (λi wx=>∃j:Nat,j<=nf/\i=O j/\Told wx w.heap.size (w.heap.size+1+1) (F1++(bq.take j).flatMap λf=>(aO.all m f.body).flatMap (zK names f.name))/\bG w wx/\dV (w.heap.size+1+1) W1 wx) (λi _=>nf - (intOf i).toNat);case atStart=>exact⟨0,bI _,rfl,by simpa using AZ.out,dM.out,FC.out⟩
   case round=>
    obtain⟨t,ht,rfl,hto,hnx,htl⟩:=hrel;obtain⟨HTO3,UQ,HTL3⟩:=fq hto hnx htl;by_cases Og:t<nf
    ·obtain⟨y,hy⟩:∃y,bq[t]?=some y:=⟨_,bg (by rw[<-uH];exact Og)⟩;obtain⟨-,vp,vb,e0,e1,e2,e3,g0,g1,g2,g3,g4,g5,g6,hp,hb,hx⟩:=Oe t y hy;obtain rfl:=KG aV;obtain⟨HY,HVB⟩:=bT hy hb;replace g0:=aC g0 hnx;replace g1:=aC g1 hnx;replace g2:=aC g2 hnx;replace g3:=aC g3 hnx;replace g4:=aC g4 hnx;replace g5:=aC g5 hnx;replace g6:=aC g6 hnx;obtain⟨ap,bp,op,cp,rfl,-⟩:=hp;obtain⟨sb,cb',rfl⟩:=hb.tV;obtain⟨xa,xc,rfl,rfl,rfl,rfl⟩:=hx.shape;generalize y.params.length=np at *;generalize y.body.length=nb at *;generalize y.result.args.length=ne at *;have dW:=I (aH wr (aY #[A y.name,Y ap np cp,Y sb nb cb',O y.result.kind,O y.result.n,A y.result.name,Y xa ne xc] 109));have hbn:=bD wr (aY #[A y.name,Y ap np cp,Y sb nb cb',O y.result.kind,O y.result.n,A y.result.name,Y xa ne xc] 109);obtain⟨c2,hplt,hT2⟩:=lQ ((aj hbn 2).trans (rfl:_=some (Y sb nb cb'))) hto.lt (htl.trans (dV.of_below dW));have HVI:=I (askS_any w _ m (w.heap.size+1+1) w.heap.size (w.heap.size+1+1+1) wr.heap.size _ names y.name _ _ HN (hT2.at aV HB0 bP) rfl (hT2.at aV HB3 bP) hbn rfl aV aV aV);have fM:Hid ((F1++(bq.take t).flatMap λf=>(aO.all m f.body).flatMap (zK names f.name)).length+((aO.all m y.body).flatMap (zK names y.name)).length<=16777216):=I (by have h1:=vQ (f:=λf:Fu=>(aO.all m f.body).flatMap (zK names f.name)) (l:=bq) (t+1);rw[jM hy,aW]at h1;have h2:=jR.out;rw[KL,aW]at h2;rw[aW];omega);clear hto hnx htl hy hb hx hT2 hbn;go_wp2_with fail;refine(wR w _ m (w.heap.size+1+1) 158 _ _ (enters_of func158 bU rfl) HVI m _ _ y.body _ (bF _) (up UQ dW) (dV.refl _ _) (HTO3.below dW) HVB fM).mono ?_;rintro e w5 ⟨rfl,nP,hb5,CJ⟩;obtain⟨xZ,eF,HT6⟩:=fq nP ((up UQ dW).trans hb5) ((HTL3.trans (dV.of_below dW)).trans CJ);clear nP hb5 CJ g0 g1 g2 g3 g4 g5 g6 c2;go_wp2_with fail;go_roundw;case rel=>exact⟨t+1,by omega,by go_num,by rw[jM HY,<-iM];exact xZ,eF,HT6⟩
     case measure=>simp[intOf];omega
    ·have wY:(bq.take t)=bq:=fJ (by have:=uH.out;omega);rw[wY,<-KL]at hto;obtain⟨-,v,hv1,hv2⟩:=hto;have HV2:=I hv2;have c0:=(aj hv1 0).trans (rfl:_=some v);obtain⟨a9,c9,rfl⟩:=hv2.form;clear hv1 hv2 wY htl hnx;go_wp2_with fail;go_ret;exact⟨_,rfl,HV2,UQ⟩
theorem UO.up{W0 W W1:World}{M p g:Nat}{cb:Array Value}{D:Ex->List Dg}(h:UO W0 W M p g cb D)(hT:dV p W W1):UO W0 W1 M p g cb D:=
 λw c0 c1 c2 c3 y l h1 h2 h3 h4 h5=>h w c0 c1 c2 c3 y l h1 (hT.trans h2) h3 h4 h5
theorem Lc(W0 W:World)(M p g r:Nat)(cb:Array Value)(D:Ex->List Dg)(eg:∀args w,(callFunc g args).run prog w=.ok (.enter g args) w)(hv:UO W0 W M p g cb D)(hr:W.heap[r]?=some (aY #[.func (.func g) #[] cb] 253))(hrp:r≠p):VisS W0 W M p 206 #[jk r] (λs=>(fG M s.e).flatMap D):=by intro w e0 e1 e2 e3 va vb s l hW hT hl hst hlen;have HB0:=I (aH w (aY #[O s.kind,A s.name,e0,e1,e2,e3,va,vb] 164));have hz:=box8 w (O s.kind) (A s.name) e0 e1 e2 e3 va vb 164;obtain⟨GZ,HW,HT,HV,jR⟩:=tq (hl.below HB0) hW hT hv hlen;obtain⟨z2,z3,z4,z5⟩:=rG (hz 2 _ rfl) (hz 3 _ rfl) (hz 4 _ rfl) (hz 5 _ rfl);have hr1:=aC ((aj (hT.at hrp hr bP) 0).trans rfl) HB0;obtain⟨f0,f1,f2,f3,fa,fb,hc,-,-,hx,-,-⟩:=hst;simp only[ZQ40Z,and_true,true_and]at hc;obtain⟨rfl,rfl,rfl,rfl,rfl,rfl⟩:=hc;have HX:=I hx;obtain⟨xa,xc,rfl,rfl,rfl,rfl⟩:=hx.shape;generalize s.e.args.length=ne at *;have EG:=I eg;clear hz hr hl hT hW hv hlen hx eg;show Calls prog 206 #[.agg #[O s.kind,A s.name,O s.e.kind,O s.e.n,A s.e.name,Y xa ne xc,va,vb],jk r] w _;go_enter func206,ntmps206;go_wp2_with fail;refine(FJ W0 W M p g cb D EG HV M _ _ _ _ _ s.e l (bF _) (HW.trans (HB0.mono HW.size)) (HT.trans (dV.of_below HB0)) GZ HX jR).mono ?_;rintro e w5 ⟨rfl,nP,hb5,CJ⟩;obtain⟨xZ,dW⟩:=bT nP ((HB0.mono HW.size).trans hb5);have Zl:Hid (dV p w w5):=I ((dV.of_below HB0).trans CJ);clear nP hb5 CJ;go_wp2;go_end0;exact⟨rfl,xZ,dW,Zl⟩
namespace aO
def mI(m:Nat)(f:Fu):List Ex:=((all m f.body).flatMap λs=>fG m s.e)++fG m f.result
end aO
theorem al2(w:World)(a b:Obj):((w.alloc a).alloc b).heap[w.heap.size]?=some a/\((w.alloc a).alloc b).heap[w.heap.size+1]?=some b/\bG w ((w.alloc a).alloc b):=by have h1:=bD w a;have h2:=bD (w.alloc a) b;simp only[Ef]at h2;refine⟨?_,h2,up (aH _ _) (aH _ _)⟩;rw[(aH _ b).block _ cZ];exact h1
theorem Oh(W0 W:World)(M p g:Nat)(cb:Array Value)(D:Ex->List Dg)(eg:∀args w,(callFunc g args).run prog w=.ok (.enter g args) w)(hv:UO W0 W M p g cb D)(w:World)(fn:aZ)(vp vb e0 e1 e2 e3:Value)(f:Fu)(l:List Dg)(hW:bG W0 w)(hT:dV p W w)(hl:Told w W0.heap.size p l)(hb:eU W0 M vb f.body)(hx:gQ W0 M e0 e1 e2 e3 f.result)(hlen:l.length+((mI M f).flatMap D).length<=16777216):Calls prog 159 #[.agg #[A fn,vp,vb,e0,e1,e2,e3],.func (.func g) #[] cb] w λe w'=>e=cO (.tuple #[])/\Told w' W0.heap.size p (l++(mI M f).flatMap D)/\Below W0.heap.size w w'/\dV p w w':=by have HX:=I hx;have HVB:=I hb;obtain⟨sb,cb',rfl⟩:=hb.tV;obtain⟨xa,xc,rfl,rfl,rfl,rfl⟩:=hx.shape;generalize f.body.length=nb at *;generalize f.result.args.length=ne at *;obtain⟨b0,b1,hb0⟩:=al2 w (aY #[A fn,vp,Y sb nb cb',O f.result.kind,O f.result.n,A f.result.name,Y xa ne xc] 109) (aY #[.func (.func g) #[] cb] 253);obtain⟨HB0,HB1,Eb,HP,HW,HT⟩:=vC b0 b1 hb0 hl.lt hW hT;obtain⟨GZ,EG,HV,HS⟩:=mg (hl.below hb0) eg (hv.up (hT.trans (dV.of_below hb0))) (Lc W0 _ M p g (w.heap.size+1) cb D eg (hv.up (hT.trans (dV.of_below hb0))) b1 (by have:=hl.lt;omega));have A8:Hid ((mI M f).flatMap D=((aO.all M f.body).flatMap λs=>(fG M s.e).flatMap D)++(fG M f.result).flatMap D):=I (by unfold mI;rw[lH,List.flatMap_assoc]);rw[A8,aW]at hlen;have jR:=I hlen;have q2:=(aj b0 2).trans (rfl:_=some (Y sb nb cb'));clear hx hb b0 b1 hb0 hl hW hT eg hv hlen;go_enter func159,ntmps159;go_wp2_with fail;generalize ((w.alloc (aY #[A fn,vp,Y sb nb cb',O f.result.kind,O f.result.n,A f.result.name,Y xa ne xc] 109)).alloc (aY #[.func (.func g) #[] cb] 253))=W1 at *;refine(wR W0 W1 M p 206 _ _ (enters_of func206 bU rfl) HS M _ _ f.body l (bF _) (HW.trans (Eb.mono HW.size)) (dV.refl _ _) GZ HVB (by have:=jR.out;omega)).mono ?_;rintro e w5 ⟨rfl,nP,hb5,CJ⟩;obtain⟨xZ,dW,Zl⟩:=fq nP ((Eb.mono HW.size).trans hb5) CJ;obtain⟨hb05,Rh⟩:=eD (CJ.at (by have:=HP.out;omega) HB0 bP) (CJ.at (by have:=HP.out;omega) HB1 bP);obtain⟨k3,k4,k5,k6⟩:=rG ((aj hb05 3).trans (rfl:_=some (O f.result.kind))) ((aj hb05 4).trans (rfl:_=some (O f.result.n))) ((aj hb05 5).trans (rfl:_=some (A f.result.name))) ((aj hb05 6).trans (rfl:_=some (Y xa ne xc)));have k7:=(aj Rh 0).trans (rfl:_=some (Value.func (.func g) #[] cb));clear nP hb5 CJ hb05 Rh q2;go_wp2_with fail;refine(FJ W0 W1 M p g cb D EG HV M _ _ _ _ _ f.result _ (bF _) (HW.trans dW) Zl xZ HX (by have:=jR.out;rw[aW];omega)).mono ?_;rintro e w6 ⟨rfl,hto6,hb6,ht6⟩;obtain⟨HTO6,eF⟩:=bT hto6 (dW.trans hb6);have HT6:Hid (dV p w w6):=I (((dV.of_below Eb).trans Zl).trans ht6);clear hto6 hb6 ht6;go_wp2;go_end0;exact⟨rfl,by rw[A8,<-iM];exact HTO6,eF,HT6⟩
namespace aO
def Zn(x:Mo)(known:List Mo)(k:Nat)(fn:aZ)(y:Ex):List Dg:=if code x known k y.name y.args.length=0 then []else [⟨code x known k y.name y.args.length,fn,y.name⟩]
end aO
theorem Zo(W0 W:World)(m p qs qk qf:Nat)(x:Mo)(known:List Mo)(vi vv vf vk va:Value)(k:Nat)(fn:aZ)(cf:Array Value)(hS:ScV W0 m x known vi vv vf vk va)(hk:k<=x.bq.length)(hs:W.heap[qs]?=some (aY #[A x.name,vi,vv,vf,vk,va] 189))(hqk:W.heap[qk]?=some (aY #[O k] 3))(hqf:W.heap[qf]?=some (.cells cf 109 (0,0)))(hfn:cf[0]?=some (A fn))(hsp:qs≠p)(hkp:qk≠p)(hfp:qf≠p):UO W0 W m p 160 #[jk qs,jk qk,jk p,jk qf] (Zn x known k fn):=by
 intro w c0 c1 c2 c3 y l hW hT hl hE hlen;have QT:=I hE;obtain⟨xa,xc,rfl,rfl,rfl,rfl⟩:=hE.shape;obtain⟨HB0,HBN⟩:=sS w (aY #[O y.kind,O y.n,A y.name,Y xa y.args.length xc] 107);obtain⟨s1,s2,s3⟩:=lQ (hT.at hsp hs bP) (hT.at hkp hqk bP) (hT.at hfp hqf bP);obtain⟨u0,u1,u2⟩:=lQ (aC ((aj s1 0).trans (rfl:_=some (A x.name))) HB0) (aC ((aj s1 1).trans (rfl:_=some vi)) HB0) (aC ((aj s1 2).trans (rfl:_=some vv)) HB0);have KD:=aC ((aj s1 3).trans (rfl:_=some vf)) HB0;have u4':=aC ((aj s1 4).trans (rfl:_=some vk)) HB0;have vD:=I ((aj s3 0).trans hfn);obtain⟨u5,u6,z0,z1⟩:=rG (aC ((aj s1 5).trans (rfl:_=some va)) HB0) (aC ((aj s2 0).trans (rfl:_=some (O k))) HB0) (Ie w (O y.kind) (O y.n) (A y.name) (Y xa y.args.length xc) 107) (Fv w (O y.kind) (O y.n) (A y.name) (Y xa y.args.length xc) 107);obtain⟨z2,z3⟩:=eD (Fw w (O y.kind) (O y.n) (A y.name) (Y xa y.args.length xc) 107) (Fp w (O y.kind) (O y.n) (A y.name) (Y xa y.args.length xc) 107);obtain⟨HZ2,HW,GZ,rY⟩:=mg z2 hW hl (Od m m _ x known vi vv vf vk va k _ _ _ _ y (hS.below (hW.trans (HB0.mono hW.size))) hk (QT.below (hW.trans (HB0.mono hW.size))));have HD:Hid (Zn x known k fn y=if aO.code x known k y.name y.args.length=0 then []else [⟨aO.code x known k y.name y.args.length,fn,y.name⟩]):=rfl;rw[HD]at hlen;generalize aO.code x known k y.name y.args.length=cd at *;obtain⟨hI,hV,hF⟩:=hS.mo.split;obtain⟨hK,hA⟩:=eD hS.kn hS.ats;obtain⟨ai,bi,oi,ci,rfl,-⟩:=hI;obtain⟨av,bv,ov,cv,rfl,-⟩:=hV;obtain⟨af,bf,of,cf',rfl,-⟩:=hF;obtain⟨ak,bk,ok,ck,rfl,-⟩:=hK;obtain⟨aa,ba,oa,ca,rfl,-⟩:=hA;generalize (x.imports.map λs=>oI (aO.dw known s)).length=nat at *;generalize x.imports.length=ni at *;generalize x.vars.length=nv at *;generalize x.bq.length=nf at *;generalize known.length=nk at *;generalize y.args.length=na at *;clear hs hqk hqf hfn s1 s2 s3 hE hT hS;show Calls prog 160 #[.agg #[O y.kind,O y.n,A y.name,Y xa na xc],jk qs,jk qk,jk p,jk qf] w _;by_cases h0:cd=0
 ·have h0':(cd==0)=true:=by simp[h0]
  rw[aL h0]at HD;clear h0 hl hW hlen;go_enter func160,ntmps160;go_wp2_with fail;refine rY.mono ?_;rintro e w5 ⟨rfl,hb5⟩;have dW:=I (up HB0 hb5);clear hb5 z0 z1 z2 z3 u0 u1 u2 KD u4' u5 u6;go_wp2_with fail;go_end0;exact⟨rfl,by rw[HD,gK];exact GZ.below dW,dW.mono HW.size,dV.of_below dW⟩
 ·have h0':(cd==0)=false:=by simp[h0]
  rw[aJ h0]at HD hlen;clear h0 hl hW;have hl2:l.length<16777216:=by simp at hlen;omega
  clear hlen;go_enter func160,ntmps160;go_wp2_with fail;refine rY.mono ?_;rintro e w5 ⟨rfl,hb5⟩;have dW:=I (up HB0 hb5);have nP:=GZ.below dW;obtain⟨t0,v,t1,t2⟩:=nP;have q0:w5.cell? (X p 0)=some v:=by rw[aj t1];rfl
  obtain⟨H0,H1,H2⟩:=fq t0 t1 t2;obtain⟨y2,f0,G5⟩:=lQ (aC HZ2 hb5) (aC vD dW) (bH HW.out.size dW.size);clear hb5 z0 z1 z2 z3 u0 u1 u2 KD u4' u5 u6 t0 t1 t2
  go_wp2_with (first
   | (at_builtin;refine gG (At:=qz) rfl _ _ 59 80 3 40 _ rfl underlying59 qA bP bP bP W0.heap.size _ _ rfl (H2.below (aH _ _)) _ _ [⟨cd,fn,y.name⟩] rfl (eT.one _ _ rfl (qz.one (d:=⟨cd,fn,y.name⟩) rfl) rfl) (by simp only[iT];omega) (bH G5 (aH _ _).size) ?_;intro v6 w6 hown6 eG;obtain⟨a6,c6,hv6⟩:=hown6.form;subst hv6;have HP:=I (Told.push H0 H1 H2 hown6 eG);have z0:=(aj HP.1 0).trans (show _=some v from rfl);have zf:=aG HP.1 0;clear hown6 eG)
   | fail)
  go_end0;have hl1:(l++[(⟨cd,fn,y.name⟩:Dg)]).length=l.length+1:=by simp
  rw[hl1]at HP;exact⟨rfl,by rw[HD];exact HP.2.1,(dW.mono HW.size).trans HP.2.2.1,(dV.of_below dW).trans HP.2.2.2⟩
namespace aO
def upto(g:Nat->List Dg)(n:Nat):List Dg:=(List.range n).flatMap g
theorem jr(g:Nat->List Dg)(n:Nat):upto g (n+1)=upto g n++g n:=by unfold upto;rw[Hz,lH];simp
theorem Mh(g:Nat->List Dg):upto g 0=[]:=rfl
theorem Oi (g : Nat → List Dg) {j n : Nat} (h : j ≤ n) : (upto g j).length ≤ (upto g n).length := by
 induction n with
 | zero =>
  have : j = 0 := by omega
  subst this; exact Nat.le_refl _
 | succ n ih =>
  by_cases e : j = n + 1
  ·subst e; exact Nat.le_refl _
  ·rw [jr, List.length_append]; have := ih (by omega); omega
theorem mem_upto{g:Nat->List Dg}{n:Nat}{d:Dg}:d∈upto g n↔∃i,i<n/\d∈g i:=by unfold upto;simp
def Zp{α:Type}(l:List α)(f:Nat->α->List Dg)(i:Nat):List Dg:=match l[i]? with
 | some x=>f i x
 | none=>[]
theorem uL{α:Type}{l:List α}{f:Nat->α->List Dg}{i:Nat}{x:α}(h:l[i]?=some x):Zp l f i=f i x:=by unfold Zp;rw[h]
def clD(x:Mo)(known:List Mo)(m:Nat):List Dg:=upto (Zp x.bq λk f=>(mI m f).flatMap (Zn x known k f.name)) x.bq.length
def imD(x:Mo)(known:List Mo):List Dg:=upto (Zp x.imports λ_ s=>if (dD s x.name||(dw known s).isNone)=true then [⟨1,⟨#[]⟩,s⟩]else []) x.imports.length
end aO
theorem Ld(m:Nat)(w:World)(x:Mo)(known:List Mo)(vi vv vf vk va:Value)(h:ScV w m x known vi vv vf vk va)(hlen:(clD x known m).length<=16777216):Calls prog 103 #[.agg #[A x.name,vi,vv,vf,vk,va]] w λe w'=>∃u,e=cO u/\eT qz w' w.heap.size 80 3 u (clD x known m)/\bG w w':=by
 have HS:=I h;obtain⟨hI,hV,hF⟩:=h.mo.split;obtain⟨hK,hA⟩:=eD h.kn h.ats;obtain⟨ai,bi,oi,ci,rfl,-⟩:=hI;obtain⟨av,bv,ov,cv,rfl,-⟩:=hV;obtain⟨af,bf,of,cf,rfl,KF,hlf,hcf⟩:=hF;obtain⟨ak,bk,ok,ck,rfl,-⟩:=hK;obtain⟨aa,ba,oa,ca,rfl,-⟩:=hA;have Oe:Hid (KY w m bf of x.bq):=hcf;have KG:=I KF;obtain⟨G,hG⟩:=bC (Zp x.bq λk f=>(mI m f).flatMap (Zn x known k f.name));have HG:=I hG;have KL:Hid (clD x known m=aO.upto G x.bq.length):=I (by rw[hG];rfl);have jR:=I hlen;rw[KL]at jR ⊢;obtain⟨nf,hnf⟩:=bC x.bq.length;have uH:=I hnf;rw[<-hnf]at hlf KG jR HS ⊢;generalize (x.imports.map λs=>oI (aO.dw known s)).length=nat at *;generalize x.imports.length=ni at *;generalize x.vars.length=nv at *;generalize known.length=nk at *;obtain⟨b0,b1,hb0⟩:=al2 w (aY #[A x.name,Y ai ni ci,Y av nv cv,Y af nf cf,Y ak nk ck,Y aa nat ca] 189) (aY #[J] 59);obtain⟨HB0,Eb⟩:=bT b0 hb0;have q3:=(aj b0 3).trans (rfl:_=some (Y af nf cf));have GZ:Hid (Told _ w.heap.size (w.heap.size+1) []):=I ⟨by omega,_,b1,eT.nil _ _ _ _⟩;clear hcf KF hlen hG hnf h b0 b1 hb0;go_enter func103,ntmps103;go_wp2_with fail;generalize ((w.alloc (aY #[A x.name,Y ai ni ci,Y av nv cv,Y af nf cf,Y ak nk ck,Y aa nat ca] 189)).alloc (aY #[J] 59))=W1 at *;clear q3;go_loopw[10] (λi wr=>∃j:Nat,j<=nf/\i=O j/\Told wr w.heap.size (w.heap.size+1) (aO.upto G j)/\bG w wr/\dV (w.heap.size+1) W1 wr) (λi _=>nf - (intOf i).toNat);case atStart=>exact⟨0,bI _,rfl,GZ,Eb,dV.refl _ _⟩
 case round=>
  obtain⟨t,ht,rfl,hto,hnx,htl⟩:=hrel;obtain⟨HTO3,UQ,HTL3⟩:=fq hto hnx htl;by_cases Og:t<nf
  ·obtain⟨y,hy⟩:∃y,x.bq[t]?=some y:=⟨_,bg (by rw[<-uH];exact Og)⟩;obtain⟨-,vp,vb,e0,e1,e2,e3,g0,g1,g2,g3,g4,g5,g6,hp,hb,hx⟩:=Oe t y hy;obtain rfl:=KG aV;have HY:Hid (G t=(mI m y).flatMap (Zn x known t y.name)):=I (by rw[HG];exact uL hy);obtain⟨HVB,HVX⟩:=bT hb hx;replace g0:=aC g0 hnx;replace g1:=aC g1 hnx;replace g2:=aC g2 hnx;replace g3:=aC g3 hnx;replace g4:=aC g4 hnx;replace g5:=aC g5 hnx;replace g6:=aC g6 hnx;obtain⟨ap,bp,op,cp,rfl,-⟩:=hp;obtain⟨sb,cb',rfl⟩:=hb.tV;obtain⟨xa,xc,rfl,rfl,rfl,rfl⟩:=hx.shape;generalize y.params.length=np at *;generalize y.body.length=nb at *;generalize y.result.args.length=ne at *;obtain⟨c0,c1,hb5⟩:=al2 wr (aY #[O t] 3) (aY #[A y.name,Y ap np cp,Y sb nb cb',O y.result.kind,O y.result.n,A y.result.name,Y xa ne xc] 109);have dW:=I hb5;obtain⟨d0,d1,d2,d3,d4,d5,d6⟩:=Iz ((aj c1 0).trans (rfl:_=some (A y.name))) ((aj c1 1).trans (rfl:_=some (Y ap np cp))) ((aj c1 2).trans (rfl:_=some (Y sb nb cb'))) ((aj c1 3).trans (rfl:_=some (O y.result.kind))) ((aj c1 4).trans (rfl:_=some (O y.result.n))) ((aj c1 5).trans (rfl:_=some (A y.result.name))) ((aj c1 6).trans (rfl:_=some (Y xa ne xc)));obtain⟨hplt,hT2⟩:=eD hto.lt (htl.trans (dV.of_below hb5));have HVI:=I (Zo w _ m (w.heap.size+1) w.heap.size wr.heap.size (wr.heap.size+1) x known _ _ _ _ _ t y.name _ HS (by rw[<-uH];exact ht) (hT2.at aV HB0 bP) c0 c1 rfl aV aV aV);have fM:Hid ((aO.upto G t).length+((mI m y).flatMap (Zn x known t y.name)).length<=16777216):=I (by have h1:=Oi G (show t+1<=nf by omega);rw[jr,aW,HY]at h1;have h2:=jR.out;omega);clear hto hnx htl hy hb hx hT2 c0 c1 hb5;go_wp2_with fail;refine(Oh w _ m (w.heap.size+1) 160 _ _ (enters_of func160 bU rfl) HVI _ y.name _ _ _ _ _ _ y _ (up UQ dW) (dV.refl _ _) (HTO3.below dW) HVB HVX fM).mono ?_;rintro e w5 ⟨rfl,nP,hb5,CJ⟩;obtain⟨xZ,eF,HT6⟩:=fq nP ((up UQ dW).trans hb5) ((HTL3.trans (dV.of_below dW)).trans CJ);clear nP hb5 CJ g0 g1 g2 g3 g4 g5 g6 d0 d1 d2 d3 d4 d5 d6;go_wp2_with fail;go_roundw;case rel=>exact⟨t+1,by omega,by go_num,by rw[jr,HY];exact xZ,eF,HT6⟩
   case measure=>simp[intOf];omega
  ·have wY:t=nf:=by omega
   rw[wY]at hto;obtain⟨-,v,hv1,hv2⟩:=hto;have HV2:=I hv2;have c0:=(aj hv1 0).trans (rfl:_=some v);obtain⟨a9,c9,rfl⟩:=hv2.form;generalize (aO.upto G nf).length=nu at *;clear hv1 hv2 wY htl hnx;go_wp2_with fail;go_ret;exact⟨_,rfl,HV2,UQ⟩
theorem Gj(m:Nat)(w:World)(x:Mo)(known:List Mo)(vi vv vf vk va:Value)(h:ScV w m x known vi vv vf vk va)(hlen:(imD x known).length<=16777216):Calls prog 100 #[.agg #[A x.name,vi,vv,vf,vk,va]] w λe w'=>∃u,e=cO u/\eT qz w' w.heap.size 80 3 u (imD x known)/\bG w w':=by
 obtain⟨hI,hV,hF⟩:=h.mo.split;obtain⟨hK,hA⟩:=eD h.kn h.ats;obtain⟨ai,bi,oi,ci,rfl,hai,NI,hcs,hci⟩:=hI;obtain⟨av,bv,ov,cv,rfl,-⟩:=hV;obtain⟨af,bf,of,cf,rfl,-⟩:=hF;obtain⟨ak,bk,ok,ck,rfl,-⟩:=hK;obtain⟨aa,ba,oa,ca,rfl,haa,hla,hca⟩:=hA;obtain⟨HCI,HAI,NM⟩:=fq hci hai hca;obtain⟨G,hG⟩:=bC (Zp x.imports λ_ s=>if (dD s x.name||(aO.dw known s).isNone)=true then [⟨1,⟨#[]⟩,s⟩]else []);have HG:=I hG;have KL:Hid (imD x known=aO.upto G x.imports.length):=I (by rw[hG];rfl);have jR:=I hlen;rw[KL]at jR ⊢;have Uu:(x.imports.map λs=>oI (aO.dw known s)).length=x.imports.length:=by rw[dR]
 rw[Uu]at hla haa ⊢;have HAA:=I haa;obtain⟨ni,hni⟩:=bC x.imports.length;have DR:=I hni;rw[<-hni]at NI HAI jR hla HAA ⊢;generalize x.bq.length=nf at *;generalize x.vars.length=nv at *;generalize known.length=nk at *;have HB0:=I (aH w (aY #[A x.name,Y ai ni ci,Y av nv cv,Y af nf cf,Y ak nk ck,Y aa ni ca] 189));have dO:=λi v h=>Zb w (A x.name) (Y ai ni ci) (Y av nv cv) (Y af nf cf) (Y ak nk ck) (Y aa ni ca) 189 i v h;obtain⟨q0,q1,q5⟩:=lQ (dO 0 _ rfl) (dO 1 _ rfl) (dO 5 _ rfl);clear hci hai hcs hca haa hlen hG hni h Uu;go_enter func100,ntmps100;go_wp2_with fail;generalize (w.alloc (aY #[A x.name,Y ai ni ci,Y av nv cv,Y af nf cf,Y ak nk ck,Y aa ni ca] 189))=W1 at *;go_loopw[3,10] (λv i wr=>∃j:Nat,j<=ni/\i=O j/\eT qz wr W1.heap.size 80 3 v (aO.upto G j)/\bG W1 wr) (λ_ i _=>ni - (intOf i).toNat);case atStart=>exact⟨0,bI _,rfl,eT.nil _ _ _ _,bN _ _⟩
 case round=>
  obtain⟨t,ht,rfl,hown,hnx⟩:=hrel;obtain⟨HOW,dM⟩:=bT hown hnx;by_cases Og:t<ni
  ·obtain⟨s,hs⟩:∃y,x.imports[t]?=some y:=⟨_,bg (by rw[<-DR];exact Og)⟩;have c0:=aC (aC (HCI t (by rw[<-DR];exact Og)) HB0) hnx;rw[wP,hs,iK]at c0;obtain rfl:=HAI aV;obtain rfl:=HAA aV;have c5:=aC (aC (NM t (oI (aO.dw known s)) (by rw[pY,hs];rfl)) HB0) hnx;have HY:Hid (G t=if (dD s x.name||(aO.dw known s).isNone)=true then [⟨1,⟨#[]⟩,s⟩]else []):=I (by rw[HG];exact uL hs);replace q0:=aC q0 hnx;replace q5:=aC q5 hnx;obtain⟨a3,c3,rfl⟩:=hown.form;have hul:(aO.upto G t).length<16777216\/G t=[]:=by
    have h1:=Oi G (show t+1<=ni by omega);rw[jr,aW]at h1;have h2:=jR.out;by_cases hg:G t=[];·exact aT hg
    ·have:=uF.2 hg;exact aR aV
   have HUL:=I hul;obtain⟨ul,hut⟩:=bC ((aO.upto G t).length);have HUT:=I hut;rw[<-hut]at HOW ⊢;clear hs hown hnx hut hul q1;cases hb1:(s.toList==x.name.toList)
   ·have hsb:dD s x.name=false:=hb1;rw[hsb,Bool.false_or]at HY;clear hsb;cases hmo:aO.dw known s with
    | none=>
     rw[hmo]at HY c5;have ho:oI none=-1:=rfl;rw[ho]at c5;rw[Option.isNone_none,aL rfl]at HY;have hul:ul<16777216:=by
      rcases HUL with h|h;·rw[HUT];exact h
      ·rw[HY]at h;cases h
     clear hmo ho
     go_wp2_with (first
      | (at_builtin;refine gG (At:=qz) rfl _ _ 59 80 3 40 _ rfl underlying59 qA bP bP bP W1.heap.size _ _ rfl (HOW.below (aH _ _)) _ _ [⟨1,⟨#[]⟩,s⟩] rfl (eT.one _ _ rfl (qz.one (d:=⟨1,⟨#[]⟩,s⟩) rfl) rfl) (by have:=HUT.out;simp only[iT];omega) (bH dM.out.size (aH _ _).size) ?_;intro v6 w6 hown6 eG;have oG:=I hown6;have lI:=I (jT (up dM (aH _ _)) eG (λj hj=>(HOW.lt j hj).1));clear hown6 eG)
      | fail)
     go_roundw;case rel=>exact⟨t+1,by omega,by go_num,by rw[jr,HY];exact oG,lI⟩
     case measure=>simp[intOf];omega
    | some a=>
     rw[hmo]at HY c5;have ho:oI (some a)=(a:Int):=rfl;rw[ho]at c5;rw[Option.isNone_some,aJ cZ]at HY;clear hmo ho;go_wp2_with fail;go_roundw;case rel=>exact⟨t+1,by omega,by go_num,by rw[jr,HY,gK];exact HOW,dM⟩
     case measure=>simp[intOf];omega
   ·have hsb:dD s x.name=true:=hb1;rw[hsb,Bool.true_or,aL rfl]at HY;have hul:ul<16777216:=by
     rcases HUL with h|h;·rw[HUT];exact h
     ·rw[HY]at h;cases h
    clear hsb
    go_wp2_with (first
     | (at_builtin;refine gG (At:=qz) rfl _ _ 59 80 3 40 _ rfl underlying59 qA bP bP bP W1.heap.size _ _ rfl (HOW.below (aH _ _)) _ _ [⟨1,⟨#[]⟩,s⟩] rfl (eT.one _ _ rfl (qz.one (d:=⟨1,⟨#[]⟩,s⟩) rfl) rfl) (by have:=HUT.out;simp only[iT];omega) (bH dM.out.size (aH _ _).size) ?_;intro v6 w6 hown6 eG;have oG:=I hown6;have lI:=I (jT (up dM (aH _ _)) eG (λj hj=>(HOW.lt j hj).1));clear hown6 eG)
     | fail)
    go_roundw;case rel=>exact⟨t+1,by omega,by go_num,by rw[jr,HY];exact oG,lI⟩
    case measure=>simp[intOf];omega
  ·have wY:t=ni:=by omega
   rw[wY]at HOW;obtain⟨a9,c9,rfl⟩:=hown.form;have HO2:=HOW;rw[wY]at HO2 ⊢;generalize (aO.upto G ni).length=nu at *;clear hown wY hnx;go_wp2_with fail;go_ret;exact⟨_,rfl,HO2.old HB0.size,up HB0 dM⟩
def Oj{α:Type}(At:List Value->α->Prop)(w:World)(n e k:Nat)(v:Value)(l:List α):Prop:=
 ∃cs:List (List Value),w.ownsRow n e k v l.length cs.flatten/\cs.length=l.length/\(∀c∈cs,c.length=k/\∀u∈c,u.oneCell'=true)/\(∀(i:Nat) c y,cs[i]?=some c->l[i]?=some y->At c y)
section
variable {α : Type} {At : List Value → α → Prop} {w w' : World} {n e k : Nat} {v : Value} {l : List α}
theorem eT.toR(h:eT At w n e k v l):Oj At w n e k v l:=by obtain⟨cs,h1,h2,h3,h4,_⟩:=h;exact⟨cs,h1,h2,h3,h4⟩
theorem Oj.toK(h:Oj At w n e k v l)(hz:l=[]->v=J):eT At w n e k v l:=by obtain⟨cs,h1,h2,h3,h4⟩:=h;exact⟨cs,h1,h2,h3,h4,hz⟩
theorem Oj.lt(h:Oj At w n e k v l):∀j,v.ownBlock=some j->n<=j/\j<w.heap.size:=by obtain⟨cs,h1,_⟩:=h;exact h1.lt
end
section
variable {α : Type} {At : List Value → α → Prop} {w : World} {ops : Array Oper} {rest : List Oper} {o : Oper} {a : Act} {Q : Exit → Act → World → Prop}
theorem Gl(hgd:o.guard=none)(s x:Operand)(t e k bytes:Nat)(z:Value)(ho:o.op=.call { callee:=.builtin .append,args:=#[s,x],argTypes:=#[t,t] })(ht:prog.underlying t=some (.slice e))(hinfo:(prog.info? e).map (λi=>(i.zero,i.size,i.bytes))=some (some z,k,bytes))(hzs:z.cells.size=k)(hk:0<k)(hby:bytes<=1024)(n:Nat)(v:Value)(l:List α)(hs:a.eval s=v)(hown:Oj At w n e k v l)(n2:Nat)(v2:Value)(l2:List α)(hx:a.eval x=v2)(hown2:eT At w n2 e k v2 l2)(hl:l.length+l2.length<=16777216)(hbase:n<=w.heap.size)(h:∀v' w',Oj At w' n e k v' (l++l2)->(l2=[]->v'=v)->w.grownBy w' v.ownBlock->wpList prog ops Q rest (a.put o.dst v') w'):wpList prog ops Q (o::rest) a w:=by
 obtain⟨iS,BN,hz0,hz1,hz2⟩:=info_parts hinfo;have HO:=hown;obtain⟨cs,hr,k1,k2,k3⟩:=hown;rcases hown2.shape with⟨rfl,rfl⟩|⟨g2,cap2,rfl,_,_,_,hne⟩;·refine wpList_append_own_none hgd s x t ho n e iS k ht BN v l.length cs.flatten hs hr hx ?_;exact h v w (by simpa using HO) (λ_=>rfl) ⟨rfl,rfl,rfl,bF _,λ_ _ _=>rfl⟩
 ·obtain⟨cs2,hr2,b1,b2,b3,_⟩:=hown2;have hpos:0<l2.length:=uF.2 hne;refine wpList_append_lies w hgd s x t ho n e iS z k bytes ht BN hz0 hz1 hz2 hzs hk v l.length cs.flatten hs hr ⟨g2,0,none⟩ l2.length cap2 cs2.flatten hx (by rw[pU cs2 (λc hc=>(b2 c hc).1),b1]) (λj u hu=>?_) (λu hu=>?_) hpos (by unfold maxLen;omega) (bH (Az hl hby) (by decide)) hbase w.heap.size rfl ?_;·rw[Addr.add_lit,eu,xG hr2 j (by have:=(dz.1 hu).1;rw[pU cs2 (λc hc=>(b2 c hc).1),b1]at this;exact this)];exact hu
  ·obtain⟨c,hc,hu'⟩:=List.mem_flatten.1 hu;exact(b2 c hc).2 u hu'
  ·intro g cap w' h1' h2 _ _;exact h _ w' (eT.cat ⟨k1,k2,k3⟩ ⟨b1,b2,b3⟩ hne h1').toR (λe=>aN e hne) h2
end
theorem Zq(w:World)(n:Nat)(hn:n<=16777216):Calls prog 154 #[J,O n] w λe w'=>∃v,e=cO v/\Oj qz w' w.heap.size 80 3 v []/\(n=0->v=J)/\bG w w':=by
 obtain⟨iS,BN,hz0,hz1,hz2⟩:=info_parts qA;by_cases h0:n=0;·subst h0;go_enter func154,ntmps154;go_wp2;go_ret;exact⟨_,rfl,(eT.nil _ _ _ _).toR,λ_=>rfl,bN _ _⟩
 ·obtain⟨Z,hZ⟩:∃Z:Value,Z=.agg #[O 0,A ⟨#[]⟩,A ⟨#[]⟩]:=⟨_,rfl⟩;rw[<-hZ]at hz0;have hrz:∀ty,(Builtin.append_ #[59,3] ty #[J,O n]).run prog w=.ok (Y (some (X w.heap.size 0)) n (grownCap w n 0 80)) (w.drew.alloc (.cells (Builtin.zeroCells Z.cells n++Builtin.zeroCells Z.cells (grownCap w n 0 80 - n)) 80)):=λty=>by have h:=Lib.run_append_grow_zeros w 59 3 ty 80 iS Z .i64 .i64 underlying59 underlying3 BN hz0 none 0 0 [] (run_firstCells_none w.drew _ 0 0 0) n aV aV aV aV (by rw[hz2];omega) (by rw[eu];exact growslice_fits aV (by rw[hz2];omega));simpa using h
  have hGn:n<=grownCap w n 0 80:=grownCap_ge w _ _ _;have hGm:grownCap w n 0 80<=maxLen:=grownCap_le_maxLen w n 0 80 (by unfold maxLen;omega);obtain⟨G,hG⟩:=bC (grownCap w n 0 80);rw[<-hG]at hrz hGn hGm;have hG63:G<=9223372036854775807:=by unfold maxLen at hGm;omega
  have hown:(w.drew.alloc (.cells (Builtin.zeroCells Z.cells n++Builtin.zeroCells Z.cells (G - n)) 80)).ownsRow w.heap.size 80 3 (Y (some (X w.heap.size 0)) 0 G) 0 []:=
   ⟨by simp,.inr ⟨w.heap.size,G,_,rfl,bF _,heap_alloc_new w.drew _,bI _,hGm,by
    have e:∀k,(Builtin.zeroCells Z.cells k).size=k*3:=λk=>by rw[hZ];simp[Builtin.zeroCells,Value.cells]
    rw[Array.size_append,e,e];omega,by simp⟩⟩
  have HO:=I hown;have iN:Hid (bG w (w.drew.alloc (.cells (Builtin.zeroCells Z.cells n++Builtin.zeroCells Z.cells (G - n)) 80))):=I (((bN _ _).drew).alloc cZ _);clear hown hG;generalize (w.drew.alloc (.cells (Builtin.zeroCells Z.cells n++Builtin.zeroCells Z.cells (G - n)) 80))=W1 at *;go_enter func154,ntmps154;go_wp2_with (at_builtin;refine Lib.wpList_append_run _ rfl _ _ _ _ rfl _ _ rfl rfl _ _ (hrz _) ?_);go_ret;exact⟨_,rfl,⟨[],HO,rfl,(λc hc=>aN hc cZ),(λi c y hc=>aN hc cZ)⟩,λh=>aN h h0,iN⟩
def Ri(w:World)(n:Nat)(v:Value)(ls:List (List Dg)):Prop:=
 ∃b off cap,v=.slice (some ⟨b,off,none⟩) ls.length cap/\ls.length<=16/\∀i l,ls[i]?=some l->∃vi,w.cell? ⟨b,off+i,none⟩=some vi/\eT qz w n 80 3 vi l
theorem I4{ls:List (List Dg)}{j:Nat}{l:List Dg}(h:ls[j]?=some l):(ls.take (j+1)).flatten=(ls.take j).flatten++l:=by obtain⟨hj,rfl⟩:=dz.1 h;rw[kR hj,Fj];simp
theorem CK(ls:List (List Dg))(j:Nat):(ls.take j).flatten.length<=ls.flatten.length:=by
 conv=>rhs;rw[<-mE j ls]
 rw[Fj,aW];omega
theorem FL(w:World)(n0:Nat)(v:Value)(ls:List (List Dg))(h:Ri w n0 v ls)(hn:ls.flatten.length<=16777216):Calls prog 99 #[v] w λe w'=>∃v',e=.returned v'/\eT qz w' w.heap.size 80 3 v' ls.flatten/\Below w.heap.size w w':=by
 obtain⟨b,off,cap,rfl,hl16,hel⟩:=h;have kg:=I hel;clear hel;obtain⟨len,hlen⟩:=bC ls.length;have HL:=I hlen;rw[<-hlen]at hl16 ⊢;clear hlen;go_enter func99,ntmps99;go_wp2;go_loop [3,11] (λo i=>∃k:Nat,k<=len/\i=.int .i64 k/\o=.int .i64 (ls.take k).flatten.length) (λ_ i=>len - (intOf i).toNat);case atStart=>exact⟨0,bI _,rfl,rfl⟩
 case round=>
  obtain⟨k,hk,rfl,rfl⟩:=hrel;have hacc:=bH (CK ls k) hn;by_cases hlt:k<len
  ·obtain⟨l,hy⟩:∃l,ls[k]?=some l:=⟨_,bg (by rw[<-HL];exact hlt)⟩;obtain⟨vi,g0,hst⟩:=kg k l hy;obtain⟨a,cp,rfl⟩:=hst.form;have HST:Hid ((ls.take (k+1)).flatten.length=(ls.take k).flatten.length+l.length):=I (by rw[I4 hy,aW]);have rV:=bH (CK ls (k+1)) hn;rw[HST]at rV;generalize (ls.take k).flatten.length=n0 at *;generalize l.length=n1 at *;clear hy hst;go_wp2;go_round;case rel=>exact⟨k+1,by omega,by go_num,by rw[HST];go_num⟩
   case measure=>simp[intOf];omega
  ·have e:ls.take k=ls:=fJ (by have:=HL.out;omega);rw[e]at hacc ⊢;clear e;obtain⟨N,hN⟩:=bC ls.flatten.length;have HN:=I hN;rw[<-hN]at hacc ⊢;clear hN;go_wp2_with fail;refine(Zq w N hacc).mono ?_;rintro e w1 ⟨v1,rfl,ho1,hz1,hb1⟩;obtain⟨HO,HB⟩:=bT ho1 hb1;have HZ:Hid (ls.flatten=[]->v1=.slice none 0 0):=I (λh=>hz1 (by rw[HN,h];rfl));clear ho1 hb1 hk hlt hz1;go_wp2;go_loopw[6,27] (λo i wr=>∃k:Nat,k<=len/\i=.int .i64 k/\Oj qz wr w.heap.size 80 3 o (ls.take k).flatten/\(ls.flatten=[]->o=.slice none 0 0)/\Below w.heap.size w wr) (λ_ i _=>len - (intOf i).toNat);case atStart=>exact⟨0,bI _,rfl,HO,HZ,HB⟩
   case round=>
    obtain⟨k,hk,rfl,hown,hzz,hnx⟩:=hrel;by_cases hlt:k<len
    ·obtain⟨l,hy⟩:∃l,ls[k]?=some l:=⟨_,bg (by rw[<-HL];exact hlt)⟩;obtain⟨vi,g0,hst⟩:=kg k l hy;have HSS:=I (hst.below hnx);have u0:=aC g0 hnx;obtain⟨a,cp,rfl⟩:=hst.form;have HST:=I (I4 hy);have rV:=bH (CK ls (k+1)) hn;rw[HST,aW]at rV;obtain⟨HOW,dM,HZZ⟩:=fq hown hnx hzz;have hbs:=hnx.size;have HEM:Hid (ls.flatten=[]->l=[]):=I (λh=>by have h1:=CK ls (k+1);rw[HST,aW,h]at h1;exact pQ.1 (by simp at h1;simpa using h1.2));obtain⟨n1,hn1⟩:=bC l.length;rw[<-hn1]at u0 HSS;clear hn1;clear hy hst g0 hown hnx hzz
     go_wp2_with (first
      | (at_builtin;refine Gl (At:=qz) rfl _ _ 59 80 3 40 _ rfl underlying59 qA (by decide) (by decide) (by decide) w.heap.size _ _ rfl HOW _ _ l rfl HSS (by omega) hbs ?_;intro v' w2 hown2 hz2 hgrow2)
      | fail)
     obtain⟨R2,HO2,HZ2⟩:=fq (dM.grown hgrow2 hbs (λj hj=>(HOW.lt j hj).1)) hown2 hz2;clear hgrow2 hown2 hz2;go_roundw;case rel=>exact⟨k+1,by omega,by go_num,by rw[HST];exact HO2,λh=>by rw[HZ2 (HEM h)];exact HZZ h,R2⟩
     case measure=>simp[intOf];omega
    ·have e:ls.take k=ls:=fJ (by have:=HL.out;omega);rw[e]at hown;have HO2:=I (hown.toK hzz);clear hown hzz;go_wp2;go_ret;exact⟨_,rfl,HO2,hnx⟩
theorem Strs.takeS{w:World}{a:Option Addr}{n cap i:Nat}{ss:List aZ}(h:Strs w (Y a n cap) ss)(hi:i<=ss.length):Strs w (Y a i cap) (ss.take i):=by
 obtain⟨a',b,off,c,e,h0,h1,h2,h3⟩:=h;injection e with e1 e2 e3;subst e1 e2 e3;have hl:(ss.take i).length=i:=by rw[List.length_take];omega
 refine⟨a,b,off,cap,by rw[hl],λh=>h0 aV,by omega,λs hs=>h2 s (List.mem_of_mem_take hs),λj hj=>?_⟩;rw[h3 j aV];rw[hl]at hj;simp[List.getD_eq_getElem?_getD,hj]
namespace aO
def BR(l:List aZ)(s:aZ):Bool:=decide (0<=dF l s)
def FM(fn:aZ)(l:List aZ):List Dg:=upto (Zp l λi s=>if BR (l.take i) s=true then [⟨2,fn,s⟩]else []) l.length
def twD(x:Mo):List Dg:=[FM ⟨#[]⟩ x.imports,FM ⟨#[]⟩ (x.vars.map (·.name)),FM ⟨#[]⟩ (x.bq.map (·.name))].flatten++x.bq.flatMap λf=>FM f.name f.params
end aO
theorem nJ(w:World)(v:Value)(l:List aZ)(fn:aZ)(h:xH w v l)(hlen:(FM fn l).length<=16777216):Calls prog 155 #[A fn,v] w λe w'=>∃u,e=cO u/\eT qz w' w.heap.size 80 3 u (FM fn l)/\bG w w':=by
 obtain⟨hS,a,cap,rfl,hcap⟩:=h;have HS:=I hS;obtain⟨a',b,off,c',he,ha,hl,hcs,hci⟩:=hS;injection he with he1 he2 he3;subst he1 he3;obtain⟨HCI,HA⟩:=bT hci ha;obtain⟨G,hG⟩:=bC (Zp l λi s=>if aO.BR (l.take i) s=true then [⟨2,fn,s⟩]else []);have HG:=I hG;have KL:Hid (FM fn l=aO.upto G l.length):=I (by rw[hG];rfl);have jR:=I hlen;rw[KL]at jR ⊢;obtain⟨ni,hni⟩:=bC l.length;have DR:=I hni;rw[<-hni]at hl HA jR hcap HS ⊢;clear hci ha hcs hlen hG hni he2;go_enter func155,ntmps155;go_wp2_with fail;go_loopw[5,10] (λv i wr=>∃j:Nat,j<=ni/\i=O j/\eT qz wr w.heap.size 80 3 v (aO.upto G j)/\bG w wr) (λ_ i _=>ni - (intOf i).toNat);case atStart=>exact⟨0,bI _,rfl,eT.nil _ _ _ _,bN _ _⟩
 case round=>
  obtain⟨t,ht,rfl,hown,hnx⟩:=hrel;obtain⟨HOW,dM⟩:=bT hown hnx;by_cases Og:t<ni
  ·obtain⟨s,hs⟩:∃y,l[t]?=some y:=⟨_,bg (by rw[<-DR];exact Og)⟩;have c0:=aC (HCI t (by rw[<-DR];exact Og)) hnx;rw[wP,hs,iK]at c0;obtain rfl:=HA aV;have HY:Hid (G t=if aO.BR (l.take t) s=true then [⟨2,fn,s⟩]else []):=I (by rw[HG];exact uL hs);have HCO:=I (jA wr _ (l.take t) s ((HS.takeS (by rw[<-DR];exact ht)).below hnx));rw[show decide (0<=dF (l.take t) s)=aO.BR (l.take t) s from rfl]at HCO;obtain⟨a3,c3,rfl⟩:=hown.form;have hul:(aO.upto G t).length<16777216\/G t=[]:=by
    have h1:=Oi G (show t+1<=ni by omega);rw[jr,aW]at h1;have h2:=jR.out;by_cases hg:G t=[];·exact aT hg
    ·have:=uF.2 hg;exact aR aV
   have HUL:=I hul;obtain⟨ul,hut⟩:=bC ((aO.upto G t).length);have HUT:=I hut;rw[<-hut]at HOW ⊢;clear hs hown hnx hut hul;go_wp2_with fail;refine HCO.mono ?_;rintro e w2 ⟨rfl,hw2⟩;subst hw2;generalize aO.BR (l.take t) s=ib at *;cases ib
   ·rw[aJ cZ]at HY;go_wp2_with fail;go_roundw;case rel=>exact⟨t+1,by omega,by go_num,by rw[jr,HY,gK];exact HOW,dM⟩
    case measure=>simp[intOf];omega
   ·rw[aL rfl]at HY;have hul:ul<16777216:=by
     rcases HUL with h|h;·rw[HUT];exact h
     ·rw[HY]at h;cases h
    go_wp2_with (first
     | (at_builtin;refine gG (At:=qz) rfl _ _ 59 80 3 40 _ rfl underlying59 qA bP bP bP w.heap.size _ _ rfl (HOW.below (aH _ _)) _ _ [⟨2,fn,s⟩] rfl (eT.one _ _ rfl (qz.one (d:=⟨2,fn,s⟩) rfl) rfl) (by have:=HUT.out;simp only[iT];omega) (bH dM.out.size (aH _ _).size) ?_;intro v6 w6 hown6 eG;have oG:=I hown6;have lI:=I (jT (up dM (aH _ _)) eG (λj hj=>(HOW.lt j hj).1));clear hown6 eG)
     | fail)
    go_roundw;case rel=>exact⟨t+1,by omega,by go_num,by rw[jr,HY];exact oG,lI⟩
    case measure=>simp[intOf];omega
  ·have wY:t=ni:=by omega
   obtain⟨a9,c9,rfl⟩:=hown.form;rw[wY]at HOW ⊢;generalize (aO.upto G ni).length=nu at *;clear hown wY hnx;go_wp2_with fail;go_ret;exact⟨_,rfl,HOW,dM⟩
theorem boxD(w:World)(cs:Array Value)(t:TypeId)(i:Nat)(v:Value)(h:cs[i]?=some v):(w.alloc (.cells cs t)).cell? (X w.heap.size i)=some v:=(aj (bD w (.cells cs t)) i).trans h
def I5(v:Value):Prop:=∀a n c,v=.slice a n c->n<=c
structure nY(w:World)(vi vf:Value):Prop where
 imp:I5 vi
 fus:I5 vf
 par:∀b off n c,vf=.slice (some ⟨b,off,none⟩) n c->∀i,i<n->∃vp,w.cell? ⟨b,off+i*7+1,none⟩=some vp/\I5 vp
theorem nY.below{w w':World}{vi vf:Value}(h:nY w vi vf)(hb:bG w w'):nY w' vi vf:=⟨h.imp,h.fus,λb off n c e i hi=>by obtain⟨vp,h1,h2⟩:=h.par b off n c e i hi;exact⟨vp,aC h1 hb,h2⟩⟩
section
variable {α : Type} {At : List Value → α → Prop} {w w' : World} {n e k : Nat} {v : Value} {l : List α}
theorem eT.grown{r:Option Nat}(h:eT At w n e k v l)(hG:w.grownBy w' r)(hr:∀g,v.ownBlock=some g->r≠some g):eT At w' n e k v l:=by
 have hlt:=h.lt;obtain⟨cs,⟨h0,h1⟩,h2⟩:=h;refine⟨cs,⟨h0,?_⟩,h2⟩;rcases h1 with h1|⟨g,cap,cur,hv,hg,hh,r'⟩;·exact aR h1
 ·exact aT ⟨g,cap,cur,hv,hg,by rw[hG.block g (bE hh) (λe'=>hr g (by rw[hv];rfl) e'.symm)];exact hh,r'⟩
end
end Go.Proofs.YtbgkpehhdibaoaaGreatDoor
