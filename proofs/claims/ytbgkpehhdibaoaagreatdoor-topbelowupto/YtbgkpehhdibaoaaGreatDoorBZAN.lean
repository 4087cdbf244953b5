/- part -/
import Derived.Test.YtbgkpehhdibaoaaGreatDoorBZAJ
import Derived.Laws.EntriesVeiled
set_option maxHeartbeats 0
set_option maxRecDepth 99999
namespace Go.Proofs.YtbgkpehhdibaoaaGreatDoor
open bN bJ
open Go.Proofs.Tryz
open Go.RowKit
namespace bJ
theorem LQ{l:List Fu}{s:aY}{n i:Nat}(h:FZ l s n=some i):i<n/\∃f,l[i]?=some f:=by
 unfold FZ at h;have h1:=NZ h;refine⟨jr.1 (JQ h),?_⟩;cases hy:l[i]? with
 | none=>rw[hy]at h1;simp at h1
 | some y=>exact⟨y,rfl⟩
def pfun(x:Mo)(known:List Mo)(t:Int × Int × Bool):Option Fu:=
 if t.1=-1 then x.bg[t.2.1.toNat]? else known[t.1.toNat]?.bind λy=>y.bg[t.2.1.toNat]?
def code(x:Mo)(known:List Mo)(k:Nat)(name:aY)(nargs:Nat):Int:=
 if (iQ x k name known).2.2=false then 4 else match pfun x known (iQ x k name known)with
  | some f=>if f.params.length=nargs then 0 else 5
  | none=>0
theorem Ke{x:Mo}{k:Nat}{call:aY}{known:List Mo}(h:(iQ x k call known).2.2=true):(∃(i:Nat) (f:Fu),iQ x k call known=(-1,(i:Int),true)/\x.bg[i]?=some f)\/(∃(a:Nat) (y:Mo) (j:Nat) (f:Fu),iQ x k call known=((a:Int),(j:Int),true)/\known[a]?=some y/\y.bg[j]?=some f):=by
 cases hd:kM call with
 | none=>
  have e:iQ x k call known=AA (-1) x.bg call k:=by simp[iQ,hd]
  rw[e]at h ⊢;unfold AA at h ⊢;cases hf:FZ x.bg call k with
  | none=>rw[hf]at h;simp at h
  | some i =>obtain⟨_,f,hf'⟩:=LQ hf;exact aR ⟨i,f,rfl,hf'⟩
 | some d=>
  rcases xP x.imports (bN.preS call)with hi|⟨i,hi,_⟩
  ·have e:iQ x k call known=(0,0,false):=by simp[iQ,hd,hi]
   rw[e]at h;simp at h
  ·cases hm:dI known (x.imports.getD i ByteArray.empty)with
   | none=>rw[Gn hd hi hm]at h;simp at h
   | some a=>
    obtain⟨y,hy,_⟩:=uH hm;rw[Ll hd hi hm hy]at h ⊢;unfold AA at h ⊢;cases hf:FZ y.bg (sP call) y.bg.length with
    | none=>rw[hf]at h;simp at h
    | some j =>obtain⟨_,f,hf'⟩:=LQ hf;exact aV ⟨a,y,j,f,rfl,hy,hf'⟩
end bJ
theorem WW(w:World)(c0 c1 c2 vf c4 c5:Value):Calls prog 209 #[.agg #[c0,c1,c2,vf,c4,c5],O (-1)] w λe w'=>e=dz vf/\bG w w':=by have q3:=WL w c0 c1 c2 vf c4 c5 189 3 _ rfl;have HB0:=I (aH w (aW #[c0,c1,c2,vf,c4,c5] 189));go_enter func209,ntmps209;go_wp2;go_ret;exact⟨rfl,HB0⟩
theorem OI(w:World)(c0 c1 c2 vf c5 vy:Value)(bk ok nk ck a:Nat)(ha:a<nk)(hc:w.cell? (X bk (ok+a*4+3))=some vy):Calls prog 209 #[.agg #[c0,c1,c2,vf,Y (some (X bk ok)) nk ck,c5],O a] w λe w'=>e=dz vy/\bG w w':=by
 have HB0:=I (aH w (aW #[c0,c1,c2,vf,Y (some (X bk ok)) nk ck,c5] 189));have q4:=WL w c0 c1 c2 vf (Y (some (X bk ok)) nk ck) c5 189 4 _ rfl;replace hc:=aD hc HB0;have h1:((a:Int)==-1)=false:=by simp
 go_enter func209,ntmps209;go_wp2;go_ret;exact⟨rfl,HB0⟩
theorem LU(m m':Nat)(w:World)(x:Mo)(known:List Mo)(vi vv vf vk va:Value)(k:Nat)(c0 c1 c2 c3:Value)(y:Ex)(h:ZY w m x known vi vv vf vk va)(hk:k<=x.bg.length)(hE:gT w m' c0 c1 c2 c3 y):Calls prog 161 #[.agg #[A x.name,vi,vv,vf,vk,va],O k,.agg #[c0,c1,c2,c3]] w λe w'=>e=dz (O (bJ.code x known k y.name y.args.length))/\bG w w':=by
 obtain⟨mm,rfl⟩:∃mm,m'=mm+1:=by cases m' with
  | zero=>exact iW hE
  | succ n=>exact⟨n,rfl⟩
 obtain⟨rfl,rfl,rfl,hsz,-,-,ea,eb,eo,ec,rfl,-,hel,-⟩:=hE;have HS:=I h;obtain⟨R,hR⟩:=bC (bJ.code x known k y.name y.args.length);have HR:=I hR;rw[<-hR];have HB0:=I (aH w (aW #[A x.name,vi,vv,vf,vk,va] 189));have q5:=WL w (A x.name) vi vv vf vk va 189;obtain⟨u0,u1,u2⟩:=l9 (aD (q5 0 _ rfl) (aH _ (aW #[O y.kind,O y.n,A y.name,Y ea y.args.length ec] 107))) (aD (q5 1 _ rfl) (aH _ (aW #[O y.kind,O y.n,A y.name,Y ea y.args.length ec] 107))) (aD (q5 2 _ rfl) (aH _ (aW #[O y.kind,O y.n,A y.name,Y ea y.args.length ec] 107)));have UW:=aD (q5 3 _ rfl) (aH _ (aW #[O y.kind,O y.n,A y.name,Y ea y.args.length ec] 107));have u4':=aD (q5 4 _ rfl) (aH _ (aW #[O y.kind,O y.n,A y.name,Y ea y.args.length ec] 107));obtain⟨u5,z2,z3⟩:=l9 (aD (q5 5 _ rfl) (aH _ (aW #[O y.kind,O y.n,A y.name,Y ea y.args.length ec] 107))) (DR (w.alloc (aW #[A x.name,vi,vv,vf,vk,va] 189)) (O y.kind) (O y.n) (A y.name) (Y ea y.args.length ec) 107) (DK (w.alloc (aW #[A x.name,vi,vv,vf,vk,va] 189)) (O y.kind) (O y.n) (A y.name) (Y ea y.args.length ec) 107);rw[CK]at z2 z3;have HB1:=I (up HB0 (aH _ (aW #[O y.kind,O y.n,A y.name,Y ea y.args.length ec] 107)));have HT:=I (λwx (hb:bG w wx)=>DY m wx x known vi vv vf vk va k y.name (HS.below hb) hk hsz);generalize y.args.length=na at *;obtain⟨hI,hV,hF⟩:=h.mo.split;obtain⟨hK,hA⟩:=eY h.kn h.ats;obtain⟨ai,bi,oi,ci,rfl,-⟩:=hI;obtain⟨av,bv,ov,cv,rfl,-⟩:=hV;obtain⟨af,bf,of,cf,rfl,UJ,hlf,hcf⟩:=hF;obtain⟨ak,bk,ok,ck,rfl,hak,hlk,hck⟩:=hK;obtain⟨aa,ba,oa,ca,rfl,-⟩:=hA;generalize (x.imports.map λs=>oI (dI known s)).length=nat at *;generalize x.imports.length=ni at *;generalize x.vars.length=nv at *;obtain⟨uI,RJ,QZ,HAK⟩:=lY hck hcf UJ hak;clear hR h q5 hck hcf UJ hak;cases ht:(iQ x k y.name known).2.2;·have xV:Hid (R=4):=I (by rw[HR];unfold bJ.code;rw[aL ht]);rw[ht]at HT;generalize (iQ x k y.name known).1=t1 at *;generalize (iQ x k y.name known).2.1=t2 at *;clear ht;go_enter func161,ntmps161;go_wp2_with fail;refine(HT _ HB1).mono ?_;rintro e w1 ⟨rfl,hb1⟩;have HB2:=I (up HB1 hb1);clear hb1;go_wp2_with fail;go_ret;exact⟨by rw[xV];rfl,HB2⟩
 ·rcases Ke ht with⟨i,f,he,hf⟩|⟨a,z,j,f,he,hz,hf⟩
  ·rw[he]at HT;have xV:Hid (R=if f.params.length=na then 0 else 5):=I (by rw[HR];unfold bJ.code;rw[aJ (by rw[ht];simp),he];simp only[pfun,if_true,DX,hf]);obtain⟨-,vp,vb,e0,e1,e2,e3,g0,g1,-,-,-,-,-,hp,-⟩:=RJ i f hf;obtain⟨ap,bp,op,cp,rfl,-⟩:=hp;have hil:i<x.bg.length:=(dK.1 hf).1;obtain rfl:=QZ aX;generalize x.bg.length=nf at *;generalize known.length=nk at *;generalize f.params.length=np at *;clear ht hf g0 he;simp only at HT;go_enter func161,ntmps161;go_wp2_with fail;refine(HT _ HB1).mono ?_;rintro e w1 ⟨rfl,hb1⟩;have HB2:=I (up HB1 hb1);replace u0:=aS (aD u0 hb1);replace u1:=aS (aD u1 hb1);replace u2:=aS (aD u2 hb1);replace UW:=aS (aD UW hb1);replace u4':=aS (aD u4' hb1);replace u5:=aS (aD u5 hb1);replace z3:=aS (aD z3 hb1);replace g1:=aS (aD g1 HB2);clear hb1 z2;have HFG:=I (λn os=>WW (gn w1 n os) (A x.name) (Y ai ni ci) (Y av nv cv) (Y (some (X bf of)) nf cf) (Y ak nk ck) (Y aa nat ca));go_wp2_with fail;refine bS bR bR ?_;repeat(quiet_step ((exact Calls.nE (HFG.out _ _))))
   refine wpQuiet_nil ?_;intro _ hw';obtain⟨⟨nq,osq⟩,hw''⟩:=hw';subst hw'';have dX:=I (up HB2.out (bQ w1 nq osq));by_cases hn:np=na
   ·have hn':((np:Int)==(na:Int))=true:=by simp[hn]
    rw[aL hn]at xV;clear hn;go_wp2_with fail;go_ret;exact⟨by rw[xV];rfl,dX⟩
   ·have hn':((np:Int)==(na:Int))=false:=by simp;omega
    rw[aJ hn]at xV;clear hn;go_wp2_with fail;go_ret;exact⟨by rw[xV];rfl,dX⟩
  ·rw[he]at HT;have xV:Hid (R=if f.params.length=na then 0 else 5):=I (by rw[HR];unfold bJ.code;rw[aJ (by rw[ht];simp),he];simp only[pfun,DX,hz,Option.bind_some,hf];rw[aJ aX]);have hal:a<known.length:=(dK.1 hz).1;have hjl:j<z.bg.length:=(dK.1 hf).1;obtain rfl:=HAK aX;obtain⟨yi,yv,yf,k0,k1,k2,k3,hmz⟩:=uI a z hz;obtain⟨-,-,hzF⟩:=hmz.split;obtain⟨az,bz,oz,cz,rfl,haz,hlz,hcz⟩:=hzF;obtain⟨-,vp,vb,e0,e1,e2,e3,g0,g1,-,-,-,-,-,hp,-⟩:=hcz j f hf;obtain⟨ap,bp,op,cp,rfl,-⟩:=hp;obtain rfl:=haz aX;generalize z.bg.length=nz at *;generalize x.bg.length=nf at *;generalize known.length=nk at *;generalize f.params.length=np at *;clear hmz hcz haz hz k0 k1 k2;clear ht hf g0 he;simp only at HT;go_enter func161,ntmps161;go_wp2_with fail;refine(HT _ HB1).mono ?_;rintro e w1 ⟨rfl,hb1⟩;have HB2:=I (up HB1 hb1);replace u0:=aS (aD u0 hb1);replace u1:=aS (aD u1 hb1);replace u2:=aS (aD u2 hb1);replace UW:=aS (aD UW hb1);replace u4':=aS (aD u4' hb1);replace u5:=aS (aD u5 hb1);replace z3:=aS (aD z3 hb1);replace g1:=aS (aD g1 HB2);clear hb1 z2;have HFG:=I (λn os=>OI (gn w1 n os) (A x.name) (Y ai ni ci) (Y av nv cv) (Y af nf cf) (Y aa nat ca) (Y (some (X bz oz)) nz cz) bk ok nk ck a hal (aS (aD k3 HB2) n os));go_wp2_with fail;refine bS bR bR ?_;repeat(quiet_step ((exact Calls.nE (HFG.out _ _))))
   refine wpQuiet_nil ?_;intro _ hw';obtain⟨⟨nq,osq⟩,hw''⟩:=hw';subst hw'';have dX:=I (up HB2.out (bQ w1 nq osq));by_cases hn:np=na
   ·have hn':((np:Int)==(na:Int))=true:=by simp[hn]
    rw[aL hn]at xV;clear hn;go_wp2_with fail;go_ret;exact⟨by rw[xV];rfl,dX⟩
   ·have hn':((np:Int)==(na:Int))=false:=by simp;omega
    rw[aJ hn]at xV;clear hn;go_wp2_with fail;go_ret;exact⟨by rw[xV];rfl,dX⟩
namespace bJ
def fC:Nat->Ex->List Ex
 | 0,_=>[]
 | m+1,x=>(if x.kind=4 then [x]else [])++x.args.flatMap (fC m)
end bJ
def RL(W0 W:World)(M p g:Nat)(cb:Array Value)(D:Ex->List Dg):Prop:=
 ∀(w:World) (c0 c1 c2 c3:Value) (y:Ex) (l:List Dg),bG W0 w->dN p W w->Told w W0.heap.size p l->gT W0 M c0 c1 c2 c3 y->l.length+(D y).length<=16777216->
  Calls prog g (#[.agg #[c0,c1,c2,c3]]++cb) w λe w'=>e=.returned (.tuple #[])/\Told w' W0.heap.size p (l++D y)/\Below W0.heap.size w w'/\dN p w w'
theorem Told.lt{w:World}{n p:Nat}{l:List Dg}(h:Told w n p l):p<w.heap.size:=by obtain⟨_,v,h1,_⟩:=h;exact bq h1
theorem zJ{α β γ:Type}{f:α->List β}{g:β->List γ}{l:List α}(j:Nat):(((l.take j).flatMap f).flatMap g).length<=((l.flatMap f).flatMap g).length:=by have h:=congrArg (λt=>((t.flatMap f).flatMap g).length) (oV j l);simp only[kQ,aT]at h;omega
theorem D5(W0 W:World)(M p g:Nat)(cb:Array Value)(D:Ex->List Dg)(eg:∀args w,(callFunc g args).run prog w=.ok (.enter g args) w)(hv:RL W0 W M p g cb D)(m:Nat):∀(w:World) (c0 c1 c2 c3:Value) (x:Ex) (l:List Dg),m<=M->bG W0 w->dN p W w->Told w W0.heap.size p l->gT W0 m c0 c1 c2 c3 x->l.length+((fC m x).flatMap D).length<=16777216->Calls prog 207 #[.agg #[c0,c1,c2,c3],.func (.func g) #[] cb] w λe w'=>e=dz (.tuple #[])/\Told w' W0.heap.size p (l++(fC m x).flatMap D)/\Below W0.heap.size w w'/\dN p w w':=by
 induction m with
 | zero=>intro w c0 c1 c2 c3 x l _ _ _ _ h;exact iW h
 | succ m ih=>
  intro w c0 c1 c2 c3 x l hM hW hT hl h hlen;obtain⟨HI,HX,HV,HW,HT,Fw⟩:=vP ih (h.mono M hM) hv hW hT hl;clear ih hW hv hT;obtain⟨rfl,rfl,rfl,hsz,hk1,hk2,a,b,off,cap,rfl,ha,hbig,hel⟩:=h;obtain⟨k,n,s,args⟩:=x;simp only at hsz hk1 hk2 ha hbig hel HX ⊢;obtain⟨lK,HA,HLEN⟩:=fD hel ha hlen;have vI:Hid (fC (m+1) ⟨k,n,s,args⟩=(if k=4 then [⟨k,n,s,args⟩]else [])++args.flatMap (fC m)):=rfl;obtain⟨len,hlen'⟩:∃len,len=args.length:=⟨_,rfl⟩;have HL:=I hlen';rw[<-hlen']at hbig HA HX ⊢;obtain⟨R,hR⟩:=bC (fC (m+1) ⟨k,n,s,args⟩);rw[<-hR]at vI HLEN ⊢;obtain⟨HB0,dQ⟩:=rZ w (aW #[O k,O n,A s,Y a len cap] 107);have HP:=I hl.lt;obtain⟨q0,q1,q2,q3⟩:=tZ (F5 w (O k) (O n) (A s) (Y a len cap) 107) (DN w (O k) (O n) (A s) (Y a len cap) 107) (DR w (O k) (O n) (A s) (Y a len cap) 107) (DK w (O k) (O n) (A s) (Y a len cap) 107);clear hel ha hlen hlen' hR hl;by_cases h4:k=4
  ·have h4':(k==4)=true:=by simp[h4]
   rw[aL h4]at vI;clear h4;go_enter func207,ntmps207;go_wp2_with fail;refine(HV _ _ _ _ _ ⟨k,n,s,args⟩ l (HW.trans (HB0.mono HW.size)) (HT.trans (dN.of_below HB0)) (Fw.below HB0) HX (by have h1:=HLEN.out;rw[vI]at h1;simp only[kQ,aT,Gv,List.flatMap_nil,gB]at h1;omega)).mono ?_;rintro e w1 ⟨rfl,hto1,hb1,ht1⟩;obtain⟨HT1,HB1,qI⟩:=fD hto1 ((HB0.mono HW.size).trans hb1) ((dN.of_below HB0).trans ht1);replace q3:=(aj (ht1.at (by have:=HP.out;omega) dQ bO) 3).trans (rfl:_=some (Y a len cap));clear hto1 hb1 ht1 q0 q1 q2;go_wp2_with fail;go_loopw[15] (λi wr=>∃j:Nat,j<=len/\i=O j/\Told wr W0.heap.size p ((l++D ⟨k,n,s,args⟩)++((args.take j).flatMap (fC m)).flatMap D)/\Below W0.heap.size w wr/\dN p w wr) (λi _=>len - (intOf i).toNat);case atStart=>exact⟨0,bL _,rfl,by simpa using HT1.out,HB1.out,qI.out⟩
   case round=>
    obtain⟨j,hj,rfl,hto,hnx,htl⟩:=hrel;obtain⟨zK,fO,DW⟩:=fD hto hnx htl;clear hto htl;by_cases hjl:j<len
    ·obtain⟨y,hy⟩:∃y,args[j]?=some y:=⟨_,bD (by rw[<-HL];exact hjl)⟩;obtain⟨e0,e1,e2,e3,g0,g1,g2,g3,hye⟩:=lK j y hy;have HY:=I hy;obtain rfl:=HA aX;have hbb:=HW.trans hnx;have UY:=I hbb;replace g0:=aD g0 hbb;replace g1:=aD g1 hbb;replace g2:=aD g2 hbb;replace g3:=aD g3 hbb;have HYE:=I hye;obtain⟨xa,xc,rfl,rfl,rfl,rfl⟩:=hye.shape;have fH:Hid (((l++D ⟨k,n,s,args⟩)++((args.take j).flatMap (fC m)).flatMap D).length+((fC m y).flatMap D).length<=16777216):=I (by have h1:=HLEN.out;rw[vI]at h1;have h2:=zJ (f:=fC m) (g:=D) (l:=args) (j+1);rw[jy hy,kQ,aT]at h2;simp only[kQ,aT,Gv,List.flatMap_nil,gB]at h1 h2 ⊢;omega);have HB3:=I (aH wr (aW #[O y.kind,O y.n,A y.name,Y xa y.args.length xc] 107));obtain⟨z0,z1,z2,z3⟩:=tZ (F5 wr (O y.kind) (O y.n) (A y.name) (Y xa y.args.length xc) 107) (DN wr (O y.kind) (O y.n) (A y.name) (Y xa y.args.length xc) 107) (DR wr (O y.kind) (O y.n) (A y.name) (Y xa y.args.length xc) 107) (DK wr (O y.kind) (O y.n) (A y.name) (Y xa y.args.length xc) 107);clear hye hy hbb hnx;generalize y.args.length=ny at *;go_wp2_with fail;refine(HI _ _ _ _ _ y _ aX (UY.trans (HB3.mono UY.size)) ((HT.trans DW).trans (dN.of_below HB3)) (zK.below HB3) HYE fH).mono ?_;rintro e w5 ⟨rfl,mY,hb5,A9⟩;obtain⟨wK,d9,WY⟩:=fD mY ((fO.trans (HB3.mono UY.size)).trans hb5) ((DW.trans (dN.of_below HB3)).trans A9);clear mY hb5 A9 z0 z1 z2 z3 g0 g1 g2 g3;go_wp2_with fail;go_roundw;case rel=>exact⟨j+1,by omega,by go_num,by rw[jy HY,kQ,<-iy];exact wK,d9,WY⟩
     case measure=>simp[intOf];omega
    ·have vH:(args.take j)=args:=fU (by have:=HL.out;omega);rw[vH]at zK;clear vH hnx;go_wp2_with fail;go_end0;exact⟨rfl,by rw[vI,kQ,<-iy];simpa using zK.out,fO.out,DW.out⟩
  ·have h4':(k==4)=false:=by simp[h4]
   rw[aJ h4,uL]at vI;clear h4;obtain⟨HT1,HB1⟩:=bU (Fw.below HB0) (HB0.mono HW.size);have qI:Hid (dN p w _):=I (dN.of_below HB0);go_enter func207,ntmps207;go_wp2_with fail;go_loopw[15] (λi wr=>∃j:Nat,j<=len/\i=O j/\Told wr W0.heap.size p (l++((args.take j).flatMap (fC m)).flatMap D)/\Below W0.heap.size w wr/\dN p w wr) (λi _=>len - (intOf i).toNat);case atStart=>exact⟨0,bL _,rfl,by simpa using HT1.out,HB1.out,qI.out⟩
   case round=>
    obtain⟨j,hj,rfl,hto,hnx,htl⟩:=hrel;obtain⟨zK,fO,DW⟩:=fD hto hnx htl;clear hto htl;by_cases hjl:j<len
    ·obtain⟨y,hy⟩:∃y,args[j]?=some y:=⟨_,bD (by rw[<-HL];exact hjl)⟩;obtain⟨e0,e1,e2,e3,g0,g1,g2,g3,hye⟩:=lK j y hy;have HY:=I hy;obtain rfl:=HA aX;have hbb:=HW.trans hnx;have UY:=I hbb;replace g0:=aD g0 hbb;replace g1:=aD g1 hbb;replace g2:=aD g2 hbb;replace g3:=aD g3 hbb;have HYE:=I hye;obtain⟨xa,xc,rfl,rfl,rfl,rfl⟩:=hye.shape;have fH:Hid ((l++((args.take j).flatMap (fC m)).flatMap D).length+((fC m y).flatMap D).length<=16777216):=I (by have h1:=HLEN.out;rw[vI]at h1;have h2:=zJ (f:=fC m) (g:=D) (l:=args) (j+1);rw[jy hy,kQ,aT]at h2;rw[aT];omega);have HB3:=I (aH wr (aW #[O y.kind,O y.n,A y.name,Y xa y.args.length xc] 107));obtain⟨z0,z1,z2,z3⟩:=tZ (F5 wr (O y.kind) (O y.n) (A y.name) (Y xa y.args.length xc) 107) (DN wr (O y.kind) (O y.n) (A y.name) (Y xa y.args.length xc) 107) (DR wr (O y.kind) (O y.n) (A y.name) (Y xa y.args.length xc) 107) (DK wr (O y.kind) (O y.n) (A y.name) (Y xa y.args.length xc) 107);clear hye hy hbb hnx;generalize y.args.length=ny at *;go_wp2_with fail;refine(HI _ _ _ _ _ y _ aX (UY.trans (HB3.mono UY.size)) ((HT.trans DW).trans (dN.of_below HB3)) (zK.below HB3) HYE fH).mono ?_;rintro e w5 ⟨rfl,mY,hb5,A9⟩;obtain⟨wK,d9,WY⟩:=fD mY ((fO.trans (HB3.mono UY.size)).trans hb5) ((DW.trans (dN.of_below HB3)).trans A9);clear mY hb5 A9 z0 z1 z2 z3 g0 g1 g2 g3;go_wp2_with fail;go_roundw;case rel=>exact⟨j+1,by omega,by go_num,by rw[jy HY,kQ,<-iy];exact wK,d9,WY⟩
     case measure=>simp[intOf];omega
    ·have vH:(args.take j)=args:=fU (by have:=HL.out;omega);rw[vH]at zK;clear vH hnx;go_wp2_with fail;go_end0;exact⟨rfl,by rw[vI];exact zK,fO,DW⟩
def VisS(W0 W:World)(M p g:Nat)(cb:Array Value)(D:St->List Dg):Prop:=
 ∀(w:World) (e0 e1 e2 e3 va vb:Value) (s:St) (l:List Dg),bG W0 w->dN p W w->Told w W0.heap.size p l->StC W0 M [.int .i64 s.kind,.string s.name,e0,e1,e2,e3,va,vb] s->l.length+(D s).length<=16777216->
  Calls prog g (#[.agg #[.int .i64 s.kind,.string s.name,e0,e1,e2,e3,va,vb]]++cb) w λe w'=>e=.returned (.tuple #[])/\Told w' W0.heap.size p (l++D s)/\Below W0.heap.size w w'/\dN p w w'
theorem box8(w:World)(c0 c1 c2 c3 c4 c5 c6 c7:Value)(t:TypeId)(i:Nat)(v:Value)(h:(#[c0,c1,c2,c3,c4,c5,c6,c7]:Array Value)[i]?=some v):(w.alloc (.cells #[c0,c1,c2,c3,c4,c5,c6,c7] t)).cell? (X w.heap.size i)=some v:=
 (aj (aZ w (.cells #[c0,c1,c2,c3,c4,c5,c6,c7] t)) i).trans h
theorem vg(W0 W:World)(M p g:Nat)(cb:Array Value)(D:St->List Dg)(eg:∀args w,(callFunc g args).run prog w=.ok (.enter g args) w)(hv:VisS W0 W M p g cb D)(m:Nat):∀(w:World) (v:Value) (b:List St) (l:List Dg),m<=M->bG W0 w->dN p W w->Told w W0.heap.size p l->fB W0 m v b->l.length+((bJ.all m b).flatMap D).length<=16777216->Calls prog 157 #[v,.func (.func g) #[] cb] w λe w'=>e=dz (.tuple #[])/\Told w' W0.heap.size p (l++(bJ.all m b).flatMap D)/\Below W0.heap.size w w'/\dN p w w':=by
 induction m with
 | zero=>intro w v b l _ _ _ _ h;exact iW h
 | succ m ih=>
  intro w v body l hM hW hT hl h hlen;obtain⟨HI,HV,HW,HT,Fw,HLEN⟩:=vP ih hv hW hT hl hlen;clear ih hW hv hT;obtain⟨a,b,off,cap,rfl,ha,hbig,hel⟩:=h;obtain⟨lK,HA⟩:=bU hel ha;obtain⟨len,hlen'⟩:∃len,len=body.length:=⟨_,rfl⟩;have HL:=I hlen';rw[<-hlen']at hbig HA ⊢;have HP:=I hl.lt;have vI:Hid (bJ.all (m+1) body=body.flatMap (bJ.within (bJ.all m))):=rfl;obtain⟨R,hR⟩:=bC (bJ.all (m+1) body);rw[<-hR]at vI HLEN ⊢;clear hel ha hlen hlen' hR hl;go_enter func157,ntmps157;go_wp2_with fail;go_loopw[8] (λi wr=>∃j:Nat,j<=len/\i=O j/\Told wr W0.heap.size p (l++((body.take j).flatMap (bJ.within (bJ.all m))).flatMap D)/\Below W0.heap.size w wr/\dN p w wr) (λi _=>len - (intOf i).toNat);case atStart=>exact⟨0,bL _,rfl,by simpa using Fw.out,bP _ _,dN.refl _ _⟩
  case round=>
   obtain⟨j,hj,rfl,hto,hnx,htl⟩:=hrel;obtain⟨zK,fO,DW,HP2⟩:=lY hto hnx htl hto.lt;clear hto htl;by_cases hjl:j<len
   ·obtain⟨y,hy⟩:∃y,body[j]?=some y:=⟨_,bD (by rw[<-HL];exact hjl)⟩;obtain⟨k1,k2,e0,e1,e2,e3,va,vb,g0,g1,g2,g3,g4,g5,g6,g7,hx,hva,hvb⟩:=lK j y hy;have HY:=I hy;obtain rfl:=HA aX;have hbb:=HW.trans hnx;have UY:=I hbb;replace g0:=aD g0 hbb;replace g1:=aD g1 hbb;replace g2:=aD g2 hbb;replace g3:=aD g3 hbb;replace g4:=aD g4 hbb;replace g5:=aD g5 hbb;replace g6:=aD g6 hbb;replace g7:=aD g7 hbb;have HST:Hid (StC W0 M [O y.kind,A y.name,e0,e1,e2,e3,va,vb] y):=I ⟨e0,e1,e2,e3,va,vb,rfl,k1,k2,hx.mono M aX,hva.mono M aX,hvb.mono M aX⟩;obtain⟨HVA,HVB⟩:=bU hva hvb;have fH:Hid ((l++((body.take j).flatMap (bJ.within (bJ.all m))).flatMap D).length+((D y).length+((bJ.all m y.a).flatMap D).length+((bJ.all m y.b).flatMap D).length)<=16777216):=I (by have h1:=HLEN.out;rw[vI]at h1;have h2:=zJ (f:=bJ.within (bJ.all m)) (g:=D) (l:=body) (j+1);rw[jy hy,kQ,aT]at h2;simp only[bJ.within,kQ,aT,Gv,List.flatMap_nil,gB]at h2;rw[aT];omega);obtain⟨sa,ca,rfl⟩:=hva.rT;obtain⟨sb,cb',rfl⟩:=hvb.rT;obtain⟨xa,xc,rfl,rfl,rfl,rfl⟩:=hx.shape;generalize y.a.length=na at *;generalize y.b.length=nb at *;generalize y.e.args.length=ne at *;obtain⟨HB3,dQ⟩:=rZ wr (aW #[O y.kind,A y.name,O y.e.kind,O y.e.n,A y.e.name,Y xa ne xc,Y sa na ca,Y sb nb cb'] 164);have hz:=box8 wr (O y.kind) (A y.name) (O y.e.kind) (O y.e.n) (A y.e.name) (Y xa ne xc) (Y sa na ca) (Y sb nb cb') 164;obtain⟨z0,z1,z2,z3,z4,z5,z6⟩:=J5 (hz 0 _ rfl) (hz 1 _ rfl) (hz 2 _ rfl) (hz 3 _ rfl) (hz 4 _ rfl) (hz 5 _ rfl) (hz 6 _ rfl);have z7:=hz 7 _ rfl;clear hx hva hvb hy hbb hnx hz;go_wp2_with fail;refine(HV _ _ _ _ _ _ _ y _ (UY.trans (HB3.mono UY.size)) ((HT.trans DW).trans (dN.of_below HB3)) (zK.below HB3) HST (by have:=fH.out;omega)).mono ?_;rintro e w5 ⟨rfl,mY,hb5,A9⟩;obtain⟨wK,d9,WY⟩:=fD mY ((fO.trans (HB3.mono UY.size)).trans hb5) ((DW.trans (dN.of_below HB3)).trans A9);have hbx5:=A9.at (by have:=HP2.out;omega) dQ bO;have HBX5:=I hbx5;have y6:=(aj hbx5 6).trans (rfl:_=some (Y sa na ca));clear mY hb5 A9 hbx5 z0 z1 z2 z3 z4 z5 z6 z7 g0 g1 g2 g3 g4 g5 g6 g7;go_wp2_with fail;refine(HI _ _ y.a _ aX (HW.trans d9) (HT.trans WY) wK HVA (by have:=fH.out;rw[aT];omega)).mono ?_;rintro e w6 ⟨rfl,hto6,hb6,ht6⟩;obtain⟨HTO6,dX,HT6⟩:=fD hto6 (d9.trans hb6) (WY.trans ht6);have hbx6:=ht6.at (by have:=HP2.out;omega) HBX5 bO;have y7:=(aj hbx6 7).trans (rfl:_=some (Y sb nb cb'));clear hto6 hb6 ht6 hbx6 y6;go_wp2_with fail;refine(HI _ _ y.b _ aX (HW.trans dX) (HT.trans HT6) HTO6 HVB (by have:=fH.out;rw[aT,aT];omega)).mono ?_;rintro e w7 ⟨rfl,hto7,sW,ht7⟩;obtain⟨HTO7,jG,HT7⟩:=fD hto7 (dX.trans sW) (HT6.trans ht7);clear hto7 sW ht7 y7;go_wp2_with fail;go_roundw;case rel=>exact⟨j+1,by omega,by go_num,by rw[jy HY,bJ.within,kQ,kQ,kQ,<-iy,<-iy,<-iy,Gv,List.flatMap_nil,gB];exact HTO7,jG,HT7⟩
    case measure=>simp[intOf];omega
   ·have vH:(body.take j)=body:=fU (by have:=HL.out;omega);rw[vH]at zK;clear vH hnx;go_wp2_with fail;go_end0;exact⟨rfl,by rw[vI];exact zK,fO,DW⟩
theorem UZ(w:World)(n p q:Nat)(l:List Dg)(vn:Value)(names:List aY)(fn name:aY)(h:Told w n p l)(hn:n<=w.heap.size)(hl:l.length+(bJ.mX names fn name).length<=16777216)(hq:w.cell? (X q 0)=some vn)(hN:Strs w vn names):Calls prog 156 #[A fn,A name,iO q,iO p] w λe w'=>e=dz (.tuple #[])/\Told w' n p (l++bJ.mX names fn name)/\Below n w w'/\dN p w w':=by
 obtain⟨HN,HT⟩:=bU hN h;obtain⟨a,b,off,cap,rfl,_⟩:=hN;have HL:Hid (bJ.mX names fn name=if decide (0<=dR names name)=true then []else [⟨3,fn,name⟩]):=rfl;obtain⟨h0,v,h1,h2⟩:=h;have q0:w.cell? (X p 0)=some v:=by rw[aj h1];rfl
 obtain⟨H0,H1,H2,HR⟩:=lY h0 h1 h2 (jV w _ names name HN);rw[HL]at hl;generalize decide (0<=dR names name)=is at *;clear h0 h1 h2;go_enter func156,ntmps156;go_wp2_with fail;refine HR.mono ?_;rintro e w' ⟨rfl,hw'⟩;subst hw';cases is
 ·have hl2:l.length<16777216:=by simp at hl;omega
  clear hl
  go_wp2_with (first
   | (at_builtin;refine fZ (At:=oW) rfl _ _ 59 80 3 40 _ rfl underlying59 oZ bO bO bO n _ _ rfl (H2.below (aH _ _)) _ _ [⟨3,fn,name⟩] rfl (eF.one _ _ rfl (oW.one (d:=⟨3,fn,name⟩) rfl) rfl) (by simp only[iF];omega) (bF hn (aH _ _).size) ?_;intro v6 w6 hown6 dZ;obtain⟨a6,c6,hv6⟩:=hown6.form;subst hv6;have HP:=I (Told.push H0 H1 H2 hown6 dZ);have z0:=(aj HP.1 0).trans (show _=some v from rfl);have zf:=aG HP.1 0;clear hown6 dZ)
   | fail)
  go_end0;have hl1:(l++[(⟨3,fn,name⟩:Dg)]).length=l.length+1:=by simp
  rw[hl1]at HP;exact⟨rfl,by rw[HL];exact HP.2.1,HP.2.2⟩
 ·go_wp2_with fail;go_end0;exact⟨rfl,by rw[HL];simpa using HT.out,bP _ _,dN.refl _ _⟩
namespace bJ
def yx(names:List aY)(fn:aY)(s:St):List Dg:=if s.kind=4 then mX names fn s.name else []
theorem U0(names:List aY)(fn name:aY):(mX names fn name).length<=1:=by unfold mX;split<;>simp
theorem levS_len(names:List aY)(fn:aY)(s:St):(yx names fn s).length<=1:=by
 unfold yx;split;·exact U0 _ _ _
 ·simp
end bJ
theorem askS_any(W0 W:World)(M p q r bf:Nat)(vn:Value)(names:List aY)(fn:aY)(cf lc:Array Value)(hN:Strs W0 vn names)(hq:W.heap[q]?=some (.cells lc 25 (0,0)))(hqn:lc[0]?=some vn)(hr:W.heap[r]?=some (aW #[.func (.func 156) #[] #[iO q,iO p]] 248))(hf:W.heap[bf]?=some (.cells cf 109 (0,0)))(hfn:cf[0]?=some (A fn))(hqp:q≠p)(hrp:r≠p)(hfp:bf≠p):VisS W0 W M p 158 #[iO r,iO bf] (yx names fn):=by
 intro w e0 e1 e2 e3 va vb s l hW hT hl hst hlen;have HB0:=I (aH w (aW #[O s.kind,A s.name,e0,e1,e2,e3,va,vb] 164));have hz:=box8 w (O s.kind) (A s.name) e0 e1 e2 e3 va vb 164;obtain⟨z0,z1,hq1⟩:=l9 (hz 0 _ rfl) (hz 1 _ rfl) (aD ((aj (hT.at hqp hq bO) 0).trans hqn) HB0);obtain⟨HQ1,LV,Fw,HW,HTO0⟩:=rO hq1 ((hN.below hW).below HB0) (hl.below HB0) hW hl;obtain⟨hr1,hf1⟩:=eY (aD ((aj (hT.at hrp hr bO) 0).trans rfl) HB0) (aD ((aj (hT.at hfp hf bO) 0).trans hfn) HB0);clear hz hq hqn hr hf hfn hN hst hl hT hW;show Calls prog 158 #[.agg #[O s.kind,A s.name,e0,e1,e2,e3,va,vb],iO r,iO bf] w _;by_cases h4:s.kind=4
 ·have h4':(s.kind==4)=true:=by simp[h4]
  have HL:Hid (yx names fn s=bJ.mX names fn s.name):=I (by unfold yx;rw[aL h4]);rw[HL]at hlen ⊢;have jH:=I hlen;clear h4 hlen;go_enter func158,ntmps158;go_wp2_with fail;refine(UZ _ W0.heap.size p q l vn names fn s.name Fw (bF HW.out.size HB0.size) jH HQ1 LV).mono ?_;rintro e w5 ⟨rfl,mY,hb5,A9⟩;obtain⟨wK,d9⟩:=bU mY ((HB0.mono HW.size).trans hb5);have WY:Hid (dN p w w5):=I ((dN.of_below HB0).trans A9);clear mY hb5 A9;go_wp2;go_end0;exact⟨rfl,wK,d9,WY⟩
 ·have h4':(s.kind==4)=false:=by simp[h4]
  have HL:Hid (yx names fn s=[]):=I (by unfold yx;rw[aJ h4]);clear h4;go_enter func158,ntmps158;go_wp2_with fail;go_end0;exact⟨rfl,by rw[HL,gB];exact Fw,HB0.mono HW.size,dN.of_below HB0⟩
namespace bJ
def lvD(names:List aY)(x:Mo)(m:Nat):List Dg:=(x.vars.flatMap λv=>mX names ⟨#[]⟩ v.level)++x.bg.flatMap λf=>(all m f.body).flatMap (yx names f.name)
end bJ
theorem al4(w:World)(a b c d:Obj):((((w.alloc a).alloc b).alloc c).alloc d).heap[w.heap.size]?=some a/\((((w.alloc a).alloc b).alloc c).alloc d).heap[w.heap.size+1]?=some b/\((((w.alloc a).alloc b).alloc c).alloc d).heap[w.heap.size+1+1]?=some c/\((((w.alloc a).alloc b).alloc c).alloc d).heap[w.heap.size+1+1+1]?=some d/\bG w ((((w.alloc a).alloc b).alloc c).alloc d):=by
 obtain⟨h1,h2,h3,h4⟩:=tZ (aZ w a) (aZ (w.alloc a) b) (aZ ((w.alloc a).alloc b) c) (aZ (((w.alloc a).alloc b).alloc c) d);simp only[CK]at h2 h3 h4;refine⟨?_,?_,?_,h4,up (up (up (aH _ _) (aH _ _)) (aH _ _)) (aH _ _)⟩;·rw[(aH _ d).block _ (by simp;omega),(aH _ c).block _ (by simp;omega),(aH _ b).block _ dx];exact h1
 ·rw[(aH _ d).block _ dx,(aH _ c).block _ dx];exact h2
 ·rw[(aH _ d).block _ dx];exact h3
theorem Gw(m:Nat)(w:World)(vn vl vi vv vf:Value)(names:List aY)(x:Mo)(hN:Strs w vn names)(h:iY w m (.agg #[A x.name,vi,vv,vf]) x)(hlen:(lvD names x m).length<=16777216):Calls prog 102 #[.agg #[vn,vl],.agg #[A x.name,vi,vv,vf]] w λe w'=>∃u,e=dz u/\eF oW w' w.heap.size 80 3 u (lvD names x m)/\bG w w':=by
 obtain⟨hI,hV,hF⟩:=h.split;have HN:=I hN;obtain⟨an,bn,on,cn,rfl,-⟩:=hN;obtain⟨ai,bi,oi,ci,rfl,-⟩:=hI;obtain⟨av,bv,ov,cv,rfl,hav,hlv,hcv⟩:=hV;obtain⟨af,bf,of,cf,rfl,UJ,hlf,hcf⟩:=hF;obtain⟨HCV,HAV⟩:=bU hcv hav;have RJ:Hid (Jj w m bf of x.bg):=hcf;have QZ:=I UJ;have I8:Hid (lvD names x m=(x.vars.flatMap λv=>bJ.mX names ⟨#[]⟩ v.level)++x.bg.flatMap λf=>(bJ.all m f.body).flatMap (yx names f.name)):=rfl;have jH:=I hlen;obtain⟨R,hR⟩:=bC (lvD names x m);rw[<-hR]at I8 jH ⊢;obtain⟨vars,hvars⟩:=bC x.vars;obtain⟨bg,OJ⟩:=bC x.bg;rw[<-hvars]at hlv HCV HAV I8 ⊢;rw[<-OJ]at hlf RJ QZ I8 ⊢;obtain⟨nv,D6⟩:=bC vars.length;obtain⟨nf,hnf⟩:=bC bg.length;obtain⟨U1,wB⟩:=bU D6 hnf;rw[<-D6]at hlv HAV ⊢;rw[<-hnf]at hlf QZ ⊢;generalize x.imports.length=ni at *;generalize names.length=nn at *;generalize x.name=xn at *;obtain⟨b0,b1,b2,b3,hb0⟩:=al4 w (aW #[Y an nn cn,vl] 25) (aW #[A xn,Y ai ni ci,Y av nv cv,Y af nf cf] 58) (aW #[J] 59) (aW #[.func (.func 156) #[] #[iO w.heap.size,iO (w.heap.size+1+1)]] 248);obtain⟨HB0,HB1,HB3,Fv⟩:=lY b0 b1 b3 hb0;have q12:=(aj b1 2).trans (rfl:_=some (Y av nv cv));have Fw:Hid (Told _ w.heap.size (w.heap.size+1+1) []):=I ⟨by omega,_,b2,eF.nil _ _ _ _⟩;clear hcv hav hcf UJ hlen hR hvars OJ D6 hnf h b0 b1 b2 b3 hb0;go_enter func102,ntmps102;go_wp2_with fail;generalize ((((w.alloc (aW #[Y an nn cn,vl] 25)).alloc (aW #[A xn,Y ai ni ci,Y av nv cv,Y af nf cf] 58)).alloc (aW #[J] 59)).alloc (aW #[.func (.func 156) #[] #[iO w.heap.size,iO (w.heap.size+1+1)]] 248))=W1 at *;clear q12;go_loopw[15] (λi wr=>∃j:Nat,j<=nv/\i=O j/\Told wr w.heap.size (w.heap.size+1+1) ((vars.take j).flatMap λv=>bJ.mX names ⟨#[]⟩ v.level)/\bG w wr/\dN (w.heap.size+1+1) W1 wr) (λi _=>nv - (intOf i).toNat);case atStart=>exact⟨0,bL _,rfl,by simpa using Fw.out,Fv.out,dN.refl _ _⟩
 case round=>
  obtain⟨j,hj,rfl,hto,hnx,htl⟩:=hrel;obtain⟨zK,fO,DW⟩:=fD hto hnx htl;by_cases hjl:j<nv
  ·obtain⟨y,hy⟩:∃y,vars[j]?=some y:=⟨_,bD (by rw[<-U1];exact hjl)⟩;obtain⟨-,-,g0,g1⟩:=HCV j y hy;obtain rfl:=HAV aX;replace g0:=aD g0 hnx;replace g1:=aD g1 hnx;obtain⟨HY,d9⟩:=bU hy (aH wr (aW #[A y.name,A y.level] 93));have c1:=(aj (aZ wr (aW #[A y.name,A y.level] 93)) 1).trans (rfl:_=some (A y.level));obtain⟨c3,c0⟩:=eY (aD ((aj (htl.at aX HB3 bO) 0).trans rfl) d9) (aD ((aj (htl.at aX HB0 bO) 0).trans (rfl:_=some (Y an nn cn))) d9);have WZ:=I c0;have fH:Hid (((vars.take j).flatMap λv=>bJ.mX names ⟨#[]⟩ v.level).length+(bJ.mX names ⟨#[]⟩ y.level).length<=16777216):=I (by have h1:=uD (f:=λv:Va=>bJ.mX names ⟨#[]⟩ v.level) (l:=vars) (j+1);rw[jy hy,aT]at h1;have h2:=jH.out;rw[I8,aT]at h2;omega);clear hto hnx htl hy c0;go_wp2_with fail;refine(UZ _ w.heap.size (w.heap.size+1+1) w.heap.size _ _ names ⟨#[]⟩ y.level (zK.below d9) (bF fO.out.size d9.size) fH WZ (HN.below (up fO d9))).mono ?_;rintro e w5 ⟨rfl,mY,hb5,A9⟩;obtain⟨wK,dX,HT6⟩:=fD mY ((up fO d9).trans hb5) ((DW.trans (dN.of_below d9)).trans A9);clear mY hb5 A9 g0 g1 c1 c3;go_wp2_with fail;go_roundw;case rel=>exact⟨j+1,by omega,by go_num,by rw[jy HY];exact wK,dX,HT6⟩
   case measure=>simp[intOf];omega
  ·have vH:(vars.take j)=vars:=fU (by have:=U1.out;omega);rw[vH]at zK;have q13:=(aj (htl.at aX HB1 bO) 3).trans (rfl:_=some (Y af nf cf));clear vH hnx htl hto;generalize hF1:(vars.flatMap λv=>bJ.mX names ⟨#[]⟩ v.level)=F1 at *;go_wp2_with fail;go_loopw[27] (λi wx=>∃j:Nat,j<=nf/\i=O j/\Told wx w.heap.size (w.heap.size+1+1) (F1++(bg.take j).flatMap λf=>(bJ.all m f.body).flatMap (yx names f.name))/\bG w wx/\dN (w.heap.size+1+1) W1 wx) (λi _=>nf - (intOf i).toNat);case atStart=>exact⟨0,bL _,rfl,by simpa using zK.out,fO.out,DW.out⟩
   case round=>
    obtain⟨t,ht,rfl,hto,hnx,htl⟩:=hrel;obtain⟨HTO3,RN,HTL3⟩:=fD hto hnx htl;by_cases LW:t<nf
    ·obtain⟨y,hy⟩:∃y,bg[t]?=some y:=⟨_,bD (by rw[<-wB];exact LW)⟩;obtain⟨-,vp,vb,e0,e1,e2,e3,g0,g1,g2,g3,g4,g5,g6,hp,hb,hx⟩:=RJ t y hy;obtain rfl:=QZ aX;obtain⟨HY,HVB⟩:=bU hy hb;replace g0:=aD g0 hnx;replace g1:=aD g1 hnx;replace g2:=aD g2 hnx;replace g3:=aD g3 hnx;replace g4:=aD g4 hnx;replace g5:=aD g5 hnx;replace g6:=aD g6 hnx;obtain⟨ap,bp,op,cp,rfl,-⟩:=hp;obtain⟨sb,cb',rfl⟩:=hb.rT;obtain⟨xa,xc,rfl,rfl,rfl,rfl⟩:=hx.shape;generalize y.params.length=np at *;generalize y.body.length=nb at *;generalize y.result.args.length=ne at *;have d9:=I (aH wr (aW #[A y.name,Y ap np cp,Y sb nb cb',O y.result.kind,O y.result.n,A y.result.name,Y xa ne xc] 109));have hbn:=aZ wr (aW #[A y.name,Y ap np cp,Y sb nb cb',O y.result.kind,O y.result.n,A y.result.name,Y xa ne xc] 109);obtain⟨c2,hplt,hT2⟩:=l9 ((aj hbn 2).trans (rfl:_=some (Y sb nb cb'))) hto.lt (htl.trans (dN.of_below d9));have HVI:=I (askS_any w _ m (w.heap.size+1+1) w.heap.size (w.heap.size+1+1+1) wr.heap.size _ names y.name _ _ HN (hT2.at aX HB0 bO) rfl (hT2.at aX HB3 bO) hbn rfl aX aX aX);have fH:Hid ((F1++(bg.take t).flatMap λf=>(bJ.all m f.body).flatMap (yx names f.name)).length+((bJ.all m y.body).flatMap (yx names y.name)).length<=16777216):=I (by have h1:=uD (f:=λf:Fu=>(bJ.all m f.body).flatMap (yx names f.name)) (l:=bg) (t+1);rw[jy hy,aT]at h1;have h2:=jH.out;rw[I8,aT]at h2;rw[aT];omega);clear hto hnx htl hy hb hx hT2 hbn;go_wp2_with fail;refine(vg w _ m (w.heap.size+1+1) 158 _ _ (enters_of func158 bR rfl) HVI m _ _ y.body _ (bE _) (up RN d9) (dN.refl _ _) (HTO3.below d9) HVB fH).mono ?_;rintro e w5 ⟨rfl,mY,hb5,A9⟩;obtain⟨wK,dX,HT6⟩:=fD mY ((up RN d9).trans hb5) ((HTL3.trans (dN.of_below d9)).trans A9);clear mY hb5 A9 g0 g1 g2 g3 g4 g5 g6 c2;go_wp2_with fail;go_roundw;case rel=>exact⟨t+1,by omega,by go_num,by rw[jy HY,<-iy];exact wK,dX,HT6⟩
     case measure=>simp[intOf];omega
    ·have vH:(bg.take t)=bg:=fU (by have:=wB.out;omega);rw[vH,<-I8]at hto;obtain⟨-,v,hv1,hv2⟩:=hto;have HV2:=I hv2;have c0:=(aj hv1 0).trans (rfl:_=some v);obtain⟨a9,c9,rfl⟩:=hv2.form;clear hv1 hv2 vH htl hnx;go_wp2_with fail;go_ret;exact⟨_,rfl,HV2,RN⟩
theorem RL.up{W0 W W1:World}{M p g:Nat}{cb:Array Value}{D:Ex->List Dg}(h:RL W0 W M p g cb D)(hT:dN p W W1):RL W0 W1 M p g cb D:=
 λw c0 c1 c2 c3 y l h1 h2 h3 h4 h5=>h w c0 c1 c2 c3 y l h1 (hT.trans h2) h3 h4 h5
theorem Js(W0 W:World)(M p g r:Nat)(cb:Array Value)(D:Ex->List Dg)(eg:∀args w,(callFunc g args).run prog w=.ok (.enter g args) w)(hv:RL W0 W M p g cb D)(hr:W.heap[r]?=some (aW #[.func (.func g) #[] cb] 253))(hrp:r≠p):VisS W0 W M p 206 #[iO r] (λs=>(fC M s.e).flatMap D):=by intro w e0 e1 e2 e3 va vb s l hW hT hl hst hlen;have HB0:=I (aH w (aW #[O s.kind,A s.name,e0,e1,e2,e3,va,vb] 164));have hz:=box8 w (O s.kind) (A s.name) e0 e1 e2 e3 va vb 164;obtain⟨Fw,HW,HT,HV,jH⟩:=rO (hl.below HB0) hW hT hv hlen;obtain⟨z2,z3,z4,z5⟩:=tZ (hz 2 _ rfl) (hz 3 _ rfl) (hz 4 _ rfl) (hz 5 _ rfl);have hr1:=aD ((aj (hT.at hrp hr bO) 0).trans rfl) HB0;obtain⟨f0,f1,f2,f3,fa,fb,hc,-,-,hx,-,-⟩:=hst;simp only[List.cons.injEq,and_true,true_and]at hc;obtain⟨rfl,rfl,rfl,rfl,rfl,rfl⟩:=hc;have HX:=I hx;obtain⟨xa,xc,rfl,rfl,rfl,rfl⟩:=hx.shape;generalize s.e.args.length=ne at *;have EG:=I eg;clear hz hr hl hT hW hv hlen hx eg;show Calls prog 206 #[.agg #[O s.kind,A s.name,O s.e.kind,O s.e.n,A s.e.name,Y xa ne xc,va,vb],iO r] w _;go_enter func206,ntmps206;go_wp2_with fail;refine(D5 W0 W M p g cb D EG HV M _ _ _ _ _ s.e l (bE _) (HW.trans (HB0.mono HW.size)) (HT.trans (dN.of_below HB0)) Fw HX jH).mono ?_;rintro e w5 ⟨rfl,mY,hb5,A9⟩;obtain⟨wK,d9⟩:=bU mY ((HB0.mono HW.size).trans hb5);have WY:Hid (dN p w w5):=I ((dN.of_below HB0).trans A9);clear mY hb5 A9;go_wp2;go_end0;exact⟨rfl,wK,d9,WY⟩
namespace bJ
def lQ(m:Nat)(f:Fu):List Ex:=((all m f.body).flatMap λs=>fC m s.e)++fC m f.result
end bJ
theorem al2(w:World)(a b:Obj):((w.alloc a).alloc b).heap[w.heap.size]?=some a/\((w.alloc a).alloc b).heap[w.heap.size+1]?=some b/\bG w ((w.alloc a).alloc b):=by have h1:=aZ w a;have h2:=aZ (w.alloc a) b;simp only[CK]at h2;refine⟨?_,h2,up (aH _ _) (aH _ _)⟩;rw[(aH _ b).block _ dx];exact h1
theorem LX(W0 W:World)(M p g:Nat)(cb:Array Value)(D:Ex->List Dg)(eg:∀args w,(callFunc g args).run prog w=.ok (.enter g args) w)(hv:RL W0 W M p g cb D)(w:World)(fn:aY)(vp vb e0 e1 e2 e3:Value)(f:Fu)(l:List Dg)(hW:bG W0 w)(hT:dN p W w)(hl:Told w W0.heap.size p l)(hb:fB W0 M vb f.body)(hx:gT W0 M e0 e1 e2 e3 f.result)(hlen:l.length+((lQ M f).flatMap D).length<=16777216):Calls prog 159 #[.agg #[A fn,vp,vb,e0,e1,e2,e3],.func (.func g) #[] cb] w λe w'=>e=dz (.tuple #[])/\Told w' W0.heap.size p (l++(lQ M f).flatMap D)/\Below W0.heap.size w w'/\dN p w w':=by have HX:=I hx;have HVB:=I hb;obtain⟨sb,cb',rfl⟩:=hb.rT;obtain⟨xa,xc,rfl,rfl,rfl,rfl⟩:=hx.shape;generalize f.body.length=nb at *;generalize f.result.args.length=ne at *;obtain⟨b0,b1,hb0⟩:=al2 w (aW #[A fn,vp,Y sb nb cb',O f.result.kind,O f.result.n,A f.result.name,Y xa ne xc] 109) (aW #[.func (.func g) #[] cb] 253);obtain⟨HB0,HB1,Fv,HP,HW,HT⟩:=vP b0 b1 hb0 hl.lt hW hT;obtain⟨Fw,EG,HV,HS⟩:=lY (hl.below hb0) eg (hv.up (hT.trans (dN.of_below hb0))) (Js W0 _ M p g (w.heap.size+1) cb D eg (hv.up (hT.trans (dN.of_below hb0))) b1 (by have:=hl.lt;omega));have Cc:Hid ((lQ M f).flatMap D=((bJ.all M f.body).flatMap λs=>(fC M s.e).flatMap D)++(fC M f.result).flatMap D):=I (by unfold lQ;rw[kQ,List.flatMap_assoc]);rw[Cc,aT]at hlen;have jH:=I hlen;have q2:=(aj b0 2).trans (rfl:_=some (Y sb nb cb'));clear hx hb b0 b1 hb0 hl hW hT eg hv hlen;go_enter func159,ntmps159;go_wp2_with fail;generalize ((w.alloc (aW #[A fn,vp,Y sb nb cb',O f.result.kind,O f.result.n,A f.result.name,Y xa ne xc] 109)).alloc (aW #[.func (.func g) #[] cb] 253))=W1 at *;refine(vg W0 W1 M p 206 _ _ (enters_of func206 bR rfl) HS M _ _ f.body l (bE _) (HW.trans (Fv.mono HW.size)) (dN.refl _ _) Fw HVB (by have:=jH.out;omega)).mono ?_;rintro e w5 ⟨rfl,mY,hb5,A9⟩;obtain⟨wK,d9,WY⟩:=fD mY ((Fv.mono HW.size).trans hb5) A9;obtain⟨hb05,OL⟩:=eY (A9.at (by have:=HP.out;omega) HB0 bO) (A9.at (by have:=HP.out;omega) HB1 bO);obtain⟨k3,k4,k5,k6⟩:=tZ ((aj hb05 3).trans (rfl:_=some (O f.result.kind))) ((aj hb05 4).trans (rfl:_=some (O f.result.n))) ((aj hb05 5).trans (rfl:_=some (A f.result.name))) ((aj hb05 6).trans (rfl:_=some (Y xa ne xc)));have k7:=(aj OL 0).trans (rfl:_=some (Value.func (.func g) #[] cb));clear mY hb5 A9 hb05 OL q2;go_wp2_with fail;refine(D5 W0 W1 M p g cb D EG HV M _ _ _ _ _ f.result _ (bE _) (HW.trans d9) WY wK HX (by have:=jH.out;rw[aT];omega)).mono ?_;rintro e w6 ⟨rfl,hto6,hb6,ht6⟩;obtain⟨HTO6,dX⟩:=bU hto6 (d9.trans hb6);have HT6:Hid (dN p w w6):=I (((dN.of_below Fv).trans WY).trans ht6);clear hto6 hb6 ht6;go_wp2;go_end0;exact⟨rfl,by rw[Cc,<-iy];exact HTO6,dX,HT6⟩
namespace bJ
def clE(x:Mo)(known:List Mo)(k:Nat)(fn:aY)(y:Ex):List Dg:=if code x known k y.name y.args.length=0 then []else [⟨code x known k y.name y.args.length,fn,y.name⟩]
end bJ
theorem Xa(W0 W:World)(m p qs qk qf:Nat)(x:Mo)(known:List Mo)(vi vv vf vk va:Value)(k:Nat)(fn:aY)(cf:Array Value)(hS:ZY W0 m x known vi vv vf vk va)(hk:k<=x.bg.length)(hs:W.heap[qs]?=some (aW #[A x.name,vi,vv,vf,vk,va] 189))(hqk:W.heap[qk]?=some (aW #[O k] 3))(hqf:W.heap[qf]?=some (.cells cf 109 (0,0)))(hfn:cf[0]?=some (A fn))(hsp:qs≠p)(hkp:qk≠p)(hfp:qf≠p):RL W0 W m p 160 #[iO qs,iO qk,iO p,iO qf] (clE x known k fn):=by
 intro w c0 c1 c2 c3 y l hW hT hl hE hlen;have Ov:=I hE;obtain⟨xa,xc,rfl,rfl,rfl,rfl⟩:=hE.shape;obtain⟨HB0,HBN⟩:=rZ w (aW #[O y.kind,O y.n,A y.name,Y xa y.args.length xc] 107);obtain⟨s1,s2,s3⟩:=l9 (hT.at hsp hs bO) (hT.at hkp hqk bO) (hT.at hfp hqf bO);obtain⟨u0,u1,u2⟩:=l9 (aD ((aj s1 0).trans (rfl:_=some (A x.name))) HB0) (aD ((aj s1 1).trans (rfl:_=some vi)) HB0) (aD ((aj s1 2).trans (rfl:_=some vv)) HB0);have UW:=aD ((aj s1 3).trans (rfl:_=some vf)) HB0;have u4':=aD ((aj s1 4).trans (rfl:_=some vk)) HB0;have ug:=I ((aj s3 0).trans hfn);obtain⟨u5,u6,z0,z1⟩:=tZ (aD ((aj s1 5).trans (rfl:_=some va)) HB0) (aD ((aj s2 0).trans (rfl:_=some (O k))) HB0) (F5 w (O y.kind) (O y.n) (A y.name) (Y xa y.args.length xc) 107) (DN w (O y.kind) (O y.n) (A y.name) (Y xa y.args.length xc) 107);obtain⟨z2,z3⟩:=eY (DR w (O y.kind) (O y.n) (A y.name) (Y xa y.args.length xc) 107) (DK w (O y.kind) (O y.n) (A y.name) (Y xa y.args.length xc) 107);obtain⟨HZ2,HW,Fw,qK⟩:=lY z2 hW hl (LU m m _ x known vi vv vf vk va k _ _ _ _ y (hS.below (hW.trans (HB0.mono hW.size))) hk (Ov.below (hW.trans (HB0.mono hW.size))));have HD:Hid (clE x known k fn y=if bJ.code x known k y.name y.args.length=0 then []else [⟨bJ.code x known k y.name y.args.length,fn,y.name⟩]):=rfl;rw[HD]at hlen;generalize bJ.code x known k y.name y.args.length=cd at *;obtain⟨hI,hV,hF⟩:=hS.mo.split;obtain⟨hK,hA⟩:=eY hS.kn hS.ats;obtain⟨ai,bi,oi,ci,rfl,-⟩:=hI;obtain⟨av,bv,ov,cv,rfl,-⟩:=hV;obtain⟨af,bf,of,cf',rfl,-⟩:=hF;obtain⟨ak,bk,ok,ck,rfl,-⟩:=hK;obtain⟨aa,ba,oa,ca,rfl,-⟩:=hA;generalize (x.imports.map λs=>oI (dI known s)).length=nat at *;generalize x.imports.length=ni at *;generalize x.vars.length=nv at *;generalize x.bg.length=nf at *;generalize known.length=nk at *;generalize y.args.length=na at *;clear hs hqk hqf hfn s1 s2 s3 hE hT hS;show Calls prog 160 #[.agg #[O y.kind,O y.n,A y.name,Y xa na xc],iO qs,iO qk,iO p,iO qf] w _;by_cases h0:cd=0
 ·have h0':(cd==0)=true:=by simp[h0]
  rw[aL h0]at HD;clear h0 hl hW hlen;go_enter func160,ntmps160;go_wp2_with fail;refine qK.mono ?_;rintro e w5 ⟨rfl,hb5⟩;have d9:=I (up HB0 hb5);clear hb5 z0 z1 z2 z3 u0 u1 u2 UW u4' u5 u6;go_wp2_with fail;go_end0;exact⟨rfl,by rw[HD,gB];exact Fw.below d9,d9.mono HW.size,dN.of_below d9⟩
 ·have h0':(cd==0)=false:=by simp[h0]
  rw[aJ h0]at HD hlen;clear h0 hl hW;have hl2:l.length<16777216:=by simp at hlen;omega
  clear hlen;go_enter func160,ntmps160;go_wp2_with fail;refine qK.mono ?_;rintro e w5 ⟨rfl,hb5⟩;have d9:=I (up HB0 hb5);have mY:=Fw.below d9;obtain⟨t0,v,t1,t2⟩:=mY;have q0:w5.cell? (X p 0)=some v:=by rw[aj t1];rfl
  obtain⟨H0,H1,H2⟩:=fD t0 t1 t2;obtain⟨y2,f0,Kg⟩:=l9 (aD HZ2 hb5) (aD ug d9) (bF HW.out.size d9.size);clear hb5 z0 z1 z2 z3 u0 u1 u2 UW u4' u5 u6 t0 t1 t2
  go_wp2_with (first
   | (at_builtin;refine fZ (At:=oW) rfl _ _ 59 80 3 40 _ rfl underlying59 oZ bO bO bO W0.heap.size _ _ rfl (H2.below (aH _ _)) _ _ [⟨cd,fn,y.name⟩] rfl (eF.one _ _ rfl (oW.one (d:=⟨cd,fn,y.name⟩) rfl) rfl) (by simp only[iF];omega) (bF Kg (aH _ _).size) ?_;intro v6 w6 hown6 dZ;obtain⟨a6,c6,hv6⟩:=hown6.form;subst hv6;have HP:=I (Told.push H0 H1 H2 hown6 dZ);have z0:=(aj HP.1 0).trans (show _=some v from rfl);have zf:=aG HP.1 0;clear hown6 dZ)
   | fail)
  go_end0;have hl1:(l++[(⟨cd,fn,y.name⟩:Dg)]).length=l.length+1:=by simp
  rw[hl1]at HP;exact⟨rfl,by rw[HD];exact HP.2.1,(d9.mono HW.size).trans HP.2.2.1,(dN.of_below d9).trans HP.2.2.2⟩
namespace bJ
def upto(g:Nat->List Dg)(n:Nat):List Dg:=(List.range n).flatMap g
theorem jc(g:Nat->List Dg)(n:Nat):upto g (n+1)=upto g n++g n:=by unfold upto;rw[FT,kQ];simp
theorem Kh(g:Nat->List Dg):upto g 0=[]:=rfl
theorem LY (g : Nat → List Dg) {j n : Nat} (h : j ≤ n) : (upto g j).length ≤ (upto g n).length := by
 induction n with
 | zero =>
  have : j = 0 := by omega
  subst this; exact Nat.le_refl _
 | succ n ih =>
  by_cases e : j = n + 1
  ·subst e; exact Nat.le_refl _
  ·rw [jc, List.length_append]; have := ih (by omega); omega
theorem mem_upto{g:Nat->List Dg}{n:Nat}{d:Dg}:d∈upto g n↔∃i,i<n/\d∈g i:=by unfold upto;simp
def Xb{α:Type}(l:List α)(f:Nat->α->List Dg)(i:Nat):List Dg:=match l[i]? with
 | some x=>f i x
 | none=>[]
theorem sZ{α:Type}{l:List α}{f:Nat->α->List Dg}{i:Nat}{x:α}(h:l[i]?=some x):Xb l f i=f i x:=by unfold Xb;rw[h]
def clD(x:Mo)(known:List Mo)(m:Nat):List Dg:=upto (Xb x.bg λk f=>(lQ m f).flatMap (clE x known k f.name)) x.bg.length
def imD(x:Mo)(known:List Mo):List Dg:=upto (Xb x.imports λ_ s=>if (dA s x.name||(dI known s).isNone)=true then [⟨1,⟨#[]⟩,s⟩]else []) x.imports.length
end bJ
theorem Jt(m:Nat)(w:World)(x:Mo)(known:List Mo)(vi vv vf vk va:Value)(h:ZY w m x known vi vv vf vk va)(hlen:(clD x known m).length<=16777216):Calls prog 103 #[.agg #[A x.name,vi,vv,vf,vk,va]] w λe w'=>∃u,e=dz u/\eF oW w' w.heap.size 80 3 u (clD x known m)/\bG w w':=by
 have HS:=I h;obtain⟨hI,hV,hF⟩:=h.mo.split;obtain⟨hK,hA⟩:=eY h.kn h.ats;obtain⟨ai,bi,oi,ci,rfl,-⟩:=hI;obtain⟨av,bv,ov,cv,rfl,-⟩:=hV;obtain⟨af,bf,of,cf,rfl,UJ,hlf,hcf⟩:=hF;obtain⟨ak,bk,ok,ck,rfl,-⟩:=hK;obtain⟨aa,ba,oa,ca,rfl,-⟩:=hA;have RJ:Hid (Jj w m bf of x.bg):=hcf;have QZ:=I UJ;obtain⟨G,hG⟩:=bC (Xb x.bg λk f=>(lQ m f).flatMap (clE x known k f.name));have HG:=I hG;have I8:Hid (clD x known m=bJ.upto G x.bg.length):=I (by rw[hG];rfl);have jH:=I hlen;rw[I8]at jH ⊢;obtain⟨nf,hnf⟩:=bC x.bg.length;have wB:=I hnf;rw[<-hnf]at hlf QZ jH HS ⊢;generalize (x.imports.map λs=>oI (dI known s)).length=nat at *;generalize x.imports.length=ni at *;generalize x.vars.length=nv at *;generalize known.length=nk at *;obtain⟨b0,b1,hb0⟩:=al2 w (aW #[A x.name,Y ai ni ci,Y av nv cv,Y af nf cf,Y ak nk ck,Y aa nat ca] 189) (aW #[J] 59);obtain⟨HB0,Fv⟩:=bU b0 hb0;have q3:=(aj b0 3).trans (rfl:_=some (Y af nf cf));have Fw:Hid (Told _ w.heap.size (w.heap.size+1) []):=I ⟨by omega,_,b1,eF.nil _ _ _ _⟩;clear hcf UJ hlen hG hnf h b0 b1 hb0;go_enter func103,ntmps103;go_wp2_with fail;generalize ((w.alloc (aW #[A x.name,Y ai ni ci,Y av nv cv,Y af nf cf,Y ak nk ck,Y aa nat ca] 189)).alloc (aW #[J] 59))=W1 at *;clear q3;go_loopw[10] (λi wr=>∃j:Nat,j<=nf/\i=O j/\Told wr w.heap.size (w.heap.size+1) (bJ.upto G j)/\bG w wr/\dN (w.heap.size+1) W1 wr) (λi _=>nf - (intOf i).toNat);case atStart=>exact⟨0,bL _,rfl,Fw,Fv,dN.refl _ _⟩
 case round=>
  obtain⟨t,ht,rfl,hto,hnx,htl⟩:=hrel;obtain⟨HTO3,RN,HTL3⟩:=fD hto hnx htl;by_cases LW:t<nf
  ·obtain⟨y,hy⟩:∃y,x.bg[t]?=some y:=⟨_,bD (by rw[<-wB];exact LW)⟩;obtain⟨-,vp,vb,e0,e1,e2,e3,g0,g1,g2,g3,g4,g5,g6,hp,hb,hx⟩:=RJ t y hy;obtain rfl:=QZ aX;have HY:Hid (G t=(lQ m y).flatMap (clE x known t y.name)):=I (by rw[HG];exact sZ hy);obtain⟨HVB,HVX⟩:=bU hb hx;replace g0:=aD g0 hnx;replace g1:=aD g1 hnx;replace g2:=aD g2 hnx;replace g3:=aD g3 hnx;replace g4:=aD g4 hnx;replace g5:=aD g5 hnx;replace g6:=aD g6 hnx;obtain⟨ap,bp,op,cp,rfl,-⟩:=hp;obtain⟨sb,cb',rfl⟩:=hb.rT;obtain⟨xa,xc,rfl,rfl,rfl,rfl⟩:=hx.shape;generalize y.params.length=np at *;generalize y.body.length=nb at *;generalize y.result.args.length=ne at *;obtain⟨c0,c1,hb5⟩:=al2 wr (aW #[O t] 3) (aW #[A y.name,Y ap np cp,Y sb nb cb',O y.result.kind,O y.result.n,A y.result.name,Y xa ne xc] 109);have d9:=I hb5;obtain⟨d0,d1,d2,d3,d4,d5,d6⟩:=J5 ((aj c1 0).trans (rfl:_=some (A y.name))) ((aj c1 1).trans (rfl:_=some (Y ap np cp))) ((aj c1 2).trans (rfl:_=some (Y sb nb cb'))) ((aj c1 3).trans (rfl:_=some (O y.result.kind))) ((aj c1 4).trans (rfl:_=some (O y.result.n))) ((aj c1 5).trans (rfl:_=some (A y.result.name))) ((aj c1 6).trans (rfl:_=some (Y xa ne xc)));obtain⟨hplt,hT2⟩:=eY hto.lt (htl.trans (dN.of_below hb5));have HVI:=I (Xa w _ m (w.heap.size+1) w.heap.size wr.heap.size (wr.heap.size+1) x known _ _ _ _ _ t y.name _ HS (by rw[<-wB];exact ht) (hT2.at aX HB0 bO) c0 c1 rfl aX aX aX);have fH:Hid ((bJ.upto G t).length+((lQ m y).flatMap (clE x known t y.name)).length<=16777216):=I (by have h1:=LY G (show t+1<=nf by omega);rw[jc,aT,HY]at h1;have h2:=jH.out;omega);clear hto hnx htl hy hb hx hT2 c0 c1 hb5;go_wp2_with fail;refine(LX w _ m (w.heap.size+1) 160 _ _ (enters_of func160 bR rfl) HVI _ y.name _ _ _ _ _ _ y _ (up RN d9) (dN.refl _ _) (HTO3.below d9) HVB HVX fH).mono ?_;rintro e w5 ⟨rfl,mY,hb5,A9⟩;obtain⟨wK,dX,HT6⟩:=fD mY ((up RN d9).trans hb5) ((HTL3.trans (dN.of_below d9)).trans A9);clear mY hb5 A9 g0 g1 g2 g3 g4 g5 g6 d0 d1 d2 d3 d4 d5 d6;go_wp2_with fail;go_roundw;case rel=>exact⟨t+1,by omega,by go_num,by rw[jc,HY];exact wK,dX,HT6⟩
   case measure=>simp[intOf];omega
  ·have vH:t=nf:=by omega
   rw[vH]at hto;obtain⟨-,v,hv1,hv2⟩:=hto;have HV2:=I hv2;have c0:=(aj hv1 0).trans (rfl:_=some v);obtain⟨a9,c9,rfl⟩:=hv2.form;generalize (bJ.upto G nf).length=nu at *;clear hv1 hv2 vH htl hnx;go_wp2_with fail;go_ret;exact⟨_,rfl,HV2,RN⟩
theorem EB(m:Nat)(w:World)(x:Mo)(known:List Mo)(vi vv vf vk va:Value)(h:ZY w m x known vi vv vf vk va)(hlen:(imD x known).length<=16777216):Calls prog 100 #[.agg #[A x.name,vi,vv,vf,vk,va]] w λe w'=>∃u,e=dz u/\eF oW w' w.heap.size 80 3 u (imD x known)/\bG w w':=by
 obtain⟨hI,hV,hF⟩:=h.mo.split;obtain⟨hK,hA⟩:=eY h.kn h.ats;obtain⟨ai,bi,oi,ci,rfl,hai,WK,hcs,hci⟩:=hI;obtain⟨av,bv,ov,cv,rfl,-⟩:=hV;obtain⟨af,bf,of,cf,rfl,-⟩:=hF;obtain⟨ak,bk,ok,ck,rfl,-⟩:=hK;obtain⟨aa,ba,oa,ca,rfl,haa,hla,hca⟩:=hA;obtain⟨HCI,HAI,Lp⟩:=fD hci hai hca;obtain⟨G,hG⟩:=bC (Xb x.imports λ_ s=>if (dA s x.name||(dI known s).isNone)=true then [⟨1,⟨#[]⟩,s⟩]else []);have HG:=I hG;have I8:Hid (imD x known=bJ.upto G x.imports.length):=I (by rw[hG];rfl);have jH:=I hlen;rw[I8]at jH ⊢;have Z0:(x.imports.map λs=>oI (dI known s)).length=x.imports.length:=by rw[dO]
 rw[Z0]at hla haa ⊢;have HAA:=I haa;obtain⟨ni,hni⟩:=bC x.imports.length;have I4:=I hni;rw[<-hni]at WK HAI jH hla HAA ⊢;generalize x.bg.length=nf at *;generalize x.vars.length=nv at *;generalize known.length=nk at *;have HB0:=I (aH w (aW #[A x.name,Y ai ni ci,Y av nv cv,Y af nf cf,Y ak nk ck,Y aa ni ca] 189));have dQ:=λi v h=>WL w (A x.name) (Y ai ni ci) (Y av nv cv) (Y af nf cf) (Y ak nk ck) (Y aa ni ca) 189 i v h;obtain⟨q0,q1,q5⟩:=l9 (dQ 0 _ rfl) (dQ 1 _ rfl) (dQ 5 _ rfl);clear hci hai hcs hca haa hlen hG hni h Z0;go_enter func100,ntmps100;go_wp2_with fail;generalize (w.alloc (aW #[A x.name,Y ai ni ci,Y av nv cv,Y af nf cf,Y ak nk ck,Y aa ni ca] 189))=W1 at *;go_loopw[3,10] (λv i wr=>∃j:Nat,j<=ni/\i=O j/\eF oW wr W1.heap.size 80 3 v (bJ.upto G j)/\bG W1 wr) (λ_ i _=>ni - (intOf i).toNat);case atStart=>exact⟨0,bL _,rfl,eF.nil _ _ _ _,bP _ _⟩
 case round=>
  obtain⟨t,ht,rfl,hown,hnx⟩:=hrel;obtain⟨HOW,fO⟩:=bU hown hnx;by_cases LW:t<ni
  ·obtain⟨s,hs⟩:∃y,x.imports[t]?=some y:=⟨_,bD (by rw[<-I4];exact LW)⟩;have c0:=aD (aD (HCI t (by rw[<-I4];exact LW)) HB0) hnx;rw[DV,hs,iw]at c0;obtain rfl:=HAI aX;obtain rfl:=HAA aX;have c5:=aD (aD (Lp t (oI (dI known s)) (by rw[qA,hs];rfl)) HB0) hnx;have HY:Hid (G t=if (dA s x.name||(dI known s).isNone)=true then [⟨1,⟨#[]⟩,s⟩]else []):=I (by rw[HG];exact sZ hs);replace q0:=aD q0 hnx;replace q5:=aD q5 hnx;obtain⟨a3,c3,rfl⟩:=hown.form;have hul:(bJ.upto G t).length<16777216\/G t=[]:=by
    have h1:=LY G (show t+1<=ni by omega);rw[jc,aT]at h1;have h2:=jH.out;by_cases hg:G t=[];·exact aV hg
    ·have:=sQ.2 hg;exact aR aX
   have HUL:=I hul;obtain⟨ul,hut⟩:=bC ((bJ.upto G t).length);have HUT:=I hut;rw[<-hut]at HOW ⊢;clear hs hown hnx hut hul q1;cases hb1:(s.toList==x.name.toList)
   ·have hsb:dA s x.name=false:=hb1;rw[hsb,Bool.false_or]at HY;clear hsb;cases hmo:dI known s with
    | none=>
     rw[hmo]at HY c5;have ho:oI none=-1:=rfl;rw[ho]at c5;rw[Option.isNone_none,aL rfl]at HY;have hul:ul<16777216:=by
      rcases HUL with h|h;·rw[HUT];exact h
      ·rw[HY]at h;cases h
     clear hmo ho
     go_wp2_with (first
      | (at_builtin;refine fZ (At:=oW) rfl _ _ 59 80 3 40 _ rfl underlying59 oZ bO bO bO W1.heap.size _ _ rfl (HOW.below (aH _ _)) _ _ [⟨1,⟨#[]⟩,s⟩] rfl (eF.one _ _ rfl (oW.one (d:=⟨1,⟨#[]⟩,s⟩) rfl) rfl) (by have:=HUT.out;simp only[iF];omega) (bF fO.out.size (aH _ _).size) ?_;intro v6 w6 hown6 dZ;have nJ:=I hown6;have sj:=I (jI (up fO (aH _ _)) dZ (λj hj=>(HOW.lt j hj).1));clear hown6 dZ)
      | fail)
     go_roundw;case rel=>exact⟨t+1,by omega,by go_num,by rw[jc,HY];exact nJ,sj⟩
     case measure=>simp[intOf];omega
    | some a=>
     rw[hmo]at HY c5;have ho:oI (some a)=(a:Int):=rfl;rw[ho]at c5;rw[Option.isNone_some,aJ dx]at HY;clear hmo ho;go_wp2_with fail;go_roundw;case rel=>exact⟨t+1,by omega,by go_num,by rw[jc,HY,gB];exact HOW,fO⟩
     case measure=>simp[intOf];omega
   ·have hsb:dA s x.name=true:=hb1;rw[hsb,Bool.true_or,aL rfl]at HY;have hul:ul<16777216:=by
     rcases HUL with h|h;·rw[HUT];exact h
     ·rw[HY]at h;cases h
    clear hsb
    go_wp2_with (first
     | (at_builtin;refine fZ (At:=oW) rfl _ _ 59 80 3 40 _ rfl underlying59 oZ bO bO bO W1.heap.size _ _ rfl (HOW.below (aH _ _)) _ _ [⟨1,⟨#[]⟩,s⟩] rfl (eF.one _ _ rfl (oW.one (d:=⟨1,⟨#[]⟩,s⟩) rfl) rfl) (by have:=HUT.out;simp only[iF];omega) (bF fO.out.size (aH _ _).size) ?_;intro v6 w6 hown6 dZ;have nJ:=I hown6;have sj:=I (jI (up fO (aH _ _)) dZ (λj hj=>(HOW.lt j hj).1));clear hown6 dZ)
     | fail)
    go_roundw;case rel=>exact⟨t+1,by omega,by go_num,by rw[jc,HY];exact nJ,sj⟩
    case measure=>simp[intOf];omega
  ·have vH:t=ni:=by omega
   rw[vH]at HOW;obtain⟨a9,c9,rfl⟩:=hown.form;have HO2:=HOW;rw[vH]at HO2 ⊢;generalize (bJ.upto G ni).length=nu at *;clear hown vH hnx;go_wp2_with fail;go_ret;exact⟨_,rfl,HO2.old HB0.size,up HB0 fO⟩
def LZ{α:Type}(At:List Value->α->Prop)(w:World)(n e k:Nat)(v:Value)(l:List α):Prop:=
 ∃cs:List (List Value),w.ownsRow n e k v l.length cs.flatten/\cs.length=l.length/\(∀c∈cs,c.length=k/\∀u∈c,u.oneCell'=true)/\(∀(i:Nat) c y,cs[i]?=some c->l[i]?=some y->At c y)
section
variable {α : Type} {At : List Value → α → Prop} {w w' : World} {n e k : Nat} {v : Value} {l : List α}
theorem eF.toR(h:eF At w n e k v l):LZ At w n e k v l:=by obtain⟨cs,h1,h2,h3,h4,_⟩:=h;exact⟨cs,h1,h2,h3,h4⟩
theorem LZ.toK(h:LZ At w n e k v l)(hz:l=[]->v=J):eF At w n e k v l:=by obtain⟨cs,h1,h2,h3,h4⟩:=h;exact⟨cs,h1,h2,h3,h4,hz⟩
theorem LZ.lt(h:LZ At w n e k v l):∀j,v.ownBlock=some j->n<=j/\j<w.heap.size:=by obtain⟨cs,h1,_⟩:=h;exact h1.lt
end
section
variable {α : Type} {At : List Value → α → Prop} {w : World} {ops : Array Oper} {rest : List Oper} {o : Oper} {a : Act} {Q : Exit → Act → World → Prop}
theorem EC(hgd:o.guard=none)(s x:Operand)(t e k bytes:Nat)(z:Value)(ho:o.op=.call { callee:=.builtin .append,args:=#[s,x],argTypes:=#[t,t] })(ht:prog.underlying t=some (.slice e))(hinfo:(prog.info? e).map (λi=>(i.zero,i.size,i.bytes))=some (some z,k,bytes))(hzs:z.cells.size=k)(hk:0<k)(hby:bytes<=1024)(n:Nat)(v:Value)(l:List α)(hs:a.eval s=v)(hown:LZ At w n e k v l)(n2:Nat)(v2:Value)(l2:List α)(hx:a.eval x=v2)(hown2:eF At w n2 e k v2 l2)(hl:l.length+l2.length<=16777216)(hbase:n<=w.heap.size)(h:∀v' w',LZ At w' n e k v' (l++l2)->(l2=[]->v'=v)->w.grownBy w' v.ownBlock->wpList prog ops Q rest (a.put o.dst v') w'):wpList prog ops Q (o::rest) a w:=by
 obtain⟨iS,Ak,hz0,hz1,hz2⟩:=info_parts hinfo;have HO:=hown;obtain⟨cs,hr,k1,k2,k3⟩:=hown;rcases hown2.shape with⟨rfl,rfl⟩|⟨g2,cap2,rfl,_,_,_,hne⟩;·refine wpList_append_own_none hgd s x t ho n e iS k ht Ak v l.length cs.flatten hs hr hx ?_;exact h v w (by simpa using HO) (λ_=>rfl) ⟨rfl,rfl,rfl,bE _,λ_ _ _=>rfl⟩
 ·obtain⟨cs2,hr2,b1,b2,b3,_⟩:=hown2;have hpos:0<l2.length:=sQ.2 hne;refine wpList_append_lies w hgd s x t ho n e iS z k bytes ht Ak hz0 hz1 hz2 hzs hk v l.length cs.flatten hs hr ⟨g2,0,none⟩ l2.length cap2 cs2.flatten hx (by rw[qz cs2 (λc hc=>(b2 c hc).1),b1]) (λj u hu=>?_) (λu hu=>?_) hpos (by unfold maxLen;omega) (bF (zA hl hby) (by decide)) hbase w.heap.size rfl ?_;·rw[Addr.add_lit,eD,vV hr2 j (by have:=(dK.1 hu).1;rw[qz cs2 (λc hc=>(b2 c hc).1),b1]at this;exact this)];exact hu
  ·obtain⟨c,hc,hu'⟩:=List.mem_flatten.1 hu;exact(b2 c hc).2 u hu'
  ·intro g cap w' h1' h2 _ _;exact h _ w' (eF.cat ⟨k1,k2,k3⟩ ⟨b1,b2,b3⟩ hne h1').toR (λe=>aM e hne) h2
end
theorem Xc(w:World)(n:Nat)(hn:n<=16777216):Calls prog 154 #[J,O n] w λe w'=>∃v,e=dz v/\LZ oW w' w.heap.size 80 3 v []/\(n=0->v=J)/\bG w w':=by
 obtain⟨iS,Ak,hz0,hz1,hz2⟩:=info_parts oZ;by_cases h0:n=0;·subst h0;go_enter func154,ntmps154;go_wp2;go_ret;exact⟨_,rfl,(eF.nil _ _ _ _).toR,λ_=>rfl,bP _ _⟩
 ·obtain⟨Z,hZ⟩:∃Z:Value,Z=.agg #[O 0,A ⟨#[]⟩,A ⟨#[]⟩]:=⟨_,rfl⟩;rw[<-hZ]at hz0;have hrz:∀ty,(Builtin.append_ #[59,3] ty #[J,O n]).run prog w=.ok (Y (some (X w.heap.size 0)) n (grownCap w n 0 80)) (w.drew.alloc (.cells (Builtin.zeroCells Z.cells n++Builtin.zeroCells Z.cells (grownCap w n 0 80 - n)) 80)):=λty=>by have h:=Lib.run_append_grow_zeros w 59 3 ty 80 iS Z .i64 .i64 underlying59 underlying3 Ak hz0 none 0 0 [] (run_firstCells_none w.drew _ 0 0 0) n aX aX aX aX (by rw[hz2];omega) (by rw[eD];exact growslice_fits aX (by rw[hz2];omega));simpa using h
  have hGn:n<=grownCap w n 0 80:=grownCap_ge w _ _ _;have hGm:grownCap w n 0 80<=maxLen:=grownCap_le_maxLen w n 0 80 (by unfold maxLen;omega);obtain⟨G,hG⟩:=bC (grownCap w n 0 80);rw[<-hG]at hrz hGn hGm;have hG63:G<=9223372036854775807:=by unfold maxLen at hGm;omega
  have hown:(w.drew.alloc (.cells (Builtin.zeroCells Z.cells n++Builtin.zeroCells Z.cells (G - n)) 80)).ownsRow w.heap.size 80 3 (Y (some (X w.heap.size 0)) 0 G) 0 []:=
   ⟨by simp,.inr ⟨w.heap.size,G,_,rfl,bE _,heap_alloc_new w.drew _,bL _,hGm,by
    have e:∀k,(Builtin.zeroCells Z.cells k).size=k*3:=λk=>by rw[hZ];simp[Builtin.zeroCells,Value.cells]
    rw[Array.size_append,e,e];omega,by simp⟩⟩
  have HO:=I hown;have iA:Hid (bG w (w.drew.alloc (.cells (Builtin.zeroCells Z.cells n++Builtin.zeroCells Z.cells (G - n)) 80))):=I (((bP _ _).drew).alloc dx _);clear hown hG;generalize (w.drew.alloc (.cells (Builtin.zeroCells Z.cells n++Builtin.zeroCells Z.cells (G - n)) 80))=W1 at *;go_enter func154,ntmps154;go_wp2_with (at_builtin;refine Lib.wpList_append_run _ rfl _ _ _ _ rfl _ _ rfl rfl _ _ (hrz _) ?_);go_ret;exact⟨_,rfl,⟨[],HO,rfl,(λc hc=>aM hc dx),(λi c y hc=>aM hc dx)⟩,λh=>aM h h0,iA⟩
def OM(w:World)(n:Nat)(v:Value)(ls:List (List Dg)):Prop:=
 ∃b off cap,v=.slice (some ⟨b,off,none⟩) ls.length cap/\ls.length<=16/\∀i l,ls[i]?=some l->∃vi,w.cell? ⟨b,off+i,none⟩=some vi/\eF oW w n 80 3 vi l
theorem Gx{ls:List (List Dg)}{j:Nat}{l:List Dg}(h:ls[j]?=some l):(ls.take (j+1)).flatten=(ls.take j).flatten++l:=by obtain⟨hj,rfl⟩:=dK.1 h;rw[rX hj,DJ];simp
theorem Ba(ls:List (List Dg))(j:Nat):(ls.take j).flatten.length<=ls.flatten.length:=by
 conv=>rhs;rw[<-oV j ls]
 rw[DJ,aT];omega
theorem D7(w:World)(n0:Nat)(v:Value)(ls:List (List Dg))(h:OM w n0 v ls)(hn:ls.flatten.length<=16777216):Calls prog 99 #[v] w λe w'=>∃v',e=.returned v'/\eF oW w' w.heap.size 80 3 v' ls.flatten/\Below w.heap.size w w':=by
 obtain⟨b,off,cap,rfl,hl16,hel⟩:=h;have lK:=I hel;clear hel;obtain⟨len,hlen⟩:=bC ls.length;have HL:=I hlen;rw[<-hlen]at hl16 ⊢;clear hlen;go_enter func99,ntmps99;go_wp2;go_loop [3,11] (λo i=>∃k:Nat,k<=len/\i=.int .i64 k/\o=.int .i64 (ls.take k).flatten.length) (λ_ i=>len - (intOf i).toNat);case atStart=>exact⟨0,bL _,rfl,rfl⟩
 case round=>
  obtain⟨k,hk,rfl,rfl⟩:=hrel;have hacc:=bF (Ba ls k) hn;by_cases hlt:k<len
  ·obtain⟨l,hy⟩:∃l,ls[k]?=some l:=⟨_,bD (by rw[<-HL];exact hlt)⟩;obtain⟨vi,g0,hst⟩:=lK k l hy;obtain⟨a,cp,rfl⟩:=hst.form;have HST:Hid ((ls.take (k+1)).flatten.length=(ls.take k).flatten.length+l.length):=I (by rw[Gx hy,aT]);have rH:=bF (Ba ls (k+1)) hn;rw[HST]at rH;generalize (ls.take k).flatten.length=n0 at *;generalize l.length=n1 at *;clear hy hst;go_wp2;go_round;case rel=>exact⟨k+1,by omega,by go_num,by rw[HST];go_num⟩
   case measure=>simp[intOf];omega
  ·have e:ls.take k=ls:=fU (by have:=HL.out;omega);rw[e]at hacc ⊢;clear e;obtain⟨N,hN⟩:=bC ls.flatten.length;have HN:=I hN;rw[<-hN]at hacc ⊢;clear hN;go_wp2_with fail;refine(Xc w N hacc).mono ?_;rintro e w1 ⟨v1,rfl,ho1,hz1,hb1⟩;obtain⟨HO,HB⟩:=bU ho1 hb1;have HZ:Hid (ls.flatten=[]->v1=.slice none 0 0):=I (λh=>hz1 (by rw[HN,h];rfl));clear ho1 hb1 hk hlt hz1;go_wp2;go_loopw[6,27] (λo i wr=>∃k:Nat,k<=len/\i=.int .i64 k/\LZ oW wr w.heap.size 80 3 o (ls.take k).flatten/\(ls.flatten=[]->o=.slice none 0 0)/\Below w.heap.size w wr) (λ_ i _=>len - (intOf i).toNat);case atStart=>exact⟨0,bL _,rfl,HO,HZ,HB⟩
   case round=>
    obtain⟨k,hk,rfl,hown,hzz,hnx⟩:=hrel;by_cases hlt:k<len
    ·obtain⟨l,hy⟩:∃l,ls[k]?=some l:=⟨_,bD (by rw[<-HL];exact hlt)⟩;obtain⟨vi,g0,hst⟩:=lK k l hy;have HSS:=I (hst.below hnx);have u0:=aD g0 hnx;obtain⟨a,cp,rfl⟩:=hst.form;have HST:=I (Gx hy);have rH:=bF (Ba ls (k+1)) hn;rw[HST,aT]at rH;obtain⟨HOW,fO,HZZ⟩:=fD hown hnx hzz;have hbs:=hnx.size;have HEM:Hid (ls.flatten=[]->l=[]):=I (λh=>by have h1:=Ba ls (k+1);rw[HST,aT,h]at h1;exact om.1 (by simp at h1;simpa using h1.2));obtain⟨n1,hn1⟩:=bC l.length;rw[<-hn1]at u0 HSS;clear hn1;clear hy hst g0 hown hnx hzz
     go_wp2_with (first
      | (at_builtin;refine EC (At:=oW) rfl _ _ 59 80 3 40 _ rfl underlying59 oZ (by decide) (by decide) (by decide) w.heap.size _ _ rfl HOW _ _ l rfl HSS (by omega) hbs ?_;intro v' w2 hown2 hz2 hgrow2)
      | fail)
     obtain⟨R2,HO2,HZ2⟩:=fD (fO.grown hgrow2 hbs (λj hj=>(HOW.lt j hj).1)) hown2 hz2;clear hgrow2 hown2 hz2;go_roundw;case rel=>exact⟨k+1,by omega,by go_num,by rw[HST];exact HO2,λh=>by rw[HZ2 (HEM h)];exact HZZ h,R2⟩
     case measure=>simp[intOf];omega
    ·have e:ls.take k=ls:=fU (by have:=HL.out;omega);rw[e]at hown;have HO2:=I (hown.toK hzz);clear hown hzz;go_wp2;go_ret;exact⟨_,rfl,HO2,hnx⟩
theorem Strs.takeS{w:World}{a:Option Addr}{n cap i:Nat}{ss:List aY}(h:Strs w (Y a n cap) ss)(hi:i<=ss.length):Strs w (Y a i cap) (ss.take i):=by
 obtain⟨a',b,off,c,e,h0,h1,h2,h3⟩:=h;injection e with e1 e2 e3;subst e1 e2 e3;have hl:(ss.take i).length=i:=by rw[List.length_take];omega
 refine⟨a,b,off,cap,by rw[hl],λh=>h0 aX,by omega,λs hs=>h2 s (List.mem_of_mem_take hs),λj hj=>?_⟩;rw[h3 j aX];rw[hl]at hj;simp[List.getD_eq_getElem?_getD,hj]
namespace bJ
def Ce(l:List aY)(s:aY):Bool:=decide (0<=dR l s)
def D8(fn:aY)(l:List aY):List Dg:=upto (Xb l λi s=>if Ce (l.take i) s=true then [⟨2,fn,s⟩]else []) l.length
def twD(x:Mo):List Dg:=[D8 ⟨#[]⟩ x.imports,D8 ⟨#[]⟩ (x.vars.map (·.name)),D8 ⟨#[]⟩ (x.bg.map (·.name))].flatten++x.bg.flatMap λf=>D8 f.name f.params
end bJ
theorem mM(w:World)(v:Value)(l:List aY)(fn:aY)(h:vW w v l)(hlen:(D8 fn l).length<=16777216):Calls prog 155 #[A fn,v] w λe w'=>∃u,e=dz u/\eF oW w' w.heap.size 80 3 u (D8 fn l)/\bG w w':=by
 obtain⟨hS,a,cap,rfl,hcap⟩:=h;have HS:=I hS;obtain⟨a',b,off,c',he,ha,hl,hcs,hci⟩:=hS;injection he with he1 he2 he3;subst he1 he3;obtain⟨HCI,HA⟩:=bU hci ha;obtain⟨G,hG⟩:=bC (Xb l λi s=>if bJ.Ce (l.take i) s=true then [⟨2,fn,s⟩]else []);have HG:=I hG;have I8:Hid (D8 fn l=bJ.upto G l.length):=I (by rw[hG];rfl);have jH:=I hlen;rw[I8]at jH ⊢;obtain⟨ni,hni⟩:=bC l.length;have I4:=I hni;rw[<-hni]at hl HA jH hcap HS ⊢;clear hci ha hcs hlen hG hni he2;go_enter func155,ntmps155;go_wp2_with fail;go_loopw[5,10] (λv i wr=>∃j:Nat,j<=ni/\i=O j/\eF oW wr w.heap.size 80 3 v (bJ.upto G j)/\bG w wr) (λ_ i _=>ni - (intOf i).toNat);case atStart=>exact⟨0,bL _,rfl,eF.nil _ _ _ _,bP _ _⟩
 case round=>
  obtain⟨t,ht,rfl,hown,hnx⟩:=hrel;obtain⟨HOW,fO⟩:=bU hown hnx;by_cases LW:t<ni
  ·obtain⟨s,hs⟩:∃y,l[t]?=some y:=⟨_,bD (by rw[<-I4];exact LW)⟩;have c0:=aD (HCI t (by rw[<-I4];exact LW)) hnx;rw[DV,hs,iw]at c0;obtain rfl:=HA aX;have HY:Hid (G t=if bJ.Ce (l.take t) s=true then [⟨2,fn,s⟩]else []):=I (by rw[HG];exact sZ hs);have HCO:=I (jV wr _ (l.take t) s ((HS.takeS (by rw[<-I4];exact ht)).below hnx));rw[show decide (0<=dR (l.take t) s)=bJ.Ce (l.take t) s from rfl]at HCO;obtain⟨a3,c3,rfl⟩:=hown.form;have hul:(bJ.upto G t).length<16777216\/G t=[]:=by
    have h1:=LY G (show t+1<=ni by omega);rw[jc,aT]at h1;have h2:=jH.out;by_cases hg:G t=[];·exact aV hg
    ·have:=sQ.2 hg;exact aR aX
   have HUL:=I hul;obtain⟨ul,hut⟩:=bC ((bJ.upto G t).length);have HUT:=I hut;rw[<-hut]at HOW ⊢;clear hs hown hnx hut hul;go_wp2_with fail;refine HCO.mono ?_;rintro e w2 ⟨rfl,hw2⟩;subst hw2;generalize bJ.Ce (l.take t) s=ib at *;cases ib
   ·rw[aJ dx]at HY;go_wp2_with fail;go_roundw;case rel=>exact⟨t+1,by omega,by go_num,by rw[jc,HY,gB];exact HOW,fO⟩
    case measure=>simp[intOf];omega
   ·rw[aL rfl]at HY;have hul:ul<16777216:=by
     rcases HUL with h|h;·rw[HUT];exact h
     ·rw[HY]at h;cases h
    go_wp2_with (first
     | (at_builtin;refine fZ (At:=oW) rfl _ _ 59 80 3 40 _ rfl underlying59 oZ bO bO bO w.heap.size _ _ rfl (HOW.below (aH _ _)) _ _ [⟨2,fn,s⟩] rfl (eF.one _ _ rfl (oW.one (d:=⟨2,fn,s⟩) rfl) rfl) (by have:=HUT.out;simp only[iF];omega) (bF fO.out.size (aH _ _).size) ?_;intro v6 w6 hown6 dZ;have nJ:=I hown6;have sj:=I (jI (up fO (aH _ _)) dZ (λj hj=>(HOW.lt j hj).1));clear hown6 dZ)
     | fail)
    go_roundw;case rel=>exact⟨t+1,by omega,by go_num,by rw[jc,HY];exact nJ,sj⟩
    case measure=>simp[intOf];omega
  ·have vH:t=ni:=by omega
   obtain⟨a9,c9,rfl⟩:=hown.form;rw[vH]at HOW ⊢;generalize (bJ.upto G ni).length=nu at *;clear hown vH hnx;go_wp2_with fail;go_ret;exact⟨_,rfl,HOW,fO⟩
theorem boxD(w:World)(cs:Array Value)(t:TypeId)(i:Nat)(v:Value)(h:cs[i]?=some v):(w.alloc (.cells cs t)).cell? (X w.heap.size i)=some v:=(aj (aZ w (.cells cs t)) i).trans h
def Gy(v:Value):Prop:=∀a n c,v=.slice a n c->n<=c
structure yR(w:World)(vi vf:Value):Prop where
 imp:Gy vi
 fus:Gy vf
 par:∀b off n c,vf=.slice (some ⟨b,off,none⟩) n c->∀i,i<n->∃vp,w.cell? ⟨b,off+i*7+1,none⟩=some vp/\Gy vp
theorem yR.below{w w':World}{vi vf:Value}(h:yR w vi vf)(hb:bG w w'):yR w' vi vf:=⟨h.imp,h.fus,λb off n c e i hi=>by obtain⟨vp,h1,h2⟩:=h.par b off n c e i hi;exact⟨vp,aD h1 hb,h2⟩⟩
section
variable {α : Type} {At : List Value → α → Prop} {w w' : World} {n e k : Nat} {v : Value} {l : List α}
theorem eF.grown{r:Option Nat}(h:eF At w n e k v l)(hG:w.grownBy w' r)(hr:∀g,v.ownBlock=some g->r≠some g):eF At w' n e k v l:=by
 have hlt:=h.lt;obtain⟨cs,⟨h0,h1⟩,h2⟩:=h;refine⟨cs,⟨h0,?_⟩,h2⟩;rcases h1 with h1|⟨g,cap,cur,hv,hg,hh,r'⟩;·exact aR h1
 ·exact aV ⟨g,cap,cur,hv,hg,by rw[hG.block g (bq hh) (λe'=>hr g (by rw[hv];rfl) e'.symm)];exact hh,r'⟩
end
end Go.Proofs.YtbgkpehhdibaoaaGreatDoor
