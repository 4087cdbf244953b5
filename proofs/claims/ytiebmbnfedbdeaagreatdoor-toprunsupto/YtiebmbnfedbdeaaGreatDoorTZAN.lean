import Derived.Test.YtiebmbnfedbdeaaGreatDoorTZAJ
import Derived.Laws.EntriesVeiled
set_option maxHeartbeats 0
set_option maxRecDepth 99999
namespace Go.Proofs.YtiebmbnfedbdeaaGreatDoor
open bS bO
open Go.Proofs.Tryz
open Go.RowKit
namespace bO
theorem Dy{l:List Fu}{s:aS}{n i:Nat}(b:vP l s n=some i):i<n/\∃f,l[i]?=some f:=by
 unfold vP at b;have c:=Jj b;refine⟨jE.1<|Gw b,?_⟩;cases d:l[i]? with
 | none=>rw[d]at c;simp at c
 | some y=>exact⟨y,rfl⟩
def VQ(x:Mo)(known:List Mo)(t:Int × Int × Bool):Option Fu:=
 if t.1=-1 then x.bq[t.2.1.toNat]? else known[t.1.toNat]?.bind λy=>y.bq[t.2.1.toNat]?
def code(x:Mo)(known:List Mo)(k:Nat)(name:aS)(b:Nat):Int:=
 if (fF x k name known).2.2=false then 4 else match VQ x known (fF x k name known)with
  | some f=>if f.params.length=b then 0 else 5
  | none=>0
theorem FE{x:Mo}{k:Nat}{call:aS}{known:List Mo}(b:(fF x k call known).2.2=true):(∃(i:Nat) (f:Fu),fF x k call known=(-1,(i:Int),true)/\x.bq[i]?=some f)\/(∃(a:Nat) (y:Mo) (j:Nat) (f:Fu),fF x k call known=((a:Int),(j:Int),true)/\known[a]?=some y/\y.bq[j]?=some f):=by
 cases g:lI call with
 | none=>
  have e:fF x k call known=tV (-1) x.bq call k:=by simp[fF,g]
  rw[e]at b ⊢;unfold tV at b ⊢;cases c:vP x.bq call k with
  | none=>rw[c]at b;simp at b
  | some i =>obtain⟨_,f,m⟩:=Dy c;exact aO ⟨i,f,rfl,m⟩
 | some d=>
  rcases vR x.imports (bS.preS call)with h|⟨i,h,_⟩
  ·have e:fF x k call known=(0,0,false):=by simp[fF,g,h]
   rw[e]at b;simp at b
  ·cases p:dQ known (x.imports.getD i ByteArray.empty)with
   | none=>rw[Dn g h p]at b;simp at b
   | some a=>
    obtain⟨y,q,_⟩:=rJ p;rw[Dp g h p q]at b ⊢;unfold tV at b ⊢;cases c:vP y.bq (uR call) y.bq.length with
    | none=>rw[c]at b;simp at b
    | some j =>obtain⟨_,f,m⟩:=Dy c;exact aQ ⟨a,y,j,f,rfl,q,m⟩
end bO
theorem aas(w:bI)(c d f b g h:aC):aD 179 #[.agg #[c,d,f,b,g,h],O<|-1] w λe w'=>e=dz b/\bK w w':=by have q3:=Pk w c d f b g h 163 3 _ rfl;have i:=Y<|aH w<|aY #[c,d,f,b,g,h] 163;go_enter func179,ntmps179;go_wp2;go_ret;exact⟨rfl,i⟩
theorem R4(w:bI)(d f g j h q:aC)(b ok c i a:Nat)(s:a<c)(p:bJ w b (ok+a*4+3)=some q):aD 179 #[.agg #[d,f,g,j,X (some<|aN b ok) c i,h],O a] w λe w'=>e=dz q/\bK w w':=by
 have m:=Y<|aH w<|aY #[d,f,g,j,X (some<|aN b ok) c i,h] 163;have q4:=Pk w d f g j (X (some<|aN b ok) c i) h 163 4 _ rfl;replace p:=aG p m;have r:((a:Int)==-1)=false:=by simp
 go_enter func179,ntmps179;go_wp2;go_ret;exact⟨rfl,m⟩
theorem ak1(m m':Nat)(w:bI)(x:Mo)(known:List Mo)(vi vv vf vk va:aC)(k:Nat)(c0 c1 c2 c3:aC)(y:Ex)(h:ScV w m x known vi vv vf vk va)(hk:k<=x.bq.length)(hE:iH w m' c0 c1 c2 c3 y):aD 125 #[.agg #[A x.name,vi,vv,vf,vk,va],O k,.agg #[c0,c1,c2,c3]] w λe w'=>e=dz (O (bO.code x known k y.name y.args.length))/\bK w w':=by
 obtain⟨mm,rfl⟩:∃mm,m'=mm+1:=by cases m' with
  | zero=>exact iU hE
  | succ n=>exact⟨n,rfl⟩
 obtain⟨rfl,rfl,rfl,hsz,-,-,ea,eb,eo,ec,rfl,-,hel,-⟩:=hE;have HS:=Y h;obtain⟨R,hR⟩:=aV (bO.code x known k y.name y.args.length);have HR:=Y hR;rw[<-hR];have HB0:=Y (aH w (aY #[A x.name,vi,vv,vf,vk,va] 163));have q5:=Pk w (A x.name) vi vv vf vk va 163;obtain⟨u0,u1,u2⟩:=lS (aG (q5 0 _ rfl) (aH _ (aY #[O y.kind,O y.n,A y.name,X ea y.args.length ec] 100))) (aG (q5 1 _ rfl) (aH _ (aY #[O y.kind,O y.n,A y.name,X ea y.args.length ec] 100))) (aG (q5 2 _ rfl) (aH _ (aY #[O y.kind,O y.n,A y.name,X ea y.args.length ec] 100)));have YH:=aG (q5 3 _ rfl) (aH _ (aY #[O y.kind,O y.n,A y.name,X ea y.args.length ec] 100));have u4':=aG (q5 4 _ rfl) (aH _ (aY #[O y.kind,O y.n,A y.name,X ea y.args.length ec] 100));obtain⟨u5,z2,z3⟩:=lS (aG (q5 5 _ rfl) (aH _ (aY #[O y.kind,O y.n,A y.name,X ea y.args.length ec] 100))) (GI (w.alloc (aY #[A x.name,vi,vv,vf,vk,va] 163)) (O y.kind) (O y.n) (A y.name) (X ea y.args.length ec) 100) (Gz (w.alloc (aY #[A x.name,vi,vv,vf,vk,va] 163)) (O y.kind) (O y.n) (A y.name) (X ea y.args.length ec) 100);rw[oh]at z2 z3;have HB1:=Y (up HB0 (aH _ (aY #[O y.kind,O y.n,A y.name,X ea y.args.length ec] 100)));have HT:=Y (λwx (hb:bK w wx)=>GN m wx x known vi vv vf vk va k y.name (HS.below hb) hk hsz);generalize y.args.length=na at *;obtain⟨hI,hV,hF⟩:=h.mo.split;obtain⟨hK,hA⟩:=eY h.kn h.ats;obtain⟨ai,bi,oi,ci,rfl,-⟩:=hI;obtain⟨av,bv,ov,cv,rfl,-⟩:=hV;obtain⟨af,bf,of,cf,rfl,RD,hlf,hcf⟩:=hF;obtain⟨ak,bk,ok,ck,rfl,hak,hlk,hck⟩:=hK;obtain⟨aa,ba,oa,ca,rfl,-⟩:=hA;generalize (x.imports.map λs=>oI (dQ known s)).length=nat at *;generalize x.imports.length=ni at *;generalize x.vars.length=nv at *;obtain⟨wV,VR,QY,HAK⟩:=lD hck hcf RD hak;clear hR h q5 hck hcf RD hak;cases ht:(fF x k y.name known).2.2;·have nL:J (R=4):=Y (by rw[HR];unfold bO.code;rw[aK ht]);rw[ht]at HT;generalize (fF x k y.name known).1=t1 at *;generalize (fF x k y.name known).2.1=t2 at *;clear ht;go_enter func125,ntmps125;go_wp2_with fail;refine(HT _ HB1).mono ?_;rintro e w1 ⟨rfl,hb1⟩;have HB2:=Y (up HB1 hb1);clear hb1;go_wp2;go_ret;exact⟨by rw[nL];rfl,HB2⟩
 ·rcases FE ht with⟨i,f,he,hf⟩|⟨a,z,j,f,he,hz,hf⟩
  ·rw[he]at HT;have nL:J (R=if f.params.length=na then 0 else 5):=Y (by rw[HR];unfold bO.code;rw[aI (by rw[ht];simp),he];simp only[VQ,if_true,vQ,hf]);obtain⟨-,vp,vb,e0,e1,e2,e3,g0,g1,-,-,-,-,-,hp,-⟩:=VR i f hf;obtain⟨ap,bp,op,cp,rfl,-⟩:=hp;have hil:i<x.bq.length:=(cO.1 hf).1;obtain rfl:=QY bC;generalize x.bq.length=nf at *;generalize known.length=nk at *;generalize f.params.length=np at *;clear ht hf g0 he;simp only at HT;go_enter func125,ntmps125;go_wp2_with fail;refine(HT _ HB1).mono ?_;rintro e w1 ⟨rfl,hb1⟩;have HB2:=Y (up HB1 hb1);replace u0:=bD (aG u0 hb1);replace u1:=bD (aG u1 hb1);replace u2:=bD (aG u2 hb1);replace YH:=bD (aG YH hb1);replace u4':=bD (aG u4' hb1);replace u5:=bD (aG u5 hb1);replace z3:=bD (aG z3 hb1);replace g1:=bD (aG g1 HB2);clear hb1 z2;have HFG:=Y (λn os=>aas (gn w1 n os) (A x.name) (X ai ni ci) (X av nv cv) (X (some (aN bf of)) nf cf) (X ak nk ck) (X aa nat ca));go_wp2_with fail;refine bW dw dw ?_;repeat(quiet_step ((exact Calls.oZ (HFG.out _ _))))
   refine wpQuiet_nil ?_;intro _ hw';obtain⟨⟨nq,osq⟩,hw''⟩:=hw';subst hw'';have fD:=Y (up HB2.out (bU w1 nq osq));by_cases hn:np=na
   ·have hn':((np:Int)==(na:Int))=true:=by simp[hn]
    rw[aK hn]at nL;clear hn;go_wp2;go_ret;exact⟨by rw[nL];rfl,fD⟩
   ·have hn':((np:Int)==(na:Int))=false:=by simp;omega
    rw[aI hn]at nL;clear hn;go_wp2;go_ret;exact⟨by rw[nL];rfl,fD⟩
  ·rw[he]at HT;have nL:J (R=if f.params.length=na then 0 else 5):=Y (by rw[HR];unfold bO.code;rw[aI (by rw[ht];simp),he];simp only[VQ,vQ,hz,Option.bind_some,hf];rw[aI bC]);have hal:a<known.length:=(cO.1 hz).1;have hjl:j<z.bq.length:=(cO.1 hf).1;obtain rfl:=HAK bC;obtain⟨yi,yv,yf,k0,k1,k2,k3,hmz⟩:=wV a z hz;obtain⟨-,-,hzF⟩:=hmz.split;obtain⟨az,bz,oz,cz,rfl,haz,hlz,hcz⟩:=hzF;obtain⟨-,vp,vb,e0,e1,e2,e3,g0,g1,-,-,-,-,-,hp,-⟩:=hcz j f hf;obtain⟨ap,bp,op,cp,rfl,-⟩:=hp;obtain rfl:=haz bC;generalize z.bq.length=nz at *;generalize x.bq.length=nf at *;generalize known.length=nk at *;generalize f.params.length=np at *;clear hmz hcz haz hz k0 k1 k2;clear ht hf g0 he;simp only at HT;go_enter func125,ntmps125;go_wp2_with fail;refine(HT _ HB1).mono ?_;rintro e w1 ⟨rfl,hb1⟩;have HB2:=Y (up HB1 hb1);replace u0:=bD (aG u0 hb1);replace u1:=bD (aG u1 hb1);replace u2:=bD (aG u2 hb1);replace YH:=bD (aG YH hb1);replace u4':=bD (aG u4' hb1);replace u5:=bD (aG u5 hb1);replace z3:=bD (aG z3 hb1);replace g1:=bD (aG g1 HB2);clear hb1 z2;have HFG:=Y (λn os=>R4 (gn w1 n os) (A x.name) (X ai ni ci) (X av nv cv) (X af nf cf) (X aa nat ca) (X (some (aN bz oz)) nz cz) bk ok nk ck a hal (bD (aG k3 HB2) n os));go_wp2_with fail;refine bW dw dw ?_;repeat(quiet_step ((exact Calls.oZ (HFG.out _ _))))
   refine wpQuiet_nil ?_;intro _ hw';obtain⟨⟨nq,osq⟩,hw''⟩:=hw';subst hw'';have fD:=Y (up HB2.out (bU w1 nq osq));by_cases hn:np=na
   ·have hn':((np:Int)==(na:Int))=true:=by simp[hn]
    rw[aK hn]at nL;clear hn;go_wp2;go_ret;exact⟨by rw[nL];rfl,fD⟩
   ·have hn':((np:Int)==(na:Int))=false:=by simp;omega
    rw[aI hn]at nL;clear hn;go_wp2;go_ret;exact⟨by rw[nL];rfl,fD⟩
namespace bO
def fK:Nat->Ex->List Ex
 | 0,_=>[]
 | m+1,x=>(if x.kind=4 then [x]else [])++x.args.flatMap (fK m)
end bO
def VT(b W:bI)(M p g:Nat)(i:Array Value)(D:Ex->List Dg):Prop:=
 ∀(w:bI) (c d f h:Value) (y:Ex) (l:List Dg),bK b w->eB p W w->Told w b.heap.size p l->iH b M c d f h y->l.length+(D y).length<=16777216->
  Calls prog g (#[.agg #[c,d,f,h]]++i) w λe w'=>e=.returned (.tuple #[])/\Told w' b.heap.size p (l++D y)/\Below b.heap.size w w'/\eB p w w'
theorem Told.lt{w:bI}{n p:Nat}{l:List Dg}(b:Told w n p l):p<w.heap.size:=by obtain⟨_,v,c,_⟩:=b;exact aR c
theorem BO{α β γ:Type}{f:α->List β}{g:β->List γ}{l:List α}(j:Nat):(((l.take j).flatMap f).flatMap g).length<=((l.flatMap f).flatMap g).length:=by have h:=congrArg (λt=>((t.flatMap f).flatMap g).length)<|pK j l;simp only[lZ,bg]at h;omega
theorem GU(r W:bI)(M p g:Nat)(cb:Array aC)(D:Ex->List Dg)(eg:∀args w,(callFunc g args).run prog w=.ok (.enter g args) w)(hv:VT r W M p g cb D)(m:Nat):∀(w:bI) (c0 c1 c2 c3:aC) (x:Ex) (l:List Dg),m<=M->bK r w->eB p W w->Told w r.heap.size p l->iH r m c0 c1 c2 c3 x->l.length+((fK m x).flatMap D).length<=16777216->aD 177 #[.agg #[c0,c1,c2,c3],.func (.func g) #[] cb] w λe w'=>e=dz (.tuple #[])/\Told w' r.heap.size p (l++(fK m x).flatMap D)/\Below r.heap.size w w'/\eB p w w':=by
 induction m with
 | zero=>intro w c0 c1 c2 c3 x l _ _ _ _ h;exact iU h
 | succ m ih=>
  intro w c0 c1 c2 c3 x l hM hW hT hl h ao;obtain⟨HI,HX,HV,P,HT,IX⟩:=vC ih (h.mono M hM) hv hW hT hl;clear ih hW hv hT;obtain⟨rfl,rfl,rfl,av,ar,au,a,b,off,cap,rfl,ha,am,af⟩:=h;obtain⟨k,n,s,args⟩:=x;simp only at av ar au ha am af HX ⊢;obtain⟨j5,HA,ab⟩:=fE af ha ao;have B:J (fK (m+1) ⟨k,n,s,args⟩=(if k=4 then [⟨k,n,s,args⟩]else [])++args.flatMap (fK m)):=rfl;obtain⟨len,ah⟩:∃len,len=args.length:=⟨_,rfl⟩;have HL:=Y ah;rw[<-ah]at am HA HX ⊢;obtain⟨R,hR⟩:=aV<|fK (m+1) ⟨k,n,s,args⟩;rw[<-hR]at B ab ⊢;obtain⟨z,eT⟩:=sO w<|aY #[O k,O n,A s,X a len cap] 100;have HP:=Y hl.lt;obtain⟨q0,q1,q2,q3⟩:=rY (GD w (O k) (O n) (A s) (X a len cap) 100) (GH w (O k) (O n) (A s) (X a len cap) 100) (GI w (O k) (O n) (A s) (X a len cap) 100)<|Gz w (O k) (O n) (A s) (X a len cap) 100;clear af ha ao ah hR hl;by_cases S:k=4
  ·have aq:(k==4)=true:=by simp[S]
   rw[aK S]at B;clear S;go_enter func177,ntmps177;go_wp2_with fail;refine(HV _ _ _ _ _ ⟨k,n,s,args⟩ l (P.trans<|z.mono P.size) (HT.trans<|eB.of_below z) (IX.below z) HX (by have L:=ab.out;rw[B]at L;simp only[lZ,bg,JO,List.flatMap_nil,gL]at L;omega)).mono ?_;rintro e w1 ⟨rfl,ak,al,ai⟩;obtain⟨ad,ac,mX⟩:=fE ak ((z.mono P.size).trans al)<|(eB.of_below z).trans ai;replace q3:=(aj (ai.at (by have:=HP.out;omega) eT bM) 3).trans (rfl:_=some (X a len cap));clear ak al ai q0 q1 q2;go_wp2_with fail;go_loopw[15] (λi wr=>∃j:Nat,j<=len/\i=O j/\Told wr r.heap.size p ((l++D ⟨k,n,s,args⟩)++((args.take j).flatMap (fK m)).flatMap D)/\Below r.heap.size w wr/\eB p w wr) (λi _=>len - (intOf i).toNat);exact⟨0,bN _,rfl,by simpa using ad.out,ac.out,mX.out⟩
   obtain⟨j,hj,rfl,hto,t,aa⟩:=hrel;obtain⟨F,V,C⟩:=fE hto t aa;clear hto aa;by_cases ag:j<len
   ·obtain⟨y,u⟩:∃y,args[j]?=some y:=⟨_,aZ (by rw[<-HL];exact ag)⟩;obtain⟨e0,e1,e2,e3,G,H,I,K,N⟩:=j5 j y u;have HY:=Y u;obtain rfl:=HA bC;have c:=P.trans t;have E:=Y c;replace G:=aG G c;replace H:=aG H c;replace I:=aG I c;replace K:=aG K c;have ae:=Y N;obtain⟨xa,q,rfl,rfl,rfl,rfl⟩:=N.shape;have gI:J (((l++D ⟨k,n,s,args⟩)++((args.take j).flatMap (fK m)).flatMap D).length+((fK m y).flatMap D).length<=16777216):=Y (by have L:=ab.out;rw[B]at L;have h2:=BO (f:=fK m) (g:=D) (l:=args)<|j+1;rw[jY u,lZ,bg]at h2;simp only[lZ,bg,JO,List.flatMap_nil,gL]at L h2 ⊢;omega);have d:=Y<|aH wr<|aY #[O y.kind,O y.n,A y.name,X xa y.args.length q] 100;obtain⟨z0,z1,z2,z3⟩:=rY (GD wr (O y.kind) (O y.n) (A y.name) (X xa y.args.length q) 100) (GH wr (O y.kind) (O y.n) (A y.name) (X xa y.args.length q) 100) (GI wr (O y.kind) (O y.n) (A y.name) (X xa y.args.length q) 100)<|Gz wr (O y.kind) (O y.n) (A y.name) (X xa y.args.length q) 100;clear N u c t;generalize y.args.length=ny at *;go_wp2_with fail;refine(HI _ _ _ _ _ y _ bC (E.trans<|d.mono E.size) ((HT.trans C).trans (eB.of_below d)) (F.below d) ae gI).mono ?_;rintro e w5 ⟨rfl,oN,Z,U⟩;obtain⟨yU,eD,Vh⟩:=fE oN ((V.trans<|d.mono E.size).trans Z)<|(C.trans<|eB.of_below d).trans U;clear oN Z U z0 z1 z2 z3 G H I K;go_wp2;go_roundw;exact⟨j+1,by omega,by go_num,by rw[jY HY,lZ,<-iK];exact yU,eD,Vh⟩;exact gV
   ·have wU:(args.take j)=args:=fQ (by have:=HL.out;omega);rw[wU]at F;clear wU t;go_wp2_with fail;go_end0;exact⟨rfl,by rw[B,lZ,<-iK];simpa using F.out,V.out,C.out⟩
  ·have aq:(k==4)=false:=by simp[S]
   rw[aI S,sP]at B;clear S;obtain⟨ad,ac⟩:=bV (IX.below z)<|z.mono P.size;have mX:J (eB p w _):=Y<|eB.of_below z;go_enter func177,ntmps177;go_wp2_with fail;go_loopw[15] (λi wr=>∃j:Nat,j<=len/\i=O j/\Told wr r.heap.size p (l++((args.take j).flatMap (fK m)).flatMap D)/\Below r.heap.size w wr/\eB p w wr) (λi _=>len - (intOf i).toNat);exact⟨0,bN _,rfl,by simpa using ad.out,ac.out,mX.out⟩
   obtain⟨j,hj,rfl,hto,t,aa⟩:=hrel;obtain⟨F,V,C⟩:=fE hto t aa;clear hto aa;by_cases ag:j<len
   ·obtain⟨y,u⟩:∃y,args[j]?=some y:=⟨_,aZ (by rw[<-HL];exact ag)⟩;obtain⟨e0,e1,e2,e3,G,H,I,K,N⟩:=j5 j y u;have HY:=Y u;obtain rfl:=HA bC;have c:=P.trans t;have E:=Y c;replace G:=aG G c;replace H:=aG H c;replace I:=aG I c;replace K:=aG K c;have ae:=Y N;obtain⟨xa,q,rfl,rfl,rfl,rfl⟩:=N.shape;have gI:J ((l++((args.take j).flatMap (fK m)).flatMap D).length+((fK m y).flatMap D).length<=16777216):=Y (by have L:=ab.out;rw[B]at L;have h2:=BO (f:=fK m) (g:=D) (l:=args)<|j+1;rw[jY u,lZ,bg]at h2;rw[bg];omega);have d:=Y<|aH wr<|aY #[O y.kind,O y.n,A y.name,X xa y.args.length q] 100;obtain⟨z0,z1,z2,z3⟩:=rY (GD wr (O y.kind) (O y.n) (A y.name) (X xa y.args.length q) 100) (GH wr (O y.kind) (O y.n) (A y.name) (X xa y.args.length q) 100) (GI wr (O y.kind) (O y.n) (A y.name) (X xa y.args.length q) 100)<|Gz wr (O y.kind) (O y.n) (A y.name) (X xa y.args.length q) 100;clear N u c t;generalize y.args.length=ny at *;go_wp2_with fail;refine(HI _ _ _ _ _ y _ bC (E.trans<|d.mono E.size) ((HT.trans C).trans (eB.of_below d)) (F.below d) ae gI).mono ?_;rintro e w5 ⟨rfl,oN,Z,U⟩;obtain⟨yU,eD,Vh⟩:=fE oN ((V.trans<|d.mono E.size).trans Z)<|(C.trans<|eB.of_below d).trans U;clear oN Z U z0 z1 z2 z3 G H I K;go_wp2;go_roundw;exact⟨j+1,by omega,by go_num,by rw[jY HY,lZ,<-iK];exact yU,eD,Vh⟩;exact gV
   ·have wU:(args.take j)=args:=fQ (by have:=HL.out;omega);rw[wU]at F;clear wU t;go_wp2_with fail;go_end0;exact⟨rfl,by rw[B];exact F,V,C⟩
def Xt(b W:bI)(M p g:Nat)(m:Array Value)(D:St->List Dg):Prop:=
 ∀(w:bI) (c d f h i j:Value) (s:St) (l:List Dg),bK b w->eB p W w->Told w b.heap.size p l->StC b M [.int .i64 s.kind,.string s.name,c,d,f,h,i,j] s->l.length+(D s).length<=16777216->
  Calls prog g (#[.agg #[.int .i64 s.kind,.string s.name,c,d,f,h,i,j]]++m) w λe w'=>e=.returned (.tuple #[])/\Told w' b.heap.size p (l++D s)/\Below b.heap.size w w'/\eB p w w'
theorem UG(w:bI)(b c d f g h j m:aC)(t:TypeId)(i:Nat)(v:aC)(p:(#[b,c,d,f,g,h,j,m]:Array aC)[i]?=some v):(w.alloc<|.cells #[b,c,d,f,g,h,j,m] t).cell? (aN w.heap.size i)=some v:=
 (aj (bF w<|.cells #[b,c,d,f,g,h,j,m] t) i).trans p
theorem xL(d W:bI)(M p g:Nat)(cb:Array aC)(D:St->List Dg)(eg:∀args w,(callFunc g args).run prog w=.ok (.enter g args) w)(hv:Xt d W M p g cb D)(m:Nat):∀(w:bI) (v:aC) (b:List St) (l:List Dg),m<=M->bK d w->eB p W w->Told w d.heap.size p l->fH d m v b->l.length+((bO.all m b).flatMap D).length<=16777216->aD 121 #[v,.func (.func g) #[] cb] w λe w'=>e=dz (.tuple #[])/\Told w' d.heap.size p (l++(bO.all m b).flatMap D)/\Below d.heap.size w w'/\eB p w w':=by
 induction m with
 | zero=>intro w v b l _ _ _ _ h;exact iU h
 | succ m ih=>
  intro w v body l hM hW hT hl h am;obtain⟨HI,HV,C,B,IX,ac⟩:=vC ih hv hW hT hl am;clear ih hW hv hT;obtain⟨a,b,off,cap,rfl,ha,az,al⟩:=h;obtain⟨j5,HA⟩:=bV al ha;obtain⟨len,aa⟩:∃len,len=body.length:=⟨_,rfl⟩;have HL:=Y aa;rw[<-aa]at az HA ⊢;have xV:J (bO.all (m+1) body=body.flatMap (bO.within<|bO.all m)):=rfl;obtain⟨R,hR⟩:=aV<|bO.all (m+1) body;rw[<-hR]at xV ac ⊢;clear al ha am aa hR hl;go_enter func121,ntmps121;go_wp2_with fail;go_loopw[8] (λi wr=>∃j:Nat,j<=len/\i=O j/\Told wr d.heap.size p (l++((body.take j).flatMap (bO.within<|bO.all m)).flatMap D)/\Below d.heap.size w wr/\eB p w wr) (λi _=>len - (intOf i).toNat);exact⟨0,bN _,rfl,by simpa using IX.out,bQ _ _,eB.refl _ _⟩
  obtain⟨j,hj,rfl,hto,r,aq⟩:=hrel;obtain⟨F,fT,z,ad⟩:=lD hto r aq hto.lt;clear hto aq;by_cases aA:j<len
  ·obtain⟨y,u⟩:∃y,body[j]?=some y:=⟨_,aZ (by rw[<-HL];exact aA)⟩;obtain⟨k1,k2,e0,e1,e2,e3,va,vb,K,L,N,P,S,U,V,Z,hx,s,t⟩:=j5 j y u;have HY:=Y u;obtain rfl:=HA bC;have c:=C.trans r;have E:=Y c;replace K:=aG K c;replace L:=aG L c;replace N:=aG N c;replace P:=aG P c;replace S:=aG S c;replace U:=aG U c;replace V:=aG V c;replace Z:=aG Z c;have ar:J (StC d M [O y.kind,A y.name,e0,e1,e2,e3,va,vb] y):=Y ⟨e0,e1,e2,e3,va,vb,rfl,k1,k2,hx.mono M bC,s.mono M bC,t.mono M bC⟩;obtain⟨av,aw⟩:=bV s t;have gI:J ((l++((body.take j).flatMap (bO.within<|bO.all m)).flatMap D).length+((D y).length+((bO.all m y.a).flatMap D).length+((bO.all m y.b).flatMap D).length)<=16777216):=Y (by have h1:=ac.out;rw[xV]at h1;have h2:=BO (f:=bO.within<|bO.all m) (g:=D) (l:=body)<|j+1;rw[jY u,lZ,bg]at h2;simp only[bO.within,lZ,bg,JO,List.flatMap_nil,gL]at h2;rw[bg];omega);obtain⟨sa,H,rfl⟩:=s.kC;obtain⟨sb,I,rfl⟩:=t.kC;obtain⟨xa,xc,rfl,rfl,rfl,rfl⟩:=hx.shape;generalize y.a.length=na at *;generalize y.b.length=nb at *;generalize y.e.args.length=ne at *;obtain⟨q,eT⟩:=sO wr<|aY #[O y.kind,A y.name,O y.e.kind,O y.e.n,A y.e.name,X xa ne xc,X sa na H,X sb nb I] 198;have hz:=UG wr (O y.kind) (A y.name) (O y.e.kind) (O y.e.n) (A y.e.name) (X xa ne xc) (X sa na H) (X sb nb I) 198;obtain⟨z0,z1,z2,z3,z4,z5,z6⟩:=Ng (hz 0 _ rfl) (hz 1 _ rfl) (hz 2 _ rfl) (hz 3 _ rfl) (hz 4 _ rfl) (hz 5 _ rfl) (hz 6 _ rfl);have z7:=hz 7 _ rfl;clear hx s t u c r hz;go_wp2_with fail;refine(HV _ _ _ _ _ _ _ y _ (E.trans<|q.mono E.size) ((B.trans z).trans (eB.of_below q)) (F.below q) ar (by have:=gI.out;omega)).mono ?_;rintro e w5 ⟨rfl,oN,ai,x⟩;obtain⟨yU,eD,Vh⟩:=fE oN ((fT.trans<|q.mono E.size).trans ai)<|(z.trans<|eB.of_below q).trans x;have G:=x.at (by have:=ad.out;omega) eT bM;have R6:=Y G;have y6:=(aj G 6).trans (rfl:_=some (X sa na H));clear oN ai x G z0 z1 z2 z3 z4 z5 z6 z7 K L N P S U V Z;go_wp2_with fail;refine(HI _ _ y.a _ bC (C.trans eD) (B.trans Vh) yU av (by have:=gI.out;rw[bg];omega)).mono ?_;rintro e w6 ⟨rfl,af,ak,ab⟩;obtain⟨ax,fD,ae⟩:=fE af (eD.trans ak)<|Vh.trans ab;have ag:=ab.at (by have:=ad.out;omega) R6 bM;have y7:=(aj ag 7).trans (rfl:_=some (X sb nb I));clear af ak ab ag y6;go_wp2_with fail;refine(HI _ _ y.b _ bC (C.trans fD) (B.trans ae) ax aw (by have:=gI.out;rw[bg,bg];omega)).mono ?_;rintro e w7 ⟨rfl,ah,ug,ao⟩;obtain⟨ay,kG,au⟩:=fE ah (fD.trans ug)<|ae.trans ao;clear ah ug ao y7;go_wp2;go_roundw;exact⟨j+1,by omega,by go_num,by rw[jY HY,bO.within,lZ,lZ,lZ,<-iK,<-iK,<-iK,JO,List.flatMap_nil,gL];exact ay,kG,au⟩;exact gV
  ·have wU:(body.take j)=body:=fQ (by have:=HL.out;omega);rw[wU]at F;clear wU r;go_wp2_with fail;go_end0;exact⟨rfl,by rw[xV];exact F,fT,z⟩
theorem YI(w:bI)(n p q:Nat)(l:List Dg)(y:aC)(names:aJ)(c name:aS)(s:Told w n p l)(G:n<=w.heap.size)(i:l.length+(bO.nQ names c name).length<=16777216)(P:w.cell? (aN q 0)=some y)(x:Strs w y names):aD 120 #[A c,A name,gK q,gK p] w λe w'=>e=dz (.tuple #[])/\Told w' n p (l++bO.nQ names c name)/\Below n w w'/\eB p w w':=by
 obtain⟨C,E⟩:=bV x s;obtain⟨a,b,off,cap,rfl,_⟩:=x;have g:J (bO.nQ names c name=if decide (0<=dU names name)=true then []else [⟨3,c,name⟩]):=rfl;obtain⟨t,v,h,u⟩:=s;have q0:w.cell? (aN p 0)=some v:=by rw[aj h];rfl
 obtain⟨z,B,m,D⟩:=lD t h u<|kS w _ names name C;rw[g]at i;generalize decide (0<=dU names name)=is at *;clear t h u;go_enter func120,ntmps120;go_wp2_with fail;refine D.mono ?_;rintro e w' ⟨rfl,I⟩;subst I;cases is
 ·have N:l.length<16777216:=by simp at i;omega
  clear i
  go_wp2_with (first
   | (at_builtin;refine fG (At:=qU) rfl _ _ 62 69 3 40 _ rfl underlying62 qV bM bM bM n _ _ rfl (m.below<|aH _ _) _ _ [⟨3,c,name⟩] rfl (dA.one _ _ rfl (qU.one (d:=⟨3,c,name⟩) rfl) rfl) (by simp only[iI];omega) (bE G (aH _ _).size) ?_;intro R S j r;obtain⟨K,L,H⟩:=j.form;subst H;have f:=Y<|Told.push z B m j r;have U:=(aj f.1 0).trans (show _=some v from rfl);have V:=aF f.1 0;clear j r)
   | fail)
  go_end0;have F:(l++[(⟨3,c,name⟩:Dg)]).length=l.length+1:=by simp
  rw[F]at f;exact⟨rfl,by rw[g];exact f.2.1,f.2.2⟩
 ·go_wp2_with fail;go_end0;exact⟨rfl,by rw[g];simpa using E.out,bQ _ _,eB.refl _ _⟩
namespace bO
def Av(names:List aS)(b:aS)(s:St):List Dg:=if s.kind=4 then nQ names b s.name else []
theorem adD(names:aJ)(b name:aS):(nQ names b name).length<=1:=by unfold nQ;split<;>simp
theorem adu(names:aJ)(b:aS)(s:St):(Av names b s).length<=1:=by
 unfold Av;split;·exact adD _ _ _
 ·simp
end bO
theorem adv(j W:bI)(M p q r f:Nat)(F:aC)(names:aJ)(c:aS)(I V:Array aC)(K:Strs j F names)(R:dR W q (.cells V 25 (0,0)))(S:V[0]?=some F)(U:dR W r (aY #[.func (.func 120) #[] #[gK q,gK p]] 216))(N:dR W f (.cells I 102 (0,0)))(P:I[0]?=some (A c))(ae:q≠p)(af:r≠p)(ac:f≠p):Xt j W M p 122 #[gK r,gK f] (Av names c):=by
 intro w m t u x D E s l y g z ag B;have b:=Y<|aH w<|aY #[O s.kind,A s.name,m,t,u,x,D,E] 198;have C:=UG w (O s.kind) (A s.name) m t u x D E 198;obtain⟨z0,z1,ad⟩:=lS (C 0 _ rfl) (C 1 _ rfl) (aG ((aj (g.at ae R bM) 0).trans S) b);obtain⟨aa,Mv,H,i,ah⟩:=uh ad ((K.below y).below b) (z.below b) y z;obtain⟨ak,ai⟩:=eY (aG ((aj (g.at af U bM) 0).trans rfl) b) (aG ((aj (g.at ac N bM) 0).trans P) b);clear C R S U N P K ag z g y;show aD 122 #[.agg #[O s.kind,A s.name,m,t,u,x,D,E],gK r,gK f] w _;by_cases d:s.kind=4
 ·have ab:(s.kind==4)=true:=by simp[d]
  have h:J (Av names c s=bO.nQ names c s.name):=Y (by unfold Av;rw[aK d]);rw[h]at B ⊢;have jP:=Y B;clear d B;go_enter func122,ntmps122;go_wp2_with fail;refine(YI _ j.heap.size p q l F names c s.name H (bE i.out.size b.size) jP aa Mv).mono ?_;rintro e w5 ⟨rfl,Z,L,G⟩;obtain⟨yU,eD⟩:=bV Z<|(b.mono i.size).trans L;have Vh:J (eB p w w5):=Y<|(eB.of_below b).trans G;clear Z L G;go_wp2;go_end0;exact⟨rfl,yU,eD,Vh⟩
 ·have ab:(s.kind==4)=false:=by simp[d]
  have h:J (Av names c s=[]):=Y (by unfold Av;rw[aI d]);clear d;go_enter func122,ntmps122;go_wp2_with fail;go_end0;exact⟨rfl,by rw[h,gL];exact H,b.mono i.size,eB.of_below b⟩
namespace bO
def lvD(names:List aS)(x:Mo)(m:Nat):List Dg:=(x.vars.flatMap λv=>nQ names ⟨#[]⟩ v.level)++x.bq.flatMap λf=>(all m f.body).flatMap (Av names f.name)
end bO
theorem al4(w:bI)(a b c d:Obj):((((w.alloc a).alloc b).alloc c).alloc d).heap[w.heap.size]?=some a/\((((w.alloc a).alloc b).alloc c).alloc d).heap[w.heap.size+1]?=some b/\((((w.alloc a).alloc b).alloc c).alloc d).heap[w.heap.size+1+1]?=some c/\((((w.alloc a).alloc b).alloc c).alloc d).heap[w.heap.size+1+1+1]?=some d/\bK w ((((w.alloc a).alloc b).alloc c).alloc d):=by
 obtain⟨i,f,g,h⟩:=rY (bF w a) (bF (w.alloc a) b) (bF ((w.alloc a).alloc b) c)<|bF (((w.alloc a).alloc b).alloc c) d;simp only[oh]at f g h;refine⟨?_,?_,?_,h,up (up (up (aH _ _)<|aH _ _)<|aH _ _)<|aH _ _⟩;·rw[(aH _ d).block _ (by simp;omega),(aH _ c).block _ (by simp;omega),(aH _ b).block _ cK];exact i
 ·rw[(aH _ d).block _ cK,(aH _ c).block _ cK];exact f
 ·rw[(aH _ d).block _ cK];exact g
theorem adC(m:Nat)(w:bI)(vn vl vi vv vf:aC)(names:aJ)(x:Mo)(hN:Strs w vn names)(h:jl w m (.agg #[A x.name,vi,vv,vf]) x)(ao:(lvD names x m).length<=16777216):aD 77 #[.agg #[vn,vl],.agg #[A x.name,vi,vv,vf]] w λe w'=>∃u,e=dz u/\dA qU w' w.heap.size 69 3 u (lvD names x m)/\bK w w':=by
 obtain⟨hI,hV,hF⟩:=h.split;have HN:=Y hN;obtain⟨an,bn,on,cn,rfl,-⟩:=hN;obtain⟨ai,bi,oi,ci,rfl,-⟩:=hI;obtain⟨S,bv,ov,cv,rfl,ah,ar,am⟩:=hV;obtain⟨P,bf,of,Z,rfl,RD,aq,al⟩:=hF;obtain⟨ag,F⟩:=bV am ah;have VR:J (H9 w m bf of x.bq):=al;have K:=Y RD;have q:J (lvD names x m=(x.vars.flatMap λv=>bO.nQ names ⟨#[]⟩ v.level)++x.bq.flatMap λf=>(bO.all m f.body).flatMap (Av names f.name)):=rfl;have jP:=Y ao;obtain⟨R,hR⟩:=aV<|lvD names x m;rw[<-hR]at q jP ⊢;obtain⟨vars,aw⟩:=aV x.vars;obtain⟨bq,R7⟩:=aV x.bq;rw[<-aw]at ar ag F q ⊢;rw[<-R7]at aq VR K q ⊢;obtain⟨r,E⟩:=aV vars.length;obtain⟨nf,ab⟩:=aV bq.length;obtain⟨R8,yM⟩:=bV E ab;rw[<-E]at ar F ⊢;rw[<-ab]at aq K ⊢;generalize x.imports.length=ni at *;generalize names.length=nn at *;generalize x.name=xn at *;obtain⟨b0,U,b2,b3,ak⟩:=al4 w (aY #[X an nn cn,vl] 25) (aY #[A xn,X ai ni ci,X S r cv,X P nf Z] 59) (aY #[aU] 62)<|aY #[.func (.func 120) #[] #[gK w.heap.size,gK<|w.heap.size+1+1]] 216;obtain⟨ad,ax,ae,Fy⟩:=lD b0 U b3 ak;have a2:=(aj U 2).trans (rfl:_=some (X S r cv));have IX:J (Told _ w.heap.size (w.heap.size+1+1) []):=Y ⟨by omega,_,b2,dA.nil _ _ _ _⟩;clear am ah al RD ao hR aw R7 E ab h b0 U b2 b3 ak;go_enter func77,ntmps77;go_wp2_with fail;generalize ((((w.alloc<|aY #[X an nn cn,vl] 25).alloc (aY #[A xn,X ai ni ci,X S r cv,X P nf Z] 59)).alloc (aY #[aU] 62)).alloc (aY #[.func (.func 120) #[] #[gK w.heap.size,gK<|w.heap.size+1+1]] 216))=W1 at *;clear a2;go_loopw[15] (λi wr=>∃j:Nat,j<=r/\i=O j/\Told wr w.heap.size (w.heap.size+1+1) ((vars.take j).flatMap λv=>bO.nQ names ⟨#[]⟩ v.level)/\bK w wr/\eB (w.heap.size+1+1) W1 wr) (λi _=>r - (intOf i).toNat);exact⟨0,bN _,rfl,by simpa using IX.out,Fy.out,eB.refl _ _⟩
 obtain⟨j,hj,rfl,hto,b,d⟩:=hrel;obtain⟨N,D,GL⟩:=fE hto b d;by_cases a1:j<r
 ·obtain⟨y,g⟩:∃y,vars[j]?=some y:=⟨_,aZ (by rw[<-R8];exact a1)⟩;obtain⟨-,-,g0,p⟩:=ag j y g;obtain rfl:=F bC;replace g0:=aG g0 b;replace p:=aG p b;obtain⟨H,c⟩:=bV g<|aH wr<|aY #[A y.name,A y.level] 85;have c1:=(aj (bF wr<|aY #[A y.name,A y.level] 85) 1).trans (rfl:_=some (A y.level));obtain⟨c3,V⟩:=eY (aG ((aj (d.at bC ae bM) 0).trans rfl) c) (aG ((aj (d.at bC ad bM) 0).trans (rfl:_=some (X an nn cn))) c);have Vi:=Y V;have gI:J (((vars.take j).flatMap λv=>bO.nQ names ⟨#[]⟩ v.level).length+(bO.nQ names ⟨#[]⟩ y.level).length<=16777216):=Y (by have h1:=wO (f:=λv:Va=>bO.nQ names ⟨#[]⟩ v.level) (l:=vars)<|j+1;rw[jY g,bg]at h1;have h2:=jP.out;rw[q,bg]at h2;omega);clear hto b d g V;go_wp2_with fail;refine(YI _ w.heap.size (w.heap.size+1+1) w.heap.size _ _ names ⟨#[]⟩ y.level (N.below c) (bE D.out.size c.size) gI Vi<|HN.below<|up D c).mono ?_;rintro e w5 ⟨rfl,B,z,s⟩;obtain⟨yU,fD,G⟩:=fE B ((up D c).trans z)<|(GL.trans<|eB.of_below c).trans s;clear B z s g0 p c1 c3;go_wp2;go_roundw;exact⟨j+1,by omega,by go_num,by rw[jY H];exact yU,fD,G⟩;exact gV
 ·have C:(vars.take j)=vars:=fQ (by have:=R8.out;omega);rw[C]at N;have a5:=(aj (d.at bC ax bM) 3).trans (rfl:_=some (X P nf Z));clear C b d hto;generalize a4:(vars.flatMap λv=>bO.nQ names ⟨#[]⟩ v.level)=F1 at *;go_wp2_with fail;go_loopw[27] (λi wx=>∃j:Nat,j<=nf/\i=O j/\Told wx w.heap.size (w.heap.size+1+1) (F1++(bq.take j).flatMap λf=>(bO.all m f.body).flatMap (Av names f.name))/\bK w wx/\eB (w.heap.size+1+1) W1 wx) (λi _=>nf - (intOf i).toNat);exact⟨0,bN _,rfl,by simpa using N.out,D.out,GL.out⟩
  obtain⟨t,ht,rfl,hto,b,d⟩:=hrel;obtain⟨aE,L,a0⟩:=fE hto b d;by_cases O6:t<nf
  ·obtain⟨y,g⟩:∃y,bq[t]?=some y:=⟨_,aZ (by rw[<-yM];exact O6)⟩;obtain⟨-,vp,vb,e0,e1,e2,e3,g0,p,g2,g3,g4,g5,g6,hp,hb,hx⟩:=VR t y g;obtain rfl:=K bC;obtain⟨H,az⟩:=bV g hb;replace g0:=aG g0 b;replace p:=aG p b;replace g2:=aG g2 b;replace g3:=aG g3 b;replace g4:=aG g4 b;replace g5:=aG g5 b;replace g6:=aG g6 b;obtain⟨ap,bp,op,cp,rfl,-⟩:=hp;obtain⟨sb,W,rfl⟩:=hb.kC;obtain⟨xa,xc,rfl,rfl,rfl,rfl⟩:=hx.shape;generalize y.params.length=np at *;generalize y.body.length=nb at *;generalize y.result.args.length=ne at *;have c:=Y<|aH wr<|aY #[A y.name,X ap np cp,X sb nb W,O y.result.kind,O y.result.n,A y.result.name,X xa ne xc] 102;have aa:=bF wr<|aY #[A y.name,X ap np cp,X sb nb W,O y.result.kind,O y.result.n,A y.result.name,X xa ne xc] 102;obtain⟨c2,a3,I⟩:=lS ((aj aa 2).trans (rfl:_=some (X sb nb W))) hto.lt (d.trans<|eB.of_below c);have aA:=Y<|adv w _ m (w.heap.size+1+1) w.heap.size (w.heap.size+1+1+1) wr.heap.size _ names y.name _ _ HN (I.at bC ad bM) rfl (I.at bC ae bM) aa rfl bC bC bC;have gI:J ((F1++(bq.take t).flatMap λf=>(bO.all m f.body).flatMap (Av names f.name)).length+((bO.all m y.body).flatMap (Av names y.name)).length<=16777216):=Y (by have h1:=wO (f:=λf:Fu=>(bO.all m f.body).flatMap (Av names f.name)) (l:=bq)<|t+1;rw[jY g,bg]at h1;have h2:=jP.out;rw[q,bg]at h2;rw[bg];omega);clear hto b d g hb hx I aa;go_wp2_with fail;refine(xL w _ m (w.heap.size+1+1) 122 _ _ (enters_of func122 dw rfl) aA m _ _ y.body _ (bG _) (up L c) (eB.refl _ _) (aE.below c) az gI).mono ?_;rintro e w5 ⟨rfl,B,z,s⟩;obtain⟨yU,fD,G⟩:=fE B ((up L c).trans z)<|(a0.trans<|eB.of_below c).trans s;clear B z s g0 p g2 g3 g4 g5 g6 c2;go_wp2;go_roundw;exact⟨t+1,by omega,by go_num,by rw[jY H,<-iK];exact yU,fD,G⟩;exact gV
  ·have C:(bq.take t)=bq:=fQ (by have:=yM.out;omega);rw[C,<-q]at hto;obtain⟨-,v,au,ac⟩:=hto;have ay:=Y ac;have V:=(aj au 0).trans (rfl:_=some v);obtain⟨a9,c9,rfl⟩:=ac.form;clear au ac C d b;go_wp2;go_ret;exact⟨_,rfl,ay,L⟩
theorem VT.up{b W c:bI}{M p g:Nat}{d:Array aC}{D:Ex->List Dg}(m:VT b W M p g d D)(x:eB p W c):VT b c M p g d D:=
 λw f h i j y l q r s t u=>m w f h i j y l q (x.trans r) s t u
theorem am1(f W:bI)(M p g r:Nat)(h:Array aC)(D:Ex->List Dg)(B:∀args w,(callFunc g args).run prog w=.ok (.enter g args) w)(K:VT f W M p g h D)(I:dR W r (aY #[.func (.func g) #[] h] 221))(aa:r≠p):Xt f W M p 176 #[gK r] (λs=>(fK M s.e).flatMap D):=by intro w u x y z m q s l C i G ab H;have b:=Y<|aH w<|aY #[O s.kind,A s.name,u,x,y,z,m,q] 198;have c:=UG w (O s.kind) (A s.name) u x y z m q 198;obtain⟨U,d,P,R,jP⟩:=uh (G.below b) C i K H;obtain⟨z2,z3,z4,z5⟩:=rY (c 2 _ rfl) (c 3 _ rfl) (c 4 _ rfl) (c 5 _ rfl);have ac:=aG ((aj (i.at aa I bM) 0).trans rfl) b;obtain⟨f0,f1,f2,f3,fa,fb,F,-,-,j,-,-⟩:=ab;simp only[R9,and_true,true_and]at F;obtain⟨rfl,rfl,rfl,rfl,rfl,rfl⟩:=F;have S:=Y j;obtain⟨xa,xc,rfl,rfl,rfl,rfl⟩:=j.shape;generalize s.e.args.length=ne at *;have N:=Y B;clear c I G i C K H j B;show aD 176 #[.agg #[O s.kind,A s.name,O s.e.kind,O s.e.n,A s.e.name,X xa ne xc,m,q],gK r] w _;go_enter func176,ntmps176;go_wp2_with fail;refine(GU f W M p g h D N R M _ _ _ _ _ s.e l (bG _) (d.trans<|b.mono d.size) (P.trans<|eB.of_below b) U S jP).mono ?_;rintro e w5 ⟨rfl,L,E,t⟩;obtain⟨yU,Z⟩:=bV L<|(b.mono d.size).trans E;have V:J (eB p w w5):=Y<|(eB.of_below b).trans t;clear L E t;go_wp2;go_end0;exact⟨rfl,yU,Z,V⟩
namespace bO
def mZ(m:Nat)(f:Fu):List Ex:=((all m f.body).flatMap λs=>fK m s.e)++fK m f.result
end bO
theorem al2(w:bI)(a b:Obj):((w.alloc a).alloc b).heap[w.heap.size]?=some a/\((w.alloc a).alloc b).heap[w.heap.size+1]?=some b/\bK w ((w.alloc a).alloc b):=by have d:=bF w a;have c:=bF (w.alloc a) b;simp only[oh]at c;refine⟨?_,c,up (aH _ _)<|aH _ _⟩;rw[(aH _ b).block _ cK];exact d
theorem amY(b W:bI)(M p g:Nat)(c:Array aC)(D:Ex->List Dg)(y:∀args w,(callFunc g args).run prog w=.ok (.enter g args) w)(E:VT b W M p g c D)(w:bI)(z:aS)(K vb e0 e1 e2 e3:aC)(f:Fu)(l:List Dg)(hW:bK b w)(m:eB p W w)(q:Told w b.heap.size p l)(B:fH b M vb f.body)(F:iH b M e0 e1 e2 e3 f.result)(C:l.length+((mZ M f).flatMap D).length<=16777216):aD 123 #[.agg #[A z,K,vb,e0,e1,e2,e3],.func (.func g) #[] c] w λe w'=>e=dz (.tuple #[])/\Told w' b.heap.size p (l++(mZ M f).flatMap D)/\Below b.heap.size w w'/\eB p w w':=by have HX:=Y F;have ag:=Y B;obtain⟨I,x,rfl⟩:=B.kC;obtain⟨L,N,rfl,rfl,rfl,rfl⟩:=F.shape;generalize f.body.length=G at *;generalize f.result.args.length=H at *;obtain⟨t,u,h⟩:=al2 w (aY #[A z,K,X I G x,O f.result.kind,O f.result.n,A f.result.name,X L H N] 102)<|aY #[.func (.func g) #[] c] 221;obtain⟨ad,ae,r,R,j,HT⟩:=vC t u h q.lt hW m;obtain⟨IX,EG,HV,HS⟩:=lD (q.below h) y (E.up<|m.trans<|eB.of_below h)<|am1 b _ M p g (w.heap.size+1) c D y (E.up<|m.trans<|eB.of_below h) u (by have:=q.lt;omega);have P:J ((mZ M f).flatMap D=((bO.all M f.body).flatMap λs=>(fK M s.e).flatMap D)++(fK M f.result).flatMap D):=Y (by unfold mZ;rw[lZ,List.flatMap_assoc]);rw[P,bg]at C;have jP:=Y C;have q2:=(aj t 2).trans (rfl:_=some (X I G x));clear F B t u h q hW m y E C;go_enter func123,ntmps123;go_wp2_with fail;generalize ((w.alloc<|aY #[A z,K,X I G x,O f.result.kind,O f.result.n,A f.result.name,X L H N] 102).alloc (aY #[.func (.func g) #[] c] 221))=V at *;refine(xL b V M p 176 _ _ (enters_of func176 dw rfl) HS M _ _ f.body l (bG _) (j.trans<|r.mono j.size) (eB.refl _ _) IX ag (by have:=jP.out;omega)).mono ?_;rintro e w5 ⟨rfl,oN,aa,i⟩;obtain⟨yU,eD,U⟩:=fE oN ((r.mono j.size).trans aa) i;obtain⟨d,S⟩:=eY (i.at (by have:=R.out;omega) ad bM) (i.at (by have:=R.out;omega) ae bM);obtain⟨k3,k4,k5,k6⟩:=rY ((aj d 3).trans (rfl:_=some (O f.result.kind))) ((aj d 4).trans (rfl:_=some (O f.result.n))) ((aj d 5).trans (rfl:_=some (A f.result.name))) ((aj d 6).trans (rfl:_=some (X L H N)));have k7:=(aj S 0).trans (rfl:_=some (Value.func (.func g) #[] c));clear oN aa i d S q2;go_wp2_with fail;refine(GU b V M p g c D EG HV M _ _ _ _ _ f.result _ (bG _) (j.trans eD) U yU HX (by have:=jP.out;rw[bg];omega)).mono ?_;rintro e w6 ⟨rfl,Z,ab,ac⟩;obtain⟨ah,fD⟩:=bV Z<|eD.trans ab;have af:J (eB p w w6):=Y<|((eB.of_below r).trans U).trans ac;clear Z ab ac;go_wp2;go_end0;exact⟨rfl,by rw[P,<-iK];exact ah,fD,af⟩
namespace bO
def clE(x:Mo)(known:List Mo)(k:Nat)(b:aS)(y:Ex):List Dg:=if code x known k y.name y.args.length=0 then []else [⟨code x known k y.name y.args.length,b,y.name⟩]
end bO
theorem aat(P W:bI)(m p F E D:Nat)(x:Mo)(known:List Mo)(I L H K G:aC)(k:Nat)(f:aS)(cf:Array aC)(z:ScV P m x known I L H K G)(hk:k<=x.bq.length)(hs:dR W F (aY #[A x.name,I,L,H,K,G] 163))(ad:dR W E (aY #[O k] 3))(ac:dR W D (.cells cf 102 (0,0)))(ab:cf[0]?=some (A f))(aq:F≠p)(am:E≠p)(al:D≠p):VT P W m p 124 #[gK F,gK E,gK p,gK D] (clE x known k f):=by
 intro w c0 c1 c2 c3 y l g C S R B;have RH:=Y R;obtain⟨r,t,rfl,rfl,rfl,rfl⟩:=R.shape;obtain⟨b,au⟩:=sO w<|aY #[O y.kind,O y.n,A y.name,X r y.args.length t] 100;obtain⟨s1,s2,s3⟩:=lS (C.at aq hs bM) (C.at am ad bM)<|C.at al ac bM;obtain⟨u0,u1,u2⟩:=lS (aG ((aj s1 0).trans (rfl:_=some (A x.name))) b) (aG ((aj s1 1).trans (rfl:_=some I)) b) (aG ((aj s1 2).trans (rfl:_=some L)) b);have YH:=aG ((aj s1 3).trans (rfl:_=some H)) b;have ae:=aG ((aj s1 4).trans (rfl:_=some K)) b;have uK:=Y<|(aj s3 0).trans ab;obtain⟨u5,u6,Z,z1⟩:=rY (aG ((aj s1 5).trans (rfl:_=some G)) b) (aG ((aj s2 0).trans (rfl:_=some (O k))) b) (GD w (O y.kind) (O y.n) (A y.name) (X r y.args.length t) 100) (GH w (O y.kind) (O y.n) (A y.name) (X r y.args.length t) 100);obtain⟨z2,z3⟩:=eY (GI w (O y.kind) (O y.n) (A y.name) (X r y.args.length t) 100)<|Gz w (O y.kind) (O y.n) (A y.name) (X r y.args.length t) 100;obtain⟨ag,N,IX,ng⟩:=lD z2 g S<|ak1 m m _ x known I L H K G k _ _ _ _ y (z.below<|g.trans<|b.mono g.size) hk<|RH.below<|g.trans<|b.mono g.size;have u:J (clE x known k f y=if bO.code x known k y.name y.args.length=0 then []else [⟨bO.code x known k y.name y.args.length,f,y.name⟩]):=rfl;rw[u]at B;generalize bO.code x known k y.name y.args.length=i at *;obtain⟨hI,hV,hF⟩:=z.mo.split;obtain⟨hK,hA⟩:=eY z.kn z.ats;obtain⟨ai,bi,oi,ci,rfl,-⟩:=hI;obtain⟨av,bv,ov,cv,rfl,-⟩:=hV;obtain⟨af,bf,of,aw,rfl,-⟩:=hF;obtain⟨ak,bk,ok,ck,rfl,-⟩:=hK;obtain⟨aa,ba,oa,ca,rfl,-⟩:=hA;generalize (x.imports.map λs=>oI<|dQ known s).length=ay at *;generalize x.imports.length=ni at *;generalize x.vars.length=nv at *;generalize x.bq.length=nf at *;generalize known.length=nk at *;generalize y.args.length=na at *;clear hs ad ac ab s1 s2 s3 R C z;show aD 124 #[.agg #[O y.kind,O y.n,A y.name,X r na t],gK F,gK E,gK p,gK D] w _;by_cases j:i=0
 ·have ah:(i==0)=true:=by simp[j]
  rw[aK j]at u;clear j S g B;go_enter func124,ntmps124;go_wp2_with fail;refine ng.mono ?_;rintro e w5 ⟨rfl,q⟩;have c:=Y<|up b q;clear q Z z1 z2 z3 u0 u1 u2 YH ae u5 u6;go_wp2_with fail;go_end0;exact⟨rfl,by rw[u,gL];exact IX.below c,c.mono N.size,eB.of_below c⟩
 ·have ah:(i==0)=false:=by simp[j]
  rw[aI j]at u B;clear j S g;have ax:l.length<16777216:=by simp at B;omega
  clear B;go_enter func124,ntmps124;go_wp2_with fail;refine ng.mono ?_;rintro e w5 ⟨rfl,q⟩;have c:=Y<|up b q;have oN:=IX.below c;obtain⟨t0,v,V,t2⟩:=oN;have q0:w5.cell? (aN p 0)=some v:=by rw[aj V];rfl
  obtain⟨H0,H1,H2⟩:=fE t0 V t2;obtain⟨y2,f0,JR⟩:=lS (aG ag q) (aG uK c)<|bE N.out.size c.size;clear q Z z1 z2 z3 u0 u1 u2 YH ae u5 u6 t0 V t2
  go_wp2_with (first
   | (at_builtin;refine fG (At:=qU) rfl _ _ 62 69 3 40 _ rfl underlying62 qV bM bM bM P.heap.size _ _ rfl (H2.below<|aH _ _) _ _ [⟨i,f,y.name⟩] rfl (dA.one _ _ rfl (qU.one (d:=⟨i,f,y.name⟩) rfl) rfl) (by simp only[iI];omega) (bE JR (aH _ _).size) ?_;intro v6 w6 U dX;obtain⟨a6,c6,ar⟩:=U.form;subst ar;have h:=Y<|Told.push H0 H1 H2 U dX;have Z:=(aj h.1 0).trans (show _=some v from rfl);have zf:=aF h.1 0;clear U dX)
   | fail)
  go_end0;have ao:(l++[(⟨i,f,y.name⟩:Dg)]).length=l.length+1:=by simp
  rw[ao]at h;exact⟨rfl,by rw[u];exact h.2.1,(c.mono N.size).trans h.2.2.1,(eB.of_below c).trans h.2.2.2⟩
namespace bO
def upto(g:Nat->List Dg)(n:Nat):List Dg:=(List.range n).flatMap g
theorem jK(g:Nat->List Dg)(n:Nat):upto g (n+1)=upto g n++g n:=by unfold upto;rw[Ji,lZ];simp
theorem Np(g:Nat->List Dg):upto g 0=[]:=rfl
theorem O8 (g : Nat → List Dg) {j n : Nat} (c : j ≤ n) : (upto g j).length ≤ (upto g n).length := by
 induction n with
 | zero =>
  have : j = 0 := by omega
  subst this; exact Nat.le_refl _
 | succ n b =>
  by_cases e : j = n + 1
  ·subst e; exact Nat.le_refl _
  ·rw [jK, List.length_append]; have := b (by omega); omega
theorem adx{g:Nat->List Dg}{n:Nat}{d:Dg}:d∈upto g n↔∃i,i<n/\d∈g i:=by unfold upto;simp
def atD{α:Type}(l:List α)(f:Nat->α->List Dg)(i:Nat):List Dg:=match l[i]? with
 | some x=>f i x
 | none=>[]
theorem sQ{α:Type}{l:List α}{f:Nat->α->List Dg}{i:Nat}{x:α}(h:l[i]?=some x):atD l f i=f i x:=by unfold atD;rw[h]
def clD(x:Mo)(known:List Mo)(m:Nat):List Dg:=upto (atD x.bq λk f=>(mZ m f).flatMap (clE x known k f.name)) x.bq.length
def imD(x:Mo)(known:List Mo):List Dg:=upto (atD x.imports λ_ s=>if (cB s x.name||(dQ known s).isNone)=true then [⟨1,⟨#[]⟩,s⟩]else []) x.imports.length
end bO
theorem ak0(m:Nat)(w:bI)(x:Mo)(known:List Mo)(vi vv vf vk va:aC)(h:ScV w m x known vi vv vf vk va)(hlen:(clD x known m).length<=16777216):aD 78 #[.agg #[A x.name,vi,vv,vf,vk,va]] w λe w'=>∃u,e=dz u/\dA qU w' w.heap.size 69 3 u (clD x known m)/\bK w w':=by
 have HS:=Y h;obtain⟨hI,hV,hF⟩:=h.mo.split;obtain⟨hK,hA⟩:=eY h.kn h.ats;obtain⟨ai,bi,oi,ci,rfl,-⟩:=hI;obtain⟨av,bv,ov,cv,rfl,-⟩:=hV;obtain⟨af,bf,of,cf,rfl,RD,hlf,hcf⟩:=hF;obtain⟨ak,bk,ok,ck,rfl,-⟩:=hK;obtain⟨aa,ba,oa,ca,rfl,-⟩:=hA;have VR:J (H9 w m bf of x.bq):=hcf;have QY:=Y RD;obtain⟨G,hG⟩:=aV (atD x.bq λk f=>(mZ m f).flatMap (clE x known k f.name));have HG:=Y hG;have LZ:J (clD x known m=bO.upto G x.bq.length):=Y (by rw[hG];rfl);have jP:=Y hlen;rw[LZ]at jP ⊢;obtain⟨nf,hnf⟩:=aV x.bq.length;have yM:=Y hnf;rw[<-hnf]at hlf QY jP HS ⊢;generalize (x.imports.map λs=>oI (dQ known s)).length=nat at *;generalize x.imports.length=ni at *;generalize x.vars.length=nv at *;generalize known.length=nk at *;obtain⟨b0,b1,hb0⟩:=al2 w (aY #[A x.name,X ai ni ci,X av nv cv,X af nf cf,X ak nk ck,X aa nat ca] 163) (aY #[aU] 62);obtain⟨HB0,Fy⟩:=bV b0 hb0;have q3:=(aj b0 3).trans (rfl:_=some (X af nf cf));have IX:J (Told _ w.heap.size (w.heap.size+1) []):=Y ⟨by omega,_,b1,dA.nil _ _ _ _⟩;clear hcf RD hlen hG hnf h b0 b1 hb0;go_enter func78,ntmps78;go_wp2_with fail;generalize ((w.alloc (aY #[A x.name,X ai ni ci,X av nv cv,X af nf cf,X ak nk ck,X aa nat ca] 163)).alloc (aY #[aU] 62))=W1 at *;clear q3;go_loopw[10] (λi wr=>∃j:Nat,j<=nf/\i=O j/\Told wr w.heap.size (w.heap.size+1) (bO.upto G j)/\bK w wr/\eB (w.heap.size+1) W1 wr) (λi _=>nf - (intOf i).toNat);exact⟨0,bN _,rfl,IX,Fy,eB.refl _ _⟩
 obtain⟨t,ht,rfl,hto,hnx,htl⟩:=hrel;obtain⟨akf,VU,akg⟩:=fE hto hnx htl;by_cases O6:t<nf
 ·obtain⟨y,hy⟩:∃y,x.bq[t]?=some y:=⟨_,aZ (by rw[<-yM];exact O6)⟩;obtain⟨-,vp,vb,e0,e1,e2,e3,g0,g1,g2,g3,g4,g5,g6,hp,hb,hx⟩:=VR t y hy;obtain rfl:=QY bC;have HY:J (G t=(mZ m y).flatMap (clE x known t y.name)):=Y (by rw[HG];exact sQ hy);obtain⟨HVB,HVX⟩:=bV hb hx;replace g0:=aG g0 hnx;replace g1:=aG g1 hnx;replace g2:=aG g2 hnx;replace g3:=aG g3 hnx;replace g4:=aG g4 hnx;replace g5:=aG g5 hnx;replace g6:=aG g6 hnx;obtain⟨ap,bp,op,cp,rfl,-⟩:=hp;obtain⟨sb,cb',rfl⟩:=hb.kC;obtain⟨xa,xc,rfl,rfl,rfl,rfl⟩:=hx.shape;generalize y.params.length=np at *;generalize y.body.length=nb at *;generalize y.result.args.length=ne at *;obtain⟨c0,c1,hb5⟩:=al2 wr (aY #[O t] 3) (aY #[A y.name,X ap np cp,X sb nb cb',O y.result.kind,O y.result.n,A y.result.name,X xa ne xc] 102);have eD:=Y hb5;obtain⟨d0,d1,d2,d3,d4,d5,d6⟩:=Ng ((aj c1 0).trans (rfl:_=some (A y.name))) ((aj c1 1).trans (rfl:_=some (X ap np cp))) ((aj c1 2).trans (rfl:_=some (X sb nb cb'))) ((aj c1 3).trans (rfl:_=some (O y.result.kind))) ((aj c1 4).trans (rfl:_=some (O y.result.n))) ((aj c1 5).trans (rfl:_=some (A y.result.name))) ((aj c1 6).trans (rfl:_=some (X xa ne xc)));obtain⟨ag6,Q0⟩:=eY hto.lt (htl.trans (eB.of_below hb5));have HVI:=Y (aat w _ m (w.heap.size+1) w.heap.size wr.heap.size (wr.heap.size+1) x known _ _ _ _ _ t y.name _ HS (by rw[<-yM];exact ht) (Q0.at bC HB0 bM) c0 c1 rfl bC bC bC);have gI:J ((bO.upto G t).length+((mZ m y).flatMap (clE x known t y.name)).length<=16777216):=Y (by have h1:=O8 G (show t+1<=nf by omega);rw[jK,bg,HY]at h1;have h2:=jP.out;omega);clear hto hnx htl hy hb hx Q0 c0 c1 hb5;go_wp2_with fail;refine(amY w _ m (w.heap.size+1) 124 _ _ (enters_of func124 dw rfl) HVI _ y.name _ _ _ _ _ _ y _ (up VU eD) (eB.refl _ _) (akf.below eD) HVB HVX gI).mono ?_;rintro e w5 ⟨rfl,oN,hb5,Dz⟩;obtain⟨yU,fD,HT6⟩:=fE oN ((up VU eD).trans hb5) ((akg.trans (eB.of_below eD)).trans Dz);clear oN hb5 Dz g0 g1 g2 g3 g4 g5 g6 d0 d1 d2 d3 d4 d5 d6;go_wp2;go_roundw;exact⟨t+1,by omega,by go_num,by rw[jK,HY];exact yU,fD,HT6⟩;exact gV
 ·have wU:t=nf:=by omega
  rw[wU]at hto;obtain⟨-,v,hv1,hv2⟩:=hto;have HV2:=Y hv2;have c0:=(aj hv1 0).trans (rfl:_=some v);obtain⟨a9,c9,rfl⟩:=hv2.form;generalize (bO.upto G nf).length=nu at *;clear hv1 hv2 wU htl hnx;go_wp2;go_ret;exact⟨_,rfl,HV2,VU⟩
theorem agH(m:Nat)(w:bI)(x:Mo)(known:List Mo)(vi vv vf vk va:aC)(h:ScV w m x known vi vv vf vk va)(hlen:(imD x known).length<=16777216):aD 75 #[.agg #[A x.name,vi,vv,vf,vk,va]] w λe w'=>∃u,e=dz u/\dA qU w' w.heap.size 69 3 u (imD x known)/\bK w w':=by
 obtain⟨hI,hV,hF⟩:=h.mo.split;obtain⟨hK,hA⟩:=eY h.kn h.ats;obtain⟨ai,bi,oi,ci,rfl,hai,hli,hcs,hci⟩:=hI;obtain⟨av,bv,ov,cv,rfl,-⟩:=hV;obtain⟨af,bf,of,cf,rfl,-⟩:=hF;obtain⟨ak,bk,ok,ck,rfl,-⟩:=hK;obtain⟨aa,ba,oa,ca,rfl,haa,hla,hca⟩:=hA;obtain⟨HCI,HAI,OJ⟩:=fE hci hai hca;obtain⟨G,hG⟩:=aV (atD x.imports λ_ s=>if (cB s x.name||(dQ known s).isNone)=true then [⟨1,⟨#[]⟩,s⟩]else []);have HG:=Y hG;have LZ:J (imD x known=bO.upto G x.imports.length):=Y (by rw[hG];rfl);have jP:=Y hlen;rw[LZ]at jP ⊢;have Kg:(x.imports.map λs=>oI (dQ known s)).length=x.imports.length:=by rw[dV]
 rw[Kg]at hla haa ⊢;have HAA:=Y haa;obtain⟨ni,hni⟩:=aV x.imports.length;have IW:=Y hni;rw[<-hni]at hli HAI jP hla HAA ⊢;generalize x.bq.length=nf at *;generalize x.vars.length=nv at *;generalize known.length=nk at *;have HB0:=Y (aH w (aY #[A x.name,X ai ni ci,X av nv cv,X af nf cf,X ak nk ck,X aa ni ca] 163));have eT:=λi v h=>Pk w (A x.name) (X ai ni ci) (X av nv cv) (X af nf cf) (X ak nk ck) (X aa ni ca) 163 i v h;obtain⟨q0,q1,q5⟩:=lS (eT 0 _ rfl) (eT 1 _ rfl) (eT 5 _ rfl);clear hci hai hcs hca haa hlen hG hni h Kg;go_enter func75,ntmps75;go_wp2_with fail;generalize (w.alloc (aY #[A x.name,X ai ni ci,X av nv cv,X af nf cf,X ak nk ck,X aa ni ca] 163))=W1 at *;go_loopw[3,10] (λv i wr=>∃j:Nat,j<=ni/\i=O j/\dA qU wr W1.heap.size 69 3 v (bO.upto G j)/\bK W1 wr) (λ_ i _=>ni - (intOf i).toNat);exact⟨0,bN _,rfl,dA.nil _ _ _ _,bQ _ _⟩
 obtain⟨t,ht,rfl,hown,hnx⟩:=hrel;obtain⟨HOW,fT⟩:=bV hown hnx;by_cases O6:t<ni
 ·obtain⟨s,hs⟩:∃y,x.imports[t]?=some y:=⟨_,aZ (by rw[<-IW];exact O6)⟩;have c0:=aG (aG (HCI t (by rw[<-IW];exact O6)) HB0) hnx;rw[xK,hs,gD]at c0;obtain rfl:=HAI bC;obtain rfl:=HAA bC;have c5:=aG (aG (OJ t (oI (dQ known s)) (by rw[pq,hs];rfl)) HB0) hnx;have HY:J (G t=if (cB s x.name||(dQ known s).isNone)=true then [⟨1,⟨#[]⟩,s⟩]else []):=Y (by rw[HG];exact sQ hs);replace q0:=aG q0 hnx;replace q5:=aG q5 hnx;obtain⟨a3,c3,rfl⟩:=hown.form;have hul:(bO.upto G t).length<16777216\/G t=[]:=by
   have h1:=O8 G (show t+1<=ni by omega);rw[jK,bg]at h1;have h2:=jP.out;by_cases hg:G t=[];·exact aQ hg
   ·have:=vO.2 hg;exact aO bC
  have HUL:=Y hul;obtain⟨ul,hut⟩:=aV ((bO.upto G t).length);have HUT:=Y hut;rw[<-hut]at HOW ⊢;clear hs hown hnx hut hul q1;cases hb1:(s.toList==x.name.toList)
  ·have hsb:cB s x.name=false:=hb1;rw[hsb,Bool.false_or]at HY;clear hsb;cases hmo:dQ known s with
   | none=>
    rw[hmo]at HY c5;have ho:oI none=-1:=rfl;rw[ho]at c5;rw[Option.isNone_none,aK rfl]at HY;have hul:ul<16777216:=by
     rcases HUL with h|h;·rw[HUT];exact h
     ·rw[HY]at h;cases h
    clear hmo ho
    go_wp2_with (first
     | (at_builtin;refine fG (At:=qU) rfl _ _ 62 69 3 40 _ rfl underlying62 qV bM bM bM W1.heap.size _ _ rfl (HOW.below (aH _ _)) _ _ [⟨1,⟨#[]⟩,s⟩] rfl (dA.one _ _ rfl (qU.one (d:=⟨1,⟨#[]⟩,s⟩) rfl) rfl) (by have:=HUT.out;simp only[iI];omega) (bE fT.out.size (aH _ _).size) ?_;intro v6 w6 hown6 dX;have pQ:=Y hown6;have uX:=Y (kg (up fT (aH _ _)) dX (λj hj=>(HOW.lt j hj).1));clear hown6 dX)
     | fail)
    go_roundw;exact⟨t+1,by omega,by go_num,by rw[jK,HY];exact pQ,uX⟩;exact gV
   | some a=>
    rw[hmo]at HY c5;have ho:oI (some a)=(a:Int):=rfl;rw[ho]at c5;rw[Option.isNone_some,aI cK]at HY;clear hmo ho;go_wp2;go_roundw;exact⟨t+1,by omega,by go_num,by rw[jK,HY,gL];exact HOW,fT⟩;exact gV
  ·have hsb:cB s x.name=true:=hb1;rw[hsb,Bool.true_or,aK rfl]at HY;have hul:ul<16777216:=by
    rcases HUL with h|h;·rw[HUT];exact h
    ·rw[HY]at h;cases h
   clear hsb
   go_wp2_with (first
    | (at_builtin;refine fG (At:=qU) rfl _ _ 62 69 3 40 _ rfl underlying62 qV bM bM bM W1.heap.size _ _ rfl (HOW.below (aH _ _)) _ _ [⟨1,⟨#[]⟩,s⟩] rfl (dA.one _ _ rfl (qU.one (d:=⟨1,⟨#[]⟩,s⟩) rfl) rfl) (by have:=HUT.out;simp only[iI];omega) (bE fT.out.size (aH _ _).size) ?_;intro v6 w6 hown6 dX;have pQ:=Y hown6;have uX:=Y (kg (up fT (aH _ _)) dX (λj hj=>(HOW.lt j hj).1));clear hown6 dX)
    | fail)
   go_roundw;exact⟨t+1,by omega,by go_num,by rw[jK,HY];exact pQ,uX⟩;exact gV
 ·have wU:t=ni:=by omega
  rw[wU]at HOW;obtain⟨a9,c9,rfl⟩:=hown.form;have HO2:=HOW;rw[wU]at HO2 ⊢;generalize (bO.upto G ni).length=nu at *;clear hown wU hnx;go_wp2;go_ret;exact⟨_,rfl,HO2.old HB0.size,up HB0 fT⟩
def O9{α:Type}(At:List Value->α->Prop)(w:bI)(n e k:Nat)(v:Value)(l:List α):Prop:=
 ∃cs:List (List Value),w.ownsRow n e k v l.length cs.flatten/\cs.length=l.length/\(∀c∈cs,c.length=k/\∀u∈c,u.oneCell'=true)/\(∀(i:Nat) c y,cs[i]?=some c->l[i]?=some y->At c y)
section
variable {α : Type} {At : List Value → α → Prop} {w w' : World} {n e k : Nat} {v : Value} {l : List α}
theorem dA.toR(b:dA At w n e k v l):O9 At w n e k v l:=by obtain⟨cs,c,d,f,g,_⟩:=b;exact⟨cs,c,d,f,g⟩
theorem O9.toK(b:O9 At w n e k v l)(h:l=[]->v=aU):dA At w n e k v l:=by obtain⟨cs,c,d,f,g⟩:=b;exact⟨cs,c,d,f,g,h⟩
theorem O9.lt(b:O9 At w n e k v l):∀j,v.ownBlock=some j->n<=j/\j<w.heap.size:=by obtain⟨cs,c,_⟩:=b;exact c.lt
end
section
variable {α : Type} {At : List Value → α → Prop} {w : World} {ops : Array Oper} {rest : List Oper} {o : Oper} {a : Act} {Q : Exit → Act → World → Prop}
theorem Ie(C:o.guard=none)(s x:Operand)(t e k p:Nat)(y:Value)(D:o.op=.call { callee:=.builtin .append,args:=#[s,x],argTypes:=#[t,t] })(I:prog.underlying t=some (.slice e))(ab:(prog.info? e).map (λi=>(i.zero,i.size,i.bytes))=some (some y,k,p))(ai:y.cells.size=k)(hk:0<k)(aa:p<=1024)(n:Nat)(v:Value)(l:List α)(H:a.eval s=v)(E:O9 At w n e k v l)(n2:Nat)(N:Value)(b:List α)(K:a.eval x=N)(F:dA At w n2 e k N b)(hl:l.length+b.length<=16777216)(Z:n<=w.heap.size)(B:∀v' w',O9 At w' n e k v' (l++b)->(b=[]->v'=v)->w.grownBy w' v.ownBlock->wpList prog ops Q rest (a.put o.dst v') w'):wpList prog ops Q (o::rest) a w:=by
 obtain⟨L,z,af,ag,ah⟩:=info_parts ab;have P:=E;obtain⟨cs,G,k1,k2,k3⟩:=E;rcases F.shape with⟨rfl,rfl⟩|⟨U,S,rfl,_,_,_,r⟩;·refine wpList_append_own_none C s x t D n e L k I z v l.length cs.flatten H G K ?_;exact B v w (by simpa using P) (λ_=>rfl) ⟨rfl,rfl,rfl,bG _,λ_ _ _=>rfl⟩
 ·obtain⟨q,ad,m,f,R,_⟩:=F;have ac:0<b.length:=vO.2 r;refine wpList_append_lies w C s x t D n e L y k p I z af ag ah ai hk v l.length cs.flatten H G ⟨U,0,none⟩ b.length S q.flatten K (by rw[sj q (λc d=>(f c d).1),m]) (λj u h=>?_) (λu h=>?_) ac (by unfold maxLen;omega) (bE (yE hl aa)<|by decide) Z w.heap.size rfl ?_;·rw[Addr.add_lit,d9,yC ad j (by have:=(cO.1 h).1;rw[sj q (λc d=>(f c d).1),m]at this;exact this)];exact h
  ·obtain⟨c,d,ae⟩:=Rl.1 h;exact(f c d).2 u ae
  ·intro g cap w' V W _ _;exact B _ w' (dA.cat ⟨k1,k2,k3⟩ ⟨m,f,R⟩ r V).toR (λe=>aM e r) W
end
theorem aau(w:bI)(n:Nat)(E:n<=16777216):aD 118 #[aU,O n] w λe w'=>∃v,e=dz v/\O9 qU w' w.heap.size 69 3 v []/\(n=0->v=aU)/\bK w w':=by
 obtain⟨B,u,r,F,s⟩:=info_parts qV;by_cases h:n=0;·subst h;go_enter func118,ntmps118;go_wp2;go_ret;exact⟨_,rfl,(dA.nil _ _ _ _).toR,λ_=>rfl,bQ _ _⟩
 ·obtain⟨Z,m⟩:∃Z:aC,Z=.agg #[O 0,A ⟨#[]⟩,A ⟨#[]⟩]:=⟨_,rfl⟩;rw[<-m]at r;have q:∀g,(Builtin.append_ #[62,3] g #[aU,O n]).run prog w=.ok (Tc w.heap.size n<|grownCap w n 0 69) (w.drew.alloc<|.cells (Builtin.zeroCells Z.cells n++Builtin.zeroCells Z.cells (grownCap w n 0 69 - n)) 69):=λg=>by have b:=Lib.run_append_grow_zeros w 62 3 g 69 B Z .i64 .i64 underlying62 underlying3 u r none 0 0 [] (run_firstCells_none w.drew _ 0 0 0) n bC bC bC bC (by rw[s];omega) (by rw[d9];exact growslice_fits bC (by rw[s];omega));simpa using b
  have x:n<=grownCap w n 0 69:=grownCap_ge w _ _ _;have d:grownCap w n 0 69<=maxLen:=grownCap_le_maxLen w n 0 69 (by unfold maxLen;omega);obtain⟨G,j⟩:=aV<|grownCap w n 0 69;rw[<-j]at q x d;have D:G<=9223372036854775807:=by unfold maxLen at d;omega
  have p:(w.drew.alloc<|.cells (Builtin.zeroCells Z.cells n++Builtin.zeroCells Z.cells (G - n)) 69).ownsRow w.heap.size 69 3 (Tc w.heap.size 0 G) 0 []:=
   ⟨by simp,.inr ⟨w.heap.size,G,_,rfl,bG _,heap_alloc_new w.drew _,bN _,d,by
    have e:∀k,(Builtin.zeroCells Z.cells k).size=k*3:=λk=>by rw[m];simp[Builtin.zeroCells,Value.cells]
    rw[Array.size_append,e,e];omega,by simp⟩⟩
  have t:=Y p;have z:J (bK w<|w.drew.alloc<|.cells (Builtin.zeroCells Z.cells n++Builtin.zeroCells Z.cells (G - n)) 69):=Y<|((bQ _ _).drew).alloc cK _;clear p j;generalize (w.drew.alloc<|.cells (Builtin.zeroCells Z.cells n++Builtin.zeroCells Z.cells (G - n)) 69)=C at *;go_enter func118,ntmps118;go_wp2_with (at_builtin;refine Lib.wpList_append_run _ rfl _ _ _ _ rfl _ _ rfl rfl _ _ (q _) ?_);go_ret;exact⟨_,rfl,⟨[],t,rfl,(λc f=>aM f cK),(λi c y f=>aM f cK)⟩,λb=>aM b h,z⟩
def Sd(w:bI)(n:Nat)(v:Value)(ls:List (List Dg)):Prop:=
 ∃b off cap,v=.slice (some ⟨b,off,none⟩) ls.length cap/\ls.length<=16/\∀i l,ls[i]?=some l->∃c,w.cell? ⟨b,off+i,none⟩=some c/\dA qU w n 69 3 c l
theorem JU{ls:List (List Dg)}{j:Nat}{l:List Dg}(b:ls[j]?=some l):(ls.take<|j+1).flatten=(ls.take j).flatten++l:=by obtain⟨c,rfl⟩:=cO.1 b;rw[uW c,Da];simp
theorem DC(ls:List (List Dg))(j:Nat):(ls.take j).flatten.length<=ls.flatten.length:=by
 conv=>rhs;rw[<-pK j ls]
 rw[Da,bg];omega
theorem GV(w:World)(W:Nat)(v:Value)(ls:List (List Dg))(c:Sd w W v ls)(B:ls.flatten.length<=16777216):Calls prog 74 #[v] w λe w'=>∃v',e=.returned v'/\dA qU w' w.heap.size 69 3 v' ls.flatten/\Below w.heap.size w w':=by
 obtain⟨b,off,cap,rfl,ad,H⟩:=c;have V:=Y H;clear H;obtain⟨len,z⟩:=aV ls.length;have p:=Y z;rw[<-z]at ad ⊢;clear z;go_enter func74,ntmps74;go_wp2;go_loop [3,11] (λo i=>∃k:Nat,k<=len/\i=.int .i64 k/\o=.int .i64 (ls.take k).flatten.length) (λ_ i=>len - (intOf i).toNat);exact⟨0,bN _,rfl,rfl⟩
 obtain⟨k,K,rfl,rfl⟩:=hrel;have y:=bE (DC ls k) B;by_cases q:k<len
 ·obtain⟨l,d⟩:∃l,ls[k]?=some l:=⟨_,aZ (by rw[<-p];exact q)⟩;obtain⟨vi,t,h⟩:=V k l d;obtain⟨a,cp,rfl⟩:=h.form;have f:Hid ((ls.take<|k+1).flatten.length=(ls.take k).flatten.length+l.length):=Y (by rw[JU d,bg]);have C:=bE (DC ls<|k+1) B;rw[f]at C;generalize (ls.take k).flatten.length=W at *;generalize l.length=n1 at *;clear d h;go_wp2;go_round;exact⟨k+1,by omega,by go_num,by rw[f];go_num⟩;simp[intOf];omega
 ·have e:ls.take k=ls:=fQ (by have:=p.out;omega);rw[e]at y ⊢;clear e;obtain⟨N,x⟩:=aV ls.flatten.length;have HN:=Y x;rw[<-x]at y ⊢;clear x;go_wp2_with fail;refine(aau w N y).mono ?_;rintro e w1 ⟨v1,rfl,P,S,F⟩;obtain⟨HO,Z⟩:=bV P F;have HZ:Hid (ls.flatten=[]->v1=.slice none 0 0):=Y (λc=>S (by rw[HN,c];rfl));clear P F K q S;go_wp2;go_loopw[6,27] (λo i wr=>∃k:Nat,k<=len/\i=.int .i64 k/\O9 qU wr w.heap.size 69 3 o (ls.take k).flatten/\(ls.flatten=[]->o=.slice none 0 0)/\Below w.heap.size w wr) (λ_ i _=>len - (intOf i).toNat);exact⟨0,bN _,rfl,HO,HZ,Z⟩
  obtain⟨k,K,rfl,m,r,g⟩:=hrel;by_cases q:k<len
  ·obtain⟨l,d⟩:∃l,ls[k]?=some l:=⟨_,aZ (by rw[<-p];exact q)⟩;obtain⟨vi,t,h⟩:=V k l d;have E:=Y<|h.below g;have u0:=aG t g;obtain⟨a,cp,rfl⟩:=h.form;have f:=Y<|JU d;have C:=bE (DC ls<|k+1) B;rw[f,bg]at C;obtain⟨D,fT,ac⟩:=fE m g r;have G:=g.size;have aa:Hid (ls.flatten=[]->l=[]):=Y (λc=>by have u:=DC ls<|k+1;rw[f,bg,c]at u;exact qp.1 (by simp at u;simpa using u.2));obtain⟨n1,L⟩:=aV l.length;rw[<-L]at u0 E;clear L;clear d h t m g r
   go_wp2_with (first
    | (at_builtin;refine Ie (At:=qU) rfl _ _ 62 69 3 40 _ rfl underlying62 qV (by decide) (by decide) (by decide) w.heap.size _ _ rfl D _ _ l rfl E (by omega) G ?_;intro v' w2 R U I)
    | fail)
   obtain⟨R2,s,ab⟩:=fE (fT.grown I G (λj hj=>(D.lt j hj).1)) R U;clear I R U;go_roundw;exact⟨k+1,by omega,by go_num,by rw[f];exact s,λc=>by rw[ab (aa c)];exact ac c,R2⟩;simp[intOf];omega
  ·have e:ls.take k=ls:=fQ (by have:=p.out;omega);rw[e]at m;have s:=Y<|m.toK r;clear m r;go_wp2;go_ret;exact⟨_,rfl,s,g⟩
theorem Strs.amW{w:bI}{a:Option Addr}{n cap i:Nat}{ss:aJ}(d:Strs w (X a n cap) ss)(z:i<=ss.length):Strs w (X a i cap) (ss.take i):=by
 obtain⟨x,b,off,c,e,q,y,r,t⟩:=d;injection e with h m p;subst h m p;have g:(ss.take i).length=i:=by rw[List.length_take];omega
 refine⟨a,b,off,cap,by rw[g],λd=>q bC,by omega,λs u=>r s<|List.mem_of_mem_take u,λj f=>?_⟩;rw[t j bC];rw[g]at f;simp[List.getD_eq_getElem?_getD,f]
namespace bO
def ER(l:List aS)(s:aS):Bool:=decide (0<=dU l s)
def GX(b:aS)(l:List aS):List Dg:=upto (atD l λi s=>if ER (l.take i) s=true then [⟨2,b,s⟩]else []) l.length
def twD(x:Mo):List Dg:=[GX ⟨#[]⟩ x.imports,GX ⟨#[]⟩ (x.vars.map (·.name)),GX ⟨#[]⟩ (x.bq.map (·.name))].flatten++x.bq.flatMap λf=>GX f.name f.params
end bO
theorem oq(w:bI)(v:aC)(l:aJ)(fn:aS)(h:yD w v l)(hlen:(GX fn l).length<=16777216):aD 119 #[A fn,v] w λe w'=>∃u,e=dz u/\dA qU w' w.heap.size 69 3 u (GX fn l)/\bK w w':=by
 obtain⟨hS,a,cap,rfl,hcap⟩:=h;have HS:=Y hS;obtain⟨a',b,off,c',he,ha,hl,hcs,hci⟩:=hS;injection he with he1 he2 he3;subst he1 he3;obtain⟨HCI,HA⟩:=bV hci ha;obtain⟨G,hG⟩:=aV (atD l λi s=>if bO.ER (l.take i) s=true then [⟨2,fn,s⟩]else []);have HG:=Y hG;have LZ:J (GX fn l=bO.upto G l.length):=Y (by rw[hG];rfl);have jP:=Y hlen;rw[LZ]at jP ⊢;obtain⟨ni,hni⟩:=aV l.length;have IW:=Y hni;rw[<-hni]at hl HA jP hcap HS ⊢;clear hci ha hcs hlen hG hni he2;go_enter func119,ntmps119;go_wp2_with fail;go_loopw[5,10] (λv i wr=>∃j:Nat,j<=ni/\i=O j/\dA qU wr w.heap.size 69 3 v (bO.upto G j)/\bK w wr) (λ_ i _=>ni - (intOf i).toNat);exact⟨0,bN _,rfl,dA.nil _ _ _ _,bQ _ _⟩
 obtain⟨t,ht,rfl,hown,hnx⟩:=hrel;obtain⟨HOW,fT⟩:=bV hown hnx;by_cases O6:t<ni
 ·obtain⟨s,hs⟩:∃y,l[t]?=some y:=⟨_,aZ (by rw[<-IW];exact O6)⟩;have c0:=aG (HCI t (by rw[<-IW];exact O6)) hnx;rw[xK,hs,gD]at c0;obtain rfl:=HA bC;have HY:J (G t=if bO.ER (l.take t) s=true then [⟨2,fn,s⟩]else []):=Y (by rw[HG];exact sQ hs);have HCO:=Y (kS wr _ (l.take t) s ((HS.amW (by rw[<-IW];exact ht)).below hnx));rw[show decide (0<=dU (l.take t) s)=bO.ER (l.take t) s from rfl]at HCO;obtain⟨a3,c3,rfl⟩:=hown.form;have hul:(bO.upto G t).length<16777216\/G t=[]:=by
   have h1:=O8 G (show t+1<=ni by omega);rw[jK,bg]at h1;have h2:=jP.out;by_cases hg:G t=[];·exact aQ hg
   ·have:=vO.2 hg;exact aO bC
  have HUL:=Y hul;obtain⟨ul,hut⟩:=aV ((bO.upto G t).length);have HUT:=Y hut;rw[<-hut]at HOW ⊢;clear hs hown hnx hut hul;go_wp2_with fail;refine HCO.mono ?_;rintro e w2 ⟨rfl,hw2⟩;subst hw2;generalize bO.ER (l.take t) s=ib at *;cases ib
  ·rw[aI cK]at HY;go_wp2;go_roundw;exact⟨t+1,by omega,by go_num,by rw[jK,HY,gL];exact HOW,fT⟩;exact gV
  ·rw[aK rfl]at HY;have hul:ul<16777216:=by
    rcases HUL with h|h;·rw[HUT];exact h
    ·rw[HY]at h;cases h
   go_wp2_with (first
    | (at_builtin;refine fG (At:=qU) rfl _ _ 62 69 3 40 _ rfl underlying62 qV bM bM bM w.heap.size _ _ rfl (HOW.below (aH _ _)) _ _ [⟨2,fn,s⟩] rfl (dA.one _ _ rfl (qU.one (d:=⟨2,fn,s⟩) rfl) rfl) (by have:=HUT.out;simp only[iI];omega) (bE fT.out.size (aH _ _).size) ?_;intro v6 w6 hown6 dX;have pQ:=Y hown6;have uX:=Y (kg (up fT (aH _ _)) dX (λj hj=>(HOW.lt j hj).1));clear hown6 dX)
    | fail)
   go_roundw;exact⟨t+1,by omega,by go_num,by rw[jK,HY];exact pQ,uX⟩;exact gV
 ·have wU:t=ni:=by omega
  obtain⟨a9,c9,rfl⟩:=hown.form;rw[wU]at HOW ⊢;generalize (bO.upto G ni).length=nu at *;clear hown wU hnx;go_wp2;go_ret;exact⟨_,rfl,HOW,fT⟩
theorem apY(w:bI)(cs:Array aC)(t:TypeId)(i:Nat)(v:aC)(h:cs[i]?=some v):(w.alloc<|.cells cs t).cell? (aN w.heap.size i)=some v:=(aj (bF w<|.cells cs t) i).trans h
def uL(v:Value):Prop:=∀a n c,v=.slice a n c->n<=c
structure Bg(w:World)(vi vf:Value):Prop where
 imp:uL vi
 fus:uL vf
 par:∀b off n c,vf=.slice (some ⟨b,off,none⟩) n c->∀i,i<n->∃vp,w.cell? ⟨b,off+i*7+1,none⟩=some vp/\uL vp
theorem Bg.below{w w':bI}{f vf:aC}(d:Bg w f vf)(j:bK w w'):Bg w' f vf:=⟨d.imp,d.fus,λb off n c e i m=>by obtain⟨p,g,h⟩:=d.par b off n c e i m;exact⟨p,aG g j,h⟩⟩
section
variable {α : Type} {At : List Value → α → Prop} {w w' : World} {n e k : Nat} {v : Value} {l : List α}
theorem dA.grown{r:Option Nat}(c:dA At w n e k v l)(p:w.grownBy w' r)(q:∀g,v.ownBlock=some g->r≠some g):dA At w' n e k v l:=by
 obtain⟨cs,⟨j,b⟩,m⟩:=c;refine⟨cs,⟨j,?_⟩,m⟩;rcases b with b|⟨g,cap,h,f,hg,d,s⟩;·exact aO b
 ·exact aQ ⟨g,cap,h,f,hg,by rw[p.block g (aR d) (λi=>q g (by rw[f];rfl) i.symm)];exact d,s⟩
end
