import Derived.Test.YtageneidjnbedaaGreatDoorTZAJ
import Derived.Laws.EntriesVeiled
set_option maxHeartbeats 0
set_option maxRecDepth 99999
namespace Go.Proofs.YtageneidjnbedaaGreatDoor
open bS bO
open Go.Proofs.Tryz
open Go.RowKit
namespace bO
theorem Dy{l:List Fu}{s:aS}{n i:Nat}(h:vP l s n=some i):i<n/\∃f,l[i]?=some f:=by
 unfold vP at h;have b:=Jj h;refine⟨jE.1<|Gw h,?_⟩;cases d:l[i]? with
 | none=>rw[d]at b;simp at b
 | some y=>exact⟨y,rfl⟩
def VQ(x:Mo)(known:List Mo)(t:Int × Int × Bool):Option Fu:=
 if t.1=-1 then x.bq[t.2.1.toNat]? else known[t.1.toNat]?.bind λy=>y.bq[t.2.1.toNat]?
def code(x:Mo)(known:List Mo)(k:Nat)(name:aS)(b:Nat):Int:=
 if (fF x k name known).2.2=false then 4 else match VQ x known (fF x k name known)with
  | some f=>if f.params.length=b then 0 else 5
  | none=>0
theorem FE{x:Mo}{k:Nat}{b:aS}{known:List Mo}(h:(fF x k b known).2.2=true):(∃(i:Nat) (f:Fu),fF x k b known=(-1,(i:Int),true)/\x.bq[i]?=some f)\/(∃(a:Nat) (y:Mo) (j:Nat) (f:Fu),fF x k b known=((a:Int),(j:Int),true)/\known[a]?=some y/\y.bq[j]?=some f):=by
 cases m:lI b with
 | none=>
  have e:fF x k b known=tV (-1) x.bq b k:=by simp[fF,m]
  rw[e]at h ⊢;unfold tV at h ⊢;cases g:vP x.bq b k with
  | none=>rw[g]at h;simp at h
  | some i =>obtain⟨_,f,q⟩:=Dy g;exact aO ⟨i,f,rfl,q⟩
 | some d=>
  rcases vR x.imports (bS.preS b)with p|⟨i,p,_⟩
  ·have e:fF x k b known=(0,0,false):=by simp[fF,m,p]
   rw[e]at h;simp at h
  ·cases r:dQ known (x.imports.getD i ByteArray.empty)with
   | none=>rw[Dn m p r]at h;simp at h
   | some a=>
    obtain⟨y,s,_⟩:=rJ r;rw[Dp m p r s]at h ⊢;unfold tV at h ⊢;cases g:vP y.bq (uR b) y.bq.length with
    | none=>rw[g]at h;simp at h
    | some j =>obtain⟨_,f,q⟩:=Dy g;exact aQ ⟨a,y,j,f,rfl,s,q⟩
end bO
theorem aas(w:bI)(d f g b h i:aC):aD 204 #[.agg #[d,f,g,b,h,i],O<|-1] w λe w'=>e=dz b/\bK w w':=by have q3:=Pk w d f g b h i 169 3 _ rfl;have j:=Y<|aH w<|aY #[d,f,g,b,h,i] 169;go_enter func204,ntmps204;go_wp2;go_ret;exact⟨rfl,j⟩
theorem R4(w:bI)(f g h m i r:aC)(b ok d j a:Nat)(t:a<d)(q:bJ w b (ok+a*4+3)=some r):aD 204 #[.agg #[f,g,h,m,X (some<|aN b ok) d j,i],O a] w λe w'=>e=dz r/\bK w w':=by
 have p:=Y<|aH w<|aY #[f,g,h,m,X (some<|aN b ok) d j,i] 169;have q4:=Pk w f g h m (X (some<|aN b ok) d j) i 169 4 _ rfl;replace q:=aG q p;have s:((a:Int)==-1)=false:=by simp
 go_enter func204,ntmps204;go_wp2;go_ret;exact⟨rfl,p⟩
theorem ak1(m m':Nat)(w:bI)(x:Mo)(known:List Mo)(vi vv vf vk va:aC)(k:Nat)(c0 c1 c2 c3:aC)(y:Ex)(h:ScV w m x known vi vv vf vk va)(hk:k<=x.bq.length)(hE:iH w m' c0 c1 c2 c3 y):aD 156 #[.agg #[A x.name,vi,vv,vf,vk,va],O k,.agg #[c0,c1,c2,c3]] w λe w'=>e=dz (O (bO.code x known k y.name y.args.length))/\bK w w':=by
 obtain⟨mm,rfl⟩:∃mm,m'=mm+1:=by cases m' with
  | zero=>exact iU hE
  | succ n=>exact⟨n,rfl⟩
 obtain⟨rfl,rfl,rfl,hsz,-,-,ea,eb,eo,ec,rfl,-,hel,-⟩:=hE;have HS:=Y h;obtain⟨R,hR⟩:=aV (bO.code x known k y.name y.args.length);have HR:=Y hR;rw[<-hR];have HB0:=Y (aH w (aY #[A x.name,vi,vv,vf,vk,va] 169));have q5:=Pk w (A x.name) vi vv vf vk va 169;obtain⟨u0,u1,u2⟩:=lS (aG (q5 0 _ rfl) (aH _ (aY #[O y.kind,O y.n,A y.name,X ea y.args.length ec] 80))) (aG (q5 1 _ rfl) (aH _ (aY #[O y.kind,O y.n,A y.name,X ea y.args.length ec] 80))) (aG (q5 2 _ rfl) (aH _ (aY #[O y.kind,O y.n,A y.name,X ea y.args.length ec] 80)));have YH:=aG (q5 3 _ rfl) (aH _ (aY #[O y.kind,O y.n,A y.name,X ea y.args.length ec] 80));have u4':=aG (q5 4 _ rfl) (aH _ (aY #[O y.kind,O y.n,A y.name,X ea y.args.length ec] 80));obtain⟨u5,z2,z3⟩:=lS (aG (q5 5 _ rfl) (aH _ (aY #[O y.kind,O y.n,A y.name,X ea y.args.length ec] 80))) (GI (w.alloc (aY #[A x.name,vi,vv,vf,vk,va] 169)) (O y.kind) (O y.n) (A y.name) (X ea y.args.length ec) 80) (Gz (w.alloc (aY #[A x.name,vi,vv,vf,vk,va] 169)) (O y.kind) (O y.n) (A y.name) (X ea y.args.length ec) 80);rw[oh]at z2 z3;have HB1:=Y (up HB0 (aH _ (aY #[O y.kind,O y.n,A y.name,X ea y.args.length ec] 80)));have HT:=Y (λwx (hb:bK w wx)=>GN m wx x known vi vv vf vk va k y.name (HS.below hb) hk hsz);generalize y.args.length=na at *;obtain⟨hI,hV,hF⟩:=h.mo.split;obtain⟨hK,hA⟩:=eY h.kn h.ats;obtain⟨ai,bi,oi,ci,rfl,-⟩:=hI;obtain⟨av,bv,ov,cv,rfl,-⟩:=hV;obtain⟨af,bf,of,cf,rfl,RD,hlf,hcf⟩:=hF;obtain⟨ak,bk,ok,ck,rfl,hak,hlk,hck⟩:=hK;obtain⟨aa,ba,oa,ca,rfl,-⟩:=hA;generalize (x.imports.map λs=>oI (dQ known s)).length=nat at *;generalize x.imports.length=ni at *;generalize x.vars.length=nv at *;obtain⟨wV,VR,QY,HAK⟩:=lD hck hcf RD hak;clear hR h q5 hck hcf RD hak;cases ht:(fF x k y.name known).2.2;·have nL:J (R=4):=Y (by rw[HR];unfold bO.code;rw[aK ht]);rw[ht]at HT;generalize (fF x k y.name known).1=t1 at *;generalize (fF x k y.name known).2.1=t2 at *;clear ht;go_enter func156,ntmps156;go_wp2_with fail;refine(HT _ HB1).mono ?_;rintro e w1 ⟨rfl,hb1⟩;have HB2:=Y (up HB1 hb1);clear hb1;go_wp2;go_ret;exact⟨by rw[nL];rfl,HB2⟩
 ·rcases FE ht with⟨i,f,he,hf⟩|⟨a,z,j,f,he,hz,hf⟩
  ·rw[he]at HT;have nL:J (R=if f.params.length=na then 0 else 5):=Y (by rw[HR];unfold bO.code;rw[aI (by rw[ht];simp),he];simp only[VQ,if_true,vQ,hf]);obtain⟨-,vp,vb,e0,e1,e2,e3,g0,g1,-,-,-,-,-,hp,-⟩:=VR i f hf;obtain⟨ap,bp,op,cp,rfl,-⟩:=hp;have hil:i<x.bq.length:=(cO.1 hf).1;obtain rfl:=QY bC;generalize x.bq.length=nf at *;generalize known.length=nk at *;generalize f.params.length=np at *;clear ht hf g0 he;simp only at HT;go_enter func156,ntmps156;go_wp2_with fail;refine(HT _ HB1).mono ?_;rintro e w1 ⟨rfl,hb1⟩;have HB2:=Y (up HB1 hb1);replace u0:=bD (aG u0 hb1);replace u1:=bD (aG u1 hb1);replace u2:=bD (aG u2 hb1);replace YH:=bD (aG YH hb1);replace u4':=bD (aG u4' hb1);replace u5:=bD (aG u5 hb1);replace z3:=bD (aG z3 hb1);replace g1:=bD (aG g1 HB2);clear hb1 z2;have HFG:=Y (λn os=>aas (gn w1 n os) (A x.name) (X ai ni ci) (X av nv cv) (X (some (aN bf of)) nf cf) (X ak nk ck) (X aa nat ca));go_wp2_with fail;refine bW dw dw ?_;repeat(quiet_step ((exact Calls.oZ (HFG.out _ _))))
   refine wpQuiet_nil ?_;intro _ hw';obtain⟨⟨nq,osq⟩,hw''⟩:=hw';subst hw'';have fD:=Y (up HB2.out (bU w1 nq osq));by_cases hn:np=na
   ·have hn':((np:Int)==(na:Int))=true:=by simp[hn]
    rw[aK hn]at nL;clear hn;go_wp2;go_ret;exact⟨by rw[nL];rfl,fD⟩
   ·have hn':((np:Int)==(na:Int))=false:=by simp;omega
    rw[aI hn]at nL;clear hn;go_wp2;go_ret;exact⟨by rw[nL];rfl,fD⟩
  ·rw[he]at HT;have nL:J (R=if f.params.length=na then 0 else 5):=Y (by rw[HR];unfold bO.code;rw[aI (by rw[ht];simp),he];simp only[VQ,vQ,hz,Option.bind_some,hf];rw[aI bC]);have hal:a<known.length:=(cO.1 hz).1;have hjl:j<z.bq.length:=(cO.1 hf).1;obtain rfl:=HAK bC;obtain⟨yi,yv,yf,k0,k1,k2,k3,hmz⟩:=wV a z hz;obtain⟨-,-,hzF⟩:=hmz.split;obtain⟨az,bz,oz,cz,rfl,haz,hlz,hcz⟩:=hzF;obtain⟨-,vp,vb,e0,e1,e2,e3,g0,g1,-,-,-,-,-,hp,-⟩:=hcz j f hf;obtain⟨ap,bp,op,cp,rfl,-⟩:=hp;obtain rfl:=haz bC;generalize z.bq.length=nz at *;generalize x.bq.length=nf at *;generalize known.length=nk at *;generalize f.params.length=np at *;clear hmz hcz haz hz k0 k1 k2;clear ht hf g0 he;simp only at HT;go_enter func156,ntmps156;go_wp2_with fail;refine(HT _ HB1).mono ?_;rintro e w1 ⟨rfl,hb1⟩;have HB2:=Y (up HB1 hb1);replace u0:=bD (aG u0 hb1);replace u1:=bD (aG u1 hb1);replace u2:=bD (aG u2 hb1);replace YH:=bD (aG YH hb1);replace u4':=bD (aG u4' hb1);replace u5:=bD (aG u5 hb1);replace z3:=bD (aG z3 hb1);replace g1:=bD (aG g1 HB2);clear hb1 z2;have HFG:=Y (λn os=>R4 (gn w1 n os) (A x.name) (X ai ni ci) (X av nv cv) (X af nf cf) (X aa nat ca) (X (some (aN bz oz)) nz cz) bk ok nk ck a hal (bD (aG k3 HB2) n os));go_wp2_with fail;refine bW dw dw ?_;repeat(quiet_step ((exact Calls.oZ (HFG.out _ _))))
   refine wpQuiet_nil ?_;intro _ hw';obtain⟨⟨nq,osq⟩,hw''⟩:=hw';subst hw'';have fD:=Y (up HB2.out (bU w1 nq osq));by_cases hn:np=na
   ·have hn':((np:Int)==(na:Int))=true:=by simp[hn]
    rw[aK hn]at nL;clear hn;go_wp2;go_ret;exact⟨by rw[nL];rfl,fD⟩
   ·have hn':((np:Int)==(na:Int))=false:=by simp;omega
    rw[aI hn]at nL;clear hn;go_wp2;go_ret;exact⟨by rw[nL];rfl,fD⟩
namespace bO
def fK:Nat->Ex->List Ex
 | 0,_=>[]
 | m+1,x=>(if x.kind=4 then [x]else [])++x.args.flatMap (fK m)
end bO
def VT(b W:bI)(j p g:Nat)(m:Array Value)(D:Ex->List Dg):Prop:=
 ∀(w:bI) (d f h i:Value) (y:Ex) (l:List Dg),bK b w->eB p W w->Told w b.heap.size p l->iH b j d f h i y->l.length+(D y).length<=16777216->
  Calls prog g (#[.agg #[d,f,h,i]]++m) w λe w'=>e=.returned (.tuple #[])/\Told w' b.heap.size p (l++D y)/\Below b.heap.size w w'/\eB p w w'
theorem Told.lt{w:bI}{n p:Nat}{l:List Dg}(h:Told w n p l):p<w.heap.size:=by obtain⟨_,v,b,_⟩:=h;exact aR b
theorem BO{α β γ:Type}{f:α->List β}{g:β->List γ}{l:List α}(j:Nat):(((l.take j).flatMap f).flatMap g).length<=((l.flatMap f).flatMap g).length:=by have h:=congrArg (λt=>((t.flatMap f).flatMap g).length)<|pK j l;simp only[lZ,bg]at h;omega
theorem GU(u W:bI)(M p g:Nat)(cb:Array aC)(D:Ex->List Dg)(eg:∀args w,(callFunc g args).run prog w=.ok (.enter g args) w)(hv:VT u W M p g cb D)(m:Nat):∀(w:bI) (c0 c1 c2 c3:aC) (x:Ex) (l:List Dg),m<=M->bK u w->eB p W w->Told w u.heap.size p l->iH u m c0 c1 c2 c3 x->l.length+((fK m x).flatMap D).length<=16777216->aD 202 #[.agg #[c0,c1,c2,c3],.func (.func g) #[] cb] w λe w'=>e=dz (.tuple #[])/\Told w' u.heap.size p (l++(fK m x).flatMap D)/\Below u.heap.size w w'/\eB p w w':=by
 induction m with
 | zero=>intro w c0 c1 c2 c3 x l _ _ _ _ h;exact iU h
 | succ m ih=>
  intro w c0 c1 c2 c3 x l hM hW hT hl h ap;obtain⟨HI,HX,HV,S,HT,IX⟩:=vC ih (h.mono M hM) hv hW hT hl;clear ih hW hv hT;obtain⟨rfl,rfl,rfl,av,ar,au,a,b,off,cap,rfl,ha,ao,ag⟩:=h;obtain⟨k,n,s,args⟩:=x;simp only at av ar au ha ao ag HX ⊢;obtain⟨j5,HA,ac⟩:=fE ag ha ap;have E:J (fK (m+1) ⟨k,n,s,args⟩=(if k=4 then [⟨k,n,s,args⟩]else [])++args.flatMap (fK m)):=rfl;obtain⟨len,ai⟩:∃len,len=args.length:=⟨_,rfl⟩;have HL:=Y ai;rw[<-ai]at ao HA HX ⊢;obtain⟨R,hR⟩:=aV<|fK (m+1) ⟨k,n,s,args⟩;rw[<-hR]at E ac ⊢;obtain⟨C,eT⟩:=sO w<|aY #[O k,O n,A s,X a len cap] 80;have HP:=Y hl.lt;obtain⟨q0,q1,q2,q3⟩:=rY (GD w (O k) (O n) (A s) (X a len cap) 80) (GH w (O k) (O n) (A s) (X a len cap) 80) (GI w (O k) (O n) (A s) (X a len cap) 80)<|Gz w (O k) (O n) (A s) (X a len cap) 80;clear ag ha ap ai hR hl;by_cases U:k=4
  ·have aq:(k==4)=true:=by simp[U]
   rw[aK U]at E;clear U;go_enter func202,ntmps202;go_wp2_with fail;refine(HV _ _ _ _ _ ⟨k,n,s,args⟩ l (S.trans<|C.mono S.size) (HT.trans<|eB.of_below C) (IX.below C) HX (by have N:=ac.out;rw[E]at N;simp only[lZ,bg,JO,axN,gL]at N;omega)).mono ?_;rintro e w1 ⟨rfl,al,am,ak⟩;obtain⟨ae,ad,mX⟩:=fE al ((C.mono S.size).trans am)<|(eB.of_below C).trans ak;replace q3:=(aj (ak.at (by have:=HP.out;omega) eT bM) 3).trans (rfl:_=some (X a len cap));clear al am ak q0 q1 q2;go_wp2_with fail;go_loopw[15] (λi wr=>∃j:Nat,j<=len/\i=O j/\Told wr u.heap.size p ((l++D ⟨k,n,s,args⟩)++((args.take j).flatMap (fK m)).flatMap D)/\Below u.heap.size w wr/\eB p w wr) (λi _=>len - (intOf i).toNat);exact⟨0,bN _,rfl,by simpa using ae.out,ad.out,mX.out⟩
   obtain⟨j,hj,rfl,hto,z,ab⟩:=hrel;obtain⟨H,Z,F⟩:=fE hto z ab;clear hto ab;by_cases ah:j<len
   ·obtain⟨y,B⟩:∃y,args[j]?=some y:=⟨_,aZ (by rw[<-HL];exact ah)⟩;obtain⟨e0,e1,e2,e3,I,K,L,g3,P⟩:=j5 j y B;have HY:=Y B;obtain rfl:=HA bC;have d:=S.trans z;have G:=Y d;replace I:=aG I d;replace K:=aG K d;replace L:=aG L d;replace g3:=aG g3 d;have af:=Y P;obtain⟨r,t,rfl,rfl,rfl,rfl⟩:=P.shape;have gI:J (((l++D ⟨k,n,s,args⟩)++((args.take j).flatMap (fK m)).flatMap D).length+((fK m y).flatMap D).length<=16777216):=Y (by have N:=ac.out;rw[E]at N;have h2:=BO (f:=fK m) (g:=D) (l:=args)<|j+1;rw[jY B,lZ,bg]at h2;simp only[lZ,bg,JO,axN,gL]at N h2 ⊢;omega);have q:=Y<|aH wr<|aY #[O y.kind,O y.n,A y.name,X r y.args.length t] 80;obtain⟨z0,z1,z2,z3⟩:=rY (GD wr (O y.kind) (O y.n) (A y.name) (X r y.args.length t) 80) (GH wr (O y.kind) (O y.n) (A y.name) (X r y.args.length t) 80) (GI wr (O y.kind) (O y.n) (A y.name) (X r y.args.length t) 80)<|Gz wr (O y.kind) (O y.n) (A y.name) (X r y.args.length t) 80;clear P B d z;generalize y.args.length=ny at *;go_wp2_with fail;refine(HI _ _ _ _ _ y _ bC (G.trans<|q.mono G.size) ((HT.trans F).trans (eB.of_below q)) (H.below q) af gI).mono ?_;rintro e w5 ⟨rfl,oN,aa,V⟩;obtain⟨yU,eD,Vh⟩:=fE oN ((Z.trans<|q.mono G.size).trans aa)<|(F.trans<|eB.of_below q).trans V;clear oN aa V z0 z1 z2 z3 I K L g3;go_wp2;go_roundw;exact⟨j+1,by omega,by go_num,by rw[jY HY,lZ,<-iK];exact yU,eD,Vh⟩;exact gV
   ·have wU:(args.take j)=args:=fQ (by have:=HL.out;omega);rw[wU]at H;clear wU z;go_wp2_with fail;go_end0;exact⟨rfl,by rw[E,lZ,<-iK];simpa using H.out,Z.out,F.out⟩
  ·have aq:(k==4)=false:=by simp[U]
   rw[aI U,sP]at E;clear U;obtain⟨ae,ad⟩:=bV (IX.below C)<|C.mono S.size;have mX:J (eB p w _):=Y<|eB.of_below C;go_enter func202,ntmps202;go_wp2_with fail;go_loopw[15] (λi wr=>∃j:Nat,j<=len/\i=O j/\Told wr u.heap.size p (l++((args.take j).flatMap (fK m)).flatMap D)/\Below u.heap.size w wr/\eB p w wr) (λi _=>len - (intOf i).toNat);exact⟨0,bN _,rfl,by simpa using ae.out,ad.out,mX.out⟩
   obtain⟨j,hj,rfl,hto,z,ab⟩:=hrel;obtain⟨H,Z,F⟩:=fE hto z ab;clear hto ab;by_cases ah:j<len
   ·obtain⟨y,B⟩:∃y,args[j]?=some y:=⟨_,aZ (by rw[<-HL];exact ah)⟩;obtain⟨e0,e1,e2,e3,I,K,L,g3,P⟩:=j5 j y B;have HY:=Y B;obtain rfl:=HA bC;have d:=S.trans z;have G:=Y d;replace I:=aG I d;replace K:=aG K d;replace L:=aG L d;replace g3:=aG g3 d;have af:=Y P;obtain⟨r,t,rfl,rfl,rfl,rfl⟩:=P.shape;have gI:J ((l++((args.take j).flatMap (fK m)).flatMap D).length+((fK m y).flatMap D).length<=16777216):=Y (by have N:=ac.out;rw[E]at N;have h2:=BO (f:=fK m) (g:=D) (l:=args)<|j+1;rw[jY B,lZ,bg]at h2;rw[bg];omega);have q:=Y<|aH wr<|aY #[O y.kind,O y.n,A y.name,X r y.args.length t] 80;obtain⟨z0,z1,z2,z3⟩:=rY (GD wr (O y.kind) (O y.n) (A y.name) (X r y.args.length t) 80) (GH wr (O y.kind) (O y.n) (A y.name) (X r y.args.length t) 80) (GI wr (O y.kind) (O y.n) (A y.name) (X r y.args.length t) 80)<|Gz wr (O y.kind) (O y.n) (A y.name) (X r y.args.length t) 80;clear P B d z;generalize y.args.length=ny at *;go_wp2_with fail;refine(HI _ _ _ _ _ y _ bC (G.trans<|q.mono G.size) ((HT.trans F).trans (eB.of_below q)) (H.below q) af gI).mono ?_;rintro e w5 ⟨rfl,oN,aa,V⟩;obtain⟨yU,eD,Vh⟩:=fE oN ((Z.trans<|q.mono G.size).trans aa)<|(F.trans<|eB.of_below q).trans V;clear oN aa V z0 z1 z2 z3 I K L g3;go_wp2;go_roundw;exact⟨j+1,by omega,by go_num,by rw[jY HY,lZ,<-iK];exact yU,eD,Vh⟩;exact gV
   ·have wU:(args.take j)=args:=fQ (by have:=HL.out;omega);rw[wU]at H;clear wU z;go_wp2_with fail;go_end0;exact⟨rfl,by rw[E];exact H,Z,F⟩
def Xt(b W:bI)(m p g:Nat)(q:Array Value)(D:St->List Dg):Prop:=
 ∀(w:bI) (d f h i va j:Value) (s:St) (l:List Dg),bK b w->eB p W w->Told w b.heap.size p l->StC b m [.int .i64 s.kind,.string s.name,d,f,h,i,va,j] s->l.length+(D s).length<=16777216->
  Calls prog g (#[.agg #[.int .i64 s.kind,.string s.name,d,f,h,i,va,j]]++q) w λe w'=>e=.returned (.tuple #[])/\Told w' b.heap.size p (l++D s)/\Below b.heap.size w w'/\eB p w w'
theorem UG(w:bI)(b d f g j m p q:aC)(t:TypeId)(i:Nat)(v:aC)(h:(#[b,d,f,g,j,m,p,q]:Array aC)[i]?=some v):(w.alloc<|.cells #[b,d,f,g,j,m,p,q] t).cell? (aN w.heap.size i)=some v:=
 (aj (bF w<|.cells #[b,d,f,g,j,m,p,q] t) i).trans h
theorem xL(q W:bI)(s p g:Nat)(cb:Array aC)(D:St->List Dg)(eg:∀args w,(callFunc g args).run prog w=.ok (.enter g args) w)(hv:Xt q W s p g cb D)(m:Nat):∀(w:bI) (v:aC) (b:List St) (l:List Dg),m<=s->bK q w->eB p W w->Told w q.heap.size p l->fH q m v b->l.length+((bO.all m b).flatMap D).length<=16777216->aD 152 #[v,.func (.func g) #[] cb] w λe w'=>e=dz (.tuple #[])/\Told w' q.heap.size p (l++(bO.all m b).flatMap D)/\Below q.heap.size w w'/\eB p w w':=by
 induction m with
 | zero=>intro w v b l _ _ _ _ h;exact iU h
 | succ m ih=>
  intro w v body l hM hW hT hl h am;obtain⟨HI,HV,G,F,IX,ac⟩:=vC ih hv hW hT hl am;clear ih hW hv hT;obtain⟨a,b,off,cap,rfl,ha,ay,al⟩:=h;obtain⟨j5,HA⟩:=bV al ha;obtain⟨len,aa⟩:∃len,len=body.length:=⟨_,rfl⟩;have HL:=Y aa;rw[<-aa]at ay HA ⊢;have xV:J (bO.all (m+1) body=body.flatMap (bO.within<|bO.all m)):=rfl;obtain⟨R,hR⟩:=aV<|bO.all (m+1) body;rw[<-hR]at xV ac ⊢;clear al ha am aa hR hl;go_enter func152,ntmps152;go_wp2_with fail;go_loopw[8] (λi wr=>∃j:Nat,j<=len/\i=O j/\Told wr q.heap.size p (l++((body.take j).flatMap (bO.within<|bO.all m)).flatMap D)/\Below q.heap.size w wr/\eB p w wr) (λi _=>len - (intOf i).toNat);exact⟨0,bN _,rfl,by simpa using IX.out,bQ _ _,eB.refl _ _⟩
  obtain⟨j,hj,rfl,hto,u,ap⟩:=hrel;obtain⟨I,fT,E,ad⟩:=lD hto u ap hto.lt;clear hto ap;by_cases az:j<len
  ·obtain⟨y,B⟩:∃y,body[j]?=some y:=⟨_,aZ (by rw[<-HL];exact az)⟩;obtain⟨k1,k2,e0,e1,e2,e3,va,vb,N,P,S,U,V,Z,g6,g7,hx,x,z⟩:=j5 j y B;have HY:=Y B;obtain rfl:=HA bC;have d:=G.trans u;have H:=Y d;replace N:=aG N d;replace P:=aG P d;replace S:=aG S d;replace U:=aG U d;replace V:=aG V d;replace Z:=aG Z d;replace g6:=aG g6 d;replace g7:=aG g7 d;have aq:J (StC q s [O y.kind,A y.name,e0,e1,e2,e3,va,vb] y):=Y ⟨e0,e1,e2,e3,va,vb,rfl,k1,k2,hx.mono s bC,x.mono s bC,z.mono s bC⟩;obtain⟨au,av⟩:=bV x z;have gI:J ((l++((body.take j).flatMap (bO.within<|bO.all m)).flatMap D).length+((D y).length+((bO.all m y.a).flatMap D).length+((bO.all m y.b).flatMap D).length)<=16777216):=Y (by have h1:=ac.out;rw[xV]at h1;have h2:=BO (f:=bO.within<|bO.all m) (g:=D) (l:=body)<|j+1;rw[jY B,lZ,bg]at h2;simp only[bO.within,lZ,bg,JO,axN,gL]at h2;rw[bg];omega);obtain⟨sa,L,rfl⟩:=x.kC;obtain⟨sb,M,rfl⟩:=z.kC;obtain⟨xa,xc,rfl,rfl,rfl,rfl⟩:=hx.shape;generalize y.a.length=na at *;generalize y.b.length=nb at *;generalize y.e.args.length=ne at *;obtain⟨t,eT⟩:=sO wr<|aY #[O y.kind,A y.name,O y.e.kind,O y.e.n,A y.e.name,X xa ne xc,X sa na L,X sb nb M] 107;have r:=UG wr (O y.kind) (A y.name) (O y.e.kind) (O y.e.n) (A y.e.name) (X xa ne xc) (X sa na L) (X sb nb M) 107;obtain⟨z0,z1,z2,z3,z4,z5,z6⟩:=Ng (r 0 _ rfl) (r 1 _ rfl) (r 2 _ rfl) (r 3 _ rfl) (r 4 _ rfl) (r 5 _ rfl) (r 6 _ rfl);have z7:=r 7 _ rfl;clear hx x z B d u r;go_wp2_with fail;refine(HV _ _ _ _ _ _ _ y _ (H.trans<|t.mono H.size) ((F.trans E).trans (eB.of_below t)) (I.below t) aq (by have:=gI.out;omega)).mono ?_;rintro e w5 ⟨rfl,oN,ai,C⟩;obtain⟨yU,eD,Vh⟩:=fE oN ((fT.trans<|t.mono H.size).trans ai)<|(E.trans<|eB.of_below t).trans C;have K:=C.at (by have:=ad.out;omega) eT bM;have R6:=Y K;have y6:=(aj K 6).trans (rfl:_=some (X sa na L));clear oN ai C K z0 z1 z2 z3 z4 z5 z6 z7 N P S U V Z g6 g7;go_wp2_with fail;refine(HI _ _ y.a _ bC (G.trans eD) (F.trans Vh) yU au (by have:=gI.out;rw[bg];omega)).mono ?_;rintro e w6 ⟨rfl,af,ak,ab⟩;obtain⟨aw,fD,ae⟩:=fE af (eD.trans ak)<|Vh.trans ab;have ag:=ab.at (by have:=ad.out;omega) R6 bM;have y7:=(aj ag 7).trans (rfl:_=some (X sb nb M));clear af ak ab ag y6;go_wp2_with fail;refine(HI _ _ y.b _ bC (G.trans fD) (F.trans ae) aw av (by have:=gI.out;rw[bg,bg];omega)).mono ?_;rintro e w7 ⟨rfl,ah,ug,ao⟩;obtain⟨ax,kG,ar⟩:=fE ah (fD.trans ug)<|ae.trans ao;clear ah ug ao y7;go_wp2;go_roundw;exact⟨j+1,by omega,by go_num,by rw[jY HY,bO.within,lZ,lZ,lZ,<-iK,<-iK,<-iK,JO,axN,gL];exact ax,kG,ar⟩;exact gV
  ·have wU:(body.take j)=body:=fQ (by have:=HL.out;omega);rw[wU]at I;clear wU u;go_wp2_with fail;go_end0;exact⟨rfl,by rw[xV];exact I,fT,E⟩
theorem YI(w:bI)(n p q:Nat)(l:List Dg)(z:aC)(names:aJ)(f name:aS)(h:Told w n p l)(H:n<=w.heap.size)(m:l.length+(bO.nQ names f name).length<=16777216)(P:w.cell? (aN q 0)=some z)(y:Strs w z names):aD 151 #[A f,A name,gK q,gK p] w λe w'=>e=dz (.tuple #[])/\Told w' n p (l++bO.nQ names f name)/\Below n w w'/\eB p w w':=by
 obtain⟨D,F⟩:=bV y h;obtain⟨a,b,off,cap,rfl,_⟩:=y;have i:J (bO.nQ names f name=if decide (0<=dU names name)=true then []else [⟨3,f,name⟩]):=rfl;obtain⟨u,v,j,x⟩:=h;have q0:w.cell? (aN p 0)=some v:=by rw[aj j];rfl
 obtain⟨B,C,s,E⟩:=lD u j x<|kS w _ names name D;rw[i]at m;generalize decide (0<=dU names name)=is at *;clear u j x;go_enter func151,ntmps151;go_wp2_with fail;refine E.mono ?_;rintro e w' ⟨rfl,K⟩;subst K;cases is
 ·have N:l.length<16777216:=by simp at m;omega
  clear m
  go_wp2_with (first
   | (at_builtin;refine fG (At:=qU) rfl _ _ 38 52 3 40 _ rfl underlying38 qV bM bM bM n _ _ rfl (s.below<|aH _ _) _ _ [⟨3,f,name⟩] rfl (dA.one _ _ rfl (qU.one (d:=⟨3,f,name⟩) rfl) rfl) (by simp only[iI];omega) (bE H (aH _ _).size) ?_;intro R S r t;obtain⟨L,M,I⟩:=r.form;subst I;have g:=Y<|Told.push B C s r t;have U:=(aj g.1 0).trans (show _=some v from rfl);have V:=aF g.1 0;clear r t)
   | fail)
  go_end0;have G:(l++[(⟨3,f,name⟩:Dg)]).length=l.length+1:=by simp
  rw[G]at g;exact⟨rfl,by rw[i];exact g.2.1,g.2.2⟩
 ·go_wp2_with fail;go_end0;exact⟨rfl,by rw[i];simpa using F.out,bQ _ _,eB.refl _ _⟩
namespace bO
def Av(names:List aS)(b:aS)(s:St):List Dg:=if s.kind=4 then nQ names b s.name else []
theorem adD(names:aJ)(b name:aS):(nQ names b name).length<=1:=by unfold nQ;split<;>simp
theorem adu(names:aJ)(b:aS)(s:St):(Av names b s).length<=1:=by
 unfold Av;split;·exact adD _ _ _
 ·simp
end bO
theorem adv(m W:bI)(M p q r g:Nat)(F:aC)(names:aJ)(d:aS)(I U:Array aC)(K:Strs m F names)(P:dR W q (.cells U 25 (0,0)))(R:U[0]?=some F)(S:dR W r (aY #[.func (.func 151) #[] #[gK q,gK p]] 229))(hf:dR W g (.cells I 82 (0,0)))(N:I[0]?=some (A d))(ad:q≠p)(ae:r≠p)(ab:g≠p):Xt m W M p 153 #[gK r,gK g] (Av names d):=by
 intro w t u x y va E s l z h B af C;have b:=Y<|aH w<|aY #[O s.kind,A s.name,t,u,x,y,va,E] 107;have D:=UG w (O s.kind) (A s.name) t u x y va E 107;obtain⟨z0,z1,ac⟩:=lS (D 0 _ rfl) (D 1 _ rfl) (aG ((aj (h.at ad P bM) 0).trans R) b);obtain⟨Z,Mv,H,j,ag⟩:=uh ac ((K.below z).below b) (B.below b) z B;obtain⟨ai,ah⟩:=eY (aG ((aj (h.at ae S bM) 0).trans rfl) b) (aG ((aj (h.at ab hf bM) 0).trans N) b);clear D P R S hf N K af B h z;show aD 153 #[.agg #[O s.kind,A s.name,t,u,x,y,va,E],gK r,gK g] w _;by_cases f:s.kind=4
 ·have aa:(s.kind==4)=true:=by simp[f]
  have i:J (Av names d s=bO.nQ names d s.name):=Y (by unfold Av;rw[aK f]);rw[i]at C ⊢;have jP:=Y C;clear f C;go_enter func153,ntmps153;go_wp2_with fail;refine(YI _ m.heap.size p q l F names d s.name H (bE j.out.size b.size) jP Z Mv).mono ?_;rintro e w5 ⟨rfl,V,L,G⟩;obtain⟨yU,eD⟩:=bV V<|(b.mono j.size).trans L;have Vh:J (eB p w w5):=Y<|(eB.of_below b).trans G;clear V L G;go_wp2;go_end0;exact⟨rfl,yU,eD,Vh⟩
 ·have aa:(s.kind==4)=false:=by simp[f]
  have i:J (Av names d s=[]):=Y (by unfold Av;rw[aI f]);clear f;go_enter func153,ntmps153;go_wp2_with fail;go_end0;exact⟨rfl,by rw[i,gL];exact H,b.mono j.size,eB.of_below b⟩
namespace bO
def lvD(names:List aS)(x:Mo)(m:Nat):List Dg:=(x.vars.flatMap λv=>nQ names ⟨#[]⟩ v.level)++x.bq.flatMap λf=>(all m f.body).flatMap (Av names f.name)
end bO
theorem al4(w:bI)(a b c d:Obj):((((w.alloc a).alloc b).alloc c).alloc d).heap[w.heap.size]?=some a/\((((w.alloc a).alloc b).alloc c).alloc d).heap[w.heap.size+1]?=some b/\((((w.alloc a).alloc b).alloc c).alloc d).heap[w.heap.size+1+1]?=some c/\((((w.alloc a).alloc b).alloc c).alloc d).heap[w.heap.size+1+1+1]?=some d/\bK w ((((w.alloc a).alloc b).alloc c).alloc d):=by
 obtain⟨i,f,g,h⟩:=rY (bF w a) (bF (w.alloc a) b) (bF ((w.alloc a).alloc b) c)<|bF (((w.alloc a).alloc b).alloc c) d;simp only[oh]at f g h;refine⟨?_,?_,?_,h,up (up (up (aH _ _)<|aH _ _)<|aH _ _)<|aH _ _⟩;·rw[(aH _ d).block _ (by simp;omega),(aH _ c).block _ (by simp;omega),(aH _ b).block _ cK];exact i
 ·rw[(aH _ d).block _ cK,(aH _ c).block _ cK];exact f
 ·rw[(aH _ d).block _ cK];exact g
theorem adC(m:Nat)(w:bI)(vn vl vi vv vf:aC)(names:aJ)(x:Mo)(hN:Strs w vn names)(h:jl w m (.agg #[A x.name,vi,vv,vf]) x)(ao:(lvD names x m).length<=16777216):aD 104 #[.agg #[vn,vl],.agg #[A x.name,vi,vv,vf]] w λe w'=>∃u,e=dz u/\dA qU w' w.heap.size 52 3 u (lvD names x m)/\bK w w':=by
 obtain⟨hI,hV,hF⟩:=h.split;have HN:=Y hN;obtain⟨an,bn,on,cn,rfl,-⟩:=hN;obtain⟨ai,bi,oi,ci,rfl,-⟩:=hI;obtain⟨S,bv,ov,cv,rfl,ah,ar,am⟩:=hV;obtain⟨P,bf,of,Z,rfl,RD,aq,al⟩:=hF;obtain⟨ag,G⟩:=bV am ah;have VR:J (H9 w m bf of x.bq):=al;have L:=Y RD;have s:J (lvD names x m=(x.vars.flatMap λv=>bO.nQ names ⟨#[]⟩ v.level)++x.bq.flatMap λf=>(bO.all m f.body).flatMap (Av names f.name)):=rfl;have jP:=Y ao;obtain⟨R,hR⟩:=aV<|lvD names x m;rw[<-hR]at s jP ⊢;obtain⟨vars,aw⟩:=aV x.vars;obtain⟨bq,R7⟩:=aV x.bq;rw[<-aw]at ar ag G s ⊢;rw[<-R7]at aq VR L s ⊢;obtain⟨nv,F⟩:=aV vars.length;obtain⟨nf,ab⟩:=aV bq.length;obtain⟨R8,yM⟩:=bV F ab;rw[<-F]at ar G ⊢;rw[<-ab]at aq L ⊢;generalize x.imports.length=ni at *;generalize names.length=nn at *;generalize x.name=xn at *;obtain⟨b0,U,b2,b3,ak⟩:=al4 w (aY #[X an nn cn,vl] 25) (aY #[A xn,X ai ni ci,X S nv cv,X P nf Z] 47) (aY #[aU] 38)<|aY #[.func (.func 151) #[] #[gK w.heap.size,gK<|w.heap.size+1+1]] 229;obtain⟨ad,ax,ae,Fy⟩:=lD b0 U b3 ak;have a2:=(aj U 2).trans (rfl:_=some (X S nv cv));have IX:J (Told _ w.heap.size (w.heap.size+1+1) []):=Y ⟨by omega,_,b2,dA.nil _ _ _ _⟩;clear am ah al RD ao hR aw R7 F ab h b0 U b2 b3 ak;go_enter func104,ntmps104;go_wp2_with fail;generalize ((((w.alloc<|aY #[X an nn cn,vl] 25).alloc (aY #[A xn,X ai ni ci,X S nv cv,X P nf Z] 47)).alloc (aY #[aU] 38)).alloc (aY #[.func (.func 151) #[] #[gK w.heap.size,gK<|w.heap.size+1+1]] 229))=W1 at *;clear a2;go_loopw[15] (λi wr=>∃j:Nat,j<=nv/\i=O j/\Told wr w.heap.size (w.heap.size+1+1) ((vars.take j).flatMap λv=>bO.nQ names ⟨#[]⟩ v.level)/\bK w wr/\eB (w.heap.size+1+1) W1 wr) (λi _=>nv - (intOf i).toNat);exact⟨0,bN _,rfl,by simpa using IX.out,Fy.out,eB.refl _ _⟩
 obtain⟨j,hj,rfl,hto,b,g⟩:=hrel;obtain⟨N,E,GL⟩:=fE hto b g;by_cases a1:j<nv
 ·obtain⟨y,p⟩:∃y,vars[j]?=some y:=⟨_,aZ (by rw[<-R8];exact a1)⟩;obtain⟨-,-,q,r⟩:=ag j y p;obtain rfl:=G bC;replace q:=aG q b;replace r:=aG r b;obtain⟨I,d⟩:=bV p<|aH wr<|aY #[A y.name,A y.level] 75;have c1:=(aj (bF wr<|aY #[A y.name,A y.level] 75) 1).trans (rfl:_=some (A y.level));obtain⟨c3,V⟩:=eY (aG ((aj (g.at bC ae bM) 0).trans rfl) d) (aG ((aj (g.at bC ad bM) 0).trans (rfl:_=some (X an nn cn))) d);have Vi:=Y V;have gI:J (((vars.take j).flatMap λv=>bO.nQ names ⟨#[]⟩ v.level).length+(bO.nQ names ⟨#[]⟩ y.level).length<=16777216):=Y (by have h1:=wO (f:=λv:Va=>bO.nQ names ⟨#[]⟩ v.level) (l:=vars)<|j+1;rw[jY p,bg]at h1;have h2:=jP.out;rw[s,bg]at h2;omega);clear hto b g p V;go_wp2_with fail;refine(YI _ w.heap.size (w.heap.size+1+1) w.heap.size _ _ names ⟨#[]⟩ y.level (N.below d) (bE E.out.size d.size) gI Vi<|HN.below<|up E d).mono ?_;rintro e w5 ⟨rfl,C,B,z⟩;obtain⟨yU,fD,H⟩:=fE C ((up E d).trans B)<|(GL.trans<|eB.of_below d).trans z;clear C B z q r c1 c3;go_wp2;go_roundw;exact⟨j+1,by omega,by go_num,by rw[jY I];exact yU,fD,H⟩;exact gV
 ·have D:(vars.take j)=vars:=fQ (by have:=R8.out;omega);rw[D]at N;have a5:=(aj (g.at bC ax bM) 3).trans (rfl:_=some (X P nf Z));clear D b g hto;generalize a4:(vars.flatMap λv=>bO.nQ names ⟨#[]⟩ v.level)=F1 at *;go_wp2_with fail;go_loopw[27] (λi wx=>∃j:Nat,j<=nf/\i=O j/\Told wx w.heap.size (w.heap.size+1+1) (F1++(bq.take j).flatMap λf=>(bO.all m f.body).flatMap (Av names f.name))/\bK w wx/\eB (w.heap.size+1+1) W1 wx) (λi _=>nf - (intOf i).toNat);exact⟨0,bN _,rfl,by simpa using N.out,E.out,GL.out⟩
  obtain⟨t,ht,rfl,hto,b,g⟩:=hrel;obtain⟨aE,M,a0⟩:=fE hto b g;by_cases O6:t<nf
  ·obtain⟨y,p⟩:∃y,bq[t]?=some y:=⟨_,aZ (by rw[<-yM];exact O6)⟩;obtain⟨-,vp,vb,e0,e1,e2,e3,q,r,g2,g3,g4,g5,g6,hp,hb,hx⟩:=VR t y p;obtain rfl:=L bC;obtain⟨I,az⟩:=bV p hb;replace q:=aG q b;replace r:=aG r b;replace g2:=aG g2 b;replace g3:=aG g3 b;replace g4:=aG g4 b;replace g5:=aG g5 b;replace g6:=aG g6 b;obtain⟨ap,bp,op,cp,rfl,-⟩:=hp;obtain⟨sb,W,rfl⟩:=hb.kC;obtain⟨xa,xc,rfl,rfl,rfl,rfl⟩:=hx.shape;generalize y.params.length=np at *;generalize y.body.length=nb at *;generalize y.result.args.length=ne at *;have d:=Y<|aH wr<|aY #[A y.name,X ap np cp,X sb nb W,O y.result.kind,O y.result.n,A y.result.name,X xa ne xc] 82;have aa:=bF wr<|aY #[A y.name,X ap np cp,X sb nb W,O y.result.kind,O y.result.n,A y.result.name,X xa ne xc] 82;obtain⟨c2,a3,K⟩:=lS ((aj aa 2).trans (rfl:_=some (X sb nb W))) hto.lt (g.trans<|eB.of_below d);have aA:=Y<|adv w _ m (w.heap.size+1+1) w.heap.size (w.heap.size+1+1+1) wr.heap.size _ names y.name _ _ HN (K.at bC ad bM) rfl (K.at bC ae bM) aa rfl bC bC bC;have gI:J ((F1++(bq.take t).flatMap λf=>(bO.all m f.body).flatMap (Av names f.name)).length+((bO.all m y.body).flatMap (Av names y.name)).length<=16777216):=Y (by have h1:=wO (f:=λf:Fu=>(bO.all m f.body).flatMap (Av names f.name)) (l:=bq)<|t+1;rw[jY p,bg]at h1;have h2:=jP.out;rw[s,bg]at h2;rw[bg];omega);clear hto b g p hb hx K aa;go_wp2_with fail;refine(xL w _ m (w.heap.size+1+1) 153 _ _ (enters_of func153 dw rfl) aA m _ _ y.body _ (bG _) (up M d) (eB.refl _ _) (aE.below d) az gI).mono ?_;rintro e w5 ⟨rfl,C,B,z⟩;obtain⟨yU,fD,H⟩:=fE C ((up M d).trans B)<|(a0.trans<|eB.of_below d).trans z;clear C B z q r g2 g3 g4 g5 g6 c2;go_wp2;go_roundw;exact⟨t+1,by omega,by go_num,by rw[jY I,<-iK];exact yU,fD,H⟩;exact gV
  ·have D:(bq.take t)=bq:=fQ (by have:=yM.out;omega);rw[D,<-s]at hto;obtain⟨-,v,au,ac⟩:=hto;have ay:=Y ac;have V:=(aj au 0).trans (rfl:_=some v);obtain⟨a9,c9,rfl⟩:=ac.form;clear au ac D g b;go_wp2;go_ret;exact⟨_,rfl,ay,M⟩
theorem VT.up{d W f:bI}{b p g:Nat}{i:Array aC}{D:Ex->List Dg}(h:VT d W b p g i D)(B:eB p W f):VT d f b p g i D:=
 λw j m q r y l s t u x z=>h w j m q r y l s (B.trans t) u x z
theorem am1(i W:bI)(d p g r:Nat)(j:Array aC)(D:Ex->List Dg)(C:∀args w,(callFunc g args).run prog w=.ok (.enter g args) w)(L:VT i W d p g j D)(K:dR W r (aY #[.func (.func g) #[] j] 234))(aa:r≠p):Xt i W d p 201 #[gK r] (λs=>(fK d s.e).flatMap D):=by intro w x y z B va t s l E m H ab I;have b:=Y<|aH w<|aY #[O s.kind,A s.name,x,y,z,B,va,t] 107;have f:=UG w (O s.kind) (A s.name) x y z B va t 107;obtain⟨U,h,P,R,jP⟩:=uh (H.below b) E m L I;obtain⟨z2,z3,z4,z5⟩:=rY (f 2 _ rfl) (f 3 _ rfl) (f 4 _ rfl) (f 5 _ rfl);have ac:=aG ((aj (m.at aa K bM) 0).trans rfl) b;obtain⟨f0,f1,f2,f3,fa,fb,G,-,-,q,-,-⟩:=ab;simp only[R9,and_true,true_and]at G;obtain⟨rfl,rfl,rfl,rfl,rfl,rfl⟩:=G;have S:=Y q;obtain⟨xa,xc,rfl,rfl,rfl,rfl⟩:=q.shape;generalize s.e.args.length=ne at *;have N:=Y C;clear f K H m E L I q C;show aD 201 #[.agg #[O s.kind,A s.name,O s.e.kind,O s.e.n,A s.e.name,X xa ne xc,va,t],gK r] w _;go_enter func201,ntmps201;go_wp2_with fail;refine(GU i W d p g j D N R d _ _ _ _ _ s.e l (bG _) (h.trans<|b.mono h.size) (P.trans<|eB.of_below b) U S jP).mono ?_;rintro e w5 ⟨rfl,M,F,u⟩;obtain⟨yU,Z⟩:=bV M<|(b.mono h.size).trans F;have V:J (eB p w w5):=Y<|(eB.of_below b).trans u;clear M F u;go_wp2;go_end0;exact⟨rfl,yU,Z,V⟩
namespace bO
def mZ(m:Nat)(f:Fu):List Ex:=((all m f.body).flatMap λs=>fK m s.e)++fK m f.result
end bO
theorem al2(w:bI)(a b:Obj):((w.alloc a).alloc b).heap[w.heap.size]?=some a/\((w.alloc a).alloc b).heap[w.heap.size+1]?=some b/\bK w ((w.alloc a).alloc b):=by have f:=bF w a;have d:=bF (w.alloc a) b;simp only[oh]at d;refine⟨?_,d,up (aH _ _)<|aH _ _⟩;rw[(aH _ b).block _ cK];exact f
theorem amY(d W:bI)(b p g:Nat)(h:Array aC)(D:Ex->List Dg)(B:∀args w,(callFunc g args).run prog w=.ok (.enter g args) w)(G:VT d W b p g h D)(w:bI)(C:aS)(M vb e0 e1 e2 e3:aC)(f:Fu)(l:List Dg)(hW:bK d w)(r:eB p W w)(t:Told w d.heap.size p l)(E:fH d b vb f.body)(H:iH d b e0 e1 e2 e3 f.result)(F:l.length+((mZ b f).flatMap D).length<=16777216):aD 154 #[.agg #[A C,M,vb,e0,e1,e2,e3],.func (.func g) #[] h] w λe w'=>e=dz (.tuple #[])/\Told w' d.heap.size p (l++(mZ b f).flatMap D)/\Below d.heap.size w w'/\eB p w w':=by have HX:=Y H;have ah:=Y E;obtain⟨L,z,rfl⟩:=E.kC;obtain⟨N,P,rfl,rfl,rfl,rfl⟩:=H.shape;generalize f.body.length=I at *;generalize f.result.args.length=K at *;obtain⟨x,y,j⟩:=al2 w (aY #[A C,M,X L I z,O f.result.kind,O f.result.n,A f.result.name,X N K P] 82)<|aY #[.func (.func g) #[] h] 234;obtain⟨ae,af,u,S,q,HT⟩:=vC x y j t.lt hW r;obtain⟨IX,EG,HV,HS⟩:=lD (t.below j) B (G.up<|r.trans<|eB.of_below j) (am1 d _ b p g (w.heap.size+1) h D B (G.up<|r.trans<|eB.of_below j) y (by have:=t.lt;omega));have R:J ((mZ b f).flatMap D=((bO.all b f.body).flatMap λs=>(fK b s.e).flatMap D)++(fK b f.result).flatMap D):=Y (by unfold mZ;rw[lZ,List.flatMap_assoc]);rw[R,bg]at F;have jP:=Y F;have q2:=(aj x 2).trans (rfl:_=some (X L I z));clear H E x y j t hW r B G F;go_enter func154,ntmps154;go_wp2_with fail;generalize ((w.alloc<|aY #[A C,M,X L I z,O f.result.kind,O f.result.n,A f.result.name,X N K P] 82).alloc (aY #[.func (.func g) #[] h] 234))=Z at *;refine(xL d Z b p 201 _ _ (enters_of func201 dw rfl) HS b _ _ f.body l (bG _) (q.trans<|u.mono q.size) (eB.refl _ _) IX ah (by have:=jP.out;omega)).mono ?_;rintro e w5 ⟨rfl,oN,ab,m⟩;obtain⟨yU,eD,V⟩:=fE oN ((u.mono q.size).trans ab) m;obtain⟨i,U⟩:=eY (m.at (by have:=S.out;omega) ae bM) (m.at (by have:=S.out;omega) af bM);obtain⟨k3,k4,k5,k6⟩:=rY ((aj i 3).trans (rfl:_=some (O f.result.kind))) ((aj i 4).trans (rfl:_=some (O f.result.n))) ((aj i 5).trans (rfl:_=some (A f.result.name))) ((aj i 6).trans (rfl:_=some (X N K P)));have k7:=(aj U 0).trans (rfl:_=some (Value.func (.func g) #[] h));clear oN ab m i U q2;go_wp2_with fail;refine(GU d Z b p g h D EG HV b _ _ _ _ _ f.result _ (bG _) (q.trans eD) V yU HX (by have:=jP.out;rw[bg];omega)).mono ?_;rintro e w6 ⟨rfl,aa,ac,ad⟩;obtain⟨ai,fD⟩:=bV aa<|eD.trans ac;have ag:J (eB p w w6):=Y<|((eB.of_below u).trans V).trans ad;clear aa ac ad;go_wp2;go_end0;exact⟨rfl,by rw[R,<-iK];exact ai,fD,ag⟩
namespace bO
def clE(x:Mo)(known:List Mo)(k:Nat)(b:aS)(y:Ex):List Dg:=if code x known k y.name y.args.length=0 then []else [⟨code x known k y.name y.args.length,b,y.name⟩]
end bO
theorem aat(N W:bI)(m p G F E:Nat)(x:Mo)(known:List Mo)(I L H K va:aC)(k:Nat)(g:aS)(cf:Array aC)(B:ScV N m x known I L H K va)(hk:k<=x.bq.length)(hs:dR W G (aY #[A x.name,I,L,H,K,va] 169))(ad:dR W F (aY #[O k] 3))(ac:dR W E (.cells cf 82 (0,0)))(ab:cf[0]?=some (A g))(ap:G≠p)(am:F≠p)(al:E≠p):VT N W m p 155 #[gK G,gK F,gK p,gK E] (clE x known k g):=by
 intro w c0 c1 c2 c3 y l h D R P C;have RH:=Y P;obtain⟨t,u,rfl,rfl,rfl,rfl⟩:=P.shape;obtain⟨b,ar⟩:=sO w<|aY #[O y.kind,O y.n,A y.name,X t y.args.length u] 80;obtain⟨s1,s2,s3⟩:=lS (D.at ap hs bM) (D.at am ad bM)<|D.at al ac bM;obtain⟨u0,u1,u2⟩:=lS (aG ((aj s1 0).trans (rfl:_=some (A x.name))) b) (aG ((aj s1 1).trans (rfl:_=some I)) b) (aG ((aj s1 2).trans (rfl:_=some L)) b);have YH:=aG ((aj s1 3).trans (rfl:_=some H)) b;have ae:=aG ((aj s1 4).trans (rfl:_=some K)) b;have uK:=Y<|(aj s3 0).trans ab;obtain⟨u5,u6,V,z1⟩:=rY (aG ((aj s1 5).trans (rfl:_=some va)) b) (aG ((aj s2 0).trans (rfl:_=some (O k))) b) (GD w (O y.kind) (O y.n) (A y.name) (X t y.args.length u) 80) (GH w (O y.kind) (O y.n) (A y.name) (X t y.args.length u) 80);obtain⟨Z,z3⟩:=eY (GI w (O y.kind) (O y.n) (A y.name) (X t y.args.length u) 80)<|Gz w (O y.kind) (O y.n) (A y.name) (X t y.args.length u) 80;obtain⟨ag,M,IX,ng⟩:=lD Z h R<|ak1 m m _ x known I L H K va k _ _ _ _ y (B.below<|h.trans<|b.mono h.size) hk<|RH.below<|h.trans<|b.mono h.size;have z:J (clE x known k g y=if bO.code x known k y.name y.args.length=0 then []else [⟨bO.code x known k y.name y.args.length,g,y.name⟩]):=rfl;rw[z]at C;generalize bO.code x known k y.name y.args.length=j at *;obtain⟨hI,hV,hF⟩:=B.mo.split;obtain⟨hK,hA⟩:=eY B.kn B.ats;obtain⟨ai,bi,oi,ci,rfl,-⟩:=hI;obtain⟨av,bv,ov,cv,rfl,-⟩:=hV;obtain⟨af,bf,of,au,rfl,-⟩:=hF;obtain⟨ak,bk,ok,ck,rfl,-⟩:=hK;obtain⟨aa,ba,oa,ca,rfl,-⟩:=hA;generalize (x.imports.map λs=>oI<|dQ known s).length=ax at *;generalize x.imports.length=ni at *;generalize x.vars.length=nv at *;generalize x.bq.length=nf at *;generalize known.length=nk at *;generalize y.args.length=na at *;clear hs ad ac ab s1 s2 s3 P D B;show aD 155 #[.agg #[O y.kind,O y.n,A y.name,X t na u],gK G,gK F,gK p,gK E] w _;by_cases q:j=0
 ·have ah:(j==0)=true:=by simp[q]
  rw[aK q]at z;clear q R h C;go_enter func155,ntmps155;go_wp2_with fail;refine ng.mono ?_;rintro e w5 ⟨rfl,r⟩;have f:=Y<|up b r;clear r V z1 Z z3 u0 u1 u2 YH ae u5 u6;go_wp2_with fail;go_end0;exact⟨rfl,by rw[z,gL];exact IX.below f,f.mono M.size,eB.of_below f⟩
 ·have ah:(j==0)=false:=by simp[q]
  rw[aI q]at z C;clear q R h;have aw:l.length<16777216:=by simp at C;omega
  clear C;go_enter func155,ntmps155;go_wp2_with fail;refine ng.mono ?_;rintro e w5 ⟨rfl,r⟩;have f:=Y<|up b r;have oN:=IX.below f;obtain⟨t0,v,U,t2⟩:=oN;have q0:w5.cell? (aN p 0)=some v:=by rw[aj U];rfl
  obtain⟨H0,H1,H2⟩:=fE t0 U t2;obtain⟨y2,f0,JR⟩:=lS (aG ag r) (aG uK f)<|bE M.out.size f.size;clear r V z1 Z z3 u0 u1 u2 YH ae u5 u6 t0 U t2
  go_wp2_with (first
   | (at_builtin;refine fG (At:=qU) rfl _ _ 38 52 3 40 _ rfl underlying38 qV bM bM bM N.heap.size _ _ rfl (H2.below<|aH _ _) _ _ [⟨j,g,y.name⟩] rfl (dA.one _ _ rfl (qU.one (d:=⟨j,g,y.name⟩) rfl) rfl) (by simp only[iI];omega) (bE JR (aH _ _).size) ?_;intro v6 w6 S dX;obtain⟨a6,c6,aq⟩:=S.form;subst aq;have i:=Y<|Told.push H0 H1 H2 S dX;have V:=(aj i.1 0).trans (show _=some v from rfl);have zf:=aF i.1 0;clear S dX)
   | fail)
  go_end0;have ao:(l++[(⟨j,g,y.name⟩:Dg)]).length=l.length+1:=by simp
  rw[ao]at i;exact⟨rfl,by rw[z];exact i.2.1,(f.mono M.size).trans i.2.2.1,(eB.of_below f).trans i.2.2.2⟩
namespace bO
def upto(g:Nat->List Dg)(n:Nat):List Dg:=(List.range n).flatMap g
theorem jK(g:Nat->List Dg)(n:Nat):upto g (n+1)=upto g n++g n:=by unfold upto;rw[Ji,lZ];simp
theorem Np(g:Nat->List Dg):upto g 0=[]:=rfl
theorem O8 (g : Nat → List Dg) {j n : Nat} (h : j ≤ n) : (upto g j).length ≤ (upto g n).length := by
 induction n with
 | zero =>
  have : j = 0 := by omega
  subst this; exact Nat.le_refl _
 | succ n b =>
  by_cases e : j = n + 1
  ·subst e; exact Nat.le_refl _
  ·rw [jK, List.length_append]; have := b (by omega); omega
theorem adx{g:Nat->List Dg}{n:Nat}{d:Dg}:d∈upto g n↔∃i,i<n/\d∈g i:=by unfold upto;simp
def atD{α:Type}(l:List α)(f:Nat->α->List Dg)(i:Nat):List Dg:=match l[i]? with
 | some x=>f i x
 | none=>[]
theorem sQ{α:Type}{l:List α}{f:Nat->α->List Dg}{i:Nat}{x:α}(h:l[i]?=some x):atD l f i=f i x:=by unfold atD;rw[h]
def clD(x:Mo)(known:List Mo)(m:Nat):List Dg:=upto (atD x.bq λk f=>(mZ m f).flatMap (clE x known k f.name)) x.bq.length
def imD(x:Mo)(known:List Mo):List Dg:=upto (atD x.imports λ_ s=>if (cB s x.name||(dQ known s).isNone)=true then [⟨1,⟨#[]⟩,s⟩]else []) x.imports.length
end bO
theorem ak0(m:Nat)(w:bI)(x:Mo)(known:List Mo)(vi vv vf vk va:aC)(h:ScV w m x known vi vv vf vk va)(hlen:(clD x known m).length<=16777216):aD 105 #[.agg #[A x.name,vi,vv,vf,vk,va]] w λe w'=>∃u,e=dz u/\dA qU w' w.heap.size 52 3 u (clD x known m)/\bK w w':=by
 have HS:=Y h;obtain⟨hI,hV,hF⟩:=h.mo.split;obtain⟨hK,hA⟩:=eY h.kn h.ats;obtain⟨ai,bi,oi,ci,rfl,-⟩:=hI;obtain⟨av,bv,ov,cv,rfl,-⟩:=hV;obtain⟨af,bf,of,cf,rfl,RD,hlf,hcf⟩:=hF;obtain⟨ak,bk,ok,ck,rfl,-⟩:=hK;obtain⟨aa,ba,oa,ca,rfl,-⟩:=hA;have VR:J (H9 w m bf of x.bq):=hcf;have QY:=Y RD;obtain⟨G,hG⟩:=aV (atD x.bq λk f=>(mZ m f).flatMap (clE x known k f.name));have HG:=Y hG;have LZ:J (clD x known m=bO.upto G x.bq.length):=Y (by rw[hG];rfl);have jP:=Y hlen;rw[LZ]at jP ⊢;obtain⟨nf,hnf⟩:=aV x.bq.length;have yM:=Y hnf;rw[<-hnf]at hlf QY jP HS ⊢;generalize (x.imports.map λs=>oI (dQ known s)).length=nat at *;generalize x.imports.length=ni at *;generalize x.vars.length=nv at *;generalize known.length=nk at *;obtain⟨b0,b1,hb0⟩:=al2 w (aY #[A x.name,X ai ni ci,X av nv cv,X af nf cf,X ak nk ck,X aa nat ca] 169) (aY #[aU] 38);obtain⟨HB0,Fy⟩:=bV b0 hb0;have q3:=(aj b0 3).trans (rfl:_=some (X af nf cf));have IX:J (Told _ w.heap.size (w.heap.size+1) []):=Y ⟨by omega,_,b1,dA.nil _ _ _ _⟩;clear hcf RD hlen hG hnf h b0 b1 hb0;go_enter func105,ntmps105;go_wp2_with fail;generalize ((w.alloc (aY #[A x.name,X ai ni ci,X av nv cv,X af nf cf,X ak nk ck,X aa nat ca] 169)).alloc (aY #[aU] 38))=W1 at *;clear q3;go_loopw[10] (λi wr=>∃j:Nat,j<=nf/\i=O j/\Told wr w.heap.size (w.heap.size+1) (bO.upto G j)/\bK w wr/\eB (w.heap.size+1) W1 wr) (λi _=>nf - (intOf i).toNat);exact⟨0,bN _,rfl,IX,Fy,eB.refl _ _⟩
 obtain⟨t,ht,rfl,hto,hnx,htl⟩:=hrel;obtain⟨akf,VU,akg⟩:=fE hto hnx htl;by_cases O6:t<nf
 ·obtain⟨y,hy⟩:∃y,x.bq[t]?=some y:=⟨_,aZ (by rw[<-yM];exact O6)⟩;obtain⟨-,vp,vb,e0,e1,e2,e3,g0,g1,g2,g3,g4,g5,g6,hp,hb,hx⟩:=VR t y hy;obtain rfl:=QY bC;have HY:J (G t=(mZ m y).flatMap (clE x known t y.name)):=Y (by rw[HG];exact sQ hy);obtain⟨HVB,HVX⟩:=bV hb hx;replace g0:=aG g0 hnx;replace g1:=aG g1 hnx;replace g2:=aG g2 hnx;replace g3:=aG g3 hnx;replace g4:=aG g4 hnx;replace g5:=aG g5 hnx;replace g6:=aG g6 hnx;obtain⟨ap,bp,op,cp,rfl,-⟩:=hp;obtain⟨sb,cb',rfl⟩:=hb.kC;obtain⟨xa,xc,rfl,rfl,rfl,rfl⟩:=hx.shape;generalize y.params.length=np at *;generalize y.body.length=nb at *;generalize y.result.args.length=ne at *;obtain⟨c0,c1,hb5⟩:=al2 wr (aY #[O t] 3) (aY #[A y.name,X ap np cp,X sb nb cb',O y.result.kind,O y.result.n,A y.result.name,X xa ne xc] 82);have eD:=Y hb5;obtain⟨d0,d1,d2,d3,d4,d5,d6⟩:=Ng ((aj c1 0).trans (rfl:_=some (A y.name))) ((aj c1 1).trans (rfl:_=some (X ap np cp))) ((aj c1 2).trans (rfl:_=some (X sb nb cb'))) ((aj c1 3).trans (rfl:_=some (O y.result.kind))) ((aj c1 4).trans (rfl:_=some (O y.result.n))) ((aj c1 5).trans (rfl:_=some (A y.result.name))) ((aj c1 6).trans (rfl:_=some (X xa ne xc)));obtain⟨ag6,Q0⟩:=eY hto.lt (htl.trans (eB.of_below hb5));have HVI:=Y (aat w _ m (w.heap.size+1) w.heap.size wr.heap.size (wr.heap.size+1) x known _ _ _ _ _ t y.name _ HS (by rw[<-yM];exact ht) (Q0.at bC HB0 bM) c0 c1 rfl bC bC bC);have gI:J ((bO.upto G t).length+((mZ m y).flatMap (clE x known t y.name)).length<=16777216):=Y (by have h1:=O8 G (show t+1<=nf by omega);rw[jK,bg,HY]at h1;have h2:=jP.out;omega);clear hto hnx htl hy hb hx Q0 c0 c1 hb5;go_wp2_with fail;refine(amY w _ m (w.heap.size+1) 155 _ _ (enters_of func155 dw rfl) HVI _ y.name _ _ _ _ _ _ y _ (up VU eD) (eB.refl _ _) (akf.below eD) HVB HVX gI).mono ?_;rintro e w5 ⟨rfl,oN,hb5,Dz⟩;obtain⟨yU,fD,HT6⟩:=fE oN ((up VU eD).trans hb5) ((akg.trans (eB.of_below eD)).trans Dz);clear oN hb5 Dz g0 g1 g2 g3 g4 g5 g6 d0 d1 d2 d3 d4 d5 d6;go_wp2;go_roundw;exact⟨t+1,by omega,by go_num,by rw[jK,HY];exact yU,fD,HT6⟩;exact gV
 ·have wU:t=nf:=by omega
  rw[wU]at hto;obtain⟨-,v,hv1,hv2⟩:=hto;have HV2:=Y hv2;have c0:=(aj hv1 0).trans (rfl:_=some v);obtain⟨a9,c9,rfl⟩:=hv2.form;generalize (bO.upto G nf).length=nu at *;clear hv1 hv2 wU htl hnx;go_wp2;go_ret;exact⟨_,rfl,HV2,VU⟩
theorem agH(m:Nat)(w:bI)(x:Mo)(known:List Mo)(vi vv vf vk va:aC)(h:ScV w m x known vi vv vf vk va)(hlen:(imD x known).length<=16777216):aD 102 #[.agg #[A x.name,vi,vv,vf,vk,va]] w λe w'=>∃u,e=dz u/\dA qU w' w.heap.size 52 3 u (imD x known)/\bK w w':=by
 obtain⟨hI,hV,hF⟩:=h.mo.split;obtain⟨hK,hA⟩:=eY h.kn h.ats;obtain⟨ai,bi,oi,ci,rfl,hai,hli,hcs,hci⟩:=hI;obtain⟨av,bv,ov,cv,rfl,-⟩:=hV;obtain⟨af,bf,of,cf,rfl,-⟩:=hF;obtain⟨ak,bk,ok,ck,rfl,-⟩:=hK;obtain⟨aa,ba,oa,ca,rfl,haa,hla,hca⟩:=hA;obtain⟨HCI,HAI,OJ⟩:=fE hci hai hca;obtain⟨G,hG⟩:=aV (atD x.imports λ_ s=>if (cB s x.name||(dQ known s).isNone)=true then [⟨1,⟨#[]⟩,s⟩]else []);have HG:=Y hG;have LZ:J (imD x known=bO.upto G x.imports.length):=Y (by rw[hG];rfl);have jP:=Y hlen;rw[LZ]at jP ⊢;have Kg:(x.imports.map λs=>oI (dQ known s)).length=x.imports.length:=by rw[dV]
 rw[Kg]at hla haa ⊢;have HAA:=Y haa;obtain⟨ni,hni⟩:=aV x.imports.length;have IW:=Y hni;rw[<-hni]at hli HAI jP hla HAA ⊢;generalize x.bq.length=nf at *;generalize x.vars.length=nv at *;generalize known.length=nk at *;have HB0:=Y (aH w (aY #[A x.name,X ai ni ci,X av nv cv,X af nf cf,X ak nk ck,X aa ni ca] 169));have eT:=λi v h=>Pk w (A x.name) (X ai ni ci) (X av nv cv) (X af nf cf) (X ak nk ck) (X aa ni ca) 169 i v h;obtain⟨q0,q1,q5⟩:=lS (eT 0 _ rfl) (eT 1 _ rfl) (eT 5 _ rfl);clear hci hai hcs hca haa hlen hG hni h Kg;go_enter func102,ntmps102;go_wp2_with fail;generalize (w.alloc (aY #[A x.name,X ai ni ci,X av nv cv,X af nf cf,X ak nk ck,X aa ni ca] 169))=W1 at *;go_loopw[3,10] (λv i wr=>∃j:Nat,j<=ni/\i=O j/\dA qU wr W1.heap.size 52 3 v (bO.upto G j)/\bK W1 wr) (λ_ i _=>ni - (intOf i).toNat);exact⟨0,bN _,rfl,dA.nil _ _ _ _,bQ _ _⟩
 obtain⟨t,ht,rfl,hown,hnx⟩:=hrel;obtain⟨HOW,fT⟩:=bV hown hnx;by_cases O6:t<ni
 ·obtain⟨s,hs⟩:∃y,x.imports[t]?=some y:=⟨_,aZ (by rw[<-IW];exact O6)⟩;have c0:=aG (aG (HCI t (by rw[<-IW];exact O6)) HB0) hnx;rw[xK,hs,gD]at c0;obtain rfl:=HAI bC;obtain rfl:=HAA bC;have c5:=aG (aG (OJ t (oI (dQ known s)) (by rw[pq,hs];rfl)) HB0) hnx;have HY:J (G t=if (cB s x.name||(dQ known s).isNone)=true then [⟨1,⟨#[]⟩,s⟩]else []):=Y (by rw[HG];exact sQ hs);replace q0:=aG q0 hnx;replace q5:=aG q5 hnx;obtain⟨a3,c3,rfl⟩:=hown.form;have hul:(bO.upto G t).length<16777216\/G t=[]:=by
   have h1:=O8 G (show t+1<=ni by omega);rw[jK,bg]at h1;have h2:=jP.out;by_cases hg:G t=[];·exact aQ hg
   ·have:=vO.2 hg;exact aO bC
  have HUL:=Y hul;obtain⟨ul,hut⟩:=aV ((bO.upto G t).length);have HUT:=Y hut;rw[<-hut]at HOW ⊢;clear hs hown hnx hut hul q1;cases hb1:(s.toList==x.name.toList)
  ·have hsb:cB s x.name=false:=hb1;rw[hsb,Bool.false_or]at HY;clear hsb;cases hmo:dQ known s with
   | none=>
    rw[hmo]at HY c5;have ho:oI none=-1:=rfl;rw[ho]at c5;rw[Option.isNone_none,aK rfl]at HY;have hul:ul<16777216:=by
     rcases HUL with h|h;·rw[HUT];exact h
     ·rw[HY]at h;cases h
    clear hmo ho
    go_wp2_with (first
     | (at_builtin;refine fG (At:=qU) rfl _ _ 38 52 3 40 _ rfl underlying38 qV bM bM bM W1.heap.size _ _ rfl (HOW.below (aH _ _)) _ _ [⟨1,⟨#[]⟩,s⟩] rfl (dA.one _ _ rfl (qU.one (d:=⟨1,⟨#[]⟩,s⟩) rfl) rfl) (by have:=HUT.out;simp only[iI];omega) (bE fT.out.size (aH _ _).size) ?_;intro v6 w6 hown6 dX;have pQ:=Y hown6;have uX:=Y (kg (up fT (aH _ _)) dX (λj hj=>(HOW.lt j hj).1));clear hown6 dX)
     | fail)
    go_roundw;exact⟨t+1,by omega,by go_num,by rw[jK,HY];exact pQ,uX⟩;exact gV
   | some a=>
    rw[hmo]at HY c5;have ho:oI (some a)=(a:Int):=rfl;rw[ho]at c5;rw[Option.isNone_some,aI cK]at HY;clear hmo ho;go_wp2;go_roundw;exact⟨t+1,by omega,by go_num,by rw[jK,HY,gL];exact HOW,fT⟩;exact gV
  ·have hsb:cB s x.name=true:=hb1;rw[hsb,Bool.true_or,aK rfl]at HY;have hul:ul<16777216:=by
    rcases HUL with h|h;·rw[HUT];exact h
    ·rw[HY]at h;cases h
   clear hsb
   go_wp2_with (first
    | (at_builtin;refine fG (At:=qU) rfl _ _ 38 52 3 40 _ rfl underlying38 qV bM bM bM W1.heap.size _ _ rfl (HOW.below (aH _ _)) _ _ [⟨1,⟨#[]⟩,s⟩] rfl (dA.one _ _ rfl (qU.one (d:=⟨1,⟨#[]⟩,s⟩) rfl) rfl) (by have:=HUT.out;simp only[iI];omega) (bE fT.out.size (aH _ _).size) ?_;intro v6 w6 hown6 dX;have pQ:=Y hown6;have uX:=Y (kg (up fT (aH _ _)) dX (λj hj=>(HOW.lt j hj).1));clear hown6 dX)
    | fail)
   go_roundw;exact⟨t+1,by omega,by go_num,by rw[jK,HY];exact pQ,uX⟩;exact gV
 ·have wU:t=ni:=by omega
  rw[wU]at HOW;obtain⟨a9,c9,rfl⟩:=hown.form;have HO2:=HOW;rw[wU]at HO2 ⊢;generalize (bO.upto G ni).length=nu at *;clear hown wU hnx;go_wp2;go_ret;exact⟨_,rfl,HO2.old HB0.size,up HB0 fT⟩
def O9{α:Type}(At:List Value->α->Prop)(w:bI)(n e k:Nat)(v:Value)(l:List α):Prop:=
 ∃cs:List (List Value),w.ownsRow n e k v l.length cs.flatten/\cs.length=l.length/\(∀c∈cs,c.length=k/\∀u∈c,u.oneCell'=true)/\(∀(i:Nat) c y,cs[i]?=some c->l[i]?=some y->At c y)
section
variable {α : Type} {At : List Value → α → Prop} {w w' : World} {n e k : Nat} {v : Value} {l : List α}
theorem dA.toR(h:dA At w n e k v l):O9 At w n e k v l:=by obtain⟨cs,b,d,f,g,_⟩:=h;exact⟨cs,b,d,f,g⟩
theorem O9.toK(h:O9 At w n e k v l)(i:l=[]->v=aU):dA At w n e k v l:=by obtain⟨cs,b,d,f,g⟩:=h;exact⟨cs,b,d,f,g,i⟩
theorem O9.lt(h:O9 At w n e k v l):∀j,v.ownBlock=some j->n<=j/\j<w.heap.size:=by obtain⟨cs,b,_⟩:=h;exact b.lt
end
section
variable {α : Type} {At : List Value → α → Prop} {w : World} {ops : Array Oper} {rest : List Oper} {o : Oper} {a : Act} {Q : Exit → Act → World → Prop}
theorem Ie(B:o.guard=none)(s x:Operand)(t e k q:Nat)(y:Value)(C:o.op=.call { callee:=.builtin .append,args:=#[s,x],argTypes:=#[t,t] })(H:prog.underlying t=some (.slice e))(aa:(prog.info? e).map (λi=>(i.zero,i.size,i.bytes))=some (some y,k,q))(ah:y.cells.size=k)(hk:0<k)(Z:q<=1024)(n:Nat)(v:Value)(l:List α)(G:a.eval s=v)(D:O9 At w n e k v l)(n2:Nat)(M:Value)(b:List α)(I:a.eval x=M)(E:dA At w n2 e k M b)(hl:l.length+b.length<=16777216)(W:n<=w.heap.size)(h:∀v' w',O9 At w' n e k v' (l++b)->(b=[]->v'=v)->w.grownBy w' v.ownBlock->wpList prog ops Q rest (a.put o.dst v') w'):wpList prog ops Q (o::rest) a w:=by
 obtain⟨K,z,ae,af,ag⟩:=info_parts aa;have N:=D;obtain⟨cs,F,k1,k2,k3⟩:=D;rcases E.shape with⟨rfl,rfl⟩|⟨S,R,rfl,_,_,_,u⟩;·refine wpList_append_own_none B s x t C n e K k H z v l.length cs.flatten G F I ?_;exact h v w (by simpa using N) (λ_=>rfl) ⟨rfl,rfl,rfl,bG _,λ_ _ _=>rfl⟩
 ·obtain⟨r,ac,p,f,P,_⟩:=E;have ab:0<b.length:=vO.2 u;refine wpList_append_lies w B s x t C n e K y k q H z ae af ag ah hk v l.length cs.flatten G F ⟨S,0,none⟩ b.length R r.flatten I (by rw[sj r (λc d=>(f c d).1),p]) (λj L m=>?_) (λL m=>?_) ab (by unfold maxLen;omega) (bE (yE hl Z)<|by decide) W w.heap.size rfl ?_;·rw[Addr.add_lit,d9,yC ac j (by have:=(cO.1 m).1;rw[sj r (λc d=>(f c d).1),p]at this;exact this)];exact m
  ·obtain⟨c,d,ad⟩:=List.mem_flatten.1 m;exact(f c d).2 L ad
  ·intro g cap w' U V _ _;exact h _ w' (dA.cat ⟨k1,k2,k3⟩ ⟨p,f,P⟩ u U).toR (λe=>aM e u) V
end
theorem aau(w:bI)(n:Nat)(E:n<=16777216):aD 149 #[aU,O n] w λe w'=>∃v,e=dz v/\O9 qU w' w.heap.size 52 3 v []/\(n=0->v=aU)/\bK w w':=by
 obtain⟨B,u,r,F,s⟩:=info_parts qV;by_cases g:n=0;·subst g;go_enter func149,ntmps149;go_wp2;go_ret;exact⟨_,rfl,(dA.nil _ _ _ _).toR,λ_=>rfl,bQ _ _⟩
 ·obtain⟨Z,m⟩:∃Z:aC,Z=.agg #[O 0,A ⟨#[]⟩,A ⟨#[]⟩]:=⟨_,rfl⟩;rw[<-m]at r;have q:∀f,(Builtin.append_ #[38,3] f #[aU,O n]).run prog w=.ok (Tc w.heap.size n<|grownCap w n 0 52) (w.drew.alloc<|.cells (Builtin.zeroCells Z.cells n++Builtin.zeroCells Z.cells (grownCap w n 0 52 - n)) 52):=λf=>by have h:=Lib.run_append_grow_zeros w 38 3 f 52 B Z .i64 .i64 underlying38 underlying3 u r none 0 0 [] (run_firstCells_none w.drew _ 0 0 0) n bC bC bC bC (by rw[s];omega) (by rw[d9];exact growslice_fits bC (by rw[s];omega));simpa using h
  have x:n<=grownCap w n 0 52:=grownCap_ge w _ _ _;have b:grownCap w n 0 52<=maxLen:=grownCap_le_maxLen w n 0 52 (by unfold maxLen;omega);obtain⟨G,j⟩:=aV<|grownCap w n 0 52;rw[<-j]at q x b;have D:G<=9223372036854775807:=by unfold maxLen at b;omega
  have p:(w.drew.alloc<|.cells (Builtin.zeroCells Z.cells n++Builtin.zeroCells Z.cells (G - n)) 52).ownsRow w.heap.size 52 3 (Tc w.heap.size 0 G) 0 []:=
   ⟨by simp,.inr ⟨w.heap.size,G,_,rfl,bG _,heap_alloc_new w.drew _,bN _,b,by
    have e:∀k,(Builtin.zeroCells Z.cells k).size=k*3:=λk=>by rw[m];simp[Builtin.zeroCells,Value.cells]
    rw[Array.size_append,e,e];omega,by simp⟩⟩
  have t:=Y p;have z:J (bK w<|w.drew.alloc<|.cells (Builtin.zeroCells Z.cells n++Builtin.zeroCells Z.cells (G - n)) 52):=Y<|((bQ _ _).drew).alloc cK _;clear p j;generalize (w.drew.alloc<|.cells (Builtin.zeroCells Z.cells n++Builtin.zeroCells Z.cells (G - n)) 52)=C at *;go_enter func149,ntmps149;go_wp2_with (at_builtin;refine Lib.wpList_append_run _ rfl _ _ _ _ rfl _ _ rfl rfl _ _ (q _) ?_);go_ret;exact⟨_,rfl,⟨[],t,rfl,(λc d=>aM d cK),(λi c y d=>aM d cK)⟩,λh=>aM h g,z⟩
def Sd(w:bI)(n:Nat)(v:Value)(ls:List (List Dg)):Prop:=
 ∃b off cap,v=.slice (some ⟨b,off,none⟩) ls.length cap/\ls.length<=16/\∀i l,ls[i]?=some l->∃d,w.cell? ⟨b,off+i,none⟩=some d/\dA qU w n 52 3 d l
theorem JU{ls:List (List Dg)}{j:Nat}{l:List Dg}(h:ls[j]?=some l):(ls.take<|j+1).flatten=(ls.take j).flatten++l:=by obtain⟨b,rfl⟩:=cO.1 h;rw[uW b,Da];simp
theorem DC(ls:List (List Dg))(j:Nat):(ls.take j).flatten.length<=ls.flatten.length:=by
 conv=>rhs;rw[<-pK j ls]
 rw[Da,bg];omega
theorem GV(w:World)(W:Nat)(v:Value)(ls:List (List Dg))(h:Sd w W v ls)(C:ls.flatten.length<=16777216):Calls prog 101 #[v] w λe w'=>∃v',e=.returned v'/\dA qU w' w.heap.size 52 3 v' ls.flatten/\Below w.heap.size w w':=by
 obtain⟨b,off,cap,rfl,ad,I⟩:=h;have V:=Y I;clear I;obtain⟨len,B⟩:=aV ls.length;have q:=Y B;rw[<-B]at ad ⊢;clear B;go_enter func101,ntmps101;go_wp2;go_loop [3,11] (λo i=>∃k:Nat,k<=len/\i=.int .i64 k/\o=.int .i64 (ls.take k).flatten.length) (λ_ i=>len - (intOf i).toNat);exact⟨0,bN _,rfl,rfl⟩
 obtain⟨k,L,rfl,rfl⟩:=hrel;have z:=bE (DC ls k) C;by_cases r:k<len
 ·obtain⟨l,d⟩:∃l,ls[k]?=some l:=⟨_,aZ (by rw[<-q];exact r)⟩;obtain⟨vi,u,m⟩:=V k l d;obtain⟨a,cp,rfl⟩:=m.form;have f:Hid ((ls.take<|k+1).flatten.length=(ls.take k).flatten.length+l.length):=Y (by rw[JU d,bg]);have D:=bE (DC ls<|k+1) C;rw[f]at D;generalize (ls.take k).flatten.length=W at *;generalize l.length=n1 at *;clear d m;go_wp2;go_round;exact⟨k+1,by omega,by go_num,by rw[f];go_num⟩;simp[intOf];omega
 ·have e:ls.take k=ls:=fQ (by have:=q.out;omega);rw[e]at z ⊢;clear e;obtain⟨N,y⟩:=aV ls.flatten.length;have HN:=Y y;rw[<-y]at z ⊢;clear y;go_wp2_with fail;refine(aau w N z).mono ?_;rintro e w1 ⟨v1,rfl,P,S,G⟩;obtain⟨HO,Z⟩:=bV P G;have HZ:Hid (ls.flatten=[]->v1=.slice none 0 0):=Y (λh=>S (by rw[HN,h];rfl));clear P G L r S;go_wp2;go_loopw[6,27] (λo i wr=>∃k:Nat,k<=len/\i=.int .i64 k/\O9 qU wr w.heap.size 52 3 o (ls.take k).flatten/\(ls.flatten=[]->o=.slice none 0 0)/\Below w.heap.size w wr) (λ_ i _=>len - (intOf i).toNat);exact⟨0,bN _,rfl,HO,HZ,Z⟩
  obtain⟨k,L,rfl,p,s,g⟩:=hrel;by_cases r:k<len
  ·obtain⟨l,d⟩:∃l,ls[k]?=some l:=⟨_,aZ (by rw[<-q];exact r)⟩;obtain⟨vi,u,m⟩:=V k l d;have F:=Y<|m.below g;have u0:=aG u g;obtain⟨a,cp,rfl⟩:=m.form;have f:=Y<|JU d;have D:=bE (DC ls<|k+1) C;rw[f,bg]at D;obtain⟨E,fT,ac⟩:=fE p g s;have H:=g.size;have aa:Hid (ls.flatten=[]->l=[]):=Y (λh=>by have x:=DC ls<|k+1;rw[f,bg,h]at x;exact qp.1 (by simp at x;simpa using x.2));obtain⟨n1,M⟩:=aV l.length;rw[<-M]at u0 F;clear M;clear d m u p g s
   go_wp2_with (first
    | (at_builtin;refine Ie (At:=qU) rfl _ _ 38 52 3 40 _ rfl underlying38 qV (by decide) (by decide) (by decide) w.heap.size _ _ rfl E _ _ l rfl F (by omega) H ?_;intro v' w2 R U K)
    | fail)
   obtain⟨R2,t,ab⟩:=fE (fT.grown K H (λj hj=>(E.lt j hj).1)) R U;clear K R U;go_roundw;exact⟨k+1,by omega,by go_num,by rw[f];exact t,λh=>by rw[ab (aa h)];exact ac h,R2⟩;simp[intOf];omega
  ·have e:ls.take k=ls:=fQ (by have:=q.out;omega);rw[e]at p;have t:=Y<|p.toK s;clear p s;go_wp2;go_ret;exact⟨_,rfl,t,g⟩
theorem Strs.amW{w:bI}{a:Option Addr}{n cap i:Nat}{ss:aJ}(h:Strs w (X a n cap) ss)(z:i<=ss.length):Strs w (X a i cap) (ss.take i):=by
 obtain⟨x,b,off,c,e,q,y,r,t⟩:=h;injection e with g m p;subst g m p;have f:(ss.take i).length=i:=by rw[List.length_take];omega
 refine⟨a,b,off,cap,by rw[f],λh=>q bC,by omega,λs u=>r s<|List.mem_of_mem_take u,λj d=>?_⟩;rw[t j bC];rw[f]at d;simp[List.getD_eq_getElem?_getD,d]
namespace bO
def ER(l:List aS)(s:aS):Bool:=decide (0<=dU l s)
def GX(b:aS)(l:List aS):List Dg:=upto (atD l λi s=>if ER (l.take i) s=true then [⟨2,b,s⟩]else []) l.length
def twD(x:Mo):List Dg:=[GX ⟨#[]⟩ x.imports,GX ⟨#[]⟩ (x.vars.map (·.name)),GX ⟨#[]⟩ (x.bq.map (·.name))].flatten++x.bq.flatMap λf=>GX f.name f.params
end bO
theorem oq(w:bI)(v:aC)(l:aJ)(fn:aS)(h:yD w v l)(hlen:(GX fn l).length<=16777216):aD 150 #[A fn,v] w λe w'=>∃u,e=dz u/\dA qU w' w.heap.size 52 3 u (GX fn l)/\bK w w':=by
 obtain⟨hS,a,cap,rfl,hcap⟩:=h;have HS:=Y hS;obtain⟨a',b,off,c',he,ha,hl,hcs,hci⟩:=hS;injection he with he1 he2 he3;subst he1 he3;obtain⟨HCI,HA⟩:=bV hci ha;obtain⟨G,hG⟩:=aV (atD l λi s=>if bO.ER (l.take i) s=true then [⟨2,fn,s⟩]else []);have HG:=Y hG;have LZ:J (GX fn l=bO.upto G l.length):=Y (by rw[hG];rfl);have jP:=Y hlen;rw[LZ]at jP ⊢;obtain⟨ni,hni⟩:=aV l.length;have IW:=Y hni;rw[<-hni]at hl HA jP hcap HS ⊢;clear hci ha hcs hlen hG hni he2;go_enter func150,ntmps150;go_wp2_with fail;go_loopw[5,10] (λv i wr=>∃j:Nat,j<=ni/\i=O j/\dA qU wr w.heap.size 52 3 v (bO.upto G j)/\bK w wr) (λ_ i _=>ni - (intOf i).toNat);exact⟨0,bN _,rfl,dA.nil _ _ _ _,bQ _ _⟩
 obtain⟨t,ht,rfl,hown,hnx⟩:=hrel;obtain⟨HOW,fT⟩:=bV hown hnx;by_cases O6:t<ni
 ·obtain⟨s,hs⟩:∃y,l[t]?=some y:=⟨_,aZ (by rw[<-IW];exact O6)⟩;have c0:=aG (HCI t (by rw[<-IW];exact O6)) hnx;rw[xK,hs,gD]at c0;obtain rfl:=HA bC;have HY:J (G t=if bO.ER (l.take t) s=true then [⟨2,fn,s⟩]else []):=Y (by rw[HG];exact sQ hs);have HCO:=Y (kS wr _ (l.take t) s ((HS.amW (by rw[<-IW];exact ht)).below hnx));rw[show decide (0<=dU (l.take t) s)=bO.ER (l.take t) s from rfl]at HCO;obtain⟨a3,c3,rfl⟩:=hown.form;have hul:(bO.upto G t).length<16777216\/G t=[]:=by
   have h1:=O8 G (show t+1<=ni by omega);rw[jK,bg]at h1;have h2:=jP.out;by_cases hg:G t=[];·exact aQ hg
   ·have:=vO.2 hg;exact aO bC
  have HUL:=Y hul;obtain⟨ul,hut⟩:=aV ((bO.upto G t).length);have HUT:=Y hut;rw[<-hut]at HOW ⊢;clear hs hown hnx hut hul;go_wp2_with fail;refine HCO.mono ?_;rintro e w2 ⟨rfl,hw2⟩;subst hw2;generalize bO.ER (l.take t) s=ib at *;cases ib
  ·rw[aI cK]at HY;go_wp2;go_roundw;exact⟨t+1,by omega,by go_num,by rw[jK,HY,gL];exact HOW,fT⟩;exact gV
  ·rw[aK rfl]at HY;have hul:ul<16777216:=by
    rcases HUL with h|h;·rw[HUT];exact h
    ·rw[HY]at h;cases h
   go_wp2_with (first
    | (at_builtin;refine fG (At:=qU) rfl _ _ 38 52 3 40 _ rfl underlying38 qV bM bM bM w.heap.size _ _ rfl (HOW.below (aH _ _)) _ _ [⟨2,fn,s⟩] rfl (dA.one _ _ rfl (qU.one (d:=⟨2,fn,s⟩) rfl) rfl) (by have:=HUT.out;simp only[iI];omega) (bE fT.out.size (aH _ _).size) ?_;intro v6 w6 hown6 dX;have pQ:=Y hown6;have uX:=Y (kg (up fT (aH _ _)) dX (λj hj=>(HOW.lt j hj).1));clear hown6 dX)
    | fail)
   go_roundw;exact⟨t+1,by omega,by go_num,by rw[jK,HY];exact pQ,uX⟩;exact gV
 ·have wU:t=ni:=by omega
  obtain⟨a9,c9,rfl⟩:=hown.form;rw[wU]at HOW ⊢;generalize (bO.upto G ni).length=nu at *;clear hown wU hnx;go_wp2;go_ret;exact⟨_,rfl,HOW,fT⟩
theorem apY(w:bI)(cs:Array aC)(t:TypeId)(i:Nat)(v:aC)(h:cs[i]?=some v):(w.alloc<|.cells cs t).cell? (aN w.heap.size i)=some v:=(aj (bF w<|.cells cs t) i).trans h
def uL(v:Value):Prop:=∀a n c,v=.slice a n c->n<=c
structure Bg(w:World)(vi vf:Value):Prop where
 imp:uL vi
 fus:uL vf
 par:∀b off n c,vf=.slice (some ⟨b,off,none⟩) n c->∀i,i<n->∃vp,w.cell? ⟨b,off+i*7+1,none⟩=some vp/\uL vp
theorem Bg.below{w w':bI}{d vf:aC}(h:Bg w d vf)(j:bK w w'):Bg w' d vf:=⟨h.imp,h.fus,λb off n c e i m=>by obtain⟨p,f,g⟩:=h.par b off n c e i m;exact⟨p,aG f j,g⟩⟩
section
variable {α : Type} {At : List Value → α → Prop} {w w' : World} {n e k : Nat} {v : Value} {l : List α}
theorem dA.grown{r:Option Nat}(h:dA At w n e k v l)(q:w.grownBy w' r)(s:∀g,v.ownBlock=some g->r≠some g):dA At w' n e k v l:=by
 obtain⟨cs,⟨m,b⟩,p⟩:=h;refine⟨cs,⟨m,?_⟩,p⟩;rcases b with b|⟨g,cap,i,f,hg,d,t⟩;·exact aO b
 ·exact aQ ⟨g,cap,i,f,hg,by rw[q.block g (aR d) (λj=>s g (by rw[f];rfl) j.symm)];exact d,t⟩
end
