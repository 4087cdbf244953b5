import Derived.Test.YtiebmbnfedbdeaaGreatDoorTZAW
import Derived.Deep.CutRange
set_option maxHeartbeats 0
set_option maxRecDepth 99999
namespace Go.Proofs.YtiebmbnfedbdeaaGreatDoor
open bS bO Rn
open Go.Proofs.Tryz
open Go.RowKit
variable{W w w' w1 w2:bI}{nm:List (aS × aS)}{l:List Mo}{m q a f om n n1 t:Nat}{ob:Obj}
theorem Ed(m:Nat)(w:bI)(e g b u:aC)(x:Mo)(known:List Mo)(k:Nat)(call:aS)(c:jl w m (.agg #[A x.name,e,g,b]) x)(j:jN w m u known)(C:uL b)(P:k<=x.bq.length)(N:call.size<=maxLen)(Q:x.imports.length<=1048576):aD 154 #[.agg #[A x.name,e,g,b],O k,A call,u] w λo w'=>o=dz (.tuple #[O (fF x k call known).1,O (fF x k call known).2.1,.bool (fF x k call known).2.2])/\bK w w':=by have vZ:=Y (λwx (d:bK w wx)=>Dm m wx _ _ _ _ x known (c.below d) (j.below d) Q);have B:=Y (λwx (d:bK w wx) r (p:Ints wx r (x.imports.map λs=>oI<|dQ known s))=>GN m wx x known e g b u r k call ⟨c.below d,j.below d,p,C⟩ P N);have h:=λi v S=>apY w #[A x.name,e,g,b] 59 i v S;have y:=Y<|aH w<|aY #[A x.name,e,g,b] 59;obtain⟨U,V,Z,r3⟩:=rY (h 0 _ rfl) (h 1 _ rfl) (h 2 _ rfl) (h 3 _ rfl);obtain⟨R,D⟩:=aV<|fF x k call known;rw[<-D]at B ⊢;obtain⟨p,L,K⟩:=c.split;obtain⟨ai,bi,oi,ci,rfl,-⟩:=p;obtain⟨av,bv,ov,cv,rfl,-⟩:=L;obtain⟨af,bf,of,cf,rfl,-⟩:=K;obtain⟨ak,bk,ok,ck,rfl,-⟩:=j;generalize x.imports.length=ni at *;generalize x.vars.length=nv at *;generalize x.bq.length=nf at *;generalize known.length=nk at *;clear c C D;go_enter func154,ntmps154;go_wp2_with fail;refine(vZ _ y).mono ?_;rintro o w1 ⟨r,rfl,G,E⟩;obtain⟨I,z⟩:=bV G<|up y E;clear U V Z r3 E G;go_wp2_with fail;refine(B _ z _ I).mono ?_;rintro o w2 ⟨rfl,F⟩;have H:=Y<|up z F;clear F;go_wp2;go_ret3;exact⟨rfl,H⟩
open Go.Maps
theorem Y7{o:Rn.Own}{x:aS}{v:Int}(c:∀s v,o s=some v->mq v)(d:mq v):∀s u,Rn.put o x v s=some u->mq u:=λs u b=>by
 unfold Rn.put at b;split at b;·cases b;exact d
 ·exact c s u b
theorem ahV(W w:bI)(c:lu)(nm:List (aS × aS))(l:List Mo)(m:Nat)(s:gM)(q a f om n:Nat)(o:Rn.Own)(x:aS)(u:Int)(I:Run W w c nm l m s q a f om n o)(hx:x.size<=maxLen)(Z:mq u):aD 152 #[gK q,A x,O u] w λB w'=>B=dz (.tuple #[])/\J (iL w' c nm (Rn.pt nm (Rn.mn l a) o x u s).2/\Kp c (some om) w w'/\nS w' om (n+1) (Rn.pt nm (Rn.mn l a) o x u s).1/\∀s' v,(Rn.pt nm (Rn.mn l a) o x u s).1 s'=some v->mq v):=by
 obtain⟨z,h,H⟩:=fE (Kw W w c nm l m s q a f om n o x I hx) I Z;obtain⟨G,K⟩:=aV<|Rn.pt nm (Rn.mn l a) o x u s;have P:=Y K;rw[<-K];clear K I Z;cases p:Rn.sh nm (Rn.mn l a) o x with
 | none =>have j:J (G=(Rn.put o x u,s)):=Y (by rw[P,Rn.pt,p]);rw[p]at z;clear p;go_enter func152,ntmps152;go_wp2_with fail;refine z.mono ?_;rintro B w1 ⟨rfl,k,rfl⟩;have d:=h.drewN k;obtain⟨r0,r1,r2,r3⟩:=d.fr.cell;obtain⟨w2,L1,V,L⟩:=d.ow.put (by have:=d.nb;unfold maxLen;omega) hx H;obtain⟨ab,F,D⟩:=fE V (d.ma.but d.ow.isMap L d.omp)<|((Kp.refl c (some om) w).drewN k).trans (Kp.but L d.omn<|bE d.omn<|xq d.ow.lt);clear d r0 r1 r2 V L;generalize w.drewN k=w1 at *;simp only[yX];go_wp2_with fail;refine cZ (Fj rfl _ _ _) rfl ?_;exact⟨rfl,Y ⟨by rw[j];exact F,D,by rw[j];exact ab,by rw[j];exact Y7 h.oi H⟩⟩
 | some i =>obtain⟨b,y,v,Q,hy,hv,R,e,S⟩:=h.ma.at<|jM p;have j:J (G=(o,{ s with vs:=s.vs.modify i λv=>{ v with val:=u,st:=true } })):=Y (by rw[P,Rn.pt,p]);rw[p]at z;simp only[yX,R]at z;have g:=Y<|show c.bs[i]?=some b/\nm[i]?=some y/\s.vs[i]?=some v/\mq v.val from ⟨Q,hy,hv,S⟩;clear p Q hy hv R e S;go_enter func152,ntmps152;go_wp2_with fail;refine z.mono ?_;rintro B w1 ⟨rfl,k,rfl⟩;have d:=h.drewN k;have e:(w.drewN k).heap[b]?=some (aY #[A y.1,A y.2,O v.val,.bool v.rd,.bool v.st] 142):=d.ma.var i b y v g.1 g.2.1 g.2.2.1;have C:=aP e 4<|.bool true;have aa:=aP C 2<|O u;have F:J (iL (((w.drewN k).setCell (aN b 4) (.bool true)).setCell (aN b 2) (O u)) c nm { s with vs:=s.vs.modify i λv=>{ v with val:=u,st:=true } }):=Y<|d.ma.Tq g.1 g.2.1 (λv=>{ v with val:=u,st:=true }) g.2.2.1 rfl H (aa.trans rfl) (λk ob N U=>aX (aX N U _) U _) (λr=>(r.set (r.apart e bM) _).set ((r.set (r.apart e bM) _).apart C bM) _);have E:=dG g.1;have D:J (Kp c none w<|((w.drewN k).setCell (aN b 4) (.bool true)).setCell (aN b 2) (O u)):=Y<|((Kp.refl c none w).drewN k).trans ((Kp.XT d.ma E 4<|.bool true).trans ⟨(bQ _ _).setCell (d.ma.bsn b E) _,λk _ N _ r _ _=>aX N (λB=>r (by have e':k=b:=B;rw[e'];exact E)) _⟩);have HO:J (nS (((w.drewN k).setCell (aN b 4) (.bool true)).setCell (aN b 2) (O u)) om n o):=Y<|h.ow.keep D h.ma cK;have v4:=aj e 4;have v2:=aj C 2;obtain⟨z4,z2⟩:=eY (aF e 4)<|aF C 2;clear d e C aa E;generalize w.drewN k=w1 at *;go_wp2_with fail;go_end0;exact⟨rfl,Y ⟨by rw[j];exact F,D.more,by rw[j];exact HO.mono<|dN _,by rw[j];exact h.oi⟩⟩
def StV(W:World)(m:Nat)(st:St)(i:Array Value):Prop:=∃b c d e g h,i=#[.int .i64 st.kind,.string st.name,b,c,d,e,g,h]/\st.name.size<=maxLen/\iH W m b c d e st.e/\fH W m g st.a/\fH W m h st.b
def Kz(l:List Mo)(a f:Nat):Prop:=∃y,l[a]?=some y/\f<y.bq.length
def Tm(W:bI)(c:lu)(nm:List (aS × aS))(l:List Mo)(m K:Nat)(F:FJ)(g:Nat):Prop:=
 ∀(w:bI) (s:gM) (q a f om n:Nat) (o:Rn.Own) (b:Nat) (d e h i:Value) (x:Ex),Run W w c nm l m s q a f om n o->Kz l a f->iH W b d e h i x->jo b x=true->s.fuel*K+b<=g->
  Calls prog 48 #[.pointer (some ⟨q,0,none⟩),.agg #[d,e,h,i]] w λj w'=>j=.returned (.tuple #[.int .i64 (F.ev a f o x s).1,.int .i64 (F.ev a f o x s).2.1])/\Hid (iL w' c nm (F.ev a f o x s).2.2/\Kp c none w w'/\mq (F.ev a f o x s).1)
structure NJ(w w':World)(c:lu)(nm:List (ByteArray × ByteArray))(s:gM)(om n:Nat)(r:Rn.Own × gM):Prop where
 ma:iL w' c nm r.2
 kp:Kp c (some om) w w'
 ow:∃n',nS w' om n' r.1/\n'+r.2.fuel<=n+s.fuel
 oi:∀s v,r.1 s=some v->mq v
 le:r.2.fuel<=s.fuel
def Tn(W:bI)(c:lu)(nm:List (aS × aS))(l:List Mo)(m K:Nat)(F:FJ)(g:Nat):Prop:=
 ∀(w:bI) (s:gM) (q a f om n:Nat) (o:Rn.Own) (b:Nat) (d:Array Value) (st:St),Run W w c nm l m s q a f om n o->Kz l a f->StV W b st d->Vz b st=true->s.fuel*K+b<=g->
  Calls prog 98 #[.pointer (some ⟨q,0,none⟩),.agg d] w λe w'=>e=.returned (.int .i64 (F.dO a f o st s).1)/\Hid (NJ w w' c nm s om n (F.dO a f o st s).2)
def Ya(W:bI)(c:lu)(nm:List (aS × aS))(l:List Mo)(m K:Nat)(F:FJ)(g:Nat):Prop:=
 ∀(w:bI) (s:gM) (q a f om n:Nat) (o:Rn.Own) (b:Nat) (d:Array Value) (st:St),Run W w c nm l m s q a f om n o->Kz l a f->StV W b st d->Vz b st=true->s.fuel*K+b+1<=g->
  Calls prog 151 #[.pointer (some ⟨q,0,none⟩),.agg d] w λe w'=>e=.returned (.int .i64 (F.lp a f o st s).1)/\Hid (NJ w w' c nm s om n (F.lp a f o st s).2)
theorem NJ.run{c:lu}{s:gM}{o:Rn.Own}{r:Rn.Own × gM}(d:NJ w w' c nm s om n r)(b:Run W w c nm l m s q a f om n o):∃n',Run W w' c nm l m r.2 q a f om n' r.1/\n'+r.2.fuel<=n+s.fuel:=by obtain⟨n',e,g⟩:=d.ow;exact⟨n',⟨b.below.trans d.kp.below,b.size,b.mods,d.ma,b.fr.keep d.kp b.ma (aQ rfl) b.ow,e,b.omn,b.omp,b.alt,d.oi,by have:=b.nb;omega⟩,g⟩
theorem NJ.trans{c:lu}{s:gM}{r r2:Rn.Own × gM}(d:NJ w w1 c nm s om n r)(b:NJ w1 w2 c nm r.2 om n1 r2)(h:n1+r.2.fuel<=n+s.fuel):NJ w w2 c nm s om n r2:=by obtain⟨g,e,i⟩:=b.ow;exact⟨b.ma,d.kp.trans b.kp,⟨g,e,by omega⟩,b.oi,bE b.le d.le⟩
theorem NJ.refl{c:lu}{s:gM}{o:Rn.Own}(b:Run W w c nm l m s q a f om n o):NJ w w c nm s om n (o,s):=⟨b.ma,Kp.refl _ _ _,⟨n,b.ow,bG _⟩,b.oi,bG _⟩
theorem Run.ev{c:lu}{s e:gM}{o:Rn.Own}(b:Run W w c nm l m s q a f om n o)(g:iL w' c nm e)(d:Kp c none w w')(h:e.fuel<=s.fuel):Run W w' c nm l m e q a f om n o:=
 ⟨b.below.trans d.below,b.size,b.mods,g,b.fr.keep d b.ma (aO rfl) b.ow,b.ow.keep d b.ma cK,b.omn,b.omp,b.alt,b.oi,by have:=b.nb;omega⟩
theorem Run.aft{c:lu}{s b:gM}{o:Rn.Own}(d:Run W w c nm l m s q a f om n o)(h:iL w' c nm b)(e:Kp c none w w')(g:b.fuel<=s.fuel):NJ w w' c nm s om n (o,b):=
 ⟨h,e.more,⟨n,d.ow.keep e d.ma cK,by show n+b.fuel<=n+s.fuel;omega⟩,d.oi,g⟩
theorem Run.cell{c:lu}{s:gM}{o:Rn.Own}(d:Run W w c nm l m s q a f om n o){p:Addr}{v:aC}(b:W.cell? p=some v):w.cell? p=some v:=by rw[d.below.cell (by rw[d.size];exact eH _ _ b)];exact b
theorem Run.box{c:lu}{s:gM}{o:Rn.Own}(b:Run W w c nm l m s q a f om n o)(ob:Obj):Run W (w.alloc ob) c nm l m s q a f om n o:=
 b.ev (b.ma.below<|aH w ob) (Kp.of_below (aH w ob)<|bE b.omn<|xq b.ow.lt) (bG _)
theorem Kp.box{c:lu}{o:Option Nat}(b:Kp c o (w.alloc ob) w')(d:c.n<=w.heap.size):Kp c o w w':=(Kp.of_below (aH w ob) d).trans b
theorem NJ.box{c:lu}{s:gM}{r:Rn.Own × gM}(b:NJ (w.alloc ob) w' c nm s om n r)(d:c.n<=w.heap.size):NJ w w' c nm s om n r:=⟨b.ma,b.kp.box d,b.ow,b.oi,b.le⟩
theorem Run.nle{c:lu}{s:gM}{o:Rn.Own}(b:Run W w c nm l m s q a f om n o):c.n<=w.heap.size:=bE b.omn<|xq b.ow.lt
theorem akK{f:Rn.Own->St->gM->Int × Rn.Own × gM}{l:List St}{st:St}(c:l[t]?=some st)(o:Rn.Own)(s:gM):rA f (l.drop t) o s=if (f o st s).1=0 then rA f (l.drop<|t+1) (f o st s).2.1 (f o st s).2.2 else f o st s:=by obtain⟨d,b⟩:=cO.1 c;rw[Nw d,b];rfl
theorem Af(W:bI)(c:lu)(nm:List (aS × aS))(l:List Mo)(m K:Nat)(F:FJ)(g:Nat)(hD:Tn W c nm l m K F g)(w:bI)(s:gM)(q a f om n:Nat)(o:Rn.Own)(p:Nat)(v:aC)(h:List St)(hR:Run W w c nm l m s q a f om n o)(hF:Kz l a f)(hB:fH W (p+1) v h)(hw:j6 (p+1) h=true)(hg:s.fuel*K+p<=g):aD 47 #[gK q,v] w λe w'=>e=dz (O (rA (F.dO a f) h o s).1)/\J (NJ w w' c nm s om n (rA (F.dO a f) h o s).2):=by
 obtain⟨jD,HD⟩:=bV hR hD;obtain⟨ad,b,off,cap,rfl,h0,hl,x⟩:=hB;obtain⟨j5,ab⟩:=bV x h0;obtain⟨nl,S⟩:=aV h.length;have YS:=Y S;rw[<-S]at hl ab ⊢;obtain⟨R,N⟩:=aV<|rA (F.dO a f) h o s;have ak:=Y N;rw[<-N];obtain⟨HW,HG,HF⟩:=fE hw hg hF;clear N S h0 x hR hD hw hg hF;go_enter func47,ntmps47;go_wp2_with fail;go_loopw[10] (λi wx=>∃t:Nat,t<=nl/\i=O t/\∃(j:Rn.Own) (s':gM) (n':Nat),J<|Run W wx c nm l m s' q a f om n' j/\NJ w wx c nm s om n (j,s')/\n'+s'.fuel<=n+s.fuel/\R=rA (F.dO a f) (h.drop t) j s') (λi _=>nl - (intOf i).toNat);exact⟨0,bN _,rfl,o,s,n,Y ⟨jD,NJ.refl jD,bG _,by rw[List.drop_zero];exact ak⟩⟩
 obtain⟨t,ht,rfl,j,s',n',d⟩:=hrel;by_cases ao:t<nl
 ·obtain⟨st,y⟩:∃st,h[t]?=some st:=⟨_,aZ (by rw[<-YS];exact ao)⟩;obtain⟨-,af,e0,e1,e2,e3,va,vb,z,B,C,E,G,H,I,L,U,P,Q⟩:=j5 t st y;obtain rfl:=ab bC;replace z:=d.1.cell z;replace B:=d.1.cell B;replace C:=d.1.cell C;replace E:=d.1.cell E;replace G:=d.1.cell G;replace H:=d.1.cell H;replace I:=d.1.cell I;replace L:=d.1.cell L;have al:J (StV W p st #[O st.kind,A st.name,e0,e1,e2,e3,va,vb]):=Y ⟨e0,e1,e2,e3,va,vb,rfl,af,U,P,Q⟩;have Ns:J (Vz p st=true):=Y (by have:=HW.out;rw[wL,iB]at this;exact this st<|dG y);have r:=Y<|akK (f:=F.dO a f) y j s';obtain⟨xa,xc,rfl,rfl,rfl,rfl⟩:=U.shape;obtain⟨aa,ac,rfl⟩:=P.kC;obtain⟨ba,bc,rfl⟩:=Q.kC;generalize st.e.args.length=ne at *;generalize st.a.length=na at *;generalize st.b.length=nb at *;have Ta:J (s'.fuel*K+p<=g):=Y (by have x:=d.2.1.le;have h2:=HG.out;have h3:s'.fuel*K<=s.fuel*K:=qR K x;omega);obtain⟨am,lG⟩:=bV (HD _ s' q a f om n' j p _ st (d.1.box<|aY #[O st.kind,A st.name,O st.e.kind,O st.e.n,A st.e.name,X xa ne xc,X aa na ac,X ba nb bc] 198) HF al Ns Ta) d.out.1.nle;clear y af U P Q;obtain⟨wo,rfl⟩:=aV wr;go_wp2_with fail;refine am.mono ?_;rintro e w5 ⟨rfl,V⟩;obtain⟨D,ae⟩:=aV<|F.dO a f j st s';rw[<-ae]at V r ⊢;clear z B C E G H I L ae;have Z:=Y<|V.box lG;have Vh:=Y<|d.2.1.trans Z d.2.2.1;obtain⟨n5,ag,JR⟩:=Z.run d.1;obtain⟨oK,CW⟩:=bV ag JR;clear ag JR;by_cases k:D.1=0
  ·have ai:(D.1==0)=true:=by simp[k]
   have u:=Y k;rw[k];clear k ai;go_wp2;go_roundw;exact⟨t+1,by omega,by go_num,D.2.1,D.2.2,n5,Y ⟨oK,Vh,by have:=d.2.2.1;have:=CW.out;omega,by rw[d.2.2.2,r,aK u.out]⟩⟩;exact gV
  ·have ai:(D.1==0)=false:=by simp[k]
   have u:=Y k;clear k;go_wp2;go_ret;exact⟨by rw[d.2.2.2,r,aI u.out];rfl,Y (by rw[d.2.2.2,r,aI u.out];exact Vh)⟩
 ·have ah:t=nl:=by omega
  have HV:J (R=(0,j,s')):=Y (by rw[d.2.2.2,ah,YS,List.drop_length];rfl);clear ah;go_wp2;go_ret;exact⟨by rw[HV];rfl,Y (by rw[HV];exact d.2.1)⟩
