import Derived.Test.YtajaekfdcpjjfaaGreatDoorDZDA
set_option maxHeartbeats 0
set_option maxRecDepth 99999
namespace Go.Proofs.YtajaekfdcpjjfaaGreatDoor
open Da bS Rd
open Go.Proofs.Tryz
open Go.RowKit Go.Maps Go.WideMaps
namespace Rd
theorem aus{s:aS}(a:prE s=0):xH 8196 (prX s)<=1048576/\oO 8196 (prX s)=0:=by
 have h:prX s=(TP s).1:=by unfold prX;rw[aK a]
 rw[h];unfold prE at a;by_cases d:bS.we s=0
 ·rw[aK d]at a;cases c:(prS s).f;·rw[c]at a;simp only[rz,if_false]at a;refine⟨?_,a⟩;have e:(TP s).2.f=false:=(show Le (prS s) (TP s).2 from ain _).nf c;obtain⟨g,i⟩:=eY (aqM (m:=8196) (st:=⟨BI s,false⟩) (K:=4097) (aQ (by have:=(abq s).1;simp only;omega)) e) ((abq s).2.2.2.1);simp only at g;show xH 8196 (pM 4097 ⟨BI s,false⟩).1<=_;omega
  ·rw[c]at a;simp at a
 ·rw[aI d]at a;exact aM a d
end Rd
theorem eu{P:Nat->Bool}{w w':bI}(c:bK w w'):Sub (only P w) (only P w'):=λa v g=>by obtain⟨d,e⟩:=bR.1 g;exact bR.2 ⟨d,aG e c⟩
theorem EX.sub{w w':bI}{v:aC}{G:Nat}{L:Nat->Nat}{Z:aL}(a:EX w v G L Z)(h:Sub w w'):EX w' v G L Z:=by obtain⟨m,n,p,o,j,i,RO,C,k,q,s,t,u,g⟩:=a;exact⟨m,n,p,o,j,i,RO,C,k,q,s,t,λr a=>h _ _<|u r a,λr c d e=>⟨(g r c d e).1,h _ _ (g r c d e).2⟩⟩
structure dO(P:Nat->Bool)(w:World)(b:Nat)(ss:List ByteArray)(G:Nat)(L:Nat->Nat)(Z:Nat->Nat->Bool)(l:List Mo):Prop where
 ex:∃vn vl vm,w.heap[b]?=some (.cells #[vn,vl,vm] 114 (0,0))/\Strs (only P w) vn ss/\EX (only P w) vl G L Z/\om (only P w) (only P w) 8196 vm l
 small:∀x∈l,xH 8196 x<=1048576
 up:Da.Up l
 six:l.length<=6
 no:P b=false
section
variable {P P' : Nat → Bool} {w w' : World} {b f : Nat} {ss : List ByteArray} {G : Nat} {L : Nat → Nat} {Z : Nat → Nat → Bool} {l : List Mo}
theorem dO.see(c:dO P w b ss G L Z l)(a:Sub (only P w) (only P' w'))(m:w'.heap[b]?=w.heap[b]?)(n:P' b=false):dO P' w' b ss G L Z l:=by obtain⟨⟨q,o,p,d,e,g,h⟩,i,j,k,_⟩:=c;exact⟨⟨q,o,p,m.trans d,e.sub a,g.sub a,h.sub a a⟩,i,j,k,n⟩
theorem dO.lt(a:dO P w b ss G L Z l):b<w.heap.size:=by obtain⟨⟨g,d,e,c,_⟩,_⟩:=a;exact aR c
theorem dO.below(a:dO P w b ss G L Z l)(c:bK w w'):dO P w' b ss G L Z l:=a.see (eu c) (c.block b a.lt) a.no
theorem dO.but(a:dO P w b ss G L Z l)(c:But f w w')(d:P f=false)(e:b≠f):dO P w' b ss G L Z l:=a.see (c.sub d) (c.block b a.lt e) a.no
end
theorem om.drop{w0 w:bI}{m n cap:Nat}{a:Option Addr}{l:List Mo}(r:om w0 w m (X a n cap) l){i:Nat}(K:i<=l.length){d:Option Addr}{n' e:Nat}(N:n'=l.length - i)(I:e=cap - i)(u:∀B h,a=some (aN B h)->i<l.length->d=some (aN B<|h+i*4)):om w0 w m (X d n' e) (l.drop i):=by
 obtain⟨F,b,off,R,o,s,M,t⟩:=r;injection o with p H q;subst p q;have v:(l.drop i).length=n':=by rw[Bo];omega
 refine⟨d,b,off+i*4,e,by rw[v],λQ=>u b off (s bC) bC,by omega,λk y g=>?_⟩;rw[Rt]at g;obtain⟨c,z,C,D⟩:=t _ y g;exact⟨c,z,λj E x=>by have:=C j E x;rwa[show off+(i+k)*4+j=off+i*4+k*4+j by omega]at this,D⟩
theorem auB{s:aS}(h:dZ s.data.toList=true):s.size<=8:=by unfold dZ at h;simp only[dK,iy]at h;exact h.1.2
theorem auC{ss:aJ}{G:Nat}{L:Nat->Nat}{Z:aL}(h:dD ss G L Z=0):ss.length<=6/\(0<G/\G<=6)/\(∀r,r<G->0<L r/\L r<=64)/\∀s∈ss,s.size<=8:=by
 have a:=qF h;have g:=a.square;unfold mR at g;obtain⟨j,k⟩:=mF.1 g;have p:G=ss.length:=by simpa using j
 obtain⟨q,m⟩:=eY a.pos a.six;refine⟨m,by omega,λr n=>?_,λs o=>?_⟩
 ·have:L r=ss.length:=by simpa[wM]using uz k n
  omega
 ·have c:=a.names;unfold mY at c;rw[dK,iB]at c;obtain⟨i,e,rfl⟩:=gU.1 o;have:=c.1 i<|jE.2 e;unfold yN at this;rw[dK]at this;have d:=this.2;rw[xK,aZ e]at d;exact auB d
def avB(w:bI)(ss:List aS)(G:Nat)(L:Nat->Nat)(Z:Nat->Nat->Bool)(E:Int)(e:Ending)(w':bI):Prop:=
 (E≠0/\e=.returned (.tuple #[.pointer none,.int .i64 E])/\bK w w') \/
  (E=0/\∃b,e=.returned (.tuple #[.pointer (some ⟨b,0,none⟩),.int .i64 0])/\w.heap.size<=b/\bK w w'/\∀P:Nat->Bool,P b=false->(∀k,w.heap.size<=k->k<w'.heap.size->k≠b->P k=true)->dO P w' b ss G L Z [])
theorem au5(w:bI):(zeroValue 114).run prog w=.ok (.agg #[aU,aU,aU]) w:=by kernel_rfl
theorem aul(w:bI)(i g:aC)(ss:aJ)(G:Nat)(L:Nat->Nat)(Z:aL)(r:Strs w i ss)(q:EX w g G L Z):aD 18 #[.agg #[i,g]] w λd w'=>avB w ss G L Z (dD ss G L Z) d w':=by
 have v:=Y (λa (e:bK w a)=>zW a i g ss G L Z (r.below e)<|q.below e);have y:J (dD ss G L Z=0->∀a,bK w a->aD 49 #[.agg #[i,g]] a λd w'=>∃j h,d=dz (.agg #[j,h])/\J ((∀P:Nat->Bool,(∀k,a.heap.size<=k->k<w'.heap.size->P k=true)->Strs (only P w') j ss/\EX (only P w') h G L Z)/\bK a w')):=Y (λm a e=>by obtain⟨o,p,U,V⟩:=auC m;exact aue a i g ss G L Z (r.below e) (q.below e) o p U V);obtain⟨B,b0,o0,E,rfl,-⟩:=r;obtain⟨D,b1,o1,F,Zk,RB,RO,C,rfl,-⟩:=q;generalize ss.length=N at *;obtain⟨M,z⟩:=sO w<|aY #[X B N E,X D G F] 25;obtain⟨R,H⟩:=aV<|dD ss G L Z;rw[<-H]at v y ⊢;clear H;obtain⟨t,u⟩:=jv z;have ab:=au5;go_enter func18,ntmps18;go_upto_region 1 with fail;generalize w.alloc (aY #[X B N E,X D G F] 25)=W at *;go_wp2_with fail;refine(v W M).mono ?_;rintro d w1 ⟨rfl,s⟩;obtain⟨c,jG⟩:=bV (up M s)<|bH z s;clear s t u;by_cases m:R=0;·subst m;obtain⟨t,u⟩:=jv jG;have S:=Y<|y rfl;go_wp2_with fail;refine(S w1 c).mono ?_;rintro d Q ⟨j,h,rfl,n⟩;clear t u;go_wp2;go_ret2;refine aQ ⟨rfl,Q.heap.size,rfl,(up c n.2).size,up (up c n.2)<|aH _ _,λP aa hP=>?_⟩;obtain⟨I,K⟩:=eY (n.1 P (λk o p=>hP k (bE c.out.size o) (wI p (aH _ _).size) bC))<|eu (P:=P)<|aH Q<|aY #[j,h,aU] 114;exact⟨⟨j,h,_,bF _ _,I.1.sub K,I.2.sub K,om.nil _ _ _⟩,λx hx=>(by cases hx),Da.Up.nil,bN _,aa⟩
 ·go_wp2;go_ret2;exact aO ⟨m,rfl,c⟩
theorem lC.avC{w0 w:bI}{m n:Nat}{v:aC}{l:List Mo}{P:Nat->Bool}(r:lC w0 m w n v l)(u:∀k,n<=k->P k=true):om w0 (only P w) m v l:=by
 obtain⟨cs,e,h,c,t⟩:=r.all;have s:=e;rcases e.2 with⟨rfl,z⟩|⟨g,cap,x,rfl,hg,_,a,_⟩;·obtain rfl:l=[]:=qp.1 bC;exact om.nil _ _ _
 ·refine⟨_,g,0,cap,rfl,λ_=>rfl,a,λi y q=>?_⟩;have d:i<cs.length:=by rw[h];exact(cO.1 q).1
  have a:=aZ d;refine⟨cs[i],c _<|kZ d,λj B p=>bR.2 ⟨u g hg,?_⟩,t i _ y a q⟩;have o:=(cO.1 p).1;rw[c _ (kZ d)]at o;rw[d9];exact(Yk s h c a o).trans p
theorem lC.form{w0 w:bI}{m n:Nat}{v:aC}{l:List Mo}(h:lC w0 m w n v l):∃a k c,v=X a k c:=by obtain⟨a,_,_,c,rfl,_⟩:=h.mkS;exact⟨_,_,_,rfl⟩
theorem Bv(P:Nat->Bool)(w:bI)(b:Nat)(ss:aJ)(G:Nat)(L:Nat->Nat)(Z:aL)(l:List Mo)(e:dO P w b ss G L Z l)(hP:∀k,w.heap.size<=k->P k=true)(s:aS)(i:Nat)(F:Da.Pl l s i)(vi:aC)(r:List Mo)(hr:r=[]\/∃x,r=[x]/\x.name=s)(hv:om (only P w) w 8196 vi r)(hw:∀x∈r,xH 8196 x<=1048576)(h6:(Da.cut l i (til l s i) r).length<=6):aD 51 #[gK b,O i,O (til l s i:Nat),vi] w λj w'=>j=dz (.tuple #[])/\J (dO P w' b ss G L Z (Da.cut l i (til l s i) r)/\But b w w'):=by
 have HD:=Y e;obtain⟨⟨vn,vl,vm,ag,h2,h3,h4⟩,h5,hu,h7,ao⟩:=e;have hsub:=C9 P w;obtain⟨ac,Q,HP,HV⟩:=lD (show om (only P w) w 8196 vm l from h4.sub (Sub.refl _) hsub) ag hP hv;obtain⟨a,mb,mo,cap,rfl,V,ah,-⟩:=h4;obtain⟨va,vb,vo,vc,rfl,-⟩:=hv;obtain⟨t,H⟩:=aV<|til l s i;have HT:=Y H;obtain⟨am,aa⟩:=eY F.le<|auW F;have ar:i<=t:=by rw[H];unfold til;split<;>omega
 rw[<-H]at aa h6 ⊢;obtain⟨n,E⟩:=aV l.length;have C:=Y E;rw[<-E]at am aa ah h7 V;obtain⟨ES,HR,S9,HU⟩:=lD V hr F hu;obtain⟨q,W⟩:=aV r.length;obtain⟨HQ,al⟩:=bV W hw;have u:=(aj Q 2).trans (rfl:_=some (X a l.length cap));rw[<-E]at u;rw[<-W];have M:=Y u;clear E W H hr F hu ao h2 h3 h5 hP ag hsub V hw;have aq:i<=cap:=by omega
 have av:t<=n:=aa;have au:n<=cap:=ah;go_enter func51,ntmps51;refine dx [some false,some false,some false,some false,some true,some false,some false,some false,some false,some false,some false,some true,some false,some false,none,none,none,none,none] 16 (λx=>bJ x b 2=some (X a n cap)) 5 dw dw (λ_ _ d _ _ e=>(by cases d<;>exact e)) M ?_;dsimp only[gB];repeat(first|(refine fO (v:=?_) dH ?_ ?_;rotate_left 1;(focus(intro w;go_simp;try(with_reducible rfl)));simp only[Act.put,dS,dY,eX])|(refine fP (v:=?_) dH ?_ ?_;rotate_left 1;(focus(intro w ap;go_simp;try(with_reducible rfl)));simp only[Act.put,dS,dY,eX]))
 refine dW ?_;obtain⟨y,U⟩:∃y,y=(if cap=t then a else Option.map (λx=>x.add<|t*4) a):=⟨_,rfl⟩;rw[<-U];have ak:J (∀B o,a=some (aN B o)->t<l.length->y=some (aN B<|o+t*4)):=Y (λB o j hl=>by rw[U,aI (by have:=C.out;omega),j];exact congrArg some<|Addr.add_lit _ _ _);clear U;have ad:J (bK w w.drew):=Y<|(bQ _ _).drew;obtain⟨x0,ai⟩:=aV w.drew;rw[<-ai]at ad ⊢;clear ai;refine aT (i:=14) dw dH (λK c=>?_);go_simp;obtain⟨QZ,D⟩:=sO x0<|aY #[X a i cap,X va q vc,X y (n - t)<|cap - t] 26;have h:=Y<|up ad QZ;obtain⟨B1,ae⟩:=aV x0.heap.size;rw[<-ae]at D ⊢;generalize x0.alloc (aY #[X a i cap,X va q vc,X y (n - t)<|cap - t] 26)=z at *;clear ae;refine c _ _ (λ_=>aG M h) ?_;clear c K;have CV:J ([l.take i,r,l.drop t].flatten=Da.cut l i t r):=Y (by simp[Da.cut]);have ng:J (aD 94 #[Tc B1 3 3] z λj w'=>∃v',j=dz v'/\J (lC (only P w) 8196 w' z.heap.size v' (Da.cut l i t r)/\bK z w')):=Y (by
  have e:=atY (only P w) 8196 z B1 0 3 [l.take i,r,l.drop t] cK (λk l' g=>by
   match k,g with
   | 0,g=>obtain rfl:=CG g;exact⟨_,(aj D 0).trans rfl,((ac.take (by have:=C.out;omega)).below h)⟩
   | 1,g=>obtain rfl:=CG g;exact⟨_,(aj D 1).trans rfl,by rw[HQ];exact HV.below h⟩
   | 2,g=>obtain rfl:=CG g;exact⟨_,(aj D 2).trans rfl,((ac.drop (by have:=C.out;omega) (by have:=C.out;omega) rfl ak).below h)⟩
   | k+3,g=>cases g) (by rw[CV];omega)
  rw[CV]at e;exact e)
 refine aT (i:=15) dw dH (λK c=>?_);go_simp;go_at_call 94;refine ng.mono ?_;rintro j u ⟨v',rfl,N⟩;obtain⟨ab,I⟩:=bV N.out.1<|up h N.2;have af:=bH Q I;have R:=Y af;obtain⟨a9,k9,c9,rfl⟩:=ab.form;have mX:J (w.heap.size<=z.heap.size):=Y h.out.size;clear N af;dsimp only;refine c _ _ (λ_=>aG M I) ?_;clear c K;obtain⟨y0,yz⟩:=eY ((aj R 2).trans (rfl:_=some (X a l.length cap))) (aF R 2);refine aT (i:=16) dw dH (λK c=>?_);go_simp;refine c _ _ (λe=>aM (e.symm.trans dw) iJ) ?_;clear c K;refine aT (i:=17) dw dH (λK c=>?_);go_simp;refine c _ _ (λe=>aM (e.symm.trans dw) iJ) ?_;clear c K;refine aT (i:=18) dw dH (λK c=>?_);go_simp;refine c _ _ (λe=>aM (e.symm.trans dw) iJ) ?_;clear c K;refine dP dw ?_ _;go_wp2_with fail;go_end0;have XR:But b w (u.setCell (aN b 2)<|X a9 k9 c9):=(But.of_below I).set (a:=(aN b 2)) (aO rfl) _;have ZX:But b u (u.setCell (aN b 2)<|X a9 k9 c9):=(But.refl _ _).set (a:=(aN b 2)) (aO rfl) _;obtain⟨⟨ay,aw,ax,m,g2,g3,g4⟩,g5,g6,g7,S⟩:=HD.out;replace m:=Q.symm.trans m;injection m with m;simp only[Obj.cells.injEq,Array.mk.injEq,R9,and_true]at m;obtain⟨rfl,rfl,rfl⟩:=m;have hsub:=XR.sub (P:=P) S;refine⟨rfl,Y ⟨⟨⟨_,_,_,(aP R 2 _).trans rfl,g2.sub hsub,g3.sub hsub,(ab.avC (λk g=>HP k<|bE mX.out g)).sub hsub (ZX.sub S)⟩,λx p=>?_,?_,h6,S⟩,XR⟩⟩
 ·rw[HT]at p;rcases(EA HU S9 r).1 p with p|⟨p,_⟩;·exact al x p
  ·exact g5 x p
 ·rw[HT];exact au2 HU S9 HR
theorem auM{P:Nat->Bool}{w w1:bI}(e:∀k,w.heap.size<=k->P k=true):Sub (fr w w1) (only P w1):=λa v g=>by obtain⟨c,d⟩:=bR.1 g;exact bR.2 ⟨e _<|iP c,d⟩
def auN(P:Nat->Bool)(w:bI)(b:Nat)(ss:List aS)(G:Nat)(L:Nat->Nat)(Z:Nat->Nat->Bool)(l:List Mo)(t:aS)(d:Ending)(w':bI):Prop:=
 ∃(nm:aS) (pos a:Int) (c:List Mo),d=.returned (.tuple #[.string nm,.int .i64 pos,.int .i64 a])/\Hid (dO P w' b ss G L Z c/\But b w w'/\((a≠0/\c=l)\/(a=0/\prE t=0/\nm=(prX t).name/\∀y,y∈c↔y=prX t\/(y∈l/\y.name≠(prX t).name)))/\(prE t=0->l.length<6->a=0))
theorem atZ{P:Nat->Bool}{w w':bI}{b:Nat}{ss:aJ}{G:Nat}{L:Nat->Nat}{Z:aL}{l:List Mo}{t nm:aS}{pos a:Int}(c:dO P w' b ss G L Z l)(g:But b w w')(h:a≠0)(i:prE t=0->¬l.length<6):auN P w b ss G L Z l t (dz<|.tuple #[A nm,O pos,O a]) w':=
 ⟨nm,pos,a,l,rfl,Y ⟨c,g,aO ⟨h,rfl⟩,λd e=>aM e<|i d⟩⟩
theorem aum{P:Nat->Bool}{w w':bI}{b:Nat}{ss:aJ}{G:Nat}{L:Nat->Nat}{Z:aL}{l c:List Mo}{t nm:aS}{pos a:Int}(e:dO P w' b ss G L Z c)(h:But b w w')(d:a=0)(g:prE t=0)(j:nm=(prX t).name)(i:∀y,y∈c↔y=prX t\/(y∈l/\y.name≠(prX t).name)):auN P w b ss G L Z l t (dz<|.tuple #[A nm,O pos,O a]) w':=
 ⟨nm,pos,a,c,rfl,Y ⟨e,h,aQ ⟨d,g,j,i⟩,λ_ _=>d⟩⟩
theorem auf(P:Nat->Bool)(w:bI)(b:Nat)(ss:aJ)(G:Nat)(L:Nat->Nat)(Z:aL)(l:List Mo)(t:aS)(a:dO P w b ss G L Z l)(hP:∀k,w.heap.size<=k->P k=true)(ht:Tab w)(he:Qo w)(S:t.size<=maxLen):aD 20 #[gK b,A t] w λz w'=>auN P w b ss G L Z l t z w':=by
 obtain⟨ap,HD,HP⟩:=fE (Xo w t S ht he) a hP;obtain⟨x,hx⟩:=aV<|prX t;obtain⟨E,C⟩:=aV<|prE t;obtain⟨Q,W⟩:=bV hx C;rw[<-hx,<-C]at ap;clear a hP ht he S hx C;go_enter func20,ntmps20;go_wp2_with fail;refine ap.mono ?_;rintro z w1 ⟨c,p,h,d,q,m,e,r,o,rfl,hm,ar,-,hp⟩;obtain⟨HM,ak,aw⟩:=fE hm ar hp;clear hm ar hp;obtain⟨eT,EW⟩:=sO w1<|aY #[A x.name,X c p h,X d q m,X e r o] 89;have V:=Y<|up ak eT;have al:J (b≠w1.heap.size):=Y (by have:=HD.lt;have:=ak.size;omega);have Ns:=Y<|(auM HP).trans (eu (P:=P) eT);by_cases C:E=0
 ·subst C;go_upto_region 2 with fail;generalize w1.alloc (aY #[A x.name,X c p h,X d q m,X e r o] 89)=w2 at *;generalize w1.heap.size=B at *;have am:=Y<|HD.below V;obtain⟨⟨vn,vl,vm,af,aE,a0,au⟩,a4,ai,h6,aA⟩:=am.out;have ay:=Y<|atT (only P w2) 8196 w2 b vm l x.name ((aj af 2).trans rfl) (au.sub (Sub.refl _)<|C9 _ _) ai (bE h6 bM);obtain⟨va,vb,vo,vc,a5,-⟩:=au;subst a5;have H:=aj EW 0;obtain⟨ax,aq,H6⟩:=fE af ai h6;clear af aE a0 a4 ai h6 aA;go_wp2_with fail;refine ay.mono ?_;rintro z s ⟨i,rfl,ag⟩;obtain⟨S9,K⟩:=bV ag.out.1 ag.out.2;clear ag H;have x2:=(aj (bH ax K) 2).trans (rfl:_=some (X va l.length vc));obtain⟨n,R⟩:=aV l.length;have HN:=Y R;rw[<-R]at x2;have a7:i<=n:=by rw[R];exact S9.le
  have PU:n<=6:=by rw[R];exact H6
  have ad:=Y<|bH EW K;obtain⟨H,m1,m2,m3⟩:=xX ad;obtain⟨ao,ab⟩:=bV (am.below K)<|up V K;have av:J (MoC (only P s) 8196 [A x.name,X c p h,X d q m,X e r o] x):=Y (by have S:=Ns.trans<|eu (P:=P) K;have ah:=aw.sub S;exact⟨_,_,_,rfl,HM.sub S,⟨ah.1,ah.2.1,ah.2.2⟩⟩);have ae:J ((Da.cut l i (til l x.name i) [x]).length<=6->∀(g:Nat) I,bK s I->dR I g (aY #[A x.name,X c p h,X d q m,X e r o] 89)->aD 51 #[gK b,O i,O (til l x.name i:Nat),Tc g 1 1] I λz w'=>z=dz (.tuple #[])/\J (dO P w' b ss G L Z (Da.cut l i (til l x.name i) [x])/\But b I w')):=Y (λaz g I hb hg=>by
   refine Bv P I b ss G L Z l (ao.below hb) (λk hk=>HP k<|bE (bE ab.out.size hb.size) hk) x.name i S9 _ [x] (aQ ⟨x,rfl,rfl⟩) ⟨_,g,0,1,rfl,λ_=>rfl,bG _,λk y hy=>?_⟩ (λy hy=>?_) az
   ·match k,hy with
    | 0,hy =>obtain rfl:=CG hy;exact⟨_,rfl,λj u hu=>(by rw[show(0:Nat)+0*4+j=j by omega];exact(aj hg j).trans (by simpa only [yK]using hu)),av.out.sub<|eu hb⟩
    | k+1,hy=>cases hy
   ·rw[dh.1 hy,Q];exact(aus W.symm).1)
  clear R;cases U:Da.there l x.name i with
  | true =>have v:J (til l x.name i=i+1):=Y (by unfold til;rw[U];rfl);have jP:J ((Da.cut l i (til l x.name i) [x]).length<=6):=Y (by rw[atV S9,v];obtain⟨y,hy,_⟩:=l7 U;have:=(cO.1 hy).1;have:=H6.out;simp only[iI];omega);have aa:=Y<|ae jP;rw[v]at aa ⊢;clear U;go_wp2_with fail;have F:=aa s.heap.size _ (aH s<|aY #[A x.name,X c p h,X d q m,X e r o] 89)<|bF _ _;rw[show((i+1:Nat):Int)=(i:Int)+1 by omega]at F;have M:=Y<|aH s<|aY #[A x.name,X c p h,X d q m,X e r o] 89;generalize s.alloc (aY #[A x.name,X c p h,X d q m,X e r o] 89)=w4 at *;refine F.mono ?_;rintro z w5 ⟨rfl,D⟩;obtain⟨N,ac⟩:=bV D.out<|D.2.at (λa=>al a.symm)<|bH ad M;clear D H m1 m2 m3 F x2;have H:=aj ac 0;go_wp2;go_ret3;exact aum N.1 ((But.of_below<|up ab M).trans N.2) rfl W.symm (by rw[<-Q]) (λy=>by have a:=EA aq S9 [x] (y:=y);rw[v,dh]at a;rw[<-Q];exact a)
  | false=>
   have v:J (til l x.name i=i):=Y (by unfold til;rw[U];rfl);clear U;rw[v]at ae ⊢;by_cases h5:n<6;·have jP:J ((Da.cut l i i [x]).length<=6):=Y (by have a:=atV S9 [x];rw[v]at a;rw[a];have:=HN.out;simp only[iI];omega);have aa:=Y<|ae jP;go_wp2_with fail;have M:=Y<|aH s<|aY #[A x.name,X c p h,X d q m,X e r o] 89;have F:=aa s.heap.size _ (aH s<|aY #[A x.name,X c p h,X d q m,X e r o] 89)<|bF _ _;generalize s.alloc (aY #[A x.name,X c p h,X d q m,X e r o] 89)=w4 at *;refine F.mono ?_;rintro z w5 ⟨rfl,D⟩;obtain⟨N,ac⟩:=bV D.out<|D.2.at (λa=>al a.symm)<|bH ad M;clear D H m1 m2 m3 F x2;have H:=aj ac 0;go_wp2;go_ret3;exact aum N.1 ((But.of_below<|up ab M).trans N.2) rfl W.symm (by rw[<-Q]) (λy=>by have a:=EA aq S9 [x] (y:=y);rw[v,dh]at a;rw[<-Q];exact a)
   ·go_wp2;go_ret3;exact atZ ao (But.of_below ab) bM (λ_=>by rw[<-HN];exact h5)
 ·go_wp2;go_ret3;exact atZ (HD.below V) (But.of_below V) C (λh0=>aM (W.trans h0) C)
def auP(P:Nat->Bool)(w:bI)(b:Nat)(ss:List aS)(G:Nat)(L:Nat->Nat)(Z:Nat->Nat->Bool)(l:List Mo)(s:aS)(d:Ending)(w':bI):Prop:=
 ∃(a:Int) (c:List Mo),d=.returned (.int .i64 a)/\Hid (dO P w' b ss G L Z c/\But b w w'/\((a≠0/\c=l)\/(a=0/\∀y,y∈c↔y∈l/\y.name≠s)))
theorem auD{P:Nat->Bool}{w w':bI}{b:Nat}{ss:aJ}{G:Nat}{L:Nat->Nat}{Z:aL}{l:List Mo}{s:aS}{a:Int}(c:dO P w' b ss G L Z l)(d:But b w w')(e:a≠0):auP P w b ss G L Z l s (dz<|O a) w':=⟨a,l,rfl,Y ⟨c,d,aO ⟨e,rfl⟩⟩⟩
theorem auQ{P:Nat->Bool}{w w':bI}{b:Nat}{ss:aJ}{G:Nat}{L:Nat->Nat}{Z:aL}{l c:List Mo}{s:aS}{a:Int}(d:dO P w' b ss G L Z c)(e:But b w w')(g:a=0)(h:∀y,y∈c↔y∈l/\y.name≠s):auP P w b ss G L Z l s (dz<|O a) w':=⟨a,c,rfl,Y ⟨d,e,aQ ⟨g,h⟩⟩⟩
theorem aug(P:Nat->Bool)(w:bI)(b:Nat)(ss:aJ)(G:Nat)(L:Nat->Nat)(Z:aL)(l:List Mo)(s:aS)(c:dO P w b ss G L Z l)(t:∀k,w.heap.size<=k->P k=true):aD 22 #[gK b,A s] w λm w'=>auP P w b ss G L Z l s m w':=by
 obtain⟨q,C⟩:=bV c t;obtain⟨⟨R,Q,I,u,-,-,v⟩,-,p,o,-⟩:=c;obtain⟨E,D,B⟩:=fE (atT (only P w) 8196 w b I l s ((aj u 2).trans rfl) (v.sub (Sub.refl _)<|C9 _ _) p (bE o bM)) p o;clear u v p o t;go_enter func22,ntmps22;go_wp2_with fail;refine E.mono ?_;rintro m K ⟨i,rfl,d⟩;obtain⟨j,a⟩:=bV d.out.1 d.out.2;obtain⟨M,N⟩:=eY d.1.le B.out;cases g:Da.there l s i with
 | true =>have e:J (til l s i=i+1):=Y (by unfold til;rw[g];rfl);have h:=Y<|Bv P K b ss G L Z l (q.below a) (λk F=>C k<|bE a.out.size F) s i j (aU) [] (aO rfl) (om.nil _ _ _) (λx H=>by cases H) (by rw[atV j];simp only[Ef];omega);rw[e]at h ⊢;rw[show((i+1:Nat):Int)=(i:Int)+1 by omega]at h;clear g d;generalize l.length=n at *;go_wp2_with fail;refine h.mono ?_;rintro m S ⟨rfl,z⟩;have r:=Y z.out;clear z;go_wp2;go_ret;exact auQ r.1 ((But.of_below a).trans r.2) rfl (λy=>by have c:=EA D j [] (y:=y);rw[e]at c;rw[c];simp)
 | false =>have e:J (til l s i=i):=Y (by unfold til;rw[g];rfl);rw[e];clear g d;go_wp2;go_ret;exact auD (q.below a) (But.of_below a) bM
theorem Ce(P:Nat->Bool)(w:bI)(b:Nat)(ss:aJ)(G:Nat)(L:Nat->Nat)(Z:aL)(l:List Mo)(h:dO P w b ss G L Z l):aD 23 #[gK b] w λB w'=>∃v,B=dz v/\J (Own w' w.heap.size v (l.map λx=>x.name)/\bK w w'):=by
 obtain⟨⟨vn,vl,vm,N,-,-,U⟩,-,-,h6,-⟩:=h;have hq:=U.sub (Sub.refl _)<|C9 P w;obtain⟨a,mb,mo,cap,rfl,M,-,Q⟩:=hq;obtain⟨j5,F⟩:=bV Q M;have x2:=(aj N 2).trans (rfl:_=some (X a l.length cap));obtain⟨n,C⟩:=aV l.length;have z:=Y C;rw[<-C]at x2 h6 F;clear N U Q M C;go_enter func23,ntmps23;go_wp2_with fail;go_loopw[3,5,11] (λW q i wr=>∃(ov qv:aC) (j:Nat),ov=W/\qv=q/\j<=n/\i=O j/\J (Own wr w.heap.size ov ((l.take j).map λx=>x.name)/\bK w wr)) (λ_ _ i _=>n - (intOf i).toNat);exact⟨_,_,0,rfl,rfl,bN _,rfl,Y ⟨lJ _ _ _ _,bQ _ _⟩⟩
 obtain⟨W,q,j,rfl,rfl,hj,rfl,d⟩:=hrel;by_cases ae:j<n
 ·obtain⟨x,D⟩:∃x,l[j]?=some x:=⟨_,aZ (by rw[<-z];exact ae)⟩;obtain⟨c,-,e,R⟩:=j5 j x D;obtain⟨g,s,o,a2,t,p,m,u,r,rfl⟩:=R.forms;obtain rfl:=F bC;have g0:bJ wr mb (mo+j*4)=some (A x.name):=aG (e 0 _ rfl) d.2;obtain⟨g1,g2,g3⟩:=lS (aG (e 1 _ rfl) d.2) (aG (e 2 _ rfl) d.2) (aG (e 3 _ rfl) d.2);have E:J (((l.take j).map λx=>x.name).length=j):=Y (by rw[dV,iA,<-z];omega);have ad:J ((l.take<|j+1).map (λx=>x.name)=(l.take j).map (λx=>x.name)++[x.name]):=Y (by rw[gy,D,kI,gX];rfl);obtain⟨K,H⟩:=bV (aH wr<|aY #[A x.name,X g s o,X a2 t p,X m u r] 89)<|aH (wr.alloc<|aY #[A x.name,X g s o,X a2 t p,X m u r] 89)<|aY #[A x.name] 9;obtain⟨I,y⟩:=bV (fM (fM d.1 K) H)<|up (up d.2 K) H;have ab:J (((wr.alloc<|aY #[A x.name,X g s o,X a2 t p,X m u r] 89).alloc (aY #[A x.name] 9)).heap[wr.heap.size+1]?=some (aY #[A x.name] 9)):=Y (by have:=bF (wr.alloc<|aY #[A x.name,X g s o,X a2 t p,X m u r] 89)<|aY #[A x.name] 9;simpa using this);obtain⟨oa,oc,S⟩:=d.1.NM;rw[E]at S;subst S;clear e R D
  go_wp2_with (first
   | (at_builtin;refine lg rfl _ _ rfl w.heap.size (X oa j oc) _ rfl I _ x.name rfl ((aj ab 0).trans rfl) (by rw[E];omega) y.size ?_;intro v8 w8 qG V;have ac:=Y qG;have xW:=Y<|y.grown V y.size (λk B=>(I.lt k B).1);clear qG V)
   | fail)
  go_roundw;exact⟨_,_,j+1,rfl,rfl,by omega,by go_num,Y ⟨by rw[ad];exact ac,xW⟩⟩;exact gV
 ·have aa:J (l.take j=l):=Y (by rw[show j=l.length by have:=z.out;omega,jQ]);rw[aa]at d;go_wp2;go_ret;exact⟨_,rfl,d⟩
