import Derived.Test.YtiebmbnfedbdeaaGreatDoorTZBC
set_option maxHeartbeats 0
set_option maxRecDepth 99999
namespace Go.Proofs.YtiebmbnfedbdeaaGreatDoor
open bS bO Rn
open Go.Proofs.Tryz
open Go.RowKit Go.Maps
variable{W w w':bI}{nm:List (aS × aS)}{l:List Mo}{m q a f om n k t B i:Nat}{cs:Array aC}{zs vals:List Int}{x mn:aS}{v:Int}{y:Mo}
theorem Run.stay{c:lu}{s:gM}{o:Rn.Own}(g:Run W w c nm l m s q a f om n o){ob:Option Nat}(r:Kp c ob w w')(u:ob=none\/ob=some om){t:TypeId}{e:Nat × Nat}(d:w.heap[k]?=some (.cells cs t e))(z:t≠48)(h:t≠131)(j:t≠142):w'.heap[k]?=some (.cells cs t e):=by
 refine r.cells g.ma d z h j ?_;rcases u with rfl|rfl;·simp
 ·intro b;injection b with b;obtain⟨D,C,p⟩:=g.ow.isMap;rw[b,p]at d;cases d
theorem ab3{s:St}(b:stH s=true)(k:s.kind=4):s.name.size<=8:=by unfold stH at b;rw[aK (aQ k)]at b;simp only[dK]at b;have c:=b.1.1;unfold dZ at c;simp only[dK,iy]at c;have d:=c.1.2;rw[Array.length_toList]at d;exact d
theorem Rn.ZV(nm:List (aS × aS))(l:List Mo)(F:FJ)(a k:Nat)(o:Rn.Own)(c:St)(s:gM):(s.fuel=0->(Rn.step nm l F).dO a k o c s=(6,o,s))/\(s.fuel≠0->(Rn.step nm l F).dO a k o c s=if c.kind=3 then F.lp a k o c (fq s)else if (F.ev a k o c.e<|fq s).2.1=0 then if c.kind=1 then (0,Rn.pt nm (Rn.mn l a) o c.name (F.ev a k o c.e<|fq s).1 (F.ev a k o c.e<|fq s).2.2)else if c.kind=4 then (0,o,{ (F.ev a k o c.e<|fq s).2.2 with pr:=(F.ev a k o c.e<|fq s).2.2.pr++[(c.name,(F.ev a k o c.e<|fq s).1)] })else if (F.ev a k o c.e<|fq s).1=0 then rA (F.dO a k) c.b o (F.ev a k o c.e<|fq s).2.2 else rA (F.dO a k) c.a o (F.ev a k o c.e<|fq s).2.2 else ((F.ev a k o c.e<|fq s).2.1,o,(F.ev a k o c.e<|fq s).2.2)):=by
 refine⟨λh=>?_,λh=>?_⟩;·simp only[Rn.step,(kU h).1]
 ·simp only[Rn.step,(qE h).1]
theorem agC(W:bI)(c:lu)(nm:List (aS × aS))(l:List Mo)(m K:Nat)(F:FJ)(g:Nat)(hK:2<=K)(a1:Rn.Le (·.fuel) F)(a3:Rn.Le (λs=>s.pr.length+s.fuel) F)(hE:Tm W c nm l m K F g)(w:bI)(s:gM)(q a f om n:Nat)(o:Rn.Own)(h:Nat)(vs:Array aC)(st:St)(U:Run W w c nm l m s q a f om n o)(hF:Kz l a f)(a2:StV W h st vs)(p:Vz h st=true)(hg:s.fuel*K+h<=g+1)(I:s.fuel≠0)(b:st.kind=4)(hv:(F.ev a f o st.e<|fq s).2.1=0):aD 98 #[gK q,.agg vs] w λe w'=>e=dz (O ((Rn.step nm l F).dO a f o st s).1)/\J (NJ w w' c nm s om n ((Rn.step nm l F).dO a f o st s).2):=by
 obtain⟨H4,H0,aE⟩:=fE b I hv;clear b I hv;obtain⟨e0,e1,e2,e3,va,vb,rfl,ae,hx,Z,hb⟩:=a2;obtain⟨HX,HA,HB,a4,Ns,HF⟩:=vC hx Z hb ae p hF;obtain⟨xa,xc,rfl,rfl,rfl,rfl⟩:=hx.shape;obtain⟨aa,ac,rfl⟩:=Z.kC;obtain⟨ba,bc,rfl⟩:=hb.kC;have Lr:=ZV nm l F a f o st s;obtain⟨D,av⟩:=aV<|(Rn.step nm l F).dO a f o st s;rw[<-av]at Lr ⊢;have ax:=Y Lr;have ad:stH st=true/\jo h st.e=true/\j6 h st.a=true/\j6 h st.b=true:=by unfold Vz at p;simp only[dK]at p;exact⟨p.1.1.1,p.1.1.2,p.1.2,p.2⟩
 have aw:=Y ad;have ET:J (st.name.size<=8):=Y<|ab3 ad.1 H4;have HG:=Y hg;generalize st.e.args.length=ne at *;generalize st.a.length=na at *;generalize st.b.length=nb at *;obtain⟨P,UU,lG,aA⟩:=lD (U.box<|aY #[O st.kind,A st.name,O st.e.kind,O st.e.n,A st.e.name,X xa ne xc,X aa na ac,X ba nb bc] 198) (bF w<|aY #[O st.kind,A st.name,O st.e.kind,O st.e.n,A st.e.name,X xa ne xc,X aa na ac,X ba nb bc] 198) U.nle U.ma.room;obtain⟨r0,r1,r2,r3⟩:=P.fr.cell;have Ip:=Y<|DW _ c nm s P.ma;clear av ad hg p hF ae hx Z hb r1 r2 r3 U;go_enter func98,ntmps98;go_wp2_with fail;refine Ip.mono ?_;rintro e w1 ⟨rfl,N⟩;have L:J ((fq s).fuel<=s.fuel):=Y<|Nat.sub_le _ _;obtain⟨E,al,zH⟩:=fE (P.ev N.1 N.2 L) ((P.aft N.1 N.2 L).box lG)<|P.stay N.2 (aO rfl) UU bM bM bM;obtain⟨B,au⟩:=aV w.heap.size;rw[<-au]at zH ⊢;clear r0 au;have I:=H0.out;have r:=Y<|ax.2 I;rw[(qE I).2];have Ta:J ((fq s).fuel*K+K+h<=g+1):=Y (by
  have h1:=HG.out;have S:(fq s).fuel+1=s.fuel:=by show s.fuel - 1+1=s.fuel;omega
  have h3:((fq s).fuel+1)*K=(fq s).fuel*K+K:=rZ _ _;rw[S]at h3;omega)
 have ay:J ((fq s).fuel+1<=s.fuel):=Y (by show s.fuel - 1+1<=s.fuel;omega);have aq:J ((fq s).pr.length+(fq s).fuel+1<=16777215):=Y (by
  have h1:=E.ma.room;have S:(fq s).fuel+1=s.fuel:=by show s.fuel - 1+1=s.fuel;omega
  obtain⟨h3,b⟩:=eY HG.out aA.out;show s.pr.length+(fq s).fuel+1<=16777215;omega)
 clear I;obtain⟨s1,ah⟩:=aV<|fq s;have a0:=Y ah;rw[<-ah]at r E al Ta aq L ay;clear ah;obtain⟨b0,b1,b2,b3,b4,b5,b6,b7⟩:=MO zH;have b:=H4.out;have a7:(st.kind==3)=false:=by simp[b]
 have a6:(st.kind==1)=false:=by simp[b]
 have a8:(st.kind==4)=true:=by simp[b]
 rw[aI bC]at r;clear b;have HC:=Y<|hE w1 s1 q a f om n o h _ _ _ _ st.e E HF HX aw.2.1 (by have:=Ta.out;omega);obtain⟨V,R⟩:=aV<|F.ev a f o st.e s1;have C:J (V.2.2.fuel<=s1.fuel/\V.2.2.pr.length+V.2.2.fuel<=s1.pr.length+s1.fuel):=Y (by rw[R];exact⟨a1.1 a f o st.e s1,a3.1 a f o st.e s1⟩);rw[<-R]at HC r;have ar:J (V.2.1=0):=Y (by rw[R,a0];exact aE);clear R;go_wp2_with fail;refine HC.mono ?_;rintro e z ⟨rfl,G⟩;obtain⟨HR2,am,yh,az⟩:=lD (E.ev G.1 G.2.1 C.1) (al.trans (E.aft G.1 G.2.1 C.1) (show n+s1.fuel<=n+s.fuel by have:=L.out;omega)) (E.stay G.2.1 (aO rfl) zH bM bM bM) G.out.2.2;clear b0 b1 b2 b3 b4 b5 b6 b7;obtain⟨b0,b1,-,-,-,-,b6,b7⟩:=MO yh;have b:=H4.out;rw[aK ar.out,aI bC,aK b]at r;clear b;rw[ar];obtain⟨Q,ak⟩:=aV V.1;obtain⟨s2,ai⟩:=aV V.2.2;rw[<-ak,<-ai]at r;rw[<-ak]at az ⊢;rw[<-ai]at HR2 am C;clear ak ai;obtain⟨r0,r1,r2,r3⟩:=HR2.fr.cell;obtain⟨vp,hp,af⟩:=HR2.ma.qY;obtain⟨pa,pc,rfl⟩:=af.form;have c4:=aj hp 4;obtain⟨ab,ao⟩:=bV af hp;have jP:J (s2.pr.length+1+s2.fuel<=16777215):=Y (by have:=aq.out;have:=C.2;omega);have YS:=Y HR2.out.nle;obtain⟨pl,ag⟩:=aV s2.pr.length;rw[<-ag]at c4 ab ao;have zq:q<z.heap.size:=aR HR2.fr.2;have zp:c.p<z.heap.size:=aR hp;have zB:B<z.heap.size:=aR yh;clear r1 r2 r3 hp af ag;go_wp2_with fail
 go_region_law (first
  | (refine qm (At:=QX) dH _ _ 37 48 2 24 _ dH underlying37 aj2 bM bM bM c.n _ s2.pr dH (ab.below<|by repeat(first|exact aH _ _|apply iX)) _ [A st.name,O Q] (st.name,Q) dH (λj u hu=>(by have hj:=(cO.1 hu).1;simp at hj;obtain rfl|rfl:j=0\/j=1:=bC;all_goals(simp at hu;subst hu;simp[go_sem]))) rfl (QX.one (d:=(st.name,Q)) rfl) rfl (by have:=jP.out;omega) (bE YS.out (aH z<|aY #[A st.name,O Q] 48).size) ?_;intro g' cap w7 gF dI;have H:=Y<|iL.push (w:=z.drew) (ob:=(aY #[A st.name,O Q] 48)) (HR2.ma.below<|iX<|bQ _ _) ao (ab.below<|iX<|bQ _ _) gF dI jP YS ET;have u4:=(aj H.1 4).trans rfl;have z4:=aF H.1 4;have a9:=(aj (H.2.2.2 HR2.fr.2 bM) 0).trans rfl;clear gF dI)
  | fail)
 all_goals go_wp2;go_ret;refine⟨by rw[r];rfl,Y ?_⟩;rw[r];have hk:=am.kp.trans (((Kp.refl c none z).drewN 1).trans H.2.2.1).more;exact⟨H.2.1,hk,⟨n,HR2.ow.keep (((Kp.refl c none z).drewN 1).trans H.2.2.1) HR2.ma cK,by have h1:=L.out;have S:=C.1;show n+s2.fuel<=n+s.fuel;omega⟩,HR2.oi,by have h1:=L.out;have S:=C.1;show s2.fuel<=s.fuel;omega⟩
theorem ai2(W:bI)(c:lu)(nm:List (aS × aS))(l:List Mo)(m K:Nat)(F:FJ)(g:Nat)(hK:2<=K)(ax:Rn.Le (·.fuel) F)(az:Rn.Le (λs=>s.pr.length+s.fuel) F)(hE:Tm W c nm l m K F g)(hL:Ya W c nm l m K F g)(hD:Tn W c nm l m K F g):Tn W c nm l m K (Rn.step nm l F) (g+1):=by
 intro w s q a f om n o mm vs st hR hF ay p hg;by_cases ab:s.fuel≠0/\st.kind=4/\(F.ev a f o st.e<|fq s).2.1=0;·exact agC W c nm l m K F g hK ax az hE w s q a f om n o mm vs st hR hF ay p hg ab.1 ab.2.1 ab.2.2
 have Ve:=Y ab;clear ab;obtain⟨e0,e1,e2,e3,va,vb,rfl,ah,hx,ha,hb⟩:=ay;have a3:J (StV W mm st #[O st.kind,A st.name,e0,e1,e2,e3,va,vb]):=Y ⟨e0,e1,e2,e3,va,vb,rfl,ah,hx,ha,hb⟩;obtain⟨HX,HA,HB,a1,Ns,HF⟩:=vC hx ha hb ah p hF;obtain⟨xa,xc,rfl,rfl,rfl,rfl⟩:=hx.shape;obtain⟨aa,ac,rfl⟩:=ha.kC;obtain⟨ba,bc,rfl⟩:=hb.kC;have Lr:=ZV nm l F a f o st s;obtain⟨D,aw⟩:=aV<|(Rn.step nm l F).dO a f o st s;rw[<-aw]at Lr ⊢;have am:=Y Lr;have au:stH st=true/\jo mm st.e=true/\j6 mm st.a=true/\j6 mm st.b=true:=by unfold Vz at p;simp only[dK]at p;exact⟨p.1.1.1,p.1.1.2,p.1.2,p.2⟩
 obtain⟨ag,HG⟩:=bV au hg;generalize st.e.args.length=ne at *;generalize st.a.length=na at *;generalize st.b.length=nb at *;obtain⟨jD,UU,lG,a2⟩:=lD (hR.box<|aY #[O st.kind,A st.name,O st.e.kind,O st.e.n,A st.e.name,X xa ne xc,X aa na ac,X ba nb bc] 198) (bF w<|aY #[O st.kind,A st.name,O st.e.kind,O st.e.n,A st.e.name,X xa ne xc,X aa na ac,X ba nb bc] 198) hR.nle hR.ma.room;obtain⟨r0,r1,r2,r3⟩:=jD.fr.cell;have Ip:=Y<|DW _ c nm s jD.ma;clear aw au hg p hF ah hx ha hb r1 r2 r3 hR;go_enter func98,ntmps98;go_wp2_with fail;refine Ip.mono ?_;rintro U w1 ⟨rfl,S⟩;have z:J ((fq s).fuel<=s.fuel):=Y<|Nat.sub_le _ _;obtain⟨E,ad,zH⟩:=fE (jD.ev S.1 S.2 z) ((jD.aft S.1 S.2 z).box lG)<|jD.stay S.2 (aO rfl) UU bM bM bM;obtain⟨B,av⟩:=aV w.heap.size;rw[<-av]at zH ⊢;clear r0 av;by_cases u:s.fuel=0;·as_aux_lemma =>have b:=Y<|am.1 u;have aE:=Y<|kU u;rw[(kU u).2.1];clear u;go_wp2;go_ret;exact⟨by rw[b];rfl,Y (by rw[b];have:=ad.out;rw[aE.2.2]at this;exact this)⟩
 ·have b:=Y<|am.2 u;rw[(qE u).2];have Ta:J ((fq s).fuel*K+K+mm<=g+1):=Y (by
   have e:=HG.out;have Z:(fq s).fuel+1=s.fuel:=by show s.fuel - 1+1=s.fuel;omega
   have r:((fq s).fuel+1)*K=(fq s).fuel*K+K:=rZ _ _;rw[Z]at r;omega)
  have ao:J ((fq s).fuel+1<=s.fuel):=Y (by show s.fuel - 1+1<=s.fuel;omega);have a4:J ((fq s).pr.length+(fq s).fuel+1<=16777215):=Y (by
   have e:=E.ma.room;have Z:(fq s).fuel+1=s.fuel:=by show s.fuel - 1+1=s.fuel;omega
   obtain⟨r,Q⟩:=eY HG.out a2.out;show s.pr.length+(fq s).fuel+1<=16777215;omega)
  have a0:=Y u;clear u;obtain⟨s1,ai⟩:=aV<|fq s;have a7:=Y ai;rw[<-ai]at b E ad Ta a4 z ao;clear ai;obtain⟨I,L,b2,b3,b4,b5,N,P⟩:=MO zH;by_cases r:st.kind=3
  ·as_aux_lemma=>
    have a9:(st.kind==3)=true:=by simp[r]
    have j:J (D=F.lp a f o st s1):=Y (by rw[b,aK r]);have d:=Y<|hL w1 s1 q a f om n o mm _ st E HF a3 Ns (by have:=Ta.out;omega);rw[<-j]at d;clear r;go_wp2_with fail;refine d.mono ?_;rintro U w2 ⟨rfl,C⟩;clear I L b2 b3 b4 b5 N P;go_wp2;go_ret;exact⟨rfl,Y<|ad.trans C (by have:=z.out;show n+s1.fuel<=n+s.fuel;omega)⟩
  ·have a9:(st.kind==3)=false:=by simp[r]
   rw[aI r]at b;clear r;have d:=Y<|hE w1 s1 q a f om n o mm _ _ _ _ st.e E HF HX ag.2.1 (by have:=Ta.out;omega);obtain⟨V,UW⟩:=aV<|F.ev a f o st.e s1;have j:J (V.2.2.fuel<=s1.fuel/\V.2.2.pr.length+V.2.2.fuel<=s1.pr.length+s1.fuel):=Y (by rw[UW];exact⟨ax.1 a f o st.e s1,az.1 a f o st.e s1⟩);rw[<-UW]at d b;have a5:=Y UW;clear UW;go_wp2_with fail;refine d.mono ?_;rintro U w2 ⟨rfl,H⟩;obtain⟨ae,C,yh,ar⟩:=lD (E.ev H.1 H.2.1 j.1) (ad.trans (E.aft H.1 H.2.1 j.1) (show n+s1.fuel<=n+s.fuel by have:=z.out;omega)) (E.stay H.2.1 (aO rfl) zH bM bM bM) H.out.2.2;clear I L b2 b3 b4 b5 N P;obtain⟨I,L,-,-,-,-,N,P⟩:=MO yh;by_cases G:V.2.1=0
   ·rw[aK G]at b;have a6:J ((F.ev a f o st.e<|fq s).2.1=0):=Y (by rw[<-a7,<-a5];exact G);rw[G];clear G;obtain⟨x2,al⟩:=aV V.1;obtain⟨s2,ak⟩:=aV V.2.2;rw[<-al,<-ak]at b;rw[<-al]at ar ⊢;rw[<-ak]at ae C j;clear al ak;by_cases e:st.kind=1
    ·as_aux_lemma=>
      have a8:(st.kind==1)=true:=by simp[e]
      rw[aK e]at b;have d:=Y<|ahV W w2 c nm l m s2 q a f om n o st.name x2 ae a1 ar;clear e;go_wp2_with fail;refine d.mono ?_;rintro U w3 ⟨rfl,HP⟩;clear I L N P;go_wp2;go_ret;refine⟨by rw[b];rfl,Y ?_⟩;rw[b];have aA:(Rn.pt nm (Rn.mn l a) o st.name x2 s2).2.fuel=s2.fuel:=MG Sl _ _ _ _ _ _;obtain⟨k1,k2,k3⟩:=lS z.out j.1 ao.out;exact⟨HP.1,C.kp.trans HP.2.1,⟨n+1,HP.2.2.1,by rw[aA];omega⟩,HP.2.2.2,by rw[aA];omega⟩
    ·have a8:(st.kind==1)=false:=by simp[e]
     rw[aI e]at b;by_cases Q:st.kind=4;·exact aM ⟨a0,Q,a6⟩ Ve
     ·have be:(st.kind==4)=false:=by simp[Q]
      rw[aI Q]at b;obtain⟨m',rfl⟩:∃m',mm=m'+1:=by
       cases mm with
       | zero=>exact aM HX.out (λh=>h)
       | succ k=>exact⟨k,rfl⟩
      have aq:J (s2.fuel*K+m'<=g):=Y (by have e:=Ta.out;have Z:s2.fuel*K<=s1.fuel*K:=qR K j.1;omega);by_cases R:x2=0
      ·as_aux_lemma=>
        have bb:(x2==0)=true:=by simp[R]
        rw[aK R]at b;have d:=Y<|Af W c nm l m K F g hD w2 s2 q a f om n o m' _ st.b ae HF HB ag.2.2.2 aq;rw[<-b]at d;clear e Q R;go_wp2_with fail;refine d.mono ?_;rintro U w3 ⟨rfl,af⟩;clear I L N P;go_wp2;go_ret;exact⟨rfl,Y<|C.trans af (by have e:=z.out;have Z:=j.1;show n+s2.fuel<=n+s.fuel;omega)⟩
      ·as_aux_lemma=>
        have bb:(x2==0)=false:=by simp[R]
        rw[aI R]at b;have d:=Y<|Af W c nm l m K F g hD w2 s2 q a f om n o m' _ st.a ae HF HA ag.2.2.1 aq;rw[<-b]at d;clear e Q R;go_wp2_with fail;refine d.mono ?_;rintro U w3 ⟨rfl,af⟩;clear I L N P;go_wp2;go_ret;exact⟨rfl,Y<|C.trans af (by have e:=z.out;have Z:=j.1;show n+s2.fuel<=n+s.fuel;omega)⟩
   ·as_aux_lemma=>
     have bf:(V.2.1==0)=false:=by simp[G]
     rw[aI G]at b;clear G;go_wp2;go_ret;exact⟨by rw[b];rfl,Y (by rw[b];exact C)⟩
def Gq(c:lu)(w:bI):Nat:=match w.cell? ⟨c.p,3,none⟩with
 | some (.int _ k)=>k.toNat
 | _=>0
theorem iL.Gq{c:lu}{s:gM}(d:iL w c nm s):Go.Proofs.YtiebmbnfedbdeaaGreatDoor.Gq c w=s.fuel:=by obtain⟨_,_,_,b,_⟩:=d.cell;unfold Go.Proofs.YtiebmbnfedbdeaaGreatDoor.Gq;rw[b];simp
theorem Rn.ai3(nm:List (aS × aS))(l:List Mo)(F:FJ)(a k:Nat)(o:Rn.Own)(c:St)(s:gM):((F.ev a k o c.e s).2.1≠0\/(F.ev a k o c.e s).1=0->(Rn.step nm l F).lp a k o c s=((F.ev a k o c.e s).2.1,o,(F.ev a k o c.e s).2.2))/\((F.ev a k o c.e s).2.1=0->(F.ev a k o c.e s).1≠0->((rA (F.dO a k) c.a o (F.ev a k o c.e s).2.2).1≠0->(Rn.step nm l F).lp a k o c s=rA (F.dO a k) c.a o (F.ev a k o c.e s).2.2)/\((rA (F.dO a k) c.a o (F.ev a k o c.e s).2.2).1=0->(rA (F.dO a k) c.a o (F.ev a k o c.e s).2.2).2.2.fuel=0->(Rn.step nm l F).lp a k o c s=(6,(rA (F.dO a k) c.a o (F.ev a k o c.e s).2.2).2))/\((rA (F.dO a k) c.a o (F.ev a k o c.e s).2.2).1=0->(rA (F.dO a k) c.a o (F.ev a k o c.e s).2.2).2.2.fuel≠0->(Rn.step nm l F).lp a k o c s=F.lp a k (rA (F.dO a k) c.a o (F.ev a k o c.e s).2.2).2.1 c (fq (rA (F.dO a k) c.a o (F.ev a k o c.e s).2.2).2.2))):=by
 refine⟨λb=>?_,λe g=>⟨λd=>?_,λd h=>?_,λd h=>?_⟩⟩;·simp only[Rn.step];rw[aI (λj=>by rcases b with b|b;exact b j.1;exact j.2 b)]
 ·simp only[Rn.step];rw[aK ⟨e,g⟩,aI d]
 ·simp only[Rn.step];rw[aK ⟨e,g⟩,aK d,(kU h).1]
 ·simp only[Rn.step];rw[aK ⟨e,g⟩,aK d,(qE h).1]
theorem nI(W:bI)(c:lu)(nm:List (aS × aS))(l:List Mo)(m K:Nat)(g:Nat)(hK:2<=K)(hE:∀b,b<=g->Tm W c nm l m K (Rn.M nm l b) b)(hD:∀b,b<=g->Tn W c nm l m K (Rn.M nm l b) b):Ya W c nm l m K (Rn.M nm l<|g+1) (g+1):=by
 intro w s q a f om n o mm vs st hR hF a7 P hg;obtain⟨e0,e1,e2,e3,va,vb,rfl,a8,hx,ha,hb⟩:=a7;obtain⟨HX,HA,HF⟩:=fE hx ha hF;obtain⟨xa,xc,rfl,rfl,rfl,rfl⟩:=hx.shape;obtain⟨aa,ac,rfl⟩:=ha.kC;obtain⟨ba,bc,rfl⟩:=hb.kC;obtain⟨r,rfl⟩:∃r,mm=r+1:=by
  cases mm with
  | zero=>exact aM hx (λh=>h)
  | succ k=>exact⟨k,rfl⟩
 obtain⟨R,ae⟩:=aV<|(Rn.M nm l<|g+1).lp a f o st s;have a3:=Y ae;rw[<-ae];have al:jo (r+1) st.e=true/\j6 (r+1) st.a=true:=by unfold Vz at P;simp only[dK]at P;exact⟨P.1.1.2,P.1.2⟩
 obtain⟨ah,HG,GQ,ax⟩:=lD al hg hE hD;generalize st.e.args.length=ne at *;generalize st.a.length=na at *;generalize st.b.length=nb at *;obtain⟨jD,UU⟩:=bV (hR.box<|aY #[O st.kind,A st.name,O st.e.kind,O st.e.n,A st.e.name,X xa ne xc,X aa na ac,X ba nb bc] 198)<|bF w<|aY #[O st.kind,A st.name,O st.e.kind,O st.e.n,A st.e.name,X xa ne xc,X aa na ac,X ba nb bc] 198;have ES:=Y<|(NJ.refl jD).box hR.nle;obtain⟨B,ad⟩:=aV w.heap.size;rw[<-ad]at UU;have iO:=Y ad;clear ae al hg P hF a8 hx ha hb hR hE hD ad;go_enter func151,ntmps151;go_wp2_with fail;rw[<-iO];generalize (w.alloc<|aY #[O st.kind,A st.name,O st.e.kind,O st.e.n,A st.e.name,X xa ne xc,X aa na ac,X ba nb bc] 198)=W0 at *;go_loopw[5] (λ_ wx=>∃(b:Nat) (j:Rn.Own) (s':gM) (n':Nat),J<|b<=g/\Run W wx c nm l m s' q a f om n' j/\NJ w wx c nm s om n (j,s')/\n'+s'.fuel<=n+s.fuel/\dR wx B (aY #[O st.kind,A st.name,O st.e.kind,O st.e.n,A st.e.name,X xa ne xc,X aa na ac,X ba nb bc] 198)/\R=(Rn.M nm l<|b+1).lp a f j st s'/\s'.fuel*K+(r+1)<=b) (λ_ wx=>Gq c wx);exact⟨g,o,s,n,Y ⟨bG _,jD,ES,bG _,UU,a3,by have:=HG.out;omega⟩⟩
 obtain⟨b,j,s',n',d⟩:=hrel;obtain⟨L,G⟩:=bV (ai3 nm l (Rn.M nm l b) a f j st s')<|GQ b d.1 wr s' q a f om n' j (r+1) _ _ _ _ st.e d.2.1 HF HX ah.1 d.2.2.2.2.2.2;obtain⟨V,UW⟩:=aV<|(Rn.M nm l b).ev a f j st.e s';have z:J (V.2.2.fuel<=s'.fuel):=Y (by rw[UW];exact(WH nm l b).1 a f j st.e s');rw[<-UW]at G L;have ay:J (R=(Rn.step nm l<|Rn.M nm l b).lp a f j st s'):=Y d.out.2.2.2.2.2.1;rw[<-ay]at L;obtain⟨-,-,b2,b3,b4,b5⟩:=ZC6 d.2.2.2.2.1;clear UW;obtain⟨wo,rfl⟩:=aV wr;go_wp2_with fail;refine G.mono ?_;rintro e w2 ⟨rfl,N⟩;obtain⟨Z,S,yh⟩:=fE (d.2.1.ev N.1 N.2.1 z) (d.2.2.1.trans (d.2.1.aft N.1 N.2.1 z) d.2.2.2.1)<|d.2.1.stay N.2.1 (aO rfl) d.2.2.2.2.1 bM bM bM;clear b2 b3 b4 b5;have b6:=aj yh 6;by_cases p:V.2.1=0
 ·by_cases E:V.1=0;·as_aux_lemma =>have HV:=Y<|L.1<|aQ E;rw[p,E];have a4:=Y p;clear p E;go_wp2;go_ret;exact⟨by rw[HV,a4];rfl,Y (by rw[HV];exact S)⟩
  ·have a9:(V.1==0)=false:=by simp[E]
   have I:=Y<|L.2 p E;rw[p];clear p E;obtain⟨x2,av⟩:=aV V.1;obtain⟨s2,au⟩:=aV V.2.2;rw[<-av]at a9 ⊢;rw[<-au]at Z S z I;clear av au;have aA:J (s2.fuel*K+r<=b):=Y (by have h1:=d.2.2.2.2.2.2;have h2:s2.fuel*K<=s'.fuel*K:=qR K z;omega);have G:=Y<|Af W c nm l m K (Rn.M nm l b) b (ax b d.1) w2 s2 q a f om n' j r _ st.a Z HF HA ah.2 aA;obtain⟨D,am⟩:=aV<|rA ((Rn.M nm l b).dO a f) st.a j s2;rw[<-am]at G I;clear am;go_wp2_with fail;refine G.mono ?_;rintro e w3 ⟨rfl,U⟩;have xg:J (n'+s2.fuel<=n+s.fuel):=Y (by have:=d.2.2.2.1;have:=z.out;omega);have af:=Y<|S.trans U xg;obtain⟨n3,ar,aq⟩:=U.run Z;obtain⟨H,a1,a5,az⟩:=lD ar aq (Z.stay U.kp (aQ rfl) yh bM bM bM) U.out.le;clear b6 ar aq;by_cases C:D.1=0
   ·rw[C];have ai:=Y C;clear C;have Ip:=Y<|DW w3 c nm D.2.2 H.ma;obtain⟨r0,r1,r2,r3⟩:=H.fr.cell;clear r1 r2 r3;go_wp2_with fail;refine Ip.mono ?_;rintro e w4 ⟨rfl,F⟩;clear r0;have ab:J ((fq D.2.2).fuel<=D.2.2.fuel):=Y<|Nat.sub_le _ _;have a2:=Y<|H.ev F.1 F.2 ab;have vD:J (n3+D.2.2.fuel<=n+s.fuel):=Y (by have:=a1.out;have:=xg.out;omega);obtain⟨ag,a6⟩:=bV (af.trans (H.aft F.1 F.2 ab) vD)<|H.stay F.2 (aO rfl) a5 bM bM bM;by_cases u:D.2.2.fuel=0;·as_aux_lemma =>have HV:=Y<|I.2.1 ai u;have aw:=Y<|kU u;rw[(kU u).2.1];clear u;go_wp2;go_ret;exact⟨by rw[HV];rfl,Y (by rw[HV];have:=ag.out;rw[aw.2.2]at this;exact this)⟩
    ·have HV:=Y<|I.2.2 ai u;rw[(qE u).2];have ak:J ((fq D.2.2).fuel+1<=s'.fuel):=Y (by have h1:=az.out;have h2:=z.out;show D.2.2.fuel - 1+1<=s'.fuel;omega);obtain⟨Q,ao⟩:∃Q,b=Q+1:=⟨b - 1,by have h1:=d.2.2.2.2.2.2;omega⟩;have aE:J ((fq D.2.2).fuel*K+(r+1)<=Q):=Y (by have h1:=d.2.2.2.2.2.2;have h2:((fq D.2.2).fuel+1)*K<=s'.fuel*K:=qR K ak;have h3:((fq D.2.2).fuel+1)*K=(fq D.2.2).fuel*K+K:=rZ _ _;omega);have a0:J (Q<=g):=Y (by have:=d.1;omega);rw[ao]at HV;clear u ao;go_wp2;go_roundw;case rel=>exact⟨Q,D.2.1,fq D.2.2,n3,Y ⟨a0,a2,ag,by have:=vD.out;have:=ab.out;omega,a6,HV,aE⟩⟩
     case measure =>rw[F.1.Gq,d.2.1.ma.Gq];have:=ak.out;omega
   ·as_aux_lemma=>
     have bb:(D.1==0)=false:=by simp[C]
     have HV:=Y<|I.1 C;clear C;go_wp2;go_ret;exact⟨by rw[HV];rfl,Y (by rw[HV];exact af)⟩
 ·as_aux_lemma=>
   have be:(V.2.1==0)=false:=by simp[p]
   have HV:=Y<|L.1<|aO p;clear p;go_wp2;go_ret;exact⟨by rw[HV];rfl,Y (by rw[HV];exact S)⟩
theorem ab4{ps:aJ}(c:ps[t]?=some x)(b:zs[t]?=some v):qD (ps.take<|t+1) (zs.take<|t+1)=Rn.put (qD (ps.take t)<|zs.take t) x v:=by have d:=(cO.1 c).1;have e:=(cO.1 b).1;unfold qD;rw[gy,gy,c,b,kI,kI,List.zip_append (by rw[iA,iA];omega),JX];rfl
theorem Rn.agD{F:FJ}{b:Fu}(d:l[a]?=some y)(c:y.bq[k]?=some b)(args:List Int)(s:gM):Rn.enter F l a k args s=if b.params.length=args.length then if (rA (F.dO a k) b.body (qD b.params args) s).1=0 then F.ev a k (rA (F.dO a k) b.body (qD b.params args) s).2.1 b.result (rA (F.dO a k) b.body (qD b.params args) s).2.2 else (0,(rA (F.dO a k) b.body (qD b.params args) s).1,(rA (F.dO a k) b.body (qD b.params args) s).2.2)else (0,5,s):=by unfold Rn.enter;rw[d];simp only[Option.bind_some,c]
theorem Ints.grown{v:aC}{l:List Int}(h:Ints w v l)(hg:w.grownBy w' (some om))(z:∃g e,dR w om<|.map g e):Ints w' v l:=by obtain⟨g,e,u⟩:=z;obtain⟨a,b,off,cap,c,o,r,p⟩:=h;refine⟨a,b,off,cap,c,o,r,λj D C=>?_⟩;have d:=p j D C;have s:=eH _ _ d;rw[jH (w:=w) (hg.block b s (λc=>by injection c with c;subst c;simp[World.cell?,u]at d))];exact d
theorem Ints.drew{v:aC}{l:List Int}(h:Ints w v l):Ints w.drew v l:=h.below (bQ _ _).drew
theorem Gr(W:bI)(c:lu)(nm:List (aS × aS))(l:List Mo)(m K:Nat)(F:FJ)(g:Nat)(hE:Tm W c nm l m K F g)(hD:Tn W c nm l m K F g)(w:bI)(s:gM)(a k:Nat)(va:aC)(args:List Int)(hb:Below c.n W w)(hn:c.n=W.heap.size)(hL:jN W m c.vl l)(hM:iL w c nm s)(y:Mo)(d:Fu)(hy:l[a]?=some y)(hf:y.bq[k]?=some d)(ae:Q7 m d=0)(hA:Ints w va args)(a6:∀x∈args,mq x)(hg:s.fuel*K+m<=g):aD 24 #[gK c.p,O a,O k,va] w λe w'=>e=dz (.tuple #[O (Rn.enter F l a k args s).1,O (Rn.enter F l a k args s).2.1])/\J (iL w' c nm (Rn.enter F l a k args s).2.2/\Kp c none w w'/\mq (Rn.enter F l a k args s).1):=by
 obtain⟨HL,HM,HW,HN,GQ,bu⟩:=vC hL hM hb hn hE hD;obtain⟨HG,bs⟩:=bV hg a6;have bb:j6 m d.body=true/\jo m d.result=true:=by have:=WR ae;unfold Wp at this;simp only[dK]at this;exact⟨this.1.1.2,this.1.2⟩
 have MI:=Y bb;have KZ:J (Kz l a k):=Y ⟨y,hy,(cO.1 hf).1⟩;have a8:a<l.length:=(cO.1 hy).1;have cb:k<y.bq.length:=(cO.1 hf).1;have bY:=Y a8;have I:∀{p:Addr} {v:aC},W.cell? p=some v->w.cell? p=some v:=λ{p v} hp=>by rw[hb.cell (by rw[hn];exact eH _ _ hp)];exact hp
 obtain⟨ad,b,off,cap,bp,h0,ce,L⟩:=hL;obtain⟨vi,vv,vf,-,-,-,g3,be⟩:=L a y hy;obtain⟨fa,fb,fo,fc,rfl,a9,ca,ba⟩:=be.split.2.2;obtain⟨-,vp,vb,e0,e1,e2,e3,f0,f1,f2,f3,f4,f5,f6,hp,ay,al⟩:=ba k d hf;obtain⟨Ns,bz⟩:=bV ay al;obtain rfl:=h0 bC;obtain rfl:=a9 bC;obtain⟨H,pb,po,pc,rfl,bj,cg,bk,a3⟩:=hp;obtain⟨xM,xV,a2⟩:=fE bk a3 bj;obtain⟨r,u,rfl⟩:=ay.kC;obtain⟨C,E,rfl,rfl,rfl,rfl⟩:=al.shape;obtain⟨V,rfl⟩:∃V,m=V+1:=by
  cases m with
  | zero=>exact aM al (λh=>h)
  | succ j=>exact⟨j,rfl⟩
 replace g3:=I g3;replace f0:=I f0;replace f1:=I f1;replace f2:=I f2;replace f3:=I f3;replace f4:=I f4;replace f5:=I f5;replace f6:=I f6;obtain⟨ct,c0,-,-,-,-,-⟩:=hM.cell;rw[bp]at c0;have a0:=Y hA;obtain⟨aa,ab,ao,ac,rfl,Q,cd,ah⟩:=hA;have br:=Y Q;obtain⟨R,aw⟩:=aV<|Rn.enter F l a k args s;have av:=aw;rw[agD hy hf]at av;have G:=Y av;rw[<-aw];obtain⟨np,ak⟩:=aV d.params.length;obtain⟨na,ai⟩:=aV args.length;obtain⟨nl,bh⟩:=aV l.length;obtain⟨nf,bf⟩:=aV y.bq.length;obtain⟨Ee,Cb⟩:=bV ak ai;rw[<-ak]at f1 cg a2;rw[<-ak,<-ai]at G;rw[<-ai]at a0 br cd ⊢;rw[<-bh]at c0 a8 ce;rw[<-bf]at g3 cb ca;generalize d.body.length=nb at *;generalize d.result.args.length=o at *;have co:np<=4:=by
  unfold Q7 at ae;by_cases h4:4<d.params.length;·rw[aK h4]at ae;cases ae
  ·omega
 have P:J (c.n<=w.heap.size):=Y (by rw[hn];exact hb.size);have aE:=Y<|aH w<|aY #[A d.name,X H np pc,X r nb u,O d.result.kind,O d.result.n,A d.result.name,X C o E] 102;have bc:=@run_makeMap prog;clear aw av ak ai bh bf ae bb bj bk a3 Q ah al ay ba a9 be L h0 bp hM hb hE hD hg a6 hy hf hn I;by_cases N:np=na
 ·have cc:((np:Int)==(na:Int))=true:=by simp[N]
  have cr:((np:Int) != (na:Int))=false:=by simp[N]
  rw[aK N]at G;have ag:=Y N;clear N;obtain⟨e1,e2,e3⟩:=lS (bF w<|aY #[A d.name,X H np pc,X r nb u,O d.result.kind,O d.result.n,A d.result.name,X C o E] 102) (bF (w.alloc<|aY #[A d.name,X H np pc,X r nb u,O d.result.kind,O d.result.n,A d.result.name,X C o E] 102)<|.map #[] 0)<|bF ((w.alloc<|aY #[A d.name,X H np pc,X r nb u,O d.result.kind,O d.result.n,A d.result.name,X C o E] 102).alloc (.map #[] 0))<|aY #[gK c.p,O a,O k,.map<|some<|w.heap.size+1] 137;have am:J (bK w<|((w.alloc<|aY #[A d.name,X H np pc,X r nb u,O d.result.kind,O d.result.n,A d.result.name,X C o E] 102).alloc (.map #[] 0)).alloc (aY #[gK c.p,O a,O k,.map<|some<|w.heap.size+1] 137)):=Y<|up (up (aH _ _)<|aH _ _)<|aH _ _;have yh:=Y<|bT (bT e1<|.map #[] 0)<|aY #[gK c.p,O a,O k,.map<|some<|w.heap.size+1] 137;have XW:J (nS (((w.alloc<|aY #[A d.name,X H np pc,X r nb u,O d.result.kind,O d.result.n,A d.result.name,X C o E] 102).alloc (.map #[] 0)).alloc (aY #[gK c.p,O a,O k,.map<|some<|w.heap.size+1] 137)) (w.heap.size+1) 0<|qD (d.params.take 0)<|args.take 0):=Y (by have L:=nS.new<|w.alloc<|aY #[A d.name,X H np pc,X r nb u,O d.result.kind,O d.result.n,A d.result.name,X C o E] 102;rw[oh]at L;refine L.same ?_;rw[oh]at e2;rw[bT e2 (aY #[gK c.p,O a,O k,.map<|some<|w.heap.size+1] 137),e2]);have a4:J (Pq (((w.alloc<|aY #[A d.name,X H np pc,X r nb u,O d.result.kind,O d.result.n,A d.result.name,X C o E] 102).alloc (.map #[] 0)).alloc (aY #[gK c.p,O a,O k,.map<|some<|w.heap.size+1] 137)) c (w.heap.size+1+1) a k<|w.heap.size+1):=Y ⟨by have:=P.out;omega,by rw[oh,oh]at e3;exact e3⟩;clear e1 e2 e3;go_enter func24,ntmps24;go_wp2_with fail;obtain⟨b0,bS⟩:=bV (HM.below am)<|a0.below am;have b1:J (Kp c none w<|((w.alloc<|aY #[A d.name,X H np pc,X r nb u,O d.result.kind,O d.result.n,A d.result.name,X C o E] 102).alloc (.map #[] 0)).alloc (aY #[gK c.p,O a,O k,.map<|some<|w.heap.size+1] 137)):=Y<|Kp.of_below am P;obtain⟨B,au⟩:=aV w.heap.size;generalize (((w.alloc<|aY #[A d.name,X H np pc,X r nb u,O d.result.kind,O d.result.n,A d.result.name,X C o E] 102).alloc (.map #[] 0)).alloc (aY #[gK c.p,O a,O k,.map<|some<|w.heap.size+1] 137))=W2 at *;have aq:J (c.mp<w.heap.size):=Y (by obtain⟨es,cl,he⟩:=HM.map.isMap;exact aR he);rw[<-au]at yh XW a4 aq P ⊢;have iO:=Y au;clear au c0 g3 f0 f1 f2 f3 f4 f5 f6 bc;go_loopw[41] (λi wx=>∃t:Nat,t<=np/\i=O t/\J (iL wx c nm s/\Kp c none w wx/\Pq wx c (B+1+1) a k (B+1)/\nS wx (B+1) t (qD (d.params.take t)<|args.take t)/\(∀z v,qD (d.params.take t) (args.take t) z=some v->mq v)/\wx.heap[B]?=some (aY #[A d.name,X H np pc,X r nb u,O d.result.kind,O d.result.n,A d.result.name,X C o E] 102)/\Ints wx (X aa na ac) args)) (λi _=>np - (intOf i).toNat);exact⟨0,bN _,rfl,Y ⟨b0,b1,a4,XW,λz v h=>by simp[qD]at h,yh,bS⟩⟩
  obtain⟨t,ht,rfl,HI⟩:=hrel;by_cases az:t<np
  ·obtain⟨x,hx⟩:∃x,d.params[t]?=some x:=⟨_,aZ (by rw[<-Ee];exact az)⟩;obtain⟨z,hz⟩:∃z,args[t]?=some z:=⟨_,aZ (by rw[<-Cb,<-ag];exact az)⟩;have vZ:=Y<|ab4 hx hz;obtain⟨bq,aA,x0⟩:=lS (xM x<|dG hx) (bs z<|dG hz)<|xV t (by rw[<-Ee];exact az);rw[xK,hx,gD]at x0;have x1:wr.cell? (aN pb<|po+t)=some (A x):=by have cf:=eH _ _ x0;rw[(HW.trans HI.2.1.below).cell (by rw[HN];exact cf)];exact x0
   obtain rfl:=a2 bC;obtain⟨cj,ck,cn,cm,bo,Q,-,ah⟩:=HI.2.2.2.2.2.2;rw[<-Cb]at bo Q;injection bo with b7 b8 b9;obtain rfl:=Q (by have:=ag.out;omega);subst b7 b9;obtain⟨z1,q3⟩:=eY (ah t z hz) HI.2.2.1.cell.2.2.2;obtain⟨Z,L1,bi,U⟩:=(HI.2.2.2.1.same (w':=wr.drew) rfl).put (by unfold maxLen;omega) bq aA;have cp:t<na:=by have:=ag.out;omega
   have ax:∃es cl,wr.drew.heap[B+1]?=some (.map es cl):=HI.2.2.2.1.isMap;have bL:=Y<|(HI.1.below (bQ _ _).drew).but ax U (by have:=aq.out;omega);have tX:J (Kp c none w Z):=Y<|((HI.2.1.drewN 1).more.trans (Kp.but U (by have:=P.out;omega) (bE (by have:=P.out;omega:c.n<=B) (xq<|aR HI.2.2.2.2.2.1)))).fresh (by have:=iO.out;omega);have bv:J (Pq Z c (B+1+1) a k<|B+1):=Y ⟨HI.2.2.1.1,by rw[U.block _ (aR HI.2.2.1.2) cK];exact HI.2.2.1.2⟩;have bx:J (Z.heap[B]?=some (aY #[A d.name,X (some<|aN pb po) np pc,X r nb u,O d.result.kind,O d.result.n,A d.result.name,X C o E] 102)):=Y (by rw[U.block _ (aR HI.2.2.2.2.2.1) cK];exact HI.2.2.2.2.2.1);obtain⟨Y4,bw,bA⟩:=fE (HI.2.2.2.2.2.2.drew.grown U ax) bi aA;clear hx hz x0 ah bi U ax b8 Q bq aA;obtain⟨wo,rfl⟩:=aV wr;go_wp2_with fail;go_region_law (fail);all_goals
    go_wp2;go_roundw;exact⟨t+1,by omega,by go_num,Y ⟨bL,tX,bv,by rw[vZ];exact bw,by rw[vZ];exact Y7 HI.2.2.2.2.1 bA,bx,Y4⟩⟩;exact gV
  ·have ch:t=np:=by omega
   have a1:J (qD (d.params.take t) (args.take t)=qD d.params args):=Y (by have L:d.params.take t=d.params:=fQ (by rw[<-Ee];omega);have h2:args.take t=args:=fQ (by rw[<-Cb,<-ag];omega);rw[L,h2]);have ar:J (Run W wr c nm l (V+1) s (B+1+1) a k (B+1) t<|qD d.params args):=Y ⟨HW.trans HI.2.1.below,HN,HL,HI.1,HI.2.2.1,by rw[<-a1];exact HI.2.2.2.1,by have:=P.out;omega,by have:=aq.out;omega,bY,by rw[<-a1];exact HI.2.2.2.2.1,by have:=HI.1.room;omega⟩;have HC:=Y<|Af W c nm l (V+1) K F g bu wr s (B+1+1) a k (B+1) t _ V _ d.body ar KZ Ns MI.1 (by have:=HG.out;omega);obtain⟨D,a7⟩:=aV<|rA (F.dO a k) d.body (qD d.params args) s;rw[<-a7]at HC G;have b2:=aj HI.2.2.2.2.2.1 2;clear ch a7;obtain⟨wo,rfl⟩:=aV wr;go_wp2_with fail;refine HC.mono ?_;rintro e Z ⟨rfl,af⟩;have a5:J (Kp c none w Z):=Y<|(HI.2.1.more.trans af.kp).fresh (by have:=iO.out;omega);obtain⟨n5,bm,-⟩:=af.run ar;obtain⟨oK,R6,bB⟩:=fE bm (ar.stay af.kp (aQ rfl) HI.2.2.2.2.2.1 bM bM bM) af.out.le;clear b2 bm;by_cases S:D.1=0;·rw[aK S]at G;rw[S];clear S;have Ia:=Y<|GQ Z D.2.2 (B+1+1) a k (B+1) n5 D.2.1 (V+1) _ _ _ _ d.result oK KZ bz MI.2 (by have L:=HG.out;have h2:D.2.2.fuel*K<=s.fuel*K:=qR K bB;omega);rw[<-G]at Ia;obtain⟨-,-,-,b3,b4,b5,b6⟩:=Cg R6;go_wp2_with fail;refine Ia.mono ?_;rintro e w6 ⟨rfl,uq⟩;clear b3 b4 b5 b6;go_wp2;go_ret2;exact⟨rfl,Y ⟨uq.1,a5.trans uq.2.1,uq.2.2⟩⟩
   ·as_aux_lemma=>
     have cq:(D.1==0)=false:=by simp[S]
     rw[aI S]at G;clear S;go_wp2;go_ret2;exact⟨by rw[G];rfl,Y (by rw[G];exact⟨oK.ma,a5,by unfold mq;omega⟩)⟩
 ·as_aux_lemma=>
   have cc:((np:Int)==(na:Int))=false:=by rw[beq_eq_false_iff_ne];omega
   rw[aI N]at G;clear N bc;go_enter func24,ntmps24;go_wp2;go_ret2;exact⟨by rw[G];rfl,Y (by rw[G];exact⟨HM.below aE,Kp.of_below aE P,by unfold mq;omega⟩)⟩
structure zR(W:World)(m:Nat)(vl:Value)(l:List Mo):Prop where
 ok:∀y∈l,oO m y=0
 cap:∀(b off cap:Nat),vl=.slice (some ⟨b,off,none⟩) l.length cap->∀(i:Nat) (y:Mo) (vf:Value),l[i]?=some y->W.cell? ⟨b,off+i*4+3,none⟩=some vf->uL vf
theorem Jh(b:oO m y=0):y.imports.length<=8/\uZ m y.bq=0:=by
 unfold oO at b;by_cases e:8<y.imports.length\/8<y.vars.length\/8<y.bq.length;·rw[aK e]at b;cases b
 ·rw[aI e]at b;refine⟨by omega,?_⟩;by_cases d:((kR y.name&&y.imports.all kR)&&y.vars.all Q6)=false;·rw[aK d]at b;cases b
  ·rw[aI d]at b;by_cases c:uZ m y.bq=0;·exact c
   ·rw[aK c]at b;exact aM b c
theorem Rn.ai4(F:FJ)(c:l[a]?=some y)(f:Nat)(name:aS)(args:List Int)(s:gM):(s.fuel=0->Rn.call F l a f name args s=(0,6,s))/\(s.fuel≠0->Rn.call F l a f name args s=if (fF y f name l).2.2=false then (0,4,fq s)else Rn.enter F l (if (fF y f name l).1<0 then a else (fF y f name l).1.toNat) (fF y f name l).2.1.toNat args (fq s)):=by
 refine⟨λb=>?_,λb=>?_⟩;·unfold Rn.call;rw[(kU b).1]
 ·unfold Rn.call;rw[(qE b).1,c]
theorem agE(W:bI)(c:lu)(nm:List (aS × aS))(l:List Mo)(m K:Nat)(F:FJ)(g:Nat)(bo:m<=K)(hE:Tm W c nm l m K F g)(hD:Tn W c nm l m K F g)(hO:zR W m c.vl l)(w:bI)(s:gM)(q a f om n:Nat)(o:Rn.Own)(x:aS)(va:aC)(args:List Int)(hR:Run W w c nm l m s q a f om n o)(hF:Kz l a f)(hx:x.size<=maxLen)(hA:Ints w va args)(aE:∀w',Kp c none w w'->Ints w' va args)(aA:∀z∈args,mq z)(hg:s.fuel*K<=g):aD 100 #[gK q,A x,va] w λI w'=>I=dz (.tuple #[O (Rn.call F l a f x args s).1,O (Rn.call F l a f x args s).2.1])/\J (iL w' c nm (Rn.call F l a f x args s).2.2/\Kp c none w w'/\mq (Rn.call F l a f x args s).1):=by
 obtain⟨HR,aw,au,HO,HG,GQ⟩:=vC hR aE aA hO hg hE;obtain⟨ax,HX,HF⟩:=fE hD hx hF;obtain⟨y,hy,a1⟩:=hF;obtain⟨uH,H,CV⟩:=fE (ai4 F hy f x args s) hy a1;obtain⟨aa,ab,ao,ac,rfl,-⟩:=hA;obtain⟨na,a2⟩:=aV args.length;rw[<-a2]at aw ⊢;obtain⟨R,a0⟩:=aV<|Rn.call F l a f x args s;rw[<-a0]at uH ⊢;have Ip:=Y<|DW w c nm s hR.ma;obtain⟨p,r,u,N⟩:=hR.fr.cell;clear hR aE aA hO hg hE hD hx hy a1 a2 a0 r u N;go_enter func100,ntmps100;go_wp2_with fail;refine Ip.mono ?_;rintro I w1 ⟨rfl,P⟩;clear p;by_cases C:s.fuel=0;·as_aux_lemma =>have e:=Y<|uH.1 C;have a6:=Y<|kU C;rw[(kU C).2.1];clear C;go_wp2;go_ret2;exact⟨by rw[e];rfl,Y (by rw[e];have:=P.1;rw[a6.2.2]at this;exact⟨this,P.2,by unfold mq;omega⟩)⟩
 ·have e:=Y<|uH.2 C;rw[(qE C).2];have Ta:J ((fq s).fuel*K+m<=g):=Y (by
   have h1:=HG.out;have h2:(fq s).fuel+1=s.fuel:=by show s.fuel - 1+1=s.fuel;omega
   have h3:((fq s).fuel+1)*K=(fq s).fuel*K+K:=rZ _ _;rw[h2]at h3;omega)
  have jP:J ((fq s).fuel<=s.fuel):=Y<|Nat.sub_le _ _;obtain⟨d,jG⟩:=bV (HR.ev P.1 P.2 jP) P.out.2;obtain⟨s1,a4⟩:=aV<|fq s;rw[<-a4]at e Ta jP d;clear C a4;obtain⟨b,off,cap,y',vi,vv,vf,ag,be,ar,g0,g1,g2,U,V,-,-⟩:=d.mod;obtain rfl:y=y':=by rw[H]at ar;exact CG ar
  obtain⟨bq,c0,-,-,-,-,-⟩:=d.ma.cell;obtain⟨p,r,u,N⟩:=d.fr.cell;have a9:∃vi0 vf0,W.cell? (aN b<|off+a*4+1)=some vi0/\W.cell? (aN b<|off+a*4+3)=some vf0:=by obtain⟨ad,b',bp,bm,e',ba,-,bb⟩:=d.mods;rw[ba (by have:=d.alt;omega),ag]at e';injection e' with e1 e2 e3;injection e1 with e1;injection e1 with e4 e5;subst e4 e5;obtain⟨vi0,br,vf0,-,k1,-,Z,-⟩:=bb a y H;exact⟨vi0,vf0,k1,Z⟩
  obtain⟨vi0,vf0,k1,Z⟩:=a9;obtain rfl:vi=vi0:=by have:=d.cell k1;exact CG<|g1.symm.trans this
  obtain rfl:vf=vf0:=by have:=d.cell Z;exact CG<|U.symm.trans this
  obtain⟨a7,a8,IW⟩:=fE (HO.cap b off cap ag a y vf H Z) V<|(Jh<|HO.ok y<|dG H).1;have am:∀{wx:bI},bK w1 wx->bK W wx:=λ{wx} h=>by have h1:=d.below;rw[d.size]at h1;exact up h1 h
  have ae:J (∀n E,aD 154 #[.agg #[A y.name,vi,vv,vf],O f,A x,c.vl] (gn w1 n E) λI w'=>I=dz (.tuple #[O (fF y f x l).1,O (fF y f x l).2.1,.bool (fF y f x l).2.2])/\Below (gn w1 n E).heap.size (gn w1 n E) w'):=Y (λn E =>Ed m (gn w1 n E) vi vv vf c.vl y l f x (a8.below<|am<|bU w1 n E) (d.mods.below<|am<|bU w1 n E) a7 (xq CV) HX (by have:=IW.out;omega));obtain⟨ai,bi,oi,ci,rfl,-⟩:=V.split.1;obtain⟨av,bv,ov,cv,rfl,-⟩:=V.split.2.1;obtain⟨af,bf,of,cf,rfl,-⟩:=V.split.2.2;generalize y.imports.length=ni at *;generalize y.vars.length=nv at *;obtain⟨nf,a3⟩:=aV y.bq.length;rw[<-a3]at U ae;have bc:=d.alt;obtain⟨nl,aq⟩:=aV l.length;rw[ag,<-aq]at c0 ae;rw[<-aq]at bc be;have az:=Y (λh=>FE (x:=y) (k:=f) (call:=x) (known:=l) h);obtain⟨⟨T1,T2,T3⟩,L⟩:∃T,T=fF y f x l:=⟨_,rfl⟩;rw[<-L]at e ae az;clear L V ag ar k1 Z a3 aq N am;replace p:=bD p;replace r:=bD r;replace u:=bD u;replace c0:=bD c0;replace g0:=bD g0;replace g1:=bD g1;replace g2:=bD g2;replace U:=bD U;go_wp2_with fail;refine bW dw dw ?_;repeat(quiet_step ((exact Calls.oZ<|ae.out _ _)))
  refine wpQuiet_nil ?_;intro _ bj;obtain⟨⟨nq,a5⟩,bk⟩:=bj;subst bk;have eD:=Y<|bU w1 nq a5;generalize gn w1 nq a5=W5 at *;have oK:=Y<|d.out.ev (d.out.ma.below eD.out) (Kp.of_below eD.out d.out.nle)<|bG _;have tX:J (Kp c none w W5):=Y<|jG.out.trans<|Kp.of_below eD.out d.out.nle;have ay:=Y<|aw.out _ tX.out;clear p r u c0 g0 g1 g2 U;cases T3 with
  | false =>as_aux_lemma =>rw[aK rfl]at e;go_wp2;go_ret2;exact⟨by rw[e];rfl,Y (by rw[e];exact⟨oK.ma,tX,by unfold mq;omega⟩)⟩
  | true=>
   rw[aI cK]at e;obtain⟨p,r,u,N⟩:=oK.fr.cell;rcases az rfl with⟨i,S,L,D⟩|⟨a',z,j,S,L,hz,D⟩;·as_aux_lemma =>injection L with ak Q0;injection Q0 with Q0 al;subst ak Q0;have Q:=Y<|Gr W c nm l m K F g GQ ax W5 s1 a i (X aa na ac) args oK.below oK.size oK.mods oK.ma y S H D (uP (Jh<|HO.ok y<|dG H).2 S<|dG D) ay au Ta;have ah:J (R=Rn.enter F l a i args s1):=Y (by rw[e];simp);rw[<-ah]at Q;clear D al u N;go_wp2_with fail;refine Q.mono ?_;rintro I w6 ⟨rfl,G⟩;clear p r;go_wp2;go_ret2;exact⟨rfl,Y ⟨G.1,tX.trans G.2.1,G.2.2⟩⟩
   ·as_aux_lemma=>
     injection L with ak Q0;injection Q0 with Q0 al;subst ak Q0;have Q:=Y<|Gr W c nm l m K F g GQ ax W5 s1 a' j (X aa na ac) args oK.below oK.size oK.mods oK.ma z S hz D (uP (Jh<|HO.ok z<|dG hz).2 S<|dG D) ay au Ta;have bh:¬((a':Int)<0):=by omega
     have ah:J (R=Rn.enter F l a' j args s1):=Y (by rw[e,aI bh];simp);rw[<-ah]at Q;clear D al r u N hz;go_wp2_with fail;refine Q.mono ?_;rintro I w6 ⟨rfl,G⟩;clear p;go_wp2;go_ret2;exact⟨rfl,Y ⟨G.1,tX.trans G.2.1,G.2.2⟩⟩
theorem amm{f:Ex->gM->Int × Int × gM}{l:List Ex}{y:Ex}(c:l[t]?=some y)(s:gM):Rn.evs f (l.drop t) s=if (f y s).2.1=0 then ((f y s).1::(Rn.evs f (l.drop<|t+1) (f y s).2.2).1,(Rn.evs f (l.drop<|t+1) (f y s).2.2).2)else ([],(f y s).2):=by obtain⟨d,b⟩:=cO.1 c;rw[Nw d,b];rfl
def uQ(w:bI)(B n:Nat)(vals:List Int):Prop:=∃cs:Array Value,w.heap[B]?=some (.cells cs 3 (0,0))/\cs.size=n/\∀(i:Nat) (v:Int),vals[i]?=some v->cs[i]?=some (.int .i64 v)
theorem uQ.same(b:uQ w B n vals)(g:∀cs,dR w B (.cells cs 3 (0,0))->dR w' B (.cells cs 3 (0,0))):uQ w' B n vals:=by obtain⟨cs,c,d,e⟩:=b;exact⟨cs,g cs c,d,e⟩
theorem uQ.cell(c:uQ w B n vals)(g:i<n):(∃u,bJ w B i=some u)/\w.frozen? (aN B i)=false:=by obtain⟨cs,b,d,e⟩:=c;exact⟨⟨cs[i]'bC,(aj b i).trans (Array.getElem?_eq_getElem bC)⟩,aF b i⟩
theorem uQ.val(b:uQ w B n vals)(e:vals[i]?=some v):bJ w B i=some (O v):=by obtain⟨cs,c,g,d⟩:=b;exact(aj c i).trans (d i v e)
theorem uQ.set(c:uQ w B n vals)(o:vals.length=t)(p:t<n)(v:Int):uQ (w.setCell (aN B t)<|O v) B n (vals++[v]):=by
 obtain⟨cs,d,e,g⟩:=c;refine⟨cs.setIfInBounds t<|O v,aP d t _,by rw[Array.size_setIfInBounds];exact e,λi u b=>?_⟩;by_cases h:i<vals.length;·rw[jX h]at b;rw[Ij bC];exact g i u b
 ·rw[kL bC]at b;have j:i=t:=by have:=(cO.1 b).1;simp at this;omega
  subst j;rw[o]at b;simp at b;subst b;rw[Array.getElem?_setIfInBounds_self_of_lt bC]
theorem uQ.ints(b:uQ w B n vals)(c:vals.length=n)(e:n<=9223372036854775807):Ints w (Tc B n n) vals:=
 ⟨some<|aN B 0,B,0,n,by rw[c],λ_=>rfl,by omega,λj g d=>by rw[d9];exact b.val d⟩
theorem Run.asM{c:lu}{s:gM}{o:Rn.Own}(d:Run W w c nm l m s q a f om n o)(j:w.heap[B]?=some (.cells cs 3 (0,0)))(R:c.n<=B)(i:Nat)(v:aC):Run W (w.setCell (aN B i) v) c nm l m s q a f om n o/\Kp c (some B) w (w.setCell (aN B i) v):=by
 have h:∀{k:Nat} {cs':Array aC} {t:TypeId} {fz:Nat × Nat},w.heap[k]?=some (.cells cs' t fz)->t≠3->k≠B:=λe S g=>by rw[g,j]at e;injection e with e;injection e with _ e;exact S e.symm
 have L:∀{k:Nat} {C:Array MapEntry} {z:Nat},w.heap[k]?=some (.map C z)->k≠B:=λe g=>by rw[g,j]at e;cases e
 have F:Kp c (some B) w (w.setCell (aN B i) v):=⟨(bQ _ _).setCell R v,λk _ e _ _ P _=>aX e (λg=>P (by have N:k=B:=g;rw[N])) v⟩;obtain⟨U,D,E⟩:=d.ma.qY;obtain⟨C,z,p⟩:=d.ma.map.isMap;obtain⟨Z,V,r⟩:=d.ow.isMap;have Q:iL (w.setCell (aN B i) v) c nm s:=⟨d.ma.base,⟨U,aX D (h D bM) v,E.set (E.apart j bM) v⟩,d.ma.uj,d.ma.lens,λG b x u H I K=>aX (d.ma.var G b x u H I K) (h (d.ma.var G b x u H I K) bM) v,d.ma.bsn,d.ma.val,d.ma.nodup,d.ma.map.same (by rw[aX p (L p) v,p]),d.ma.mpn,d.ma.room,d.ma.OE⟩;exact⟨⟨d.below.trans F.below,d.size,d.mods,Q,⟨d.fr.1,aX d.fr.2 (h d.fr.2 bM) v⟩,d.ow.same (by rw[aX r (L r) v,r]),d.omn,d.omp,d.alt,d.oi,d.nb⟩,F⟩
theorem LA(z:Int):mq (wrap64 z):=by have:=RowKit.wrap64_wf z;simpa[mq,Lit.wf,IntKind.min,IntKind.max,IntKind.signed,IntKind.bits]using this
theorem amn(op:aS)(a b:Int):mq (Rn.ap op a b):=by
 unfold Rn.ap Rn.tr;split;·exact LA _
 ·split;·exact LA _
  ·split;·exact LA _
   ·split;·split<;>(unfold mq;omega)
    ·split<;>(unfold mq;omega)
theorem amo{c:lu}{s:gM}(b:iL w c nm s){o:Rn.Own}(e:∀s v,o s=some v->mq v)(n:aS):mq (Rn.gt nm mn o n s).1:=by
 unfold Rn.gt;split
 ·cases d:o n with
  | none=>simp only[lK];unfold mq;omega
  | some v=>simp only[gD];exact e n v d
 ·rename_i i _;cases g:s.vs[i]? with
  | none=>simp only[Ca,lK];unfold mq;omega
  | some v=>simp only[kV,gD];exact b.val v<|dG g
theorem ab5(W:bI)(c:lu)(nm:List (aS × aS))(l:List Mo)(m K:Nat)(F:FJ)(g:Nat)(bh:m<=K)(bi:Rn.Le (·.fuel) F)(hE:Tm W c nm l m K F g)(hD:Tn W c nm l m K F g)(hO:zR W m c.vl l):Tm W c nm l m K (Rn.step nm l F) (g+1):=by
 intro w s q a f om n o mm c0 c1 c2 c3 x hR hF hX hB hg;obtain⟨GQ,a1,a3,HG,HF⟩:=uh hE hD hO hg hF;obtain⟨L,rfl⟩:∃L,mm=L+1:=by
  cases mm with
  | zero=>exact aM hX (λb=>b)
  | succ k=>exact⟨k,rfl⟩
 obtain⟨rfl,rfl,rfl,aE,bb,au,E,xb,xo,G,rfl,az,bo,aA⟩:=hX;obtain⟨a6,aq,ar,bc⟩:=lD aA az aE au;obtain⟨R,ag⟩:=aV<|(Rn.step nm l F).ev a f o x s;have af:=ag;simp only[Rn.step]at af;have h:=Y af;rw[<-ag];obtain⟨HR,wu⟩:=bV hR hR.nle;obtain⟨na,ah⟩:=aV x.args.length;have Cb:=Y ah;have I:x.kind=1\/x.kind=2\/(x.kind=3/\x.args.length=2/\x.args.all (jo L)=true)\/(x.kind=4/\x.args.length<=4/\x.args.all (jo L)=true):=by
  unfold jo at hB;by_cases r:x.kind=1;·exact aO r
  ·rw[aI r]at hB;by_cases z:x.kind=2;·exact aQ<|aO z
   ·rw[aI z]at hB;by_cases k3:x.kind=3;·rw[aK k3]at hB;simp only[dK,beq_iff_eq]at hB;exact aQ<|aQ<|aO ⟨k3,hB.1.2,hB.2⟩
    ·rw[aI k3]at hB;by_cases C:x.kind=4;·rw[aK C]at hB;simp only[dK,iy]at hB;exact aQ<|aQ<|aQ ⟨C,hB.1.2,hB.2⟩
     ·rw[aI C]at hB;cases hB
 rw[<-ah]at bo aq I ⊢;obtain⟨S,UU⟩:=bV (hR.box<|aY #[O x.kind,O x.n,A x.name,X E na G] 100)<|bF w<|aY #[O x.kind,O x.n,A x.name,X E na G] 100;have lH:J (Kp c none w<|w.alloc<|aY #[O x.kind,O x.n,A x.name,X E na G] 100):=Y<|Kp.of_below (aH _ _) hR.nle;clear hR hE hD hO hg hF hB aE bb au az aA af ag ah;by_cases r:x.kind=1
 ·as_aux_lemma=>
   have bp:(x.kind==1)=true:=by simp[r]
   rw[aK r]at h;clear r I;go_enter func48,ntmps48;go_wp2;go_ret2;exact⟨by rw[h];rfl,Y (by rw[h];exact⟨S.ma,lH,bc⟩)⟩
 ·have bp:(x.kind==1)=false:=by simp[r]
  rw[aI r]at h;by_cases z:x.kind=2
  ·as_aux_lemma=>
    have bq:(x.kind==2)=true:=by simp[z]
    rw[aK z]at h;clear r z I;obtain⟨H,Y5⟩:=bV (ahP W _ c nm l m s q a f om n o x.name S ar)<|amo S.ma (mn:=Rn.mn l a) S.oi x.name;go_enter func48,ntmps48;go_wp2_with fail;refine H.mono ?_;rintro e w5 ⟨rfl,D⟩;go_wp2;go_ret2;exact⟨by rw[h];rfl,Y (by rw[h];exact⟨D.1,lH.trans D.2,Y5⟩)⟩
  ·have bq:(x.kind==2)=false:=by simp[z]
   rw[aI z]at h;have bs:na<=4:=by rcases I with b|b|b|b<;>omega
   have a0:J (x.args.all (jo L)=true):=Y (by rcases I with b|b|b|b;exact aM b r;exact aM b z;exact b.2.2;exact b.2.2);have Vj:J ((x.kind=3/\na=2)\/x.kind=4):=Y (by rcases I with b|b|b|b;exact aM b r;exact aM b z;exact aO ⟨b.1,b.2.1⟩;exact aQ b.1);obtain⟨a4,av,zH,jG⟩:=lD (S.box<|.cells (madeCells #[O 0] na) 3) (bF (w.alloc<|aY #[O x.kind,O x.n,A x.name,X E na G] 100)<|.cells (madeCells #[O 0] na) 3) (bT UU<|.cells (madeCells #[O 0] na) 3)<|lH.trans<|Kp.of_below (aH _<|.cells (madeCells #[O 0] na) 3) S.nle;have bm:=run_make_row' (P:=prog) 27 3 (O 0) 8 underlying27 wJ rfl .i64 .i64 na bC bC;clear r z I;go_enter func48,ntmps48;go_wp2_with fail;obtain⟨B,aa⟩:=aV w.heap.size;rw[oh]at av;have ba:J (((w.alloc<|aY #[O x.kind,O x.n,A x.name,X E na G] 100).alloc (.cells (madeCells #[O 0] na) 3)).heap[B]?=some (aY #[O x.kind,O x.n,A x.name,X E na G] 100)):=Y (by rw[aa];exact zH);have a5:J (uQ ((w.alloc<|aY #[O x.kind,O x.n,A x.name,X E na G] 100).alloc (.cells (madeCells #[O 0] na) 3)) (B+1) na []):=Y ⟨madeCells #[O 0] na,by rw[aa];exact av,by simp[madeCells],λi v b=>by simp at b⟩;generalize ((w.alloc<|aY #[O x.kind,O x.n,A x.name,X E na G] 100).alloc (.cells (madeCells #[O 0] na) 3))=W2 at *;rw[<-aa]at wu ⊢;have iO:=Y aa;clear aa bm;obtain⟨EV,ae⟩:=aV<|Rn.evs (F.ev a f o) x.args s;have a2:=Y ae;rw[<-ae]at h;clear ae;go_loopw[30] (λi wx=>∃t:Nat,t<=na/\i=O t/\∃(j:gM) (vals:List Int),J<|Run W wx c nm l m j q a f om n o/\Kp c none w wx/\dR wx B (aY #[O x.kind,O x.n,A x.name,X E na G] 100)/\uQ wx (B+1) na vals/\vals.length=t/\(∀v∈vals,mq v)/\EV=(vals++(Rn.evs (F.ev a f o) (x.args.drop t) j).1,(Rn.evs (F.ev a f o) (x.args.drop t) j).2)/\j.fuel<=s.fuel) (λi _=>na - (intOf i).toNat);exact⟨0,bN _,rfl,s,[],Y ⟨a4,jG,ba.out,a5,rfl,λv b=>by simp at b,by rw[List.drop_zero,sP];exact a2,bG _⟩⟩
   obtain⟨t,ht,rfl,j,vals,d⟩:=hrel;by_cases al:t<na
   ·obtain⟨y,hy⟩:∃y,x.args[t]?=some y:=⟨_,aZ (by rw[<-Cb];exact al)⟩;obtain⟨e0,e1,e2,e3,g0,g1,g2,g3,ao⟩:=a6 t y hy;obtain rfl:=aq bC;have U:=Y<|amm (f:=F.ev a f o) hy j;have a7:J (jo L y=true):=Y (by have h1:=a0.out;rw[iB]at h1;exact h1 y<|dG hy);have a8:=Y ao;replace g0:=d.1.cell g0;replace g1:=d.1.cell g1;replace g2:=d.1.cell g2;replace g3:=d.1.cell g3;obtain⟨ya,yc,rfl,rfl,rfl,rfl⟩:=ao.shape;generalize y.args.length=ny at *;have ab:=Y<|d.1.box<|aY #[O y.kind,O y.n,A y.name,X ya ny yc] 100;have IJ:J (Kp c none w<|wr.alloc<|aY #[O y.kind,O y.n,A y.name,X ya ny yc] 100):=Y<|d.2.1.trans<|Kp.of_below (aH _ _) d.1.nle;obtain⟨yh,be,H⟩:=fE (bT d.2.2.1<|aY #[O y.kind,O y.n,A y.name,X ya ny yc] 100) (d.2.2.2.1.same (w':=wr.alloc<|aY #[O y.kind,O y.n,A y.name,X ya ny yc] 100) (λcs b=>bT b _))<|GQ _ j q a f om n o L _ _ _ _ y ab HF a8 a7 (by have h1:=HG.out;have h2:j.fuel*K<=s.fuel*K:=qR K d.2.2.2.2.2.2.2;omega);obtain⟨V,UW⟩:=aV<|F.ev a f o y j;have Ah:J (V.2.2.fuel<=j.fuel):=Y (by rw[UW];exact bi.1 a f o y j);rw[<-UW]at H U;clear UW hy ao;obtain⟨wo,rfl⟩:=aV wr;go_wp2_with fail;refine H.mono ?_;rintro e w5 ⟨rfl,D⟩;obtain⟨oK,tX,R6,ad,Y4⟩:=uh (ab.ev D.1 D.2.1 Ah) (IJ.trans D.2.1) (ab.stay D.2.1 (aO rfl) yh bM bM bM) (be.same (w':=w5) (λcs b=>ab.stay D.2.1 (aO rfl) b bM bM bM)) D.out.2.2;clear g0 g1 g2 g3;by_cases p:V.2.1=0
    ·rw[aK p]at U;rw[p];clear p;obtain⟨⟨u,hu⟩,hz⟩:=ad.cell al;obtain⟨cs,ax,bk,bj⟩:=ad.out;have aw:c.n<=B+1:=by have:=wu.out;omega
     have ai:=oK.asM ax aw t<|O V.1;have mI:=Y ai.1;have Tk:J (Kp c none w<|w5.setCell (aN (B+1) t)<|O V.1):=Y<|(tX.more.trans ai.2).fresh (by have:=iO.out;omega);obtain⟨a9,bf⟩:=bV (ad.set d.2.2.2.2.1 al V.1)<|aX (a:=(aN (B+1) t)) R6 (by show B≠B+1;omega) (O V.1);clear ax bk bj aw ai;go_wp2;go_roundw;exact⟨t+1,by omega,by go_num,V.2.2,vals++[V.1],Y ⟨mI,Tk,bf,a9,by rw[bg,d.2.2.2.2.1];rfl,λv p=>by
      rcases bX.1 p with p|p;·exact d.2.2.2.2.2.1 v p
      ·simp at p;subst p;exact Y4,by rw[d.2.2.2.2.2.2.1,U,iK];rfl,bE Ah.out d.2.2.2.2.2.2.2⟩⟩
     exact gV
    ·as_aux_lemma=>
      have bu:(V.2.1==0)=false:=by simp[p]
      rw[aI p]at U;have JL:J (EV.2=V.2):=Y (by rw[d.2.2.2.2.2.2.1,U]);have Z:J (R=(0,V.2)):=Y (by rw[h,aI (by rw[JL];exact p),JL]);clear p;go_wp2;go_ret2;exact⟨by rw[Z];rfl,Y (by rw[Z];exact⟨oK.ma,tX,by unfold mq;omega⟩)⟩
   ·have ak:t=na:=by omega
    have JL:J (EV=(vals,0,j)):=Y (by rw[d.2.2.2.2.2.2.1,ak,Cb,List.drop_length];simp[Rn.evs]);rw[JL,aK rfl]at h;have ac:J (vals.length=na):=Y (by rw[d.2.2.2.2.1,ak]);obtain⟨b0,-,b2⟩:=P5 d.2.2.1;clear ak;obtain⟨wo,rfl⟩:=aV wr;by_cases C:x.kind=4
    ·as_aux_lemma=>
      have br:(x.kind==4)=true:=by simp[C]
      rw[aK C]at h;clear C;have H:=Y<|agE W c nm l m K F g bh GQ a1 a3 wo j q a f om n o x.name (Tc (B+1) na na) vals d.1 HF ar (d.2.2.2.1.ints ac bC) (λw' hk=>(d.2.2.2.1.same (w':=w') (λcs b=>d.1.stay hk (aO rfl) b bM bM bM)).ints ac bC) d.2.2.2.2.2.1 (by have h1:=HG.out;have h2:j.fuel*K<=s.fuel*K:=qR K d.2.2.2.2.2.2.2;omega);rw[<-h]at H;go_wp2_with fail;refine H.mono ?_;rintro e w6 ⟨rfl,uq⟩;clear b0 b2;go_wp2;go_ret2;exact⟨rfl,Y ⟨uq.1,d.2.1.trans uq.2.1,uq.2.2⟩⟩
    ·as_aux_lemma=>
      have br:(x.kind==4)=false:=by simp[C]
      rw[aI C]at h;have ay:na=2:=by rcases Vj with b|b;exact b.2;exact aM b C
      clear C;obtain⟨N,Q,am⟩:∃N Q,vals=[N,Q]:=by
       have:=ac.out;rw[ay]at this;match vals,this with
       | [N,Q],_=>exact⟨N,Q,rfl⟩
      have Vn:=Y (λn=>aaQ (wo.drewN n) x.name N Q);obtain⟨y0,y1⟩:=eY (d.2.2.2.1.val (i:=0) (v:=N) (by rw[am];rfl)) (d.2.2.2.1.val (i:=1) (v:=Q) (by rw[am];rfl));have Z:J (R=(Rn.ap x.name N Q,0,j)):=Y (by rw[h,am];rfl);subst ay;go_wp2_with fail;go_quiet ((exact Calls.quiet_of_same<|Vn.out _));go_wp2;go_ret2;exact⟨by rw[Z.out];rfl,Y (by rw[Z.out];exact⟨d.out.1.ma.drewN _,d.out.2.1.drewN _,amn _ _ _⟩)⟩
theorem amr(W:bI)(c:lu)(nm:List (aS × aS))(l:List Mo)(m K:Nat)(I:m+2<=K)(z:zR W m c.vl l):∀g,Tm W c nm l m K (Rn.M nm l g) g/\Tn W c nm l m K (Rn.M nm l g) g/\Ya W c nm l m K (Rn.M nm l g) g:=by
 intro g;induction g using Nat.strongRecOn with
 | ind g j=>
  cases g with
  | zero=>
   refine⟨λw s q a f om n o b E F G H x _ _ h _ hg=>?_,λw s q a f om n o b D st _ _ C _ hg=>?_,λw s q a f om n o b D st _ _ _ _ hg=>?_⟩
   ·have:b=0:=by omega
    subst this;exact aM h (λe=>e)
   ·have:b=0:=by omega
    subst this;obtain⟨_,_,_,_,_,_,_,_,h,_⟩:=C;exact aM h (λe=>e)
   ·omega
  | succ g =>obtain⟨p,r,u⟩:=j g<|Nat.lt_succ_self g;refine⟨ab5 W c nm l m K _ g bC (WH nm l g) p r z,ai2 W c nm l m K _ g bC (WH nm l g) (Ww nm l g) p u r,nI W c nm l m K g bC (λd hg=>(j d bC).1) (λd hg=>(j d bC).2.1)⟩
theorem ab6(W:bI)(c:lu)(nm:List (aS × aS))(l:List Mo)(m:Nat)(e:zR W m c.vl l)(w:bI)(s:gM)(a k:Nat)(d:aC)(args:List Int)(E:Below c.n W w)(F:c.n=W.heap.size)(C:jN W m c.vl l)(D:iL w c nm s)(y:Mo)(b:Fu)(j:l[a]?=some y)(h:y.bq[k]?=some b)(u:Ints w d args)(z:∀x∈args,mq x)(g:Nat)(hg:s.fuel*(m+2)+m<=g):aD 24 #[gK c.p,O a,O k,d] w λo w'=>o=dz (.tuple #[O (Rn.enter (Rn.M nm l g) l a k args s).1,O (Rn.enter (Rn.M nm l g) l a k args s).2.1])/\J (iL w' c nm (Rn.enter (Rn.M nm l g) l a k args s).2.2/\Kp c none w w'/\mq (Rn.enter (Rn.M nm l g) l a k args s).1):=by obtain⟨p,r,_⟩:=amr W c nm l m (m+2) (bG _) e g;exact Gr W c nm l m (m+2) _ g p r w s a k d args E F C D y b j h (uP (Jh<|e.ok y<|dG j).2 b<|dG h) u z hg
