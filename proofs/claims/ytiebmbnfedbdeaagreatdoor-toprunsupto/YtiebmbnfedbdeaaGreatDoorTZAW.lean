import Derived.Test.YtiebmbnfedbdeaaGreatDoorTZAT
import Derived.Test.YtiebmbnfedbdeaaGreatDoorTZAU
import Derived.Test.YtiebmbnfedbdeaaGreatDoorTZLG
set_option maxHeartbeats 0
set_option maxRecDepth 99999
namespace Go.Proofs.YtiebmbnfedbdeaaGreatDoor
open bS bO Rn
open Go.Proofs.Tryz
open Go.RowKit
variable{W0 w W w':bI}{n m q a f om i b:Nat}{v v0 v1 v2 v3:aC}{l:List Mo}{nm:List (aS × aS)}
theorem sZ{x:bI}{o:Obj}(h:J (bK W0 x)):J (bK W0<|x.alloc o):=Y<|h.alloc h.size o
theorem iR{x:bI}(h:J (bK W0 x)):J (bK W0 x.drew):=Y h.out.drew
namespace bO
def D9(names:List ByteArray)(x:Mo)(known:List Mo)(m:Nat):List Dg:=[imD x known,twD x,lvD names x m,clD x known m].flatten
def FX(E:Int)(names:List ByteArray)(x:Mo)(known:List Mo)(m:Nat):List Dg:=if E=0 then once (D9 names x known m)else []
end bO
theorem Sd.drew{ls:List (List Dg)}(g:Sd w n v ls):Sd w.drew n v ls:=by obtain⟨b,off,cap,c,j,h⟩:=g;refine⟨b,off,cap,c,j,λi l k=>?_⟩;obtain⟨o,d,e⟩:=h i l k;exact⟨o,d,e.below (bQ _ _).drew⟩
theorem aem{e g h j:List Dg}(k:dA qU w n 69 3 v0 e)(o:dA qU w n 69 3 v1 g)(p:dA qU w n 69 3 v2 h)(r:dA qU w n 69 3 v3 j):∀(i:Nat) v l,[v0,v1,v2,v3][i]?=some v->[e,g,h,j][i]?=some l->dA qU w n 69 3 v l:=λi v l c d=>by
 match i,c,d with
 | 0,c,d=>simp at c d;subst c d;exact k
 | 1,c,d=>simp at c d;subst c d;exact o
 | 2,c,d=>simp at c d;subst c d;exact p
 | 3,c,d=>simp at c d;subst c d;exact r
 | i+4,c,d=>simp at c
theorem ajA(m:Nat)(w:bI)(vn Z vi vv vf vk:aC)(names:aJ)(x:Mo)(known:List Mo)(H:Int)(hN:Strs w vn names)(c:jl w m (.agg #[A x.name,vi,vv,vf]) x)(hK:jN w m vk known)(hC:Bg w vi vf)(bq:∀wx,bK w wx->aD 72 #[.agg #[vn,Z],.agg #[A x.name,vi,vv,vf],vk] wx λB w'=>B=dz (O H)/\bK wx w')(ce:x.vars.length<=1048576)(cc:x.bq.length<=1048576)(cd:x.imports.length<=1048576)(am:(D9 names x known m).length<=16777216):aD 34 #[.agg #[vn,Z],.agg #[A x.name,vi,vv,vf],vk] w λB w'=>∃u,B=dz (.tuple #[u,O H])/\jg w' u (FX H names x known m)/\(FX H names x known m=[]->u=aU)/\bK w w':=by
 obtain⟨HN,HM,HK,bx⟩:=lD hN c hK hC;obtain⟨hI,hV,hF⟩:=c.split;obtain⟨an,bn,on,cn,rfl,-⟩:=hN;obtain⟨j,bi,oi,ci,rfl,-⟩:=hI;obtain⟨k,bv,ov,p,rfl,-⟩:=hV;obtain⟨h,bf,of,o,rfl,-⟩:=hF;obtain⟨L,bk,ok,P,rfl,-⟩:=hK;have MI:=Y bq;obtain⟨C,ae⟩:=aV<|imD x known;obtain⟨D,ag⟩:=aV<|twD x;obtain⟨E,ah⟩:=aV<|lvD names x m;obtain⟨G,al⟩:=aV<|clD x known m;have S9:J (D9 names x known m=[C,D,E,G].flatten):=Y (by rw[ae,ag,ah,al];rfl);rw[S9]at am;have jP:=Y am;have Bc:J (C.length<=16777216/\D.length<=16777216/\E.length<=16777216/\G.length<=16777216):=Y (by simp only[uE,DT,gL,bg]at am;refine⟨?_,?_,?_,?_⟩<;>omega);have Yv:=Y (λwx ab va (hS:ScV wx m x known (X j x.imports.length ci) (X k x.vars.length p) (X h x.bq.length o) ab va)=>agH m wx x known _ _ _ ab va hS (by rw[<-ae];exact Bc.1));have Ia:=Y (λwx (Q:bK w wx)=>J4 m wx _ _ _ x (HM.below Q) (bx.below Q) ce cc (by rw[<-ag];exact Bc.2.1));have a3:=Y (λwx (Q:bK w wx)=>adC m wx _ Z _ _ _ names x (HN.below Q) (HM.below Q) (by rw[<-ah];exact Bc.2.2.1));have a4:=Y (λwx ab va (hS:ScV wx m x known (X j x.imports.length ci) (X k x.vars.length p) (X h x.bq.length o) ab va)=>ak0 m wx x known _ _ _ ab va hS (by rw[<-al];exact Bc.2.2.2));rw[<-ae]at Yv;rw[<-ag]at Ia;rw[<-ah]at a3;rw[<-al]at a4;have VR:=Y<|hC.fus;have vZ:=Y (λwx (Q:bK w wx)=>Dm m wx _ _ _ _ x known (HM.below Q) (HK.below Q) cd);generalize x.imports.length=t at *;generalize x.vars.length=z at *;generalize x.bq.length=nf at *;generalize known.length=V at *;generalize names.length=nn at *;obtain⟨b0,b1,bo⟩:=al2 w (aY #[X an nn cn,Z] 25)<|aY #[A x.name,X j t ci,X k z p,X h nf o] 59;obtain⟨ch,cj,Fy⟩:=fE b0 b1 bo;obtain⟨q0,q1,r0,r1⟩:=rY ((aj b0 0).trans (rfl:_=some (X an nn cn))) ((aj b0 1).trans (rfl:_=some Z)) ((aj b1 0).trans (rfl:_=some (A x.name))) ((aj b1 1).trans (rfl:_=some (X j t ci)));obtain⟨r2,r3⟩:=eY ((aj b1 2).trans (rfl:_=some (X k z p))) ((aj b1 3).trans (rfl:_=some (X h nf o)));obtain⟨PD,az⟩:=aV<|FX H names x known m;have bc:=Y az;rw[<-az];clear c hC bq am ae ag ah al b0 b1 bo az;go_enter func34,ntmps34;go_wp2_with fail;generalize ((w.alloc<|aY #[X an nn cn,Z] 25).alloc (aY #[A x.name,X j t ci,X k z p,X h nf o] 59))=W0 at *;refine(MI _ Fy).mono ?_;rintro B w1 ⟨rfl,R⟩;have ao:=Y<|up Fy R;replace q0:=aG q0 R;replace q1:=aG q1 R;replace r0:=aG r0 R;replace r1:=aG r1 R;replace r2:=aG r2 R;replace r3:=aG r3 R;clear R;by_cases hE:H=0
 ·subst hE;have ax:J (FX 0 names x known m=bO.once [C,D,E,G].flatten):=Y (by unfold FX;rw[aK rfl,S9]);go_wp2_with fail;refine(vZ _ ao).mono ?_;rintro B e ⟨va,rfl,br,S⟩;have bw:=Y br;obtain⟨K,ba,oa,N,rfl,-⟩:=br;generalize (x.imports.map λs=>oI<|dQ known s).length=U at *;obtain⟨aq,HQ⟩:=bV (up ao S)<|And.intro (aG q0 S)<|And.intro (aG q1 S)<|And.intro (aG r0 S)<|And.intro (aG r1 S)<|And.intro (aG r2 S)<|aG r3 S;have bA:J (ScV e m x known (X j t ci) (X k z p) (X h nf o) (X L V P)<|X K U N):=Y ⟨HM.below aq,HK.below aq,bw,VR⟩;clear q0 q1 r0 r1 r2 r3 S;go_wp2_with fail;have I:=Y<|aH e<|aY #[A x.name,X j t ci,X k z p,X h nf o,X L V P,X K U N] 163;have hs:=Pk e (A x.name) (X j t ci) (X k z p) (X h nf o) (X L V P) (X K U N) 163;have HF:J (∀wx,J (Below (e.alloc<|aY #[A x.name,X j t ci,X k z p,X h nf o,X L V P,X K U N] 163).heap.size (e.alloc<|aY #[A x.name,X j t ci,X k z p,X h nf o,X L V P,X K U N] 163) wx)->bJ wx w.heap.size 0=some (X an nn cn)/\bJ wx w.heap.size 1=some Z/\bJ wx (w.heap.size+1) 0=some (A x.name)/\bJ wx (w.heap.size+1) 1=some (X j t ci)/\bJ wx (w.heap.size+1) 2=some (X k z p)/\bJ wx (w.heap.size+1) 3=some (X h nf o)/\bJ wx e.heap.size 0=some (A x.name)/\bJ wx e.heap.size 1=some (X j t ci)/\bJ wx e.heap.size 2=some (X k z p)/\bJ wx e.heap.size 3=some (X h nf o)/\bJ wx e.heap.size 4=some (X L V P)/\bJ wx e.heap.size 5=some (X K U N)):=Y (λwx c=>⟨aG (aG HQ.1 I) c,aG (aG HQ.2.1 I) c,aG (aG HQ.2.2.1 I) c,aG (aG HQ.2.2.2.1 I) c,aG (aG HQ.2.2.2.2.1 I) c,aG (aG HQ.2.2.2.2.2 I) c,aG (hs 0 _ rfl) c,aG (hs 1 _ rfl) c,aG (hs 2 _ rfl) c,aG (hs 3 _ rfl) c,aG (hs 4 _ rfl) c,aG (hs 5 _ rfl) c⟩);obtain⟨bj,xU⟩:=bV (bA.below I)<|up aq I;clear hs;generalize (e.alloc<|aY #[A x.name,X j t ci,X k z p,X h nf o,X L V P,X K U N] 163)=g at *;have Aw:J (bK g g):=Y<|bQ _ _;obtain⟨F,hF⟩:∃F,F=([C,D,E,G]:List (List Dg)).flatten:=⟨_,rfl⟩;have ar:=Y hF;clear hF
  go_region_held3 (λwx=>bJ wx w.heap.size 0=some (X an nn cn)/\bJ wx w.heap.size 1=some Z/\bJ wx (w.heap.size+1) 0=some (A x.name)/\bJ wx (w.heap.size+1) 1=some (X j t ci)/\bJ wx (w.heap.size+1) 2=some (X k z p)/\bJ wx (w.heap.size+1) 3=some (X h nf o)/\
   bJ wx e.heap.size 0=some (A x.name)/\bJ wx e.heap.size 1=some (X j t ci)/\bJ wx e.heap.size 2=some (X k z p)/\bJ wx e.heap.size 3=some (X h nf o)/\bJ wx e.heap.size 4=some (X L V P)/\bJ wx e.heap.size 5=some (X K U N))
   ((refine HF _ ?_;repeat(first|exact bh|exact I5|exact Vm|exact ad|exact ac|exact Aw|apply iR|apply sZ)))
   (first
    | (go_at_call 75;refine(Yv _ _ _<|bj.below<|gT<|by repeat(first|exact Aw|apply iR)).mono ?_;rintro B w5 ⟨u5,rfl,aE,bp⟩;obtain⟨a5,c5,rfl⟩:=aE.form;have ac:J (bK g w5):=Y<|up (w:=g) (gT<|by repeat(first|exact Aw|apply iR)) bp;have bB:=Y aE;clear aE bp)
    | (go_at_call 76;refine(Ia _<|up xU<|gT<|by repeat(first|exact ac|apply iR)).mono ?_;rintro B w6 ⟨u6,rfl,a0,aA⟩;obtain⟨a6,c6,rfl⟩:=a0.form;have ad:J (bK g w6):=Y<|up (w:=g) (gT<|by repeat(first|exact ac|apply iR)) aA;have bL:=Y a0;have b2:=Y<|bB.below<|show bK w5 w6 from aA;clear a0 aA)
    | (go_at_call 77;refine(a3 _<|up xU<|gT<|by repeat(first|exact ad|apply iR)).mono ?_;rintro B w7 ⟨u7,rfl,a1,ug⟩;obtain⟨a7,c7,rfl⟩:=a1.form;have Vm:J (bK g w7):=Y<|up (w:=g) (gT<|by repeat(first|exact ad|apply iR)) ug;have bS:=Y a1;have b3:=Y<|b2.below<|show bK w6 w7 from ug;have OW:=Y<|bL.below<|show bK w6 w7 from ug;clear a1 ug)
    | (go_at_call 78;refine(a4 _ _ _<|bj.below<|gT<|by repeat(first|exact Vm|apply iR)).mono ?_;rintro B w8 ⟨u8,rfl,a2,pR⟩;obtain⟨a8,c8,rfl⟩:=a2.form;have I5:J (bK g w8):=Y<|up (w:=g) (gT<|by repeat(first|exact Vm|apply iR)) pR;have bY:=Y a2;have Rb:=Y<|b3.below<|show bK w7 w8 from pR;have b4:=Y<|OW.below<|show bK w7 w8 from pR;have b5:=Y<|bS.below<|show bK w7 w8 from pR;clear a2 pR)
    | (go_at_call 74;have bu:J (Sd (w8.alloc<|aY #[X a5 C.length c5,X a6 D.length c6,X a7 E.length c7,X a8 G.length c8] 62) g.heap.size (Tc w8.heap.size 4 4) [C,D,E,G]):=Y<|Nz w8 g.heap.size 62 [X a5 C.length c5,X a6 D.length c6,X a7 E.length c7,X a8 G.length c8] [C,D,E,G] rfl cK (aem (Rb.old<|bG _) (b4.old ac.size) (b5.old ad.size)<|bY.old Vm.size);refine(GV _ g.heap.size _ [C,D,E,G] (by repeat(first|exact bu|apply Sd.drew)) jP).mono ?_;rintro B w9 ⟨u9,rfl,V8,vV⟩;rw[<-ar]at V8;have bh:J (bK g w9):=Y<|up (w:=g) (gT<|by repeat(first|exact I5|apply iR|apply sZ)) vV;have be:=Y<|V8.old<|show g.heap.size<=_ from (gT (by repeat(first|exact I5|apply iR|apply sZ)):bK g _).size;obtain⟨a9,c9,rfl⟩:=V8.form;clear V8 vV))
  all_goals
   have bb:J (F.length<=16777216):=Y (by rw[ar];exact jP);have Ac:=Y<|up xU bh;have au:J (PD=bO.once F):=Y (by rw[bc,ax,ar]);obtain⟨bs,bz⟩:=bV (be.GJ (by have:=bb.out;omega)) be.out.shape;rcases bz with⟨h1,h2⟩|⟨g1,q1,h1,-,-,-,h2⟩;·have aw:J (PD=[]):=Y (by rw[au,h2];rfl);rw[h1];clear h1 h2;go_wp2_with fail;refine(ajx _).mono ?_;rintro B cg ⟨rfl,b8⟩;subst b8;go_wp2_with fail;refine cZ (v:=.tuple #[aU,O 0]) (by simp[results,results34,go_sem]) rfl ?_;exact⟨_,rfl,by rw[aw];exact⟨none,0,0,0,rfl,λc=>aM c cK,by simp,λi d hd=>by simp at hd⟩,λ_=>rfl,Ac⟩
   ·have aw:J (PD≠[]):=Y (by
     rw[au];intro h0;cases F with
     | nil=>exact h2 rfl
     | cons y r=>have:=(Dh (y::r) y).2 List.mem_cons_self;rw[h0]at this;cases this)
    clear h1 h2;go_wp2_with fail;refine(y8 w9 _ F bs bb).mono ?_;rintro B cg ⟨cp,rfl,ay,bm⟩;rw[<-au]at ay;obtain⟨b9,b7⟩:=bV ay<|up Ac bm;obtain⟨b6,cl,co,cb,rfl,-⟩:=ay;generalize PD.length=pl at *;clear bm;go_wp2_with fail;refine cZ (v:=.tuple #[X b6 pl cb,O 0]) (by simp[results,results34,go_sem]) rfl ?_;exact⟨_,rfl,b9,λc=>aM c aw,b7⟩
 ·have cm:(H==0)=false:=by simp[hE]
  have ax:J (FX H names x known m=[]):=Y (by unfold FX;rw[aI hE]);clear hE;go_wp2_with fail;refine cZ (v:=.tuple #[aU,O H]) (by simp[results,results34,go_sem]) rfl ?_;exact⟨_,rfl,by rw[bc,ax];exact⟨none,0,0,0,rfl,λc=>aM c cK,by simp,λi d hd=>by simp at hd⟩,λ_=>rfl,ao⟩
namespace bS
def FY(s:ByteArray):ByteArray:=brk [⟨#[105,109,112,111,114,116]⟩,s]
def vaX(v:Va):ByteArray:=brk [⟨#[118,97,114]⟩,v.name,v.level]
end bS
namespace bS
def fuX(m:Nat)(f:Fu):ByteArray:=brk [[⟨#[102,117,110]⟩,f.name,brk f.params],Me m f.body,[zT m f.result]].flatten
end bS
theorem Ti(l:aJ)(acc:aS):∀j,j<=l.length->GZ l acc j=acc++bS.jn (l.take j)
 | 0,_=>by apply iQ;rw[iN,lW];simp[GZ,Lib.join_nil]
 | j+1,k=>by
  obtain⟨y,d⟩:∃y,l[j]?=some y:=⟨_,aZ bC⟩;have e:l.take (j+1)=l.take j++[y]:=by have:=map_take (f:=id) d;simpa using this
  have g:l.getD j ByteArray.empty=y:=by rw[List.getD,d];rfl
  have h:(l.take j).length=j:=by rw[iA];omega
  rw[V9,Ti l acc j bC,e,g,YX,h];apply iQ;by_cases c:0<j;·rw[aK c,aK c];simp only[iN,iK]
  ·rw[aI c,aI c];simp only[iN,iK]
theorem ahN{l:aJ}(h:l≠[]):Lib.joinTail [32] (l.map (·.data.toList))=32::(bS.jn l).data.toList:=by
 cases l with
 | nil=>exact aM rfl h
 | cons y l =>rw[lW,fZ,Lib.join_cons];simp[Lib.joinTail]
theorem tail_cons(x:List UInt8)(r:List (List UInt8)):Lib.joinTail [32] (x::r)=32::(x++Lib.joinTail [32] r):=by simp[Lib.joinTail]
theorem Y1(c:m≠0)(l:List St):Me m l=[]↔l=[]:=by
 cases m with
 | zero=>exact aM rfl c
 | succ m=>simp[Me]
theorem akD(hm:m≠0)(acc:aS)(f:Fu):(fuT m acc f).data.toList=acc.data.toList++32::(fuX m f).data.toList:=by
 unfold fuT fuB fuP fuH fuX;rw[Ti _ _ _ (bG _),jQ,jk];by_cases h:0<f.body.length
 ·have hne:Me m f.body≠[]:=by rw[ne_eq,Y1 hm];intro e;rw[e]at h;simp at h
  rw[aK h,Pt];have hfl:[[(⟨#[102,117,110]⟩:aS),f.name,bS.brk f.params],Me m f.body,[zT m f.result]].flatten=⟨#[102,117,110]⟩::f.name::bS.brk f.params::(Me m f.body++[zT m f.result]):=by simp
  rw[hfl,fZ,Lib.join_cons,fZ,tail_cons,fZ,tail_cons,gX,rQ,ahN hne,fZ,tail_cons,jV,jk,lW];simp[lW,Lib.joinTail]
 ·have he:f.body=[]:=qp.1 bC;have hne:Me m f.body=[]:=(Y1 hm _).2 he;rw[aI h,hne];simp[Lib.join_cons,Lib.joinTail,jk,lW]
open Go.Maps
structure Run(W w:World)(c:lu)(nm:List (ByteArray × ByteArray))(l:List Mo)(m:Nat)(s:gM)(q a f om n:Nat)(o:Rn.Own):Prop where
 below:Below c.n W w
 size:c.n=W.heap.size
 mods:jN W m c.vl l
 ma:iL w c nm s
 fr:Pq w c q a f om
 ow:nS w om n o
 omn:c.n<=om
 omp:c.mp≠om
 alt:a<l.length
 oi:∀s v,o s=some v->mq v
 nb:n+s.fuel<=33554432
theorem Pq.cell{c:lu}{o:Nat}(h:Pq w c q a f o):bJ w q 0=some (gK c.p)/\bJ w q 1=some (O a)/\bJ w q 2=some (O f)/\bJ w q 3=some (.map<|some o):=
 ⟨(aj h.2 0).trans rfl,(aj h.2 1).trans rfl,(aj h.2 2).trans rfl,(aj h.2 3).trans rfl⟩
theorem Run.mod{c:lu}{s:gM}{o:Rn.Own}(d:Run W w c nm l m s q a f om n o):∃(b off cap:Nat) (x:Mo) (h j g:aC),c.vl=X (some<|aN b off) l.length cap/\l.length<=9223372036854775807/\l[a]?=some x/\bJ w b (off+a*4)=some (A x.name)/\bJ w b (off+a*4+1)=some h/\bJ w b (off+a*4+2)=some j/\bJ w b (off+a*4+3)=some g/\jl W m (.agg #[A x.name,h,j,g]) x/\Rn.mn l a=x.name/\x.name.size<=maxLen:=by
 obtain⟨I,b,off,cap,y,E,G,F⟩:=d.mods;have r:=aZ d.alt;obtain⟨h,j,g,z,B,C,D,t⟩:=F a _ r;have e:∀{p:Addr} {v:aC},W.cell? p=some v->w.cell? p=some v:=λ{p v} u=>by have H:=eH _ _ u;rw[d.below.cell (by rw[d.size];exact H)];exact u
 have k:=t;obtain⟨_,_,_,_,k,_⟩:=k;exact⟨b,off,cap,_,h,j,g,by rw[y,E (by have:=d.alt;omega)],G,r,e z,e B,e C,e D,t,by unfold Rn.mn;rw[r];rfl,k⟩
theorem Run.drewN{c:lu}{s:gM}{o:Rn.Own}(h:Run W w c nm l m s q a f om n o)(k:Nat):Run W (w.drewN k) c nm l m s q a f om n o:=
 ⟨jJ h.below k,h.size,h.mods,h.ma.drewN k,h.fr,h.ow.same rfl,h.omn,h.omp,h.alt,h.oi,h.nb⟩
theorem Wx{x y:aS}(h:Rn.pos nm x y=some i):i<nm.length:=jE.1<|Gw h
theorem jM{x y:aS}{o:Rn.Own}(h:Rn.sh nm x o y=some i):i<nm.length:=by
 unfold Rn.sh at h;split at h;·cases h
 ·exact Wx h
theorem iL.at{c:lu}{s:gM}(d:iL w c nm s)(e:i<nm.length):∃b x v,c.bs[i]?=some b/\nm[i]?=some x/\s.vs[i]?=some v/\c.bs.getD i 0=b/\FT w b x v/\mq v.val:=by
 have g:i<c.bs.length:=by rw[d.uj];exact e
 have h:i<s.vs.length:=by rw[d.lens];exact e
 exact⟨_,_,_,aZ g,aZ e,aZ h,by rw[List.getD,aZ g];rfl,d.var i _ _ _ (aZ g) (aZ e)<|aZ h,d.val _<|kZ h⟩
theorem Kp.XT{c:lu}{s:gM}{o:Option Nat}(j:iL w c nm s)(d:b∈c.bs)(i:Nat)(v:aC):Kp c o w (w.setCell (aN b i) v):=
 ⟨(bQ _ _).setCell (j.bsn b d) v,λk _ p _ h _ _=>aX p (λe=>h (by have g:k=b:=e;rw[g];exact d)) v⟩
theorem iL.XT{c:lu}{s:gM}(d:iL w c nm s){x:aS × aS}{v v':Vr}(e:c.bs[i]?=some b)(r:nm[i]?=some x)(p:s.vs[i]?=some v)(g:Vr->Vr)(hg:g v=v')(y:mq v'.val)(j:Nat)(u:aC)(t:(#[A x.1,A x.2,O v.val,.bool v.rd,.bool v.st]:Array aC).setIfInBounds j u=#[A x.1,A x.2,O v'.val,.bool v'.rd,.bool v'.st]):iL (w.setCell (aN b j) u) c nm { s with vs:=s.vs.modify i g }:=by have h:dR w b (aY #[A x.1,A x.2,O v.val,.bool v.rd,.bool v.st] 142):=d.var i b x v e r p;refine d.Tq e r g p hg y ?_ (λk ob B z=>aX B z u) (λo=>o.set (o.apart h bM) u);unfold FT;rw[aP h j u,t]
theorem iL.but{c:lu}{s:gM}(d:iL w c nm s)(H:∃r p,w.heap[om]?=some (.map r p))(hg:w.grownBy w' (some om))(G:c.mp≠om):iL w' c nm s:=by
 obtain⟨Q,N,F⟩:=H;have o:∀{k:Nat} {ob:Obj},w.heap[k]?=some ob->k≠om->w'.heap[k]?=some ob:=λh E=>by rw[hg.block _ (aR h) (λe=>E<|by injection e)];exact h
 obtain⟨L,u,y⟩:=d.qY;obtain⟨r,p,z⟩:=d.map.isMap;have j:∀{k:Nat} {cs:Array aC} {t:TypeId} {fz:Nat × Nat},w.heap[k]?=some (.cells cs t fz)->k≠om:=λh e=>by rw[e,F]at h;cases h
 exact⟨d.base,⟨L,o u<|j u,y.grown hg (λg K e=>by injection e with e;obtain⟨P,I⟩:=y.typ K;exact j I e.symm)⟩,d.uj,d.lens,λi b x v B C D=>o (d.var i b x v B C D)<|j<|d.var i b x v B C D,d.bsn,d.val,d.nodup,d.map.same (by rw[o z G,z]),d.mpn,d.room,d.OE⟩
theorem Kp.but{c:lu}(hg:w.grownBy w' (some om))(j:c.n<=om)(h:c.n<=w.heap.size):Kp c (some om) w w':=
 ⟨(bQ _ _).grown hg h (λk d=>by injection d with d;omega),λk ob e _ _ g _=>by rw[hg.block _ (aR e) g];exact e⟩
theorem Kw(W w:bI)(c:lu)(nm:List (aS × aS))(l:List Mo)(m:Nat)(s:gM)(q a f om n:Nat)(o:Rn.Own)(x:aS)(d:Run W w c nm l m s q a f om n o)(K:x.size<=maxLen):aD 153 #[gK q,A x] w λN w'=>N=dz (yX c.bs<|Rn.sh nm (Rn.mn l a) o x)/\∃k,w'=w.drewN k:=by
 obtain⟨b,off,cap,y,vi,vv,vf,z,S,L,P,F,G,H,I,t,C⟩:=d.mod;obtain⟨vp,E,V,Z,c4,f3,f4⟩:=d.ma.cell;obtain⟨r0,r1,r2,r3⟩:=d.fr.cell;rw[t];obtain⟨Q,g⟩:=eY d.alt<|d.ow.sS K;have j:J (∀k,(Instr.lookup 128 (.map<|some c.mp) (.agg #[A y.name,A x]) false).run prog (w.drewN k)=.ok (yX c.bs<|Rn.pos nm y.name x) (w.drewN k)):=Y (λk=>(d.ma.map.same (w':=w.drewN k) rfl).look C K);rw[z]at E;obtain⟨nl,u⟩:=aV l.length;rw[<-u]at E Q S;obtain⟨R,r⟩:=aV<|yX c.bs<|Rn.sh nm y.name o x;have e:=Y r;rw[<-r];clear r;obtain⟨D,B⟩:=aV y.name;rw[<-B]at P j e;cases h:o x with
 | some v =>rw[h]at g;have p:J (Rn.sh nm D o x=none):=Y (by simp[Rn.sh,h]);clear d I L t z u B C F G H;simp only[gD,nD]at g;go_enter func153,ntmps153;go_wp2;go_ret;exact⟨by rw[e,p];rfl,0,rfl⟩
 | none =>rw[h]at g;have p:J (Rn.sh nm D o x=Rn.pos nm D x):=Y (by simp[Rn.sh,h]);rw[p]at e;rw[<-e]at j;clear d I L t z u B C F G H;simp only[lK,nE]at g;have U:=j.out;go_enter func153,ntmps153;go_wp2_with fail;go_quiet (fail);go_wp2;go_ret;exact⟨rfl,_,rfl⟩
theorem ahP(W w:bI)(c:lu)(nm:List (aS × aS))(l:List Mo)(m:Nat)(s:gM)(q a f om n:Nat)(o:Rn.Own)(x:aS)(B:Run W w c nm l m s q a f om n o)(K:x.size<=maxLen):aD 99 #[gK q,A x] w λz w'=>z=dz (O (Rn.gt nm (Rn.mn l a) o x s).1)/\J (iL w' c nm (Rn.gt nm (Rn.mn l a) o x s).2/\Kp c none w w'):=by
 obtain⟨j,u⟩:=bV (Kw W w c nm l m s q a f om n o x B K) B;obtain⟨G,C⟩:=aV<|Rn.gt nm (Rn.mn l a) o x s;have E:=Y C;rw[<-C];clear C B;cases g:Rn.sh nm (Rn.mn l a) o x with
 | none =>have p:J (G=((o x).getD 0,s)):=Y (by rw[E,Rn.gt,g]);rw[g]at j;clear g;go_enter func99,ntmps99;go_wp2_with fail;refine j.mono ?_;rintro z w1 ⟨rfl,k,rfl⟩;have d:=u.drewN k;obtain⟨N,P,Q,S⟩:=d.fr.cell;obtain⟨t,r⟩:=bV d.ma<|(Kp.refl c none w).drewN k;have R:=d.ow.look K;clear d N P Q;generalize w.drewN k=w1 at *;simp only[yX];go_wp2;go_ret;exact⟨by rw[p];rfl,Y ⟨by rw[p];exact t,r⟩⟩
 | some i =>obtain⟨b,y,v,F,L,D,H,h,I⟩:=u.ma.at<|jM g;have p:J (G=(v.val,{ s with vs:=s.vs.modify i λv=>{ v with rd:=true } })):=Y (by rw[E,Rn.gt,g];simp only[D,kV,gD]);rw[g]at j;simp only[yX,H]at j;have e:=Y<|show c.bs[i]?=some b/\nm[i]?=some y/\s.vs[i]?=some v/\mq v.val from ⟨F,L,D,I⟩;clear g F L D H h I;go_enter func99,ntmps99;go_wp2_with fail;refine j.mono ?_;rintro z w1 ⟨rfl,k,rfl⟩;have d:=u.drewN k;obtain⟨t,r⟩:=bV (d.ma.XT e.1 e.2.1 e.2.2.1 (λv=>{ v with rd:=true }) rfl e.2.2.2 3 (.bool true) rfl) (((Kp.refl c none w).drewN k).trans (Kp.XT d.ma (dG e.1) 3<|.bool true));have h:=d.ma.var i b y v e.1 e.2.1 e.2.2.1;obtain⟨-,-,v2,v3⟩:=xX h;obtain⟨U,u2⟩:=eY (aF h 3)<|(aj (aP h 3<|.bool true) 2).trans rfl;clear d h;generalize w.drewN k=w1 at *;go_wp2;go_ret;exact⟨by rw[p];rfl,Y ⟨by rw[p];exact t,r⟩⟩
namespace bS
def atY(ss:List ByteArray)(t:ByteArray):Int:=if dU ss t<0 then 0 else dU ss t
def atZ(ss:List ByteArray)(t:ByteArray):Int:=if dU ss t<0 then 4 else 0
end bS
theorem auv(w:bI)(d c:aC)(ss:aJ)(G:Nat)(L:Nat->Nat)(Z:aL)(t:aS)(j:Strs w d ss)(h:EX w c G L Z)(g:dD ss G L Z≠0):aD 10 #[.agg #[d,c],A t] w λe w'=>e=dz (.tuple #[O 0,O<|dD ss G L Z])/\bK w w':=by have r:=Y j;have p:=Y h;have s:=eO g;clear j h g;go_enter func10,ntmps10;go_wp2_with fail;refine(zW _ d c ss G L Z (r.below<|(bQ _ _).alloc (bG _) _)<|p.below<|(bQ _ _).alloc (bG _) _).mono ?_;rintro e w1 ⟨rfl,k⟩;have o:=Y<|Z7 k;clear k;go_wp2;go_ret2;exact⟨rfl,o⟩
theorem find_ok(w:bI)(c e:aC)(ss:aJ)(G:Nat)(L:Nat->Nat)(Z:aL)(t:aS)(u:Strs w c ss)(s:EX w e G L Z)(r:dD ss G L Z=0):aD 10 #[.agg #[c,e],A t] w λh w'=>h=dz (.tuple #[O (atY ss t),O<|atZ ss t])/\bK w w':=by
 obtain⟨o,x⟩:=bV u s;clear u s;go_enter func10,ntmps10;go_wp2_with fail;refine(zW _ c e ss G L Z (o.below<|(bQ _ _).alloc (bG _) _)<|x.below<|(bQ _ _).alloc (bG _) _).mono ?_;rintro h w1 ⟨rfl,j⟩;rw[r];have g:=Y<|Z7 j;have q0:=aG (Rf w c e 25) j;clear j r;go_wp2_with fail;refine(BF _ c ss t<|o.below g).mono ?_;rintro h z ⟨rfl,y⟩;subst y;obtain⟨i,k⟩:=aV<|dU ss t;have d:=Y k;rw[<-k];clear k;by_cases p:i<0;·go_wp2;go_ret2;exact⟨Yg (by unfold atY;rw[<-d,aK p]) (by unfold atZ;rw[<-d,aK p]),g⟩
 ·go_wp2;go_ret2;exact⟨Yg (by unfold atY;rw[<-d,aI bC]) (by unfold atZ;rw[<-d,aI bC]),g⟩
