import Derived.Test.YtajaekfdcpjjfaaGreatDoorDZAT
import Derived.Test.YtajaekfdcpjjfaaGreatDoorDZAU
import Derived.Test.YtajaekfdcpjjfaaGreatDoorDZLG
set_option maxHeartbeats 0
set_option maxRecDepth 99999
namespace Go.Proofs.YtajaekfdcpjjfaaGreatDoor
open bS bO
open Go.Proofs.Tryz
open Go.RowKit
variable{W0 x w:bI}{n m i:Nat}{v v0 v1 v2 v3:aC}{nm:List (aS × aS)}
theorem sZ{o:Obj}(h:J (bK W0 x)):J (bK W0<|x.alloc o):=Y<|h.alloc h.size o
theorem iR(h:J (bK W0 x)):J (bK W0 x.drew):=Y h.out.drew
namespace bO
def D9(names:List ByteArray)(x:Mo)(known:List Mo)(m:Nat):List Dg:=[imD x known,twD x,lvD names x m,clD x known m].flatten
def FX(E:Int)(names:List ByteArray)(x:Mo)(known:List Mo)(m:Nat):List Dg:=if E=0 then once (D9 names x known m)else []
end bO
theorem Sd.drew{ls:List (List Dg)}(e:Sd w n v ls):Sd w.drew n v ls:=by obtain⟨b,off,cap,a,g,f⟩:=e;refine⟨b,off,cap,a,g,λi l h=>?_⟩;obtain⟨j,c,d⟩:=f i l h;exact⟨j,c,d.below (bQ _ _).drew⟩
theorem aem{c d e f:List Dg}(g:dA qU w n 97 3 v0 c)(h:dA qU w n 97 3 v1 d)(j:dA qU w n 97 3 v2 e)(k:dA qU w n 97 3 v3 f):∀(i:Nat) v l,[v0,v1,v2,v3][i]?=some v->[c,d,e,f][i]?=some l->dA qU w n 97 3 v l:=λi v l a b=>by
 match i,a,b with
 | 0,a,b=>simp at a b;subst a b;exact g
 | 1,a,b=>simp at a b;subst a b;exact h
 | 2,a,b=>simp at a b;subst a b;exact j
 | 3,a,b=>simp at a b;subst a b;exact k
 | i+4,a,b=>simp at a
theorem ajA(m:Nat)(w:bI)(vn P vi vv vf vk:aC)(names:aJ)(x:Mo)(known:List Mo)(B:Int)(hN:Strs w vn names)(b:jl w m (.agg #[A x.name,vi,vv,vf]) x)(hK:jN w m vk known)(hC:Bg w vi vf)(bp:∀a,bK w a->aD 115 #[.agg #[vn,P],.agg #[A x.name,vi,vv,vf],vk] a λp w'=>p=dz (O B)/\bK a w')(cd:x.vars.length<=1048576)(cb:x.bq.length<=1048576)(cc:x.imports.length<=1048576)(am:(D9 names x known m).length<=16777216):aD 68 #[.agg #[vn,P],.agg #[A x.name,vi,vv,vf],vk] w λp w'=>∃u,p=dz (.tuple #[u,O B])/\jg w' u (FX B names x known m)/\(FX B names x known m=[]->u=aU)/\bK w w':=by
 obtain⟨HN,HM,HK,bw⟩:=lD hN b hK hC;obtain⟨hI,hV,hF⟩:=b.split;obtain⟨an,bn,on,Z,rfl,-⟩:=hN;obtain⟨g,bi,oi,ci,rfl,-⟩:=hI;obtain⟨h,bv,ov,k,rfl,-⟩:=hV;obtain⟨f,bf,of,j,rfl,-⟩:=hF;obtain⟨E,bk,ok,H,rfl,-⟩:=hK;have MI:=Y bp;obtain⟨q,ae⟩:=aV<|imD x known;obtain⟨t,ag⟩:=aV<|twD x;obtain⟨D3,ah⟩:=aV<|lvD names x m;obtain⟨z,al⟩:=aV<|clD x known m;have S9:J (D9 names x known m=[q,t,D3,z].flatten):=Y (by rw[ae,ag,ah,al];rfl);rw[S9]at am;have jP:=Y am;have Bc:J (q.length<=16777216/\t.length<=16777216/\D3.length<=16777216/\z.length<=16777216):=Y (by simp only[uE,DT,gL,bg]at am;refine⟨?_,?_,?_,?_⟩<;>omega);have Yv:=Y (λa ab V (hS:ScV a m x known (X g x.imports.length ci) (X h x.vars.length k) (X f x.bq.length j) ab V)=>agH m a x known _ _ _ ab V hS (by rw[<-ae];exact Bc.1));have Ia:=Y (λa (I:bK w a)=>J4 m a _ _ _ x (HM.below I) (bw.below I) cd cb (by rw[<-ag];exact Bc.2.1));have a2:=Y (λa (I:bK w a)=>adC m a _ P _ _ _ names x (HN.below I) (HM.below I) (by rw[<-ah];exact Bc.2.2.1));have a3:=Y (λa ab V (hS:ScV a m x known (X g x.imports.length ci) (X h x.vars.length k) (X f x.bq.length j) ab V)=>ak0 m a x known _ _ _ ab V hS (by rw[<-al];exact Bc.2.2.2));rw[<-ae]at Yv;rw[<-ag]at Ia;rw[<-ah]at a2;rw[<-al]at a3;have VR:=Y<|hC.fus;have vZ:=Y (λa (I:bK w a)=>Dm m a _ _ _ _ x known (HM.below I) (HK.below I) cc);generalize x.imports.length=l at *;generalize x.vars.length=o at *;generalize x.bq.length=nf at *;generalize known.length=N at *;generalize names.length=nn at *;obtain⟨b0,U,bm⟩:=al2 w (aY #[X an nn Z,P] 25)<|aY #[A x.name,X g l ci,X h o k,X f nf j] 89;obtain⟨cg,ch,Fy⟩:=fE b0 U bm;obtain⟨q0,q1,r0,r1⟩:=rY ((aj b0 0).trans (rfl:_=some (X an nn Z))) ((aj b0 1).trans (rfl:_=some P)) ((aj U 0).trans (rfl:_=some (A x.name))) ((aj U 1).trans (rfl:_=some (X g l ci)));obtain⟨r2,r3⟩:=eY ((aj U 2).trans (rfl:_=some (X h o k))) ((aj U 3).trans (rfl:_=some (X f nf j)));obtain⟨PD,ay⟩:=aV<|FX B names x known m;have bb:=Y ay;rw[<-ay];clear b hC bp am ae ag ah al b0 U bm ay;go_enter func68,ntmps68;go_wp2_with fail;generalize ((w.alloc<|aY #[X an nn Z,P] 25).alloc (aY #[A x.name,X g l ci,X h o k,X f nf j] 89))=W0 at *;refine(MI _ Fy).mono ?_;rintro p w1 ⟨rfl,K⟩;have ao:=Y<|up Fy K;replace q0:=aG q0 K;replace q1:=aG q1 K;replace r0:=aG r0 K;replace r1:=aG r1 K;replace r2:=aG r2 K;replace r3:=aG r3 K;clear K;by_cases hE:B=0
 ·subst hE;have aw:J (FX 0 names x known m=bO.once [q,t,D3,z].flatten):=Y (by unfold FX;rw[aK rfl,S9]);go_wp2_with fail;refine(vZ _ ao).mono ?_;rintro p c ⟨V,rfl,bq,L⟩;have bu:=Y bq;obtain⟨D,ba,oa,G,rfl,-⟩:=bq;generalize (x.imports.map λs=>oI<|dQ known s).length=M at *;obtain⟨ap,S⟩:=bV (up ao L)<|And.intro (aG q0 L)<|And.intro (aG q1 L)<|And.intro (aG r0 L)<|And.intro (aG r1 L)<|And.intro (aG r2 L)<|aG r3 L;have bz:J (ScV c m x known (X g l ci) (X h o k) (X f nf j) (X E N H)<|X D M G):=Y ⟨HM.below ap,HK.below ap,bu,VR⟩;clear q0 q1 r0 r1 r2 r3 L;go_wp2_with fail;have C:=Y<|aH c<|aY #[A x.name,X g l ci,X h o k,X f nf j,X E N H,X D M G] 218;have Q:=Pk c (A x.name) (X g l ci) (X h o k) (X f nf j) (X E N H) (X D M G) 218;have HF:J (∀a,J (Below (c.alloc<|aY #[A x.name,X g l ci,X h o k,X f nf j,X E N H,X D M G] 218).heap.size (c.alloc<|aY #[A x.name,X g l ci,X h o k,X f nf j,X E N H,X D M G] 218) a)->bJ a w.heap.size 0=some (X an nn Z)/\bJ a w.heap.size 1=some P/\bJ a (w.heap.size+1) 0=some (A x.name)/\bJ a (w.heap.size+1) 1=some (X g l ci)/\bJ a (w.heap.size+1) 2=some (X h o k)/\bJ a (w.heap.size+1) 3=some (X f nf j)/\bJ a c.heap.size 0=some (A x.name)/\bJ a c.heap.size 1=some (X g l ci)/\bJ a c.heap.size 2=some (X h o k)/\bJ a c.heap.size 3=some (X f nf j)/\bJ a c.heap.size 4=some (X E N H)/\bJ a c.heap.size 5=some (X D M G)):=Y (λa b=>⟨aG (aG S.1 C) b,aG (aG S.2.1 C) b,aG (aG S.2.2.1 C) b,aG (aG S.2.2.2.1 C) b,aG (aG S.2.2.2.2.1 C) b,aG (aG S.2.2.2.2.2 C) b,aG (Q 0 _ rfl) b,aG (Q 1 _ rfl) b,aG (Q 2 _ rfl) b,aG (Q 3 _ rfl) b,aG (Q 4 _ rfl) b,aG (Q 5 _ rfl) b⟩);obtain⟨bh,xU⟩:=bV (bz.below C)<|up ap C;clear Q;generalize (c.alloc<|aY #[A x.name,X g l ci,X h o k,X f nf j,X E N H,X D M G] 218)=e at *;have Aw:J (bK e e):=Y<|bQ _ _;obtain⟨F,hF⟩:∃F,F=([q,t,D3,z]:List (List Dg)).flatten:=⟨_,rfl⟩;have aq:=Y hF;clear hF
  go_region_held3 (λa=>bJ a w.heap.size 0=some (X an nn Z)/\bJ a w.heap.size 1=some P/\bJ a (w.heap.size+1) 0=some (A x.name)/\bJ a (w.heap.size+1) 1=some (X g l ci)/\bJ a (w.heap.size+1) 2=some (X h o k)/\bJ a (w.heap.size+1) 3=some (X f nf j)/\
   bJ a c.heap.size 0=some (A x.name)/\bJ a c.heap.size 1=some (X g l ci)/\bJ a c.heap.size 2=some (X h o k)/\bJ a c.heap.size 3=some (X f nf j)/\bJ a c.heap.size 4=some (X E N H)/\bJ a c.heap.size 5=some (X D M G))
   ((refine HF _ ?_;repeat(first|exact be|exact I5|exact Vm|exact ad|exact ac|exact Aw|apply iR|apply sZ)))
   (first
    | (go_at_call 118;refine(Yv _ _ _<|bh.below<|gT<|by repeat(first|exact Aw|apply iR)).mono ?_;rintro p w5 ⟨u5,rfl,aA,bo⟩;obtain⟨a5,c5,rfl⟩:=aA.form;have ac:J (bK e w5):=Y<|up (w:=e) (gT<|by repeat(first|exact Aw|apply iR)) bo;have bA:=Y aA;clear aA bo)
    | (go_at_call 119;refine(Ia _<|up xU<|gT<|by repeat(first|exact ac|apply iR)).mono ?_;rintro p w6 ⟨u6,rfl,aE,az⟩;obtain⟨a6,c6,rfl⟩:=aE.form;have ad:J (bK e w6):=Y<|up (w:=e) (gT<|by repeat(first|exact ac|apply iR)) az;have bB:=Y aE;have bY:=Y<|bA.below<|show bK w5 w6 from az;clear aE az)
    | (go_at_call 120;refine(a2 _<|up xU<|gT<|by repeat(first|exact ad|apply iR)).mono ?_;rintro p W ⟨u7,rfl,a0,ug⟩;obtain⟨a7,c7,rfl⟩:=a0.form;have Vm:J (bK e W):=Y<|up (w:=e) (gT<|by repeat(first|exact ad|apply iR)) ug;have bL:=Y a0;have b2:=Y<|bY.below<|show bK w6 W from ug;have OW:=Y<|bB.below<|show bK w6 W from ug;clear a0 ug)
    | (go_at_call 121;refine(a3 _ _ _<|bh.below<|gT<|by repeat(first|exact Vm|apply iR)).mono ?_;rintro p R ⟨u8,rfl,a1,pR⟩;obtain⟨a8,c8,rfl⟩:=a1.form;have I5:J (bK e R):=Y<|up (w:=e) (gT<|by repeat(first|exact Vm|apply iR)) pR;have bS:=Y a1;have Rb:=Y<|b2.below<|show bK W R from pR;have b3:=Y<|OW.below<|show bK W R from pR;have b4:=Y<|bL.below<|show bK W R from pR;clear a1 pR)
    | (go_at_call 117;have bs:J (Sd (R.alloc<|aY #[X a5 q.length c5,X a6 t.length c6,X a7 D3.length c7,X a8 z.length c8] 62) e.heap.size (Tc R.heap.size 4 4) [q,t,D3,z]):=Y<|Nz R e.heap.size 62 [X a5 q.length c5,X a6 t.length c6,X a7 D3.length c7,X a8 z.length c8] [q,t,D3,z] rfl cK (aem (Rb.old<|bG _) (b3.old ac.size) (b4.old ad.size)<|bS.old Vm.size);refine(GV _ e.heap.size _ [q,t,D3,z] (by repeat(first|exact bs|apply Sd.drew)) jP).mono ?_;rintro p w9 ⟨u9,rfl,V8,vV⟩;rw[<-aq]at V8;have be:J (bK e w9):=Y<|up (w:=e) (gT<|by repeat(first|exact I5|apply iR|apply sZ)) vV;have bc:=Y<|V8.old<|show e.heap.size<=_ from (gT (by repeat(first|exact I5|apply iR|apply sZ)):bK e _).size;obtain⟨a9,c9,rfl⟩:=V8.form;clear V8 vV))
  all_goals
   have a4:J (F.length<=16777216):=Y (by rw[aq];exact jP);have Ac:=Y<|up xU be;have ar:J (PD=bO.once F):=Y (by rw[bb,aw,aq]);obtain⟨br,bx⟩:=bV (bc.GJ (by have:=a4.out;omega)) bc.out.shape;rcases bx with⟨h1,h2⟩|⟨g1,q1,h1,-,-,-,h2⟩;·have au:J (PD=[]):=Y (by rw[ar,h2];rfl);rw[h1];clear h1 h2;go_wp2_with fail;refine(ajx _).mono ?_;rintro p ce ⟨rfl,b7⟩;subst b7;go_wp2_with fail;refine cZ (v:=.tuple #[aU,O 0]) (by simp[results,results68,go_sem]) rfl ?_;exact⟨_,rfl,by rw[au];exact⟨none,0,0,0,rfl,λb=>aM b cK,by simp,λi d hd=>by simp at hd⟩,λ_=>rfl,Ac⟩
   ·have au:J (PD≠[]):=Y (by
     rw[ar];intro h0;cases F with
     | nil=>exact h2 rfl
     | cons y r=>have:=(Dh (y::r) y).2 List.mem_cons_self;rw[h0]at this;cases this)
    clear h1 h2;go_wp2_with fail;refine(y8 w9 _ F br a4).mono ?_;rintro p ce ⟨co,rfl,ax,bj⟩;rw[<-ar]at ax;obtain⟨b8,b6⟩:=bV ax<|up Ac bj;obtain⟨b5,cj,cm,b9,rfl,-⟩:=ax;generalize PD.length=pl at *;clear bj;go_wp2_with fail;refine cZ (v:=.tuple #[X b5 pl b9,O 0]) (by simp[results,results68,go_sem]) rfl ?_;exact⟨_,rfl,b8,λb=>aM b au,b6⟩
 ·have cl:(B==0)=false:=by simp[hE]
  have aw:J (FX B names x known m=[]):=Y (by unfold FX;rw[aI hE]);clear hE;go_wp2_with fail;refine cZ (v:=.tuple #[aU,O B]) (by simp[results,results68,go_sem]) rfl ?_;exact⟨_,rfl,by rw[bb,aw];exact⟨none,0,0,0,rfl,λb=>aM b cK,by simp,λi d hd=>by simp at hd⟩,λ_=>rfl,ao⟩
namespace bS
def FY(s:ByteArray):ByteArray:=brk [⟨#[105,109,112,111,114,116]⟩,s]
def vaX(v:Va):ByteArray:=brk [⟨#[118,97,114]⟩,v.name,v.level]
end bS
namespace bS
def fuX(m:Nat)(f:Fu):ByteArray:=brk [[⟨#[102,117,110]⟩,f.name,brk f.params],Me m f.body,[zT m f.result]].flatten
end bS
theorem Ti(l:aJ)(acc:aS):∀j,j<=l.length->GZ l acc j=acc++bS.jn (l.take j)
 | 0,_=>by apply iQ;rw[iN,lW];simp[GZ,Lib.join_nil]
 | j+1,g=>by
  obtain⟨y,b⟩:∃y,l[j]?=some y:=⟨_,aZ bC⟩;have c:l.take (j+1)=l.take j++[y]:=by have:=map_take (f:=id) b;simpa using this
  have d:l.getD j ByteArray.empty=y:=by rw[List.getD,b];rfl
  have e:(l.take j).length=j:=by rw[iA];omega
  rw[V9,Ti l acc j bC,c,d,YX,e];apply iQ;by_cases a:0<j;·rw[aK a,aK a];simp only[iN,iK]
  ·rw[aI a,aI a];simp only[iN,iK]
theorem ahN{l:aJ}(h:l≠[]):Lib.joinTail [32] (l.map (·.data.toList))=32::(bS.jn l).data.toList:=by
 cases l with
 | nil=>exact aM rfl h
 | cons y l =>rw[lW,fZ,Lib.join_cons];simp[Lib.joinTail]
theorem tail_cons(x:List UInt8)(r:List (List UInt8)):Lib.joinTail [32] (x::r)=32::(x++Lib.joinTail [32] r):=by simp[Lib.joinTail]
theorem Y1(a:m≠0)(l:List St):Me m l=[]↔l=[]:=by
 cases m with
 | zero=>exact aM rfl a
 | succ m=>simp[Me]
theorem akD(hm:m≠0)(acc:aS)(f:Fu):(fuT m acc f).data.toList=acc.data.toList++32::(fuX m f).data.toList:=by
 unfold fuT fuB fuP fuH fuX;rw[Ti _ _ _ (bG _),jQ,jk];by_cases h:0<f.body.length
 ·have hne:Me m f.body≠[]:=by rw[ne_eq,Y1 hm];intro e;rw[e]at h;simp at h
  rw[aK h,Pt];have hfl:[[(⟨#[102,117,110]⟩:aS),f.name,bS.brk f.params],Me m f.body,[zT m f.result]].flatten=⟨#[102,117,110]⟩::f.name::bS.brk f.params::(Me m f.body++[zT m f.result]):=by simp
  rw[hfl,fZ,Lib.join_cons,fZ,tail_cons,fZ,tail_cons,gX,rQ,ahN hne,fZ,tail_cons,jV,jk,lW];simp[lW,Lib.joinTail]
 ·have he:f.body=[]:=qp.1 bC;have hne:Me m f.body=[]:=(Y1 hm _).2 he;rw[aI h,hne];simp[Lib.join_cons,Lib.joinTail,jk,lW]
open Go.Maps
theorem Wx{x y:aS}(h:Rn.pos nm x y=some i):i<nm.length:=jE.1<|Gw h
theorem jM{x y:aS}{o:Rn.Own}(h:Rn.sh nm x o y=some i):i<nm.length:=by
 unfold Rn.sh at h;split at h;·cases h
 ·exact Wx h
namespace bS
end bS
theorem Wz(d:Dg):sI d d=true:=rU.2 rfl
theorem aeo(w:bI)(q r:aC)(l:List Dg)(y:jg w q l)(z:jg w r l):aD 38 #[q,r] w λu w'=>u=dz (.bool true)/\bK w w':=by
 obtain⟨a,b,off,cap,rfl,k,C,p⟩:=y;obtain⟨F,G,M,H,rfl,o,-,h⟩:=z;have D:=Y p;have t:=Y h;have f:=Y k;have g:=Y o;obtain⟨len,e⟩:=aV l.length;have s:=Y e;rw[<-e]at C f g ⊢;clear p h k o e;go_enter func38,ntmps38;go_wp2_with fail;go_loopw[5,13] (λ_ i E=>∃j:Nat,j<=len/\i=O j/\∃n,E=w.drewN n) (λ_ i _=>len - (intOf i).toNat);exact⟨0,bN _,rfl,0,rfl⟩
 obtain⟨j,L,rfl,n,rfl⟩:=hrel;by_cases B:j<len
 ·obtain⟨d,c⟩:∃d,l[j]?=some d:=⟨_,aZ (by rw[<-s];exact B)⟩;obtain⟨N,P,Q⟩:=D j d c;obtain⟨R,S,U⟩:=t.out j d c;obtain rfl:=f bC;obtain rfl:=g.out bC;have I:∀w,Sem.run prog (Op.equalIn 10000 97 (.agg #[O d.code,A d.fn,A d.name])<|.agg #[O d.code,A d.fn,A d.name]) w=.ok true w:=λw=>by rw[OA d d w,Wz]
  have K:∀op a b w,Sem.run prog (eqGuard op 97 a b (.agg #[O d.code,A d.fn,A d.name])<|.agg #[O d.code,A d.fn,A d.name]) w=.ok () w:=λop a b w=>Jt op a b d d w;clear c;go_wp2_with fail;go_quiet (fail);go_wp2;go_roundw;exact⟨j+1,by omega,by go_num,n+nq,by rw[<-World.drewN_drewN]⟩;exact gV
 ·go_wp2;go_ret;exact⟨rfl,wR<|bQ _ _⟩
