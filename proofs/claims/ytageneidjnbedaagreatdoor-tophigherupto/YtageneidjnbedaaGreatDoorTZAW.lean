import Derived.Test.YtageneidjnbedaaGreatDoorTZAT
import Derived.Test.YtageneidjnbedaaGreatDoorTZAU
import Derived.Test.YtageneidjnbedaaGreatDoorTZLG
set_option maxHeartbeats 0
set_option maxRecDepth 99999
namespace Go.Proofs.YtageneidjnbedaaGreatDoor
open bS bO
open Go.Proofs.Tryz
open Go.RowKit
variable{W0 x w wr Wc w2:bI}{o v v0 v1 v2 v3:aC}{n m i:Nat}{l:aJ}{f:Fu}{nm:List (aS × aS)}
theorem sZ{o:Obj}(h:J (bK W0 x)):J (bK W0<|x.alloc o):=Y<|h.alloc h.size o
theorem iR(h:J (bK W0 x)):J (bK W0 x.drew):=Y h.out.drew
namespace bO
def D9(names:List ByteArray)(x:Mo)(known:List Mo)(m:Nat):List Dg:=[imD x known,twD x,lvD names x m,clD x known m].flatten
def FX(E:Int)(names:List ByteArray)(x:Mo)(known:List Mo)(m:Nat):List Dg:=if E=0 then once (D9 names x known m)else []
end bO
theorem Sd.drew{ls:List (List Dg)}(h:Sd w n v ls):Sd w.drew n v ls:=by obtain⟨b,off,cap,a,j,g⟩:=h;refine⟨b,off,cap,a,j,λi l k=>?_⟩;obtain⟨p,d,e⟩:=g i l k;exact⟨p,d,e.below (bQ _ _).drew⟩
theorem aem{d e g h:List Dg}(j:dA qU w n 52 3 v0 d)(k:dA qU w n 52 3 v1 e)(p:dA qU w n 52 3 v2 g)(q:dA qU w n 52 3 v3 h):∀(i:Nat) v l,[v0,v1,v2,v3][i]?=some v->[d,e,g,h][i]?=some l->dA qU w n 52 3 v l:=λi v l a b=>by
 match i,a,b with
 | 0,a,b=>simp at a b;subst a b;exact j
 | 1,a,b=>simp at a b;subst a b;exact k
 | 2,a,b=>simp at a b;subst a b;exact p
 | 3,a,b=>simp at a b;subst a b;exact q
 | i+4,a,b=>simp at a
theorem ajA(m:Nat)(w:bI)(vn S vi vv vf vk:aC)(names:aJ)(x:Mo)(known:List Mo)(E:Int)(hN:Strs w vn names)(h:jl w m (.agg #[A x.name,vi,vv,vf]) x)(hK:jN w m vk known)(hC:Bg w vi vf)(bp:∀a,bK w a->aD 99 #[.agg #[vn,S],.agg #[A x.name,vi,vv,vf],vk] a λe w'=>e=dz (O E)/\bK a w')(cd:x.vars.length<=1048576)(cb:x.bq.length<=1048576)(cc:x.imports.length<=1048576)(am:(D9 names x known m).length<=16777216):aD 76 #[.agg #[vn,S],.agg #[A x.name,vi,vv,vf],vk] w λe w'=>∃u,e=dz (.tuple #[u,O E])/\jg w' u (FX E names x known m)/\(FX E names x known m=[]->u=aU)/\bK w w':=by
 obtain⟨HN,HM,HK,bw⟩:=lD hN h hK hC;obtain⟨hI,hV,hF⟩:=h.split;obtain⟨an,bn,on,cn,rfl,-⟩:=hN;obtain⟨g,bi,oi,ci,rfl,-⟩:=hI;obtain⟨j,bv,ov,p,rfl,-⟩:=hV;obtain⟨af,bf,of,k,rfl,-⟩:=hF;obtain⟨I,bk,ok,L,rfl,-⟩:=hK;have MI:=Y bp;obtain⟨z,ae⟩:=aV<|imD x known;obtain⟨B,ag⟩:=aV<|twD x;obtain⟨C,ah⟩:=aV<|lvD names x m;obtain⟨D,al⟩:=aV<|clD x known m;have S9:J (D9 names x known m=[z,B,C,D].flatten):=Y (by rw[ae,ag,ah,al];rfl);rw[S9]at am;have jP:=Y am;have Bc:J (z.length<=16777216/\B.length<=16777216/\C.length<=16777216/\D.length<=16777216):=Y (by simp only[uE,DT,gL,bg]at am;refine⟨?_,?_,?_,?_⟩<;>omega);have Yv:=Y (λa ab va (hS:ScV a m x known (X g x.imports.length ci) (X j x.vars.length p) (X af x.bq.length k) ab va)=>agH m a x known _ _ _ ab va hS (by rw[<-ae];exact Bc.1));have Ia:=Y (λa (M:bK w a)=>J4 m a _ _ _ x (HM.below M) (bw.below M) cd cb (by rw[<-ag];exact Bc.2.1));have a2:=Y (λa (M:bK w a)=>adC m a _ S _ _ _ names x (HN.below M) (HM.below M) (by rw[<-ah];exact Bc.2.2.1));have a3:=Y (λa ab va (hS:ScV a m x known (X g x.imports.length ci) (X j x.vars.length p) (X af x.bq.length k) ab va)=>ak0 m a x known _ _ _ ab va hS (by rw[<-al];exact Bc.2.2.2));rw[<-ae]at Yv;rw[<-ag]at Ia;rw[<-ah]at a2;rw[<-al]at a3;have VR:=Y<|hC.fus;have vZ:=Y (λa (M:bK w a)=>Dm m a _ _ _ _ x known (HM.below M) (HK.below M) cc);generalize x.imports.length=q at *;generalize x.vars.length=t at *;generalize x.bq.length=nf at *;generalize known.length=R at *;generalize names.length=nn at *;obtain⟨b0,Z,bm⟩:=al2 w (aY #[X an nn cn,S] 25)<|aY #[A x.name,X g q ci,X j t p,X af nf k] 47;obtain⟨cg,ch,Fy⟩:=fE b0 Z bm;obtain⟨q0,q1,r0,r1⟩:=rY ((aj b0 0).trans (rfl:_=some (X an nn cn))) ((aj b0 1).trans (rfl:_=some S)) ((aj Z 0).trans (rfl:_=some (A x.name))) ((aj Z 1).trans (rfl:_=some (X g q ci)));obtain⟨r2,r3⟩:=eY ((aj Z 2).trans (rfl:_=some (X j t p))) ((aj Z 3).trans (rfl:_=some (X af nf k)));obtain⟨PD,ay⟩:=aV<|FX E names x known m;have bb:=Y ay;rw[<-ay];clear h hC bp am ae ag ah al b0 Z bm ay;go_enter func76,ntmps76;go_wp2_with fail;generalize ((w.alloc<|aY #[X an nn cn,S] 25).alloc (aY #[A x.name,X g q ci,X j t p,X af nf k] 47))=W0 at *;refine(MI _ Fy).mono ?_;rintro e w1 ⟨rfl,N⟩;have ao:=Y<|up Fy N;replace q0:=aG q0 N;replace q1:=aG q1 N;replace r0:=aG r0 N;replace r1:=aG r1 N;replace r2:=aG r2 N;replace r3:=aG r3 N;clear N;by_cases hE:E=0
 ·subst hE;have aw:J (FX 0 names x known m=bO.once [z,B,C,D].flatten):=Y (by unfold FX;rw[aK rfl,S9]);go_wp2_with fail;refine(vZ _ ao).mono ?_;rintro e w2 ⟨va,rfl,bq,P⟩;have bu:=Y bq;obtain⟨H,ba,oa,K,rfl,-⟩:=bq;generalize (x.imports.map λs=>oI<|dQ known s).length=Q at *;obtain⟨ap,W⟩:=bV (up ao P)<|And.intro (aG q0 P)<|And.intro (aG q1 P)<|And.intro (aG r0 P)<|And.intro (aG r1 P)<|And.intro (aG r2 P)<|aG r3 P;have bz:J (ScV w2 m x known (X g q ci) (X j t p) (X af nf k) (X I R L)<|X H Q K):=Y ⟨HM.below ap,HK.below ap,bu,VR⟩;clear q0 q1 r0 r1 r2 r3 P;go_wp2_with fail;have G:=Y<|aH w2<|aY #[A x.name,X g q ci,X j t p,X af nf k,X I R L,X H Q K] 169;have U:=Pk w2 (A x.name) (X g q ci) (X j t p) (X af nf k) (X I R L) (X H Q K) 169;have HF:J (∀a,J (Below (w2.alloc<|aY #[A x.name,X g q ci,X j t p,X af nf k,X I R L,X H Q K] 169).heap.size (w2.alloc<|aY #[A x.name,X g q ci,X j t p,X af nf k,X I R L,X H Q K] 169) a)->bJ a w.heap.size 0=some (X an nn cn)/\bJ a w.heap.size 1=some S/\bJ a (w.heap.size+1) 0=some (A x.name)/\bJ a (w.heap.size+1) 1=some (X g q ci)/\bJ a (w.heap.size+1) 2=some (X j t p)/\bJ a (w.heap.size+1) 3=some (X af nf k)/\bJ a w2.heap.size 0=some (A x.name)/\bJ a w2.heap.size 1=some (X g q ci)/\bJ a w2.heap.size 2=some (X j t p)/\bJ a w2.heap.size 3=some (X af nf k)/\bJ a w2.heap.size 4=some (X I R L)/\bJ a w2.heap.size 5=some (X H Q K)):=Y (λa h=>⟨aG (aG W.1 G) h,aG (aG W.2.1 G) h,aG (aG W.2.2.1 G) h,aG (aG W.2.2.2.1 G) h,aG (aG W.2.2.2.2.1 G) h,aG (aG W.2.2.2.2.2 G) h,aG (U 0 _ rfl) h,aG (U 1 _ rfl) h,aG (U 2 _ rfl) h,aG (U 3 _ rfl) h,aG (U 4 _ rfl) h,aG (U 5 _ rfl) h⟩);obtain⟨bh,xU⟩:=bV (bz.below G)<|up ap G;clear U;generalize (w2.alloc<|aY #[A x.name,X g q ci,X j t p,X af nf k,X I R L,X H Q K] 169)=b at *;have Aw:J (bK b b):=Y<|bQ _ _;obtain⟨F,hF⟩:∃F,F=([z,B,C,D]:List (List Dg)).flatten:=⟨_,rfl⟩;have aq:=Y hF;clear hF
  go_region_held3 (λa=>bJ a w.heap.size 0=some (X an nn cn)/\bJ a w.heap.size 1=some S/\bJ a (w.heap.size+1) 0=some (A x.name)/\bJ a (w.heap.size+1) 1=some (X g q ci)/\bJ a (w.heap.size+1) 2=some (X j t p)/\bJ a (w.heap.size+1) 3=some (X af nf k)/\
   bJ a w2.heap.size 0=some (A x.name)/\bJ a w2.heap.size 1=some (X g q ci)/\bJ a w2.heap.size 2=some (X j t p)/\bJ a w2.heap.size 3=some (X af nf k)/\bJ a w2.heap.size 4=some (X I R L)/\bJ a w2.heap.size 5=some (X H Q K))
   ((refine HF _ ?_;repeat(first|exact be|exact I5|exact Vm|exact ad|exact ac|exact Aw|apply iR|apply sZ)))
   (first
    | (go_at_call 102;refine(Yv _ _ _<|bh.below<|gT<|by repeat(first|exact Aw|apply iR)).mono ?_;rintro e w5 ⟨u5,rfl,aA,bo⟩;obtain⟨a5,c5,rfl⟩:=aA.form;have ac:J (bK b w5):=Y (up (w:=b) (gT<|by repeat(first|exact Aw|apply iR)) bo);have bA:=Y aA;clear aA bo)
    | (go_at_call 103;refine(Ia _<|up xU<|gT<|by repeat(first|exact ac|apply iR)).mono ?_;rintro e w6 ⟨u6,rfl,aE,az⟩;obtain⟨a6,c6,rfl⟩:=aE.form;have ad:J (bK b w6):=Y (up (w:=b) (gT<|by repeat(first|exact ac|apply iR)) az);have bB:=Y aE;have bY:=Y<|bA.below<|show bK w5 w6 from az;clear aE az)
    | (go_at_call 104;refine(a2 _<|up xU<|gT<|by repeat(first|exact ad|apply iR)).mono ?_;rintro e w7 ⟨u7,rfl,a0,ug⟩;obtain⟨a7,c7,rfl⟩:=a0.form;have Vm:J (bK b w7):=Y (up (w:=b) (gT<|by repeat(first|exact ad|apply iR)) ug);have bL:=Y a0;have b2:=Y<|bY.below<|show bK w6 w7 from ug;have OW:=Y<|bB.below<|show bK w6 w7 from ug;clear a0 ug)
    | (go_at_call 105;refine(a3 _ _ _<|bh.below<|gT<|by repeat(first|exact Vm|apply iR)).mono ?_;rintro e V ⟨u8,rfl,a1,pR⟩;obtain⟨a8,c8,rfl⟩:=a1.form;have I5:J (bK b V):=Y (up (w:=b) (gT<|by repeat(first|exact Vm|apply iR)) pR);have bS:=Y a1;have Rb:=Y<|b2.below<|show bK w7 V from pR;have b3:=Y<|OW.below<|show bK w7 V from pR;have b4:=Y<|bL.below<|show bK w7 V from pR;clear a1 pR)
    | (go_at_call 101;have bs:J (Sd (V.alloc<|aY #[X a5 z.length c5,X a6 B.length c6,X a7 C.length c7,X a8 D.length c8] 38) b.heap.size (Tc V.heap.size 4 4) [z,B,C,D]):=Y<|Nz V b.heap.size 38 [X a5 z.length c5,X a6 B.length c6,X a7 C.length c7,X a8 D.length c8] [z,B,C,D] rfl cK (aem (Rb.old<|bG _) (b3.old ac.size) (b4.old ad.size)<|bS.old Vm.size);refine(GV _ b.heap.size _ [z,B,C,D] (by repeat(first|exact bs|apply Sd.drew)) jP).mono ?_;rintro e w9 ⟨u9,rfl,V8,vV⟩;rw[<-aq]at V8;have be:J (bK b w9):=Y (up (w:=b) (gT<|by repeat(first|exact I5|apply iR|apply sZ)) vV);have bc:=Y (V8.old<|show b.heap.size<=_ from (gT (by repeat(first|exact I5|apply iR|apply sZ)):bK b _).size);obtain⟨a9,c9,rfl⟩:=V8.form;clear V8 vV))
  all_goals
   have a4:J (F.length<=16777216):=Y (by rw[aq];exact jP);have Ac:=Y<|up xU be;have ar:J (PD=bO.once F):=Y (by rw[bb,aw,aq]);obtain⟨br,bx⟩:=bV (bc.GJ (by have:=a4.out;omega)) bc.out.shape;rcases bx with⟨h1,h2⟩|⟨g1,q1,h1,-,-,-,h2⟩;·have au:J (PD=[]):=Y (by rw[ar,h2];rfl);rw[h1];clear h1 h2;go_wp2_with fail;refine(ajx _).mono ?_;rintro e ce ⟨rfl,b7⟩;subst b7;go_wp2_with fail;refine cZ (v:=.tuple #[aU,O 0]) (by simp[results,results76,go_sem]) rfl ?_;exact⟨_,rfl,by rw[au];exact⟨none,0,0,0,rfl,λh=>aM h cK,by simp,λi d hd=>by simp at hd⟩,λ_=>rfl,Ac⟩
   ·have au:J (PD≠[]):=Y (by
     rw[ar];intro h0;cases F with
     | nil=>exact h2 rfl
     | cons y r=>have:=(Dh (y::r) y).2 List.mem_cons_self;rw[h0]at this;cases this)
    clear h1 h2;go_wp2_with fail;refine(y8 w9 _ F br a4).mono ?_;rintro e ce ⟨co,rfl,ax,bj⟩;rw[<-ar]at ax;obtain⟨b8,b6⟩:=bV ax<|up Ac bj;obtain⟨b5,cj,cm,b9,rfl,-⟩:=ax;generalize PD.length=pl at *;clear bj;go_wp2_with fail;refine cZ (v:=.tuple #[X b5 pl b9,O 0]) (by simp[results,results76,go_sem]) rfl ?_;exact⟨_,rfl,b8,λh=>aM h au,b6⟩
 ·have cl:(E==0)=false:=by simp[hE]
  have aw:J (FX E names x known m=[]):=Y (by unfold FX;rw[aI hE]);clear hE;go_wp2_with fail;refine cZ (v:=.tuple #[aU,O E]) (by simp[results,results76,go_sem]) rfl ?_;exact⟨_,rfl,by rw[bb,aw];exact⟨none,0,0,0,rfl,λh=>aM h cK,by simp,λi d hd=>by simp at hd⟩,λ_=>rfl,ao⟩
namespace bS
def FY(s:ByteArray):ByteArray:=brk [⟨#[105,109,112,111,114,116]⟩,s]
def vaX(v:Va):ByteArray:=brk [⟨#[118,97,114]⟩,v.name,v.level]
end bS
theorem axo(s:ByteArray):(FY s).size=s.size+9:=by unfold FY;rw[awp,awS];simp[Lib.join_cons,Lib.joinTail]
theorem axT(v:Va):(vaX v).size=v.name.size+v.level.size+7:=by unfold vaX;rw[awp,awS];simp[Lib.join_cons,Lib.joinTail];omega
theorem awQ(w:bI)(v:aC)(l:aJ)(h:Strs w v l)(C:nJ l<=1365000):aD 65 #[v] w λk w'=>∃a n c,k=dz (X a n c)/\Strs w' (X a n c) (l.map FY)/\bK w w':=by
 obtain⟨a,b,off,cap,rfl,H,P,g,K⟩:=h;have ac:l.length<=1365000:=by have:=avX (l:=l) (f:=λs:ByteArray=>s.size+1) (λy _=>by omega);unfold nJ at C;omega
 have G:J (∀y∈l,y.size<=1365000):=Y (λy d=>by have:=wW (f:=λs:ByteArray=>s.size+1) d;unfold nJ at C;omega);have aa:J (∀t∈l.map FY,t.size<=maxLen):=Y (λt ht=>by obtain⟨y,d,rfl⟩:=iZ.1 ht;have:=G y d;rw[axo];unfold maxLen;omega);obtain⟨F,E⟩:=bV K H;clear K H C g;obtain⟨len,B⟩:=aV l.length;have q:=Y B;rw[<-B]at P E ac F ⊢;clear B;go_enter func65,ntmps65;go_wp2;go_loopw[3,8] (λo i wr=>∃j:Nat,j<=len/\i=O j/\Own wr w.heap.size o ((l.take j).map FY)/\bK w wr) (λ_ i _=>len - (intOf i).toNat);exact⟨0,bN _,rfl,lJ _ _ _ _,bQ _ _⟩
 obtain⟨j,M,rfl,e,p⟩:=hrel;by_cases N:j<len
 ·obtain⟨y,d⟩:∃y,l[j]?=some y:=⟨_,aZ (by rw[<-q];exact N)⟩;have z:=F j N;rw[show l.getD j ByteArray.empty=y by rw[List.getD,d];rfl]at z;have Z:=Y<|map_take (f:=FY) d;have ah:=G y<|dG d;obtain rfl:=E bC;obtain⟨u0,ae⟩:=eY (aG z p)<|axo y;have af:(FY y).size<=maxLen:=by unfold maxLen;omega
  have ad:y.size<=maxLen:=by unfold maxLen;omega
  have U:J ((bS.brk [[⟨#[105,109,112,111,114,116]⟩,y]].flatten).size<=16777216):=Y (by rw[av6];show(FY y).size<=_;omega);have V:J (bS.brk [[⟨#[105,109,112,111,114,116]⟩,y]].flatten=FY y):=Y (by rw[av6];rfl);obtain⟨fT,W⟩:=bV p e;clear z d p e ae;go_wp2_with fail;refine(avR _ _ [[⟨#[105,109,112,111,114,116]⟩,y]] (awd cK<|awt rfl _ _ bM ad) U).mono ?_;rintro k w5 ⟨rfl,I⟩;rw[V];have u:=Z7<|Z7 I;have D:=Y<|up fT u;have R:J (Own w5 w.heap.size _ _):=Y<|fM W u;clear I u;generalize FY y=S at *;have ab:=D.size;have ag:((l.take j).map FY).length<=1365000:=by rw[dV,iA];omega
  go_wp2_with (first
   | (at_builtin;refine avT rfl _ _ rfl w.heap.size _ _ [S] rfl (fM R<|aH _ _) _ rfl (av8 rfl _ af) (by simp only[iI];omega) (by simp;omega) ?_;intro v' w2 Q L)
   | fail)
  obtain⟨R2,r⟩:=bV ((D.alloc ab<|aY #[A S] 9).grown L (by simp;omega) (λj M=>(R.lt j M).1)) Q;clear L Q;go_roundw;exact⟨j+1,by omega,by go_num,by rw[Z];exact r,R2⟩;exact gV
 ·have k:l.take j=l:=fQ (by have:=q.out;omega);rw[k]at e;have g:=e.strs aa (by rw[dV,<-q];exact P);obtain⟨a',c',rfl,_⟩:=g.shape;have r:=Y g;clear e g;generalize (l.map FY).length=nn at *;go_wp2;go_ret;exact⟨_,_,_,rfl,r,p⟩
theorem axA(w:bI)(v:aC)(l:List Va)(h:xG w v l)(B:VE l<=1365000):aD 66 #[v] w λk w'=>∃a n c,k=dz (X a n c)/\Strs w' (X a n c) (l.map vaX)/\bK w w':=by
 obtain⟨a,b,off,cap,rfl,H,N,K⟩:=h;have ad:l.length<=1365000:=by have:=avX (l:=l) (f:=λs:Va=>s.name.size+s.level.size+3) (λy _=>by omega);unfold VE at B;omega
 have E:J (∀y∈l,y.name.size+y.level.size<=1365000):=Y (λy d=>by have:=wW (f:=λs:Va=>s.name.size+s.level.size+3) d;unfold VE at B;omega);have aa:J (∀t∈l.map vaX,t.size<=maxLen):=Y (λt ht=>by obtain⟨y,d,rfl⟩:=iZ.1 ht;have:=E y d;rw[axT];unfold maxLen;omega);obtain⟨U,D⟩:=bV K H;clear K H B;obtain⟨len,u⟩:=aV l.length;have p:=Y u;rw[<-u]at N D ad ⊢;clear u;go_enter func66,ntmps66;go_wp2;go_loopw[3,8] (λo i wr=>∃j:Nat,j<=len/\i=O j/\Own wr w.heap.size o ((l.take j).map vaX)/\bK w wr) (λ_ i _=>len - (intOf i).toNat);exact⟨0,bN _,rfl,lJ _ _ _ _,bQ _ _⟩
 obtain⟨j,M,rfl,g,e⟩:=hrel;by_cases ac:j<len
 ·obtain⟨y,d⟩:∃y,l[j]?=some y:=⟨_,aZ (by rw[<-p];exact ac)⟩;obtain⟨k1,k2,F,G⟩:=U j y d;have Z:=Y<|map_take (f:=vaX) d;have ah:=E y<|dG d;obtain rfl:=D bC;obtain⟨u0,u1,ae⟩:=lS (aG F e) (aG G e)<|axT y;have af:(vaX y).size<=maxLen:=by unfold maxLen;omega
  have S:J ((bS.brk [[⟨#[118,97,114]⟩,y.name,y.level]].flatten).size<=16777216):=Y (by rw[av6];show(vaX y).size<=_;omega);have V:J (bS.brk [[⟨#[118,97,114]⟩,y.name,y.level]].flatten=vaX y):=Y (by rw[av6];rfl);obtain⟨fT,W⟩:=bV e g;clear F G d e g ae;go_wp2_with fail;refine(avR _ _ [[⟨#[118,97,114]⟩,y.name,y.level]] (awd cK<|awl cK _ _ _ bM k1 k2) S).mono ?_;rintro k w5 ⟨rfl,I⟩;rw[V];have r:=Z7<|Z7<|Z7 I;have C:=Y<|up fT r;have Q:J (Own w5 w.heap.size _ _):=Y<|fM W r;clear I r;generalize vaX y=R at *;have ab:=C.size;have ag:((l.take j).map vaX).length<=1365000:=by rw[dV,iA];omega
  go_wp2_with (first
   | (at_builtin;refine avT rfl _ _ rfl w.heap.size _ _ [R] rfl (fM Q<|aH _ _) _ rfl (av8 rfl _ af) (by simp only[iI];omega) (by simp;omega) ?_;intro v' w2 P L)
   | fail)
  obtain⟨R2,q⟩:=bV ((C.alloc ab<|aY #[A R] 9).grown L (by simp;omega) (λj M=>(Q.lt j M).1)) P;clear L P;go_roundw;exact⟨j+1,by omega,by go_num,by rw[Z];exact q,R2⟩;exact gV
 ·have k:l.take j=l:=fQ (by have:=p.out;omega);rw[k]at g;have z:=g.strs aa (by rw[dV,<-p];exact N);obtain⟨a',c',rfl,_⟩:=z.shape;have q:=Y z;clear g z;generalize (l.map vaX).length=nn at *;go_wp2;go_ret;exact⟨_,_,_,rfl,q,e⟩
namespace bS
def fuX(m:Nat)(f:Fu):ByteArray:=brk [[⟨#[102,117,110]⟩,f.name,brk f.params],Me m f.body,[zT m f.result]].flatten
end bS
theorem Ti(l:aJ)(acc:ByteArray):∀j,j<=l.length->GZ l acc j=acc++bS.jn (l.take j)
 | 0,_=>by apply iQ;rw[iN,lW];simp[GZ,Lib.join_nil]
 | j+1,g=>by
  obtain⟨y,a⟩:∃y,l[j]?=some y:=⟨_,aZ bC⟩;have b:l.take (j+1)=l.take j++[y]:=by have:=map_take (f:=id) a;simpa using this
  have d:l.getD j ByteArray.empty=y:=by rw[List.getD,a];rfl
  have e:(l.take j).length=j:=by rw[iA];omega
  rw[V9,Ti l acc j bC,b,d,YX,e];apply iQ;by_cases h:0<j;·rw[aK h,aK h];simp only[iN,iK]
  ·rw[aI h,aI h];simp only[iN,iK]
theorem ahN(h:l≠[]):Lib.joinTail [32] (l.map (·.data.toList))=32::(bS.jn l).data.toList:=by
 cases l with
 | nil=>exact aM rfl h
 | cons y l =>rw[lW,fZ,Lib.join_cons];simp[Lib.joinTail]
theorem tail_cons(x:List UInt8)(r:List (List UInt8)):Lib.joinTail [32] (x::r)=32::(x++Lib.joinTail [32] r):=by simp[Lib.joinTail]
theorem Y1(a:m≠0)(l:List St):bS.Me m l=[]↔l=[]:=by
 cases m with
 | zero=>exact aM rfl a
 | succ m=>simp[bS.Me]
theorem akD(hm:m≠0)(acc:ByteArray)(f:Fu):(fuT m acc f).data.toList=acc.data.toList++32::(fuX m f).data.toList:=by
 unfold fuT fuB fuP fuH fuX;rw[Ti _ _ _ (bG _),jQ,jk];by_cases h:0<f.body.length
 ·have hne:bS.Me m f.body≠[]:=by rw[ne_eq,Y1 hm];intro e;rw[e]at h;simp at h
  rw[aK h,Pt];have hfl:[[(⟨#[102,117,110]⟩:ByteArray),f.name,bS.brk f.params],bS.Me m f.body,[zT m f.result]].flatten=⟨#[102,117,110]⟩::f.name::bS.brk f.params::(bS.Me m f.body++[zT m f.result]):=by simp
  rw[hfl,fZ,Lib.join_cons,fZ,tail_cons,fZ,tail_cons,gX,rQ,ahN hne,fZ,tail_cons,jV,jk,lW];simp[lW,Lib.joinTail]
 ·have he:f.body=[]:=qp.1 bC;have hne:bS.Me m f.body=[]:=(Y1 hm _).2 he;rw[aI h,hne];simp[Lib.join_cons,Lib.joinTail,jk,lW]
theorem axU{p k a b d e:aC}(h:VZ w m p k a b d e f)(s:fuW m f<=1365000):(fuX m f).size<=16380000:=by
 have j:m≠0:=by rintro rfl;exact h.2.2.1
 obtain⟨r,g⟩:=eY (axP h.2.2.1 h.2.2.2 ⟨#[]⟩)<|congrArg List.length<|akD j ⟨#[]⟩ f;rw[bg,vN,iG,iG,iG]at g;have q:(⟨#[]⟩:ByteArray).size=0:=rfl;omega
theorem ay0(b:fuW m f<=1365000):(bS.brk f.params).size<=1365004:=by have a:=axn f.params ⟨#[]⟩ f.params.length<|bG _;rw[Ti _ _ _ (bG _),jQ,ZP]at a;have d:(⟨#[]⟩:ByteArray).size=0:=rfl;unfold fuW nJ at b;rw[awp];omega
theorem awR{N:Array Oper}{o:Oper}{a:Act}{K:Act->bI->Prop}{e:Exit->Act->bI->Prop}{E:Prop}(y:o.guard=none)(s x:Operand)(z:o.op=.call { callee:=.builtin .append,args:=#[s,x],argTypes:=#[22,22] })(d:Nat)(v:aC)(l:aJ)(F:a.eval s=v)(C:Own w d v l)(B:Nat)(t:ByteArray)(G:a.eval x=Tc B 1 1)(u:bJ w B 0=some (A t))(Q:l.length<=1365000)(r:d<=w.heap.size)(h:∀g cap w',Own w' d (Tc g (l.length+1) cap) (l++[t])->w.grownBy w' v.ownBlock->K (a.put o.dst<|Tc g (l.length+1) cap) w'):if Region.wanted o (yielded N a.tmps)=true then Oper.wp prog o a w K e else E:=by
 obtain⟨M,k,H,I,L⟩:=info_parts rF;have D:w.ownsRow d 9 1 v l.length (l.map Value.string):=C;refine step_append_lies w y s x 22 z d 9 M (A ⟨#[]⟩) 1 16 underlying22 k H I L rfl bM v l.length (l.map Value.string) F D (aN B 0) 1 1 [A t] G rfl (λj P b=>?_) (λP b=>?_) bM (by unfold maxLen;omega) bC r w.heap.size rfl ?_
 ·cases j with
  | zero =>simp at b;subst b;rw[Addr.add_lit];exact u
  | succ j=>simp at b
 ·simp at b;subst b;rfl
 ·intro g cap w' p q _ _;refine h g cap w' ?_ q;unfold Own;rw[bg,gX];exact p
theorem ay1(b:Own wr w.heap.size o l)(a:bK w Wc)(g:wr.heap.size<Wc.heap.size)(hg:Wc.grownBy w2 o.ownBlock):bK w w2/\∀k,bJ w2 wr.heap.size k=Wc.cell? (aN wr.heap.size k):=by refine⟨a.grown hg a.size (λj e=>(b.lt j e).1),λk=>hg.cell_far _ g (λd=>?_)⟩;have:=(b.lt wr.heap.size d.symm).2;omega
theorem ay2{d:bI}{e g h j c6:aC}(y:Own wr w.heap.size o l)(k:J (bK d Wc))(B:wr.heap.size<d.heap.size)(hg:Wc.grownBy w2 o.ownBlock)(u:∀a,J (bK d a)->J (bK w a)/\bJ a wr.heap.size 2=some e/\bJ a wr.heap.size 3=some g/\bJ a wr.heap.size (3+1)=some h/\bJ a wr.heap.size (3+2)=some j/\bJ a wr.heap.size (3+3)=some c6):J (bK w w2)/\bJ w2 wr.heap.size 2=some e/\bJ w2 wr.heap.size 3=some g/\bJ w2 wr.heap.size (3+1)=some h/\bJ w2 wr.heap.size (3+2)=some j/\bJ w2 wr.heap.size (3+3)=some c6:=by obtain⟨f1,p,q,r,s,t⟩:=u Wc k;obtain⟨z,b⟩:=ay1 y f1 (by have:=k.size;omega) hg;exact⟨Y z,by rw[b];exact p,by rw[b];exact q,by rw[b];exact r,by rw[b];exact s,by rw[b];exact t⟩
theorem ay3(w:bI)(t:ByteArray)(a:TypeId):(w.alloc<|.cells #[A t] a).cell? (aN w.heap.size 0)=some (A t):=by simp[go_sem]
theorem axB(m:Nat)(w:bI)(v:aC)(l:List Fu)(h:mE w m v l)(av:∀f∈l,bS.j6 m f.body=true/\bS.jo m f.result=true)(hw:BK m l<=1365000)(ht:Tab w):aD 67 #[v] w λe w'=>∃a n c,e=dz (X a n c)/\Strs w' (X a n c) (l.map<|fuX m)/\bK w w':=by
 obtain⟨a,b,off,cap,rfl,ha,hl,af⟩:=h;rw[ahv]at hw;have HW:J (∀y∈l,fuW m y<=1365000):=Y (λy E=>by have:=wW (f:=fuW m) E;omega);have bc:l.length<=1365000:=by have:=avX (l:=l) (f:=fuW m) (λy _=>by unfold fuW;omega);omega
 have a4:J (∀t∈l.map (fuX m),t.size<=maxLen):=Y (λt bi=>by obtain⟨y,E,rfl⟩:=iZ.1 bi;obtain⟨i,hi,rfl⟩:=gU.1 E;obtain⟨V,vp,vb,e0,e1,e2,e3,_,_,_,_,_,_,_,M,N,P⟩:=af i _<|aZ hi;have h1:VZ w m vp vb e0 e1 e2 e3 l[i]:=⟨V,M,N,P⟩;have h2:=axU h1<|HW _ E;unfold maxLen;omega);obtain⟨OH,j5,HA,HT⟩:=lD av af ha ht;clear af ha hw av ht;obtain⟨len,ag⟩:=aV l.length;have HL:=Y ag;rw[<-ag]at hl HA bc ⊢;clear ag;go_enter func67,ntmps67;go_wp2;go_loopw[3,9] (λo i wr=>∃j:Nat,j<=len/\i=O j/\Own wr w.heap.size o ((l.take j).map (fuX m))/\bK w wr) (λ_ i _=>len - (intOf i).toNat);exact⟨0,bN _,rfl,lJ _ _ _ _,bQ _ _⟩
 rename_i o0 _;obtain⟨j,hj,rfl,L,r⟩:=hrel;by_cases ba:j<len
 ·obtain⟨y,E⟩:∃y,l[j]?=some y:=⟨_,aZ (by rw[<-HL];exact ba)⟩;obtain⟨V,vp,vb,e0,e1,e2,e3,g0,g1,g2,g3,g4,g5,g6,M,N,P⟩:=j5 j y E;have G:=HW y<|dG E;obtain⟨bm,bo⟩:=OH y<|dG E;have a3:=Y<|map_take (f:=fuX m) E;obtain rfl:=HA bC;obtain⟨u0,u1⟩:=eY (aG g0 r)<|aG g1 r;have bv:=aG g2 r;have YH:=aG g3 r;obtain⟨u4,u5,u6⟩:=lS (aG g4 r) (aG g5 r)<|aG g6 r;have U:VZ wr m vp vb e0 e1 e2 e3 y:=⟨V,M.below r,N.below r,P.below r⟩;obtain⟨bk,bf⟩:=eY (axU U G)<|ay0 G;have bu:(fuX m y).size<=maxLen:=by unfold maxLen;omega
  have bh:(bS.brk y.params).size<=maxLen:=by unfold maxLen;omega
  have bj:(zT m y.result).size<=maxLen:=by have:=av5 U.2.2.2;unfold fuW at G;unfold maxLen;omega
  have w1:jF m y.result<=1365000:=by unfold fuW at G;omega
  have w2:fA m y.body<=1365000:=by unfold fuW at G;omega
  have aa:=Y U;obtain⟨p,q,rfl,rfl,rfl,rfl⟩:=P.shape;obtain⟨k,s,rfl,bs⟩:=N.shape;obtain⟨B,C,rfl,bb⟩:=M.shape;obtain⟨fT,ak,al⟩:=fE r L<|HT.below r;have a0:J (∀W v,awo W v [y.params]->aD 64 #[v] W λe w'=>e=dz (A<|bS.brk y.params)/\bK W w'):=λW v h=>by have:=avR W v [y.params] h (by rw[av6];omega);rw[av6]at this;exact this
  have ay:J (∀W v,awo W v [[⟨#[102,117,110]⟩,y.name,bS.brk y.params],bS.Me m y.body,[zT m y.result]]->aD 64 #[v] W λe w'=>e=dz (A<|fuX m y)/\bK W w'):=λW v h =>avR W v _ h (by show(fuX m y).size<=_;omega)
  have ax:J (∀W,J (bK wr W)->aD 87 #[X k y.body.length s] W λe w'=>∃a n c,e=dz (X a n c)/\Strs w' (X a n c) (bS.Me m y.body)/\bK W w'):=
   λW K=>awL m W _ y.body (aa.below K).2.2.1 bm w2<|al.below K
  have a5:J (∀W,J (bK wr W)->aD 88 #[.agg #[O y.result.kind,O y.result.n,A y.result.name,X p y.result.args.length q]] W λe w'=>e=dz (A<|zT m y.result)/\bK W w'):=
   λW K=>aww m W _ _ _ _ y.result (aa.below K).2.2.2 bo w1<|al.below K
  have xM:=Y<|aa.2.1;clear g0 g1 g2 g3 g4 g5 g6 P N M E r L U bk bf G;generalize y.result.args.length=le at *;generalize y.body.length=u at *;have br:y.params.length<=9223372036854775807:=bb;generalize y.params.length=D at *;have ai:=Y<|aH wr<|aY #[A y.name,X B D C,X k u s,O y.result.kind,O y.result.n,A y.result.name,X p le q] 82;obtain⟨q0,q1,q2,q3,q4,q5,q6⟩:=Ng (akn wr (A y.name) (X B D C) (X k u s) (O y.result.kind) (O y.result.n) (A y.result.name) (X p le q) 82) (ako wr (A y.name) (X B D C) (X k u s) (O y.result.kind) (O y.result.n) (A y.result.name) (X p le q) 82) (Qk wr (A y.name) (X B D C) (X k u s) (O y.result.kind) (O y.result.n) (A y.result.name) (X p le q) 82) (JQ wr (A y.name) (X B D C) (X k u s) (O y.result.kind) (O y.result.n) (A y.result.name) (X p le q) 82) (YJ wr (A y.name) (X B D C) (X k u s) (O y.result.kind) (O y.result.n) (A y.result.name) (X p le q) 82) (Mj wr (A y.name) (X B D C) (X k u s) (O y.result.kind) (O y.result.n) (A y.result.name) (X p le q) 82)<|UR wr (A y.name) (X B D C) (X k u s) (O y.result.kind) (O y.result.n) (A y.result.name) (X p le q) 82;have HZ:J (wr.heap.size<(wr.alloc<|aY #[A y.name,X B D C,X k u s,O y.result.kind,O y.result.n,A y.result.name,X p le q] 82).heap.size):=Y cK;go_wp2_with fail;generalize (wr.alloc<|aY #[A y.name,X B D C,X k u s,O y.result.kind,O y.result.n,A y.result.name,X p le q] 82)=W0 at *
  have HF:J (∀d,J (bK W0 d)->J (bK W0 d)/\bJ d wr.heap.size 0=some (A y.name)/\bJ d wr.heap.size 1=some (X B D C)):=
   λd h=>⟨h,aG q0 h,aG q1 h⟩
  have Aw:J (bK W0 W0):=Y<|bQ _ _;obtain⟨a7,I⟩:=bV (xM.below ai)<|And.intro q2<|And.intro q3<|And.intro q4<|And.intro q5 q6;clear q0 q1 q2 q3 q4 q5 q6
  go_region_held3 (λd=>J (bK W0 d)/\bJ d wr.heap.size 0=some (A y.name)/\bJ d wr.heap.size 1=some (X B D C))
   ((refine HF _ ?_;repeat(first|exact VY|exact Aw|apply avQ|apply avP)))
   (first
    | (go_at_call 64;refine(a0 _ _ ?_).mono ?_;(refine awd cK ?_;repeat(first|exact a7|apply Strs.awj));rintro e Q ⟨rfl,OD⟩;have VY:J (bK W0 Q):=Y (up (w:=W0) (gT<|by repeat(first|exact Aw|apply avQ|apply avP)) OD);clear OD))
  all_goals
   go_wp2_with fail;have az:=Y<|awl (w:=Q) rfl ⟨#[102,117,110]⟩ y.name (bS.brk y.params) bM V bh;have F:J (bK W0<|Q.alloc<|aY #[A ⟨#[102,117,110]⟩,A y.name,A<|bS.brk y.params] 9):=avP VY;generalize (Q.alloc<|aY #[A ⟨#[102,117,110]⟩,A y.name,A<|bS.brk y.params] 9)=z at *;generalize Q.heap.size=B1 at *;have R:J (bK wr z):=Y<|up ai F;have a6:J (wr.heap.size<z.heap.size):=Y (by have:=HZ.out;have:=F.size;omega);have aA:J (Own z w.heap.size _ _):=Y<|fM ak R
   have ab:J (∀d,J (bK z d)->J (bK w d)/\bJ d wr.heap.size 2=some (X k u s)/\bJ d wr.heap.size 3=some (O y.result.kind)/\
    bJ d wr.heap.size (3+1)=some (O y.result.n)/\bJ d wr.heap.size (3+2)=some (A y.result.name)/\bJ d wr.heap.size (3+3)=some (X p le q)):=
    λd h=>⟨Y<|up fT<|up R h,aG (aG I.1 F) h,aG (aG I.2.1 F) h,aG (aG I.2.2.1 F) h,aG (aG I.2.2.2.1 F) h,aG (aG I.2.2.2.2 F) h⟩
   have Z:J (bK z z):=Y<|bQ _ _;have be:((l.take j).map (fuX m)).length<=1365000:=by rw[dV,iA];omega
   go_region_held3 (λd=>J (bK w d)/\bJ d wr.heap.size 2=some (X k u s)/\bJ d wr.heap.size 3=some (O y.result.kind)/\
    bJ d wr.heap.size (3+1)=some (O y.result.n)/\bJ d wr.heap.size (3+2)=some (A y.result.name)/\bJ d wr.heap.size (3+3)=some (X p le q))
    (first|exact VX|(refine ab _ ?_;repeat(first|exact S|exact ad|exact Qg|exact Z|apply avQ|apply avP)))
    (first
     | (go_at_call 87;refine(ax _<|Y<|up R<|gT<|by repeat(first|exact Z|apply avQ)).mono ?_;rintro e aw ⟨x1,n1,c1,rfl,ap,SN⟩;have Qg:J (bK z aw):=Y (up (w:=z) (gT<|by repeat(first|exact Z|apply avQ)) SN);have a9:=Y ap;clear SN ap)
     | (go_at_call 88;refine(a5 _<|Y<|up R<|gT<|by repeat(first|exact Qg|apply avQ)).mono ?_;rintro e ah ⟨rfl,ac⟩;have ad:J (bK z ah):=Y (up (w:=z) (gT<|by repeat(first|exact Qg|apply avQ)) ac);have am:=Y<|a9.below<|show bK aw ah from ac;clear ac)
     | (go_at_call 64;have hg:=am;clear hg;refine(ay _ _ ?_).mono ?_;(refine azw cK ?_ ?_ ?_<;>repeat(first|exact am|exact(az.below ad)|exact av8 (w:=ah) cK _ bj|apply Strs.awj|apply Strs.awT));rintro e bp ⟨rfl,ao⟩;have S:J (bK z bp):=Y (up (w:=z) (gT<|by repeat(first|exact ad|apply avQ|apply avP)) ao);clear ao)
     | (refine awR dH _ _ dH w.heap.size _ _ dH (fM aA<|gT<|by repeat(first|exact S|apply avQ|apply avP)) _ (fuX m y) dH (ay3 _ _ _) be (by have:=(ab _ S).1.out.size;simp;omega) ?_;intro g bq H aq ar;have a8:=Y aq;have VX:J (J (bK w H)/\bJ H wr.heap.size 2=some (X k u s)/\bJ H wr.heap.size 3=some (O y.result.kind)/\bJ H wr.heap.size (3+1)=some (O y.result.n)/\bJ H wr.heap.size (3+2)=some (A y.result.name)/\bJ H wr.heap.size (3+3)=some (X p le q)):=Y (ay2 ak (by repeat(first|exact S|apply avQ|apply avP)) a6 ar ab);clear aq ar))
   all_goals
    go_wp2;go_roundw;exact⟨j+1,by omega,by go_num,by rw[a3];have au:=a8.out;rw[dV,iA]at au;exact au,VX.1.out⟩;exact gV
 ·have e:l.take j=l:=fQ (by have:=HL.out;omega);rw[e]at L;have hs:=L.strs a4 (by rw[dV,<-HL];exact hl);obtain⟨a',c',rfl,_⟩:=hs.shape;have aE:=Y hs;clear L hs;generalize (l.map<|fuX m).length=nn at *;go_wp2;go_ret;exact⟨_,_,_,rfl,aE,r⟩
open Go.Maps
theorem Wx{x y:aS}(h:Rn.pos nm x y=some i):i<nm.length:=jE.1<|Gw h
theorem jM{x y:aS}{o:Rn.Own}(h:Rn.sh nm x o y=some i):i<nm.length:=by
 unfold Rn.sh at h;split at h;·cases h
 ·exact Wx h
namespace bS
end bS
