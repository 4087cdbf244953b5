/- Walks over package flow: isScheme. -/
import Derived.Test.YtfnboapebijcpaaGreatDoorMZAQ
import Derived.Deep.CutRange
import Derived.Test.YtfnboapebijcpaaGreatDoorMZAW
set_option maxHeartbeats 16000000
set_option maxRecDepth 100000
namespace Go.Proofs.YtfnboapebijcpaaGreatDoor
open Fl bC aI Rn Sv
open Go.Proofs.Tryz
open Go.RowKit Go.Maps Go.WideMaps
namespace Fl
def lG(N:Nat)(a:Int):Bool:=decide (0<=a)&&decide (a<N)
def Zq(N:Nat)(y:Sc):Bool:=y.bounds.all (lG N)&&(yg N y.mask y.level&&lG N y.pc&&!(aI.zD y.dF ⟨#[]⟩))
end Fl
theorem Mc(w:World)(va:Option Addr)(vl:Value)(N cap:Nat)(v:Value)(y:Sc)(h:xw w v y):Calls prog 255 #[.agg #[.slice va N cap,vl],v] w λe w'=>e=.returned (.bool (Zq N y))/\Below w.heap.size w w':=by
 obtain⟨vb,ve,rfl,hB,hE⟩:=h;obtain⟨ab,bb,ob,cb,rfl,ha0,hl63,hel⟩:=hB;have HE:=hide hE;obtain⟨ae,be,oe,ce,rfl,-⟩:=hE;obtain⟨nb,hnb⟩:=aG y.bounds.length;obtain⟨ne,hne⟩:=aG y.dF.length;rw[<-hnb]at ha0 hl63 ⊢;rw[<-hne]at HE ⊢;have nR:=hide hnb;have gF:=hide hel;have uF:=hide ha0;obtain⟨W,hW,k0,k1,hsz,hBW⟩:=yN w (.cells #[.slice va N cap,vl] 34) (.cells #[.string y.fn,.int .i64 y.mask,.int .i64 y.level,.slice ab nb cb,.int .i64 y.pc,.slice ae ne ce] 170);have gB:=hide k0;have iC:=hide k1;have eO:=hide hBW;have y3:=(aj k1 3).trans rfl;clear ha0 hel hnb hne hBW hsz k0 k1;subst hW;go_enter func255,ntmps255;go_wp2_with fail;generalize (w.alloc (.cells #[.slice va N cap,vl] 34)).alloc (.cells #[.string y.fn,.int .i64 y.mask,.int .i64 y.level,.slice ab nb cb,.int .i64 y.pc,.slice ae ne ce] 170)=W at *;clear y3;go_loopw[10] (λi wr=>∃j:Nat,j<=nb/\i=.int .i64 j/\(y.bounds.take j).all (lG N)=true/\Below W.heap.size W wr) (λi _=>nb - (intOf i).toNat);case atStart=>exact⟨0,bJ _,rfl,rfl,aX _ _⟩
 case round=>
  obtain⟨j,hj,rfl,hall,hbr⟩:=hrel;have cO:=hide hall;have rU:=hide hbr;have K0:=aN gB hbr;have K1:=aN iC hbr;have x0:=(aj K0 0).trans rfl;have x1:=(aj K0 1).trans rfl;by_cases hjl:j<nb
  ·obtain⟨z,hz⟩:∃z,y.bounds[j]?=some z:=⟨_,aU (by rw[<-nR];omega)⟩;obtain rfl:=uF (by omega);have g:=aA (gF j z hz) (up eO hbr);have HZ:=hide hz;have HC:=hide (vF wr va vl N cap z);clear hall hbr hz K0 K1;cases hlv:lG N z
   ·have HV:Hid (Zq N y=false):=hide (by
     have:y.bounds.all (lG N)=false:=by
      cases hh:y.bounds.all (lG N)with
      | false=>rfl
      | true=>rw[iO.1 hh z (gD HZ)]at hlv;cases hlv
     rw[Zq,this,ng])
    rw[show(decide (0<=z)&&decide (z<N))=false from hlv]at HC;clear hlv;go_wp2_with fail;refine HC.mono ?_;rintro e w2 ⟨rfl,hb2⟩;have HB2:=hide hb2;clear hb2;go_wp2_with fail;go_ret;exact⟨aH HV.symm,up eO (up rU HB2)⟩
   ·have HN:Hid ((y.bounds.take (j+1)).all (lG N)=true):=hide (by rw[iY,HZ,sj,sU,cO,gV,CW,hlv];rfl);rw[show(decide (0<=z)&&decide (z<N))=true from hlv]at HC;clear hlv;go_wp2_with fail;refine HC.mono ?_;rintro e w2 ⟨rfl,hb2⟩;have HB2:=hide hb2;clear hb2;go_wp2_with fail;go_roundw;case rel=>exact⟨j+1,by omega,by go_num,HN,up rU HB2⟩
    case measure=>simp[intOf];omega
  ·obtain rfl:j=nb:=by omega
   have HV:Hid (Zq N y=(yg N y.mask y.level&&lG N y.pc&&!(aI.zD y.dF ⟨#[]⟩))):=hide (by
    have:y.bounds.all (lG N)=true:=by have:=cO.out;rwa[eP (by rw[<-nR];omega)]at this
    rw[Zq,this,gV])
   have y1:=(aj K1 1).trans rfl;have y2:=(aj K1 2).trans rfl;have HC:=hide (Om wr va vl N cap y.mask y.level);have Ay:=hide (λwx=>vF wx va vl N cap y.pc);have mE:=hide (λwx (hx:Below w.heap.size w wx)=>dh wx _ y.dF ⟨#[]⟩ (HE.below hx));have HK0r:=hide K0;have HK1r:=hide K1;have Fx:=hide (up eO hbr);clear hall hbr K0 K1 cO gF uF;cases hla:yg N y.mask y.level;·rw[hla]at HC HV;rw[ng,ng]at HV;clear hla;go_wp2_with fail;refine HC.mono ?_;rintro e w2 ⟨rfl,hb2⟩;have HB2:=hide hb2;clear hb2 x0 x1 y1 y2;go_wp2_with fail;go_ret;exact⟨aH HV.symm,up Fx HB2⟩
   ·rw[hla]at HC HV;rw[gV]at HV;clear hla;go_wp2_with fail;refine HC.mono ?_;rintro e w2 ⟨rfl,hb2⟩;have K0:=aN HK0r hb2;have K1:=aN HK1r hb2;have HB2:=hide (up Fx hb2);clear hb2 x0 x1 y1 y2;have x0:=(aj K0 0).trans rfl;have x1:=(aj K0 1).trans rfl;have y4:=(aj K1 4).trans rfl;have Qj:=hide (Ay w2);have O8:=hide K1;clear K0 K1;cases hle:lG N y.pc;·rw[hle,ng]at HV;rw[show(decide (0<=y.pc)&&decide (y.pc<N))=false from hle]at Qj;clear hle;go_wp2_with fail;refine Qj.mono ?_;rintro e w3 ⟨rfl,hb3⟩;have HB3:=hide (up HB2 hb3);clear hb3;go_wp2_with fail;go_ret;exact⟨aH HV.symm,HB3⟩
    ·rw[hle,gV]at HV;rw[show(decide (0<=y.pc)&&decide (y.pc<N))=true from hle]at Qj;clear hle;go_wp2_with fail;refine Qj.mono ?_;rintro e w3 ⟨rfl,hb3⟩;have HB3:=hide (up HB2 hb3);have K1:=aN O8 hb3;have y5:=(aj K1 5).trans rfl;have HC3:=hide (mE w3 HB3);clear hb3 K1 x0 x1 y4;go_wp2_with fail;refine HC3.mono ?_;rintro e w4 ⟨rfl,rfl⟩;go_wp2_with fail;go_ret;exact⟨aH HV.symm,HB3⟩
namespace aI
theorem rG{α:Type}{f g:α->Nat}:∀{l:List α},(∀x∈l,f x<=g x)->(l.map f).sum<=(l.map g).sum
 | [],_=>bM _
 | x::l,h=>by have h0:=h x (by simp);have h1:=rG (l:=l) (λy hy=>h y (by simp[hy]));simp only[dN,jE];omega
theorem dZ{α β:Type}{f:α->List β}{g:α->Nat}{l:List α}(h:∀x∈l,(f x).length<=g x):(l.flatMap f).length<=(l.map g).sum:=by rw[List.length_flatMap];exact rG h
theorem CX:∀(m:Nat) (x:Ex),(calls m x).length<=eu m x
 | 0,_=>bM _
 | m+1,x=>by
  have h:=dZ (f:=calls m) (g:=eu m) (l:=x.args) (λy _=>CX m y);simp only[calls,eu,aP];have h2:(if x.kind=4 then [x]else []).length<=1:=by split<;>simp
  omega
theorem yX:∀(m:Nat) (x:Ex),(dL m x).length<=eu m x
 | 0,_=>bM _
 | m+1,x=>by
  have h:=dZ (f:=dL m) (g:=eu m) (l:=x.args) (λy _=>yX m y);simp only[dL,eu,aP];have h2:(if x.kind=4 then [x]else []).length<=1:=by split<;>simp
  omega
theorem AQ{α β:Type}(f:α->List β)(g:β->Nat):∀(l:List α),((l.flatMap f).map g).sum=(l.map λs=>((f s).map g).sum).sum
 | []=>rfl
 | s::l=>by simp only[yG,cZ,nT,dN,jE,AQ f g l]
theorem EY{w:World}(M:Nat):∀{m:Nat} {v:Value} {l:List St},dW w m v l->m<=M->((all m l).map λs=>1+eu M s.e).sum<=bK m l
 | 0,_,_,h,_=>False.elim h
 | m+1,v,l,h,hk=>by
  obtain⟨a,b,off,cap,_,_,_,h9⟩:=h;have each:∀s∈l,((within (all m) s).map λs=>1+eu M s.e).sum<=s.name.size+3+eu m s.e+bK m s.a+bK m s.b:=λs hs=>by obtain⟨i,hi,rfl⟩:=eX.1 hs;obtain⟨_,_,e0,e1,e2,e3,va,vb,_,_,_,_,_,_,_,_,hx,ha,hb⟩:=h9 i _ (aU hi);have k1:=EY M ha (by omega);have k2:=EY M hb (by omega);have k3:=pI hx M (by omega);unfold within;simp only[cZ,dN,iK,nT,jE,List.sum_nil];omega
  have hs:=rG each;have e:((all (m+1) l).map λs=>1+eu M s.e).sum=(l.map λs=>((within (all m) s).map λs=>1+eu M s.e).sum).sum:=AQ _ _ _;rw[e];simp only[bK];omega
theorem AR{α:Type}{f:α->Nat}:∀(l:List α),(∀x,1<=f x)->l.length<=(l.map f).sum
 | [],_=>bM _
 | x::l,h=>by have h0:=h x;have h1:=AR l h;simp only[dN,jE,xJ];omega
theorem all_len{w:World}{m:Nat}{v:Value}{l:List St}(h:dW w m v l):(all m l).length<=bK m l:=
 bS (AR _ (λx=>by omega)) (EY m h (bM _))
theorem AU{w:World}{m:Nat}{v:Value}{l:List St}{β:Type}{f:St->List β}(h:dW w m v l)(hf:∀s,(f s).length<=1+eu m s.e):((all m l).flatMap f).length<=bK m l:=
 bS (dZ λs _=>hf s) (EY m h (bM _))
theorem Ht{α β:Type}{f:α->List β}{l:List α}(h:∀x,(f x).length<=1):(l.flatMap f).length<=l.length:=by
 induction l with
 | nil=>exact bM _
 | cons x l ih =>have:=h x;simp only[yG,aP,xJ];omega
theorem O9{α:Type}{l:List α}{f:Nat->α->List Dg}{g:α->Nat}(h:∀i x,l[i]?=some x->(f i x).length<=g x):(upto (DU l f) l.length).length<=(l.map g).sum:=by
 have key:∀n,n<=l.length->(upto (DU l f) n).length<=((l.take n).map g).sum:=by
  intro n;induction n with
  | zero=>intro _;simp[mF]
  | succ n ih =>intro hn;have h0:=ih (by omega);have h1:=h n _ (aU (show n<l.length by omega));rw[bT,aP,gI (aU (show n<l.length by omega)),iY,aU (show n<l.length by omega)];simp only[cZ,nT,sj,dN,iK,jE,List.sum_nil];omega
 have:=key l.length (bM _);rwa[gG]at this
theorem CY{α:Type}{l:List α}{f:Nat->α->List Dg}(c:Nat)(h:∀i x,l[i]?=some x->(f i x).length<=c)(n:Nat):(upto (DU l f) n).length<=n*c:=by
 induction n with
 | zero=>simp[mF]
 | succ n ih=>
  rw[bT,aP,Nat.succ_mul];have:(DU l f n).length<=c:=by
   unfold DU;split;·rename_i x hx;exact h n x hx
   ·simp
  omega
theorem AV(fn:ByteArray)(l:List ByteArray):(ru fn l).length<=l.length:=by have:=CY (l:=l) (f:=λi s=>if zD (l.take i) s=true then [(⟨2,fn,s⟩:Dg)]else []) 1 (λi x _=>by split<;>simp) l.length;unfold ru;omega
theorem rC_len(x:Mo)(known:List Mo)(k:Nat)(fn:ByteArray)(y:Ex):(rC x known k fn y).length<=1:=by rw[YT];unfold iN;split<;>simp
theorem oN(x:Mo)(known:List Mo)(k:Nat)(fn:ByteArray)(y:Ex):(iN x known k fn y).length<=1:=by unfold iN;split<;>simp
theorem pR(l:List ByteArray):l.length<=gY l:=by have:=AR (f:=λs:ByteArray=>s.size+1) l (λx=>by omega);unfold gY;omega
theorem Md(l:List Va):l.length<=BX l:=by have:=AR (f:=λs:Va=>s.name.size+s.level.size+3) l (λx=>by omega);unfold BX;omega
theorem AX(m:Nat)(l:List Fu):l.length<=p8 m l:=by have:=AR (f:=λs:Fu=>s.name.size+2+gY s.params+bK m s.body+eu m s.result) l (λx=>by omega);unfold p8;omega
theorem fu_le{m:Nat}{f:Fu}:∀{l:List Fu},f∈l->bK m f.body+eu m f.result+gY f.params<=p8 m l
 | g::l,h=>by
  rcases eY.1 h with rfl|h;·unfold p8;simp only[dN,jE];omega
  ·have:=fu_le (m:=m) h;unfold p8 at this ⊢;simp only[dN,jE];omega
theorem AY{w:World}{m:Nat}{v:Value}{l:List Fu}(h:mP w m v l){f:Fu}(hf:f∈l):∃vb,dW w m vb f.body:=by obtain⟨a,b,off,cap,_,_,_,h9⟩:=h;obtain⟨i,hi,rfl⟩:=eX.1 hf;obtain⟨_,vp,vb,e0,e1,e2,e3,_,_,_,_,_,_,_,_,hb,_⟩:=h9 i _ (aU hi);exact⟨vb,hb⟩
theorem RU{w:World}{m:Nat}{vb:Value}{f:Fu}(h:dW w m vb f.body):(jN m f).length<=bK m f.body+eu m f.result:=by have h1:=AU (f:=λs=>dL m s.e) h (λs=>by have:=yX m s.e;omega);have h2:=yX m f.result;unfold jN;rw[aP];omega
theorem Hu{w:World}{m:Nat}{vb:Value}{f:Fu}(h:dW w m vb f.body):(calls m f.result++(all m f.body).flatMap λs=>calls m s.e).length<=bK m f.body+eu m f.result:=by have h1:=AU (f:=λs=>calls m s.e) h (λs=>by have:=CX m s.e;omega);have h2:=CX m f.result;rw[aP];omega
theorem Uz{w:World}{m:Nat}{v:Value}{x:Mo}(names:List ByteArray)(known:List Mo)(h:jK w m v x)(hw:uM m x<=1048576):(BJ names x known m).length<=16777216:=by
 obtain⟨vi,vv,vf,rfl,_,hI,hV,hF⟩:=h;have a1:=pR x.imports;have a2:=Md x.vars;have a3:=AX m x.aR;have b1:(imD x known).length<=x.imports.length*1:=CY 1 (λi s _=>by split<;>simp) _;have b2:=AV ⟨#[]⟩ x.imports;have b3:=AV ⟨#[]⟩ (x.vars.map (·.name));have b4:=AV ⟨#[]⟩ (x.aR.map (·.name));rw[cB]at b3 b4;have b5:(x.aR.flatMap λf=>ru f.name f.params).length<=p8 m x.aR:=by refine bS (dZ (g:=λs:Fu=>s.name.size+2+gY s.params+bK m s.body+eu m s.result) (λf _=>?_)) (bP _);have:=AV f.name f.params;have:=pR f.params;omega
 have b6:(x.vars.flatMap λv=>kX names ⟨#[]⟩ v.level).length<=x.vars.length:=Ht λv=>KW _ _ _;have b7:(x.aR.flatMap λf=>(all m f.body).flatMap (lC names f.name)).length<=p8 m x.aR:=by refine bS (dZ (g:=λs:Fu=>s.name.size+2+gY s.params+bK m s.body+eu m s.result) (λf hf=>?_)) (bP _);obtain⟨vb,hb⟩:=AY hF hf;have:=AU (f:=lC names f.name) hb (λs=>by have:=Oh names f.name s;omega);omega
 have b8:(clD x known m).length<=p8 m x.aR:=by refine bS (O9 (g:=λs:Fu=>s.name.size+2+gY s.params+bK m s.body+eu m s.result) (λk f hf=>?_)) (bP _);obtain⟨vb,hb⟩:=AY hF (gD hf);have h1:=RU hb;have h2:((jN m f).flatMap (iN x known k f.name)).length<=(jN m f).length:=Ht λy=>oN _ _ _ _ _;omega
 unfold uM at hw;unfold BJ twD lvD;simp only[qx,vO,aP,bX];omega
theorem rL_len{w:World}{m:Nat}{v:Value}{x:Mo}(names:List ByteArray)(known:List Mo)(h:jK w m v x)(hw:uM m x<=1048576)(hE:qA m x=0):(YU x known).length+(rVs names x).length+(rFs names x known m).length<16777216:=by
 have hL:x.imports.length<=8/\x.vars.length<=8/\x.aR.length<=8:=by
  unfold qA at hE;by_cases h8:8<x.imports.length\/8<x.vars.length\/8<x.aR.length;·rw[if_pos h8]at hE;cases hE
  ·omega
 obtain⟨vi,vv,vf,rfl,_,hI,hV,hF⟩:=h;have b1:(YU x known).length<=x.imports.length*2:=CY 2 (λi s _=>by
  unfold rI;rw[aP];have h1:(if (!(known.any λy=>aZ y.name s)||aZ s x.name)=true then [(⟨1,⟨#[]⟩,s⟩:Dg)]else []).length<=1:=by split<;>simp
  have h2:(if zD (x.imports.take i) s=true then [(⟨2,⟨#[]⟩,s⟩:Dg)]else []).length<=1:=by split<;>simp
  omega) _
 have b2:(rVs names x).length<=x.vars.length*9:=CY 9 (λi v hv=>by unfold rV;rw[aP];have h1:=KW names ⟨#[]⟩ v.level;have h2:=CY (l:=x.vars) (f:=λ_ u=>if aZ u.name v.name=true then [(⟨2,⟨#[]⟩,v.name⟩:Dg)]else []) 1 (λi u _=>by split<;>simp) i;have h3:=(dG.1 hv).1;omega) _;have b3:(rFs names x known m).length<=(x.aR.map λs:Fu=>8+2*(s.name.size+2+gY s.params+bK m s.body+eu m s.result)).sum:=O9 (λk f hf=>by obtain⟨vb,hb⟩:=AY hF (gD hf);have h1:=CY (l:=x.aR) (f:=λ_ g=>if aZ g.name f.name=true then [(⟨2,⟨#[]⟩,f.name⟩:Dg)]else []) 1 (λi u _=>by split<;>simp) k;have h2:=(dG.1 hf).1;have h3:=AV f.name f.params;have h4:=pR f.params;have h5:=AU (f:=lC names f.name) hb (λs=>by have:=Oh names f.name s;omega);have h6:=Hu hb;have h7:(rF9 x known m k f).length<=(calls m f.result++(all m f.body).flatMap λs=>calls m s.e).length:=Ht λy=>rC_len _ _ _ _ _;simp only[aP,rF6,rF8]at h6 h7 ⊢;omega);have b4:∀l:List Fu,(l.map λs:Fu=>8+2*(s.name.size+2+gY s.params+bK m s.body+eu m s.result)).sum<=8*l.length+2*p8 m l:=by
  intro l;induction l with
  | nil=>simp
  | cons f l ih=>unfold p8 at ih ⊢;simp only[dN,jE,xJ]at ih ⊢;omega
 have b5:=b4 x.aR;unfold uM at hw;omega
theorem rC_all{w:World}{m:Nat}{v:Value}{x:Mo}(h:jK w m v x)(hw:uM m x<=1048576):∀f∈x.aR,(all m f.body).length<=16777216/\(calls m f.result++(all m f.body).flatMap λs=>calls m s.e).length<=16777216:=λf hf=>by obtain⟨vi,vv,vf,rfl,_,hI,hV,hF⟩:=h;obtain⟨vb,hb⟩:=AY hF hf;have h1:=all_len hb;have h2:=Hu hb;have h3:=fu_le (m:=m) hf;unfold uM at hw;omega
end aI
open Go.Shelf
theorem Hw(w:World)(g len cap:Nat)(l:List ByteArray)(h:lF w g l)(hlen:len=l.length)(hl:l.length<=4398046511104):Calls prog 89 #[.slice (some ⟨g,0,none⟩) len cap] w λe w'=>e=.returned (.tuple #[])/\lF w' g (jY l)/\But g w w':=by
 subst hlen;have h0:=h;obtain⟨cur,hc,hsz,hel⟩:=h;have hcon:=Any.slices_Sort_string Tryz.lSoS g 0 cap (l.map (·.data.toList)) w h0.holds (block_lt hc) (by simp;omega);rw[cB]at hcon;refine Calls.mono (show Calls prog 89 #[.slice (some ⟨g,0,none⟩) l.length cap] w _ from hcon) ?_;rintro e w' ⟨he,k,os,rfl⟩;refine⟨he,h0.Rf (by rw[Lc,cB]),rfl,rfl,rfl,?_,λj hj hp=>?_⟩;·simp[Sort.grow,Sort.putRow,Sort.mapBlock,Sort.ahead]
 ·have hg:=block_lt hc;simp only[Sort.grow,Sort.putRow,Sort.mapBlock,Sort.ahead];rw[JI (by simp;omega)];simp[Fv];intro e';exact absurd e'.symm hp
theorem IZ(w:World)(g len cap:Nat)(l:List ByteArray)(h:lF w g l)(hlen:len=l.length)(hcap:len<=cap)(hl:len<=4398046511104):Calls prog 175 #[.slice (some ⟨g,0,none⟩) len cap] w λe w'=>∃c',e=.returned (.slice (some ⟨g,0,none⟩) (gK l).length c')/\lF w' g (gK l)/\But g w w':=by
 have HL:=hide hlen;have HR:=hide h;clear hlen h;by_cases h2:len<2
 ·have HE:Hid (gK l=l):=hide (by
   have hl':=HL.out;match l,hl' with
   | [],_=>rfl
   | [x],_=>rfl
   | x::y::r,h=>simp at h;omega)
  go_enter func175,ntmps175;go_wp2_with fail;go_ret;exact⟨_,by rw[HE,<-HL];rfl,by rw[HE];exact HR,But.refl _ _⟩
 ·go_enter func175,ntmps175;go_wp2_with fail;go_loopw[3] (λi wr=>∃j:Nat,j+1<=len/\i=.int .i64 ((j:Int)+1)/\(∀(q:Nat) x y,q<j->l[q]?=some y->l[q+1]?=some x->aI.aZ x y=false)/\lF wr g l/\But g w wr) (λi _=>len - (intOf i).toNat);case atStart=>exact⟨0,by omega,rfl,λq x y hq=>absurd hq (dY _),HR,But.refl _ _⟩
  case round=>
   obtain⟨j,hj,rfl,hall,hrow,hnx⟩:=hrel;have cO:=hide hall;have xq:=hide hrow;have bR:=hide hnx;clear hall hnx;by_cases hjl:j+1<len
   ·obtain⟨y,hy⟩:∃y,l[j]?=some y:=⟨_,aU (by rw[<-HL];omega)⟩;obtain⟨x,hx⟩:∃y,l[j+1]?=some y:=⟨_,aU (by rw[<-HL];omega)⟩;have p0:=hrow.cell hx;have k0:=hrow.cell hy;have HX:=hide hx;have HY:=hide hy;have hlt:decide ((j:Int)+1<(len:Int))=true:=by simp;omega
    clear hx hy hrow;cases hsm:aI.aZ x y
    ·have heq:(x.toList==y.toList)=false:=hsm;have XO:=hide hsm;clear hsm;go_wp2_with fail;go_quiet (fail);go_wp2_with fail;go_roundw;case rel=>exact⟨j+1,by omega,by go_num,λq a b hq h1 h2=>by
      by_cases e:q=j;·subst e;rw[HY]at h1;rw[HX]at h2;cases h1;cases h2;exact XO
      ·exact cO q a b (by omega) h1 h2,xq.drew,bR.drew _⟩
     case measure=>simp[intOf];omega
    ·have heq:(x.toList==y.toList)=true:=hsm;have TP:Hid (gK (l.take (j+1+1))=l.take (j+1)):=hide (by
      rw[CB HY HX,hsm,if_pos rfl];have hll:(l.take (j+1)).length=j+1:=by rw[d9];have:=HL.out;omega
      have h1:=JL (l:=l.take (j+1)) (λq a b h1 h2=>by have hq:=(dG.1 h2).1;rw[hll]at hq;rw[qD (by omega)]at h1 h2;exact cO q a b (by omega) h1 h2) (j+1) (by omega);rwa[yj,Nat.min_self]at h1)
     clear hsm;go_wp2_with fail;go_quiet (fail);have HR1:=hide (xq.drew (n:=nq));have uO:=hide (bR.drew nq);clear p0 k0 heq;generalize wr.drewN nq=W1 at *;go_wp2_with fail;go_loopw[3,5] (λa b wx=>∃c t:Nat,a=.int .i64 c/\b=.int .i64 ((t:Int)+1)/\j+1+(t+1)<=len/\c=(gK (l.take (j+1+(t+1)))).length/\c<=j+1+t/\lF wx g (gK (l.take (j+1+(t+1)))++l.drop c)/\But g w wx) (λ_ b _=>len - (intOf b).toNat);case atStart=>exact⟨j+1,0,by go_num,rfl,by omega,by
      rw[show j+1+(0+1)=j+1+1 from rfl,TP,d9];have:=HL.out;omega,bM _,by
      rw[show j+1+(0+1)=j+1+1 from rfl,TP,kW];exact HR1,uO⟩
     case round=>
      obtain⟨c,t,rfl,rfl,htl,hcc,hct,hrow,hnx⟩:=hrel;have mE:=hide hcc;have kD:=hide hrow;have lD:=hide hnx;by_cases hend:j+1+(t+1)<len
      ·obtain⟨y',hy⟩:∃y,l[j+1+t]?=some y:=⟨_,aU (by rw[<-HL];omega)⟩;obtain⟨x',hx⟩:∃y,l[j+1+(t+1)]?=some y:=⟨_,aU (by rw[<-HL];omega)⟩;obtain⟨z',hz⟩:∃y,l[c]?=some y:=⟨_,aU (by rw[<-HL];omega)⟩;have p0:=hrow.cell (i:=j+1+(t+1)) (d:=x') (by rw[Ld hcc (by omega)];exact hx);have k0:=hrow.cell (i:=j+1+t) (d:=y') (by rw[Ld hcc (by omega)];exact hy);have m0:=hrow.cell (i:=c) (d:=z') (by rw[Ld hcc (by omega)];exact hz);obtain⟨cur,hcur,-,-⟩:=hrow;have f0:=aD hcur c;have pF:Hid (gK (l.take (j+1+(t+1)+1))=if aI.aZ x' y' then gK (l.take (j+1+(t+1)))else gK (l.take (j+1+(t+1)))++[x']):=hide (CB (j:=j+1+t) hy hx);have hlt2:decide ((t:Int)+1<((len - (j+1):Nat):Int))=true:=by simp;omega
       clear hx hy hz hcur hcc hnx;cases rQ:aI.aZ x' y'
       ·have heq:(x'.toList==y'.toList)=false:=rQ;rw[rQ,if_neg (by simp)]at pF;clear rQ;go_wp2_with fail;go_quiet (fail);have HR2:Hid (lF (wr.drewN nq) g _):=hide (kD.drew (n:=nq));have Am:=hide (lD.drew nq);replace p0:(wr.drewN nq).cell? _=_:=p0;replace m0:(wr.drewN nq).cell? _=_:=m0;replace f0:(wr.drewN nq).frozen? _=_:=f0;clear k0 heq kD lD;generalize wr.drewN nq=W2 at *;go_wp2_with fail;go_roundw;case rel=>exact⟨c+1,t+1,by go_num,by go_num,by omega,by
         rw[show j+1+(t+1+1)=j+1+(t+1)+1 by omega,pF,aP,<-mE];rfl,by omega,by
         rw[show j+1+(t+1+1)=j+1+(t+1)+1 by omega,pF,<-YB mE (by rw[<-HL];omega)];exact HR2.set (by rw[aP,qz,<-mE,<-HL];omega) x',Am.set (Or.inl rfl) _⟩
        case measure=>simp[intOf];omega
       ·have heq:(x'.toList==y'.toList)=true:=rQ;rw[rQ,if_pos rfl]at pF;clear rQ;go_wp2_with fail;go_quiet (fail);have HR2:Hid (lF (wr.drewN nq) g _):=hide (kD.drew (n:=nq));have Am:=hide (lD.drew nq);clear p0 m0 f0 k0 heq kD lD;generalize wr.drewN nq=W2 at *;go_wp2_with fail;go_roundw;case rel=>exact⟨c,t+1,rfl,by go_num,by omega,by
         rw[show j+1+(t+1+1)=j+1+(t+1)+1 by omega,pF];exact mE,by omega,by
         rw[show j+1+(t+1+1)=j+1+(t+1)+1 by omega,pF];exact HR2,Am⟩
        case measure=>simp[intOf];omega
      ·have Q9:Hid (l.take (j+1+(t+1))=l):=hide (eP (by rw[<-HL];omega));rw[Q9]at kD mE hrow;have hrow':=hrow;obtain⟨cur,hcur,hsz,-⟩:=hrow;rw[aP,qz,<-mE,<-HL]at hsz;have hcl:=λty=>Q7 (c:=cap - c) hcur (show 0<len - c by omega) (show c+(len - c)<=cur.size by omega) ty;have D6:=hide (λzs m=>lF.clear (zs:=zs) (k:=c) hrow' hcur (by rw[aP,<-mE];omega) m);have hlt2:decide ((t:Int)+1<((len - (j+1):Nat):Int))=false:=by simp;omega
       have OD:Hid ((gK l++l.drop c).take c=gK l):=hide (by rw[mE,List.take_left]);rw[OD]at D6;generalize (Builtin.zeroCells (Value.string ⟨#[]⟩).cells (len - c)).toList=zs at *;have Am:=hide (But.row (cs:=(cur.toList.take (c)++zs++cur.toList.drop (c+zs.length)).toArray) hnx);have HR2:=hide (D6 zs (c+zs.length));generalize wr.setRow g (cur.toList.take (c)++zs++cur.toList.drop (c+zs.length)).toArray=W2 at *;clear hrow' hcur hcc hnx D6;go_wp2_with fail;go_ret;exact⟨_,by rw[<-mE];rfl,HR2,Am⟩
   ·have HE:Hid (gK l=l):=hide (by have h1:=JL (l:=l) (λq a b h1 h2=>cO q a b (by have:=(dG.1 h2).1;have:=HL.out;omega) h1 h2) l.length (bM _);rwa[gG]at h1);have hlt:decide ((j:Int)+1<(len:Int))=false:=by simp;omega
    clear hrow;go_wp2_with fail;go_ret;exact⟨_,by rw[HE,<-HL];rfl,by rw[HE];exact xq,bR⟩
open Go.ChangeShapes Go.WideShapes Go.ChangeAt Go.Deep Go.Joins
section
variable {H : Type} {enc : TypeId × Value → H} {W : World}
theorem cellsSc:prog.cellsOf 170=6:=by kernel_rfl
theorem Zr:prog.cellsOf 66=1:=by kernel_rfl
theorem list6o{α:Type}{l:List α}(h:l.length=6):∃a b c d e f,l=[a,b,c,d,e,f]:=by
 match l,h with
 | [a,b,c,d,e,f],_=>exact⟨a,b,c,d,e,f,rfl⟩
theorem list5o{α:Type}{l:List α}(h:l.length=5):∃a b c d e,l=[a,b,c,d,e]:=by
 match l,h with
 | [a,b,c,d,e],_=>exact⟨a,b,c,d,e,rfl⟩
def Me(l:List Sc):Nat:=(l.map λy=>y.dF.length).sum
def Pd(l:List (List Sc)):Nat:=(l.map Me).sum
theorem Pe{l:List Sc}{y:Sc}(h:y∈l):y.dF.length<=Me l:=by
 unfold Me;induction l with
 | nil=>cases h
 | cons a l ih=>
  simp only[dN,jE];rcases eY.1 h with rfl|h;·omega
  ·have:=ih h;omega
theorem VW{l:List (List Sc)}{y:List Sc}(h:y∈l):Me y<=Pd l:=by
 unfold Pd;induction l with
 | nil=>cases h
 | cons a l ih=>
  simp only[dN,jE];rcases eY.1 h with rfl|h;·omega
  ·have:=ih h;omega
theorem Pf{fuel:Nat}{v:Value}{y:DataW H × List MemPlace}(h:DataW.trod enc prog W 0 (λ_=>true) true fuel 66 [v]=some y):∃l,uq W v l/\Me l<=Rows.uptoBulk y.1:=by
 obtain⟨a,b,off,len,cap,D,hv,ha,hl,hD,xM,hel⟩:=iH underlying66 cellsSc (by decide) h;have each:∀i,i<len->∃s:Sc,∃d',D[i]?=some d'/\s.dF.length<=Rows.uptoBulk d'/\∃vb ve,W.cell? ⟨b,off+i*6,none⟩=some (.string s.fn)/\W.cell? ⟨b,off+i*6+1,none⟩=some (.int .i64 s.mask)/\W.cell? ⟨b,off+i*6+2,none⟩=some (.int .i64 s.level)/\W.cell? ⟨b,off+i*6+3,none⟩=some vb/\W.cell? ⟨b,off+i*6+4,none⟩=some (.int .i64 s.pc)/\W.cell? ⟨b,off+i*6+5,none⟩=some ve/\Ints W vb s.bounds/\Strs W ve s.dF:=by intro i hi;obtain⟨n0,cs,d',pl',hn',hlen',hcell,lJ,NK⟩:=hel i hi;obtain⟨xs,n,hfn,hx,hlen,hxs,hf⟩:=vI underlying170 lJ;obtain⟨c0,c1,c2,c3,c4,c5,rfl⟩:=list6o hlen';obtain⟨y0,y1,y2,y3,y4,rfl⟩:=list5o (by simpa using hxs);have f0:DataW.trod enc prog W 0 (λ_=>true) true n 9 (([c0,c1,c2,c3,c4,c5].drop 0).take (prog.cellsOf 9))=some y0:=hf 0 _ rfl;rw[mW]at f0;simp only[List.drop,List.take]at f0;have f1:DataW.trod enc prog W 0 (λ_=>true) true n 72 (([c0,c1,c2,c3,c4,c5].drop 1).take (prog.cellsOf 72))=some y1:=hf 1 _ rfl;rw[cellsLb]at f1;simp only[List.drop,List.take]at f1;have f2:DataW.trod enc prog W 0 (λ_=>true) true n 47 (([c0,c1,c2,c3,c4,c5].drop 3).take (prog.cellsOf 47))=some y2:=hf 2 _ rfl;rw[cellsIs]at f2;simp only[List.drop,List.take]at f2;have f3:DataW.trod enc prog W 0 (λ_=>true) true n 3 (([c0,c1,c2,c3,c4,c5].drop 4).take (prog.cellsOf 3))=some y3:=hf 3 _ rfl;rw[pJ]at f3;simp only[List.drop,List.take]at f3;have f4:DataW.trod enc prog W 0 (λ_=>true) true n 22 (([c0,c1,c2,c3,c4,c5].drop 5).take (prog.cellsOf 22))=some y4:=hf 4 _ rfl;rw[wL]at f4;simp only[List.drop,List.take]at f4;obtain⟨s0,e0,rfl,hs0⟩:=tq underlying9 f0;obtain⟨la,lb,rfl,rfl⟩:=Yy f1;obtain⟨bs,hbs⟩:=open_ints f2;obtain⟨k3,e3,-,-⟩:=yt underlying3 f3;obtain⟨es,hes,hwe⟩:=tu f4;simp at e0 e3;subst e0 e3;simp only[qO]at hx;obtain⟨rfl,_⟩:=hx;refine⟨⟨s0,la,lb,bs,k3,es⟩,_,NK,?_,_,_,hcell 0 (by decide),hcell 1 (by decide),hcell 2 (by decide),hcell 3 (by decide),hcell 4 (by decide),hcell 5 (by decide),hbs,hes⟩;have h1:=pR es;simp only[dN,iK,Rows.uptoBulk,Rows.uptoBulkAll];omega
 obtain⟨l,hll,hp⟩:=gW len each;refine⟨l,⟨a,b,off,cap,by rw[hv,<-hll],by rw[hll];exact ha,by rw[hll];exact hl,λi s hs=>?_⟩,?_⟩;·obtain⟨_,_,_,hh⟩:=hp i s hs;exact hh
 ·have hsum:=vH (f:=λs:Sc=>s.dF.length) (l:=l) (D:=D) (by rw[hll,hD]) (λi x d' h1 h2=>by obtain⟨d'',h3,h4,_⟩:=hp i x h1;rw[h2]at h3;cases h3;exact h4);unfold Me;omega
theorem RV{fuel:Nat}{v:Value}{y:DataW H × List MemPlace}(h:DataW.trod enc prog W 0 (λ_=>true) true fuel 65 [v]=some y):∃l,vT W v l/\Pd l<=Rows.uptoBulk y.1:=by
 obtain⟨a,b,off,len,cap,D,hv,ha,hl,hD,xM,hel⟩:=iH underlying65 Zr (by decide) h;have each:∀i,i<len->∃s:List Sc,∃d',D[i]?=some d'/\Me s<=Rows.uptoBulk d'/\∃u,W.cell? ⟨b,off+i,none⟩=some u/\uq W u s:=by
  intro i hi;obtain⟨n0,cs,d',pl',hn',hlen',hcell,lJ,NK⟩:=hel i hi;obtain⟨c0,rfl⟩:∃c0,cs=[c0]:=by
   match cs,hlen' with
   | [c0],_=>exact⟨c0,rfl⟩
  obtain⟨l,hl',hw⟩:=Pf lJ;have h0:=hcell 0 (by decide);rw[Nat.mul_one,tN]at h0;exact⟨l,d',NK,hw,c0,h0,hl'⟩
 obtain⟨l,hll,hp⟩:=gW len each;refine⟨l,⟨a,b,off,cap,by rw[hv,<-hll],by rw[hll];exact ha,by rw[hll];exact hl,λi s hs=>?_⟩,?_⟩;·obtain⟨_,_,_,hh⟩:=hp i s hs;exact hh
 ·have hsum:=vH (f:=Me) (l:=l) (D:=D) (by rw[hll,hD]) (λi x d' h1 h2=>by obtain⟨d'',h3,h4,_⟩:=hp i x h1;rw[h2]at h3;cases h3;exact h4);unfold Pd;omega
theorem VX{b0:Nat}{v:Value}{d:DataW H}{p:List MemPlace}(hv:Value.okWide prog W .any b0 66 v)(h:DataW.Trod enc prog W 0 (λ_=>true) true 66 v d p):∃l,uq W v l/\Me l<=Rows.uptoBulk d:=by obtain⟨a0,l0,c0,rfl⟩:=okWide_slice underlying66 hv;obtain⟨fuel,hf⟩:=h;exact Pf (y:=(d,p)) hf
theorem RX{b0:Nat}{v:Value}{d:DataW H}{p:List MemPlace}(hv:Value.okWide prog W .any b0 65 v)(h:DataW.Trod enc prog W 0 (λ_=>true) true 65 v d p):∃l,vT W v l/\Pd l<=Rows.uptoBulk d:=by obtain⟨a0,l0,c0,rfl⟩:=okWide_slice underlying65 hv;obtain⟨fuel,hf⟩:=h;exact RV (y:=(d,p)) hf
end
end Go.Proofs.YtfnboapebijcpaaGreatDoor
