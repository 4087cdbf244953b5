/- How lists of modules that came in are opened -/
import Derived.Test.YtfnboapebijcpaaGreatDoorMZAS
import Derived.Maps.AppendAt
set_option maxHeartbeats 16000000
set_option maxRecDepth 100000
namespace Go.Proofs.YtfnboapebijcpaaGreatDoor
open bC aI Rn
open Go.Proofs.Tryz
open Go.ChangeShapes Go.WideShapes Go.ChangeAt Go.RowKit Go.Deep Go.Joins
section
variable {H : Type} {enc : TypeId × Value → H} {W : World}
theorem GY{t e fuel:Nat}{v:Value}{y:DataW H × List MemPlace}(ht:prog.underlying t=some (.slice e))(h:DataW.trod enc prog W 0 (λ_=>true) true fuel t [v]=some y):DW v:=by
 rcases DataW.trod_slice ht h with⟨hcs,rfl⟩|⟨a,len,cap,elems,rest,n,hfuel,hcs,rfl,_,hl,hm,hlen,hel,_,_⟩;·simp at hcs;subst hcs;intro a n c e;injection e with _ e1 e2;omega
 ·simp at hcs;subst hcs;intro a n c e;injection e with _ e1 e2;omega
theorem OZ{fuel:Nat}{v:Value}{y:DataW H × List MemPlace}(h:DataW.trod enc prog W 0 (λ_=>true) true fuel 24 [v]=some y):∀b off n c,v=.slice (some ⟨b,off,none⟩) n c->∀i,i<n->∃vp,W.cell? ⟨b,off+i*7+1,none⟩=some vp/\DW vp:=by obtain⟨a,b,off,len,cap,D,hv,ha,hl,hD,xM,hel⟩:=iH underlying24 Tz (by decide) h;intro b' off' n' c' e i hi;rw[hv]at e;injection e with e0 e1 e2;subst e1;have h1:=ha (by omega);rw[e0]at h1;injection h1 with h1;injection h1 with h1 h2;subst h1 h2;obtain⟨n0,cs,d',pl',hn',hlen',hcell,lJ,NK⟩:=hel i hi;obtain⟨xs,n,hfn,hx,hlen,hxs,hf⟩:=vI underlying132 lJ;obtain⟨c0,c1,c2,c3,c4,c5,c6,rfl⟩:=list7 hlen';obtain⟨y0,y1,y2,y3,rfl⟩:=Jp (by simpa using hxs);have f1:DataW.trod enc prog W 0 (λ_=>true) true n 22 (([c0,c1,c2,c3,c4,c5,c6].drop 1).take (prog.cellsOf 22))=some y1:=hf 1 _ rfl;rw[wL]at f1;simp only[List.drop,List.take]at f1;exact⟨c1,hcell 1 (by decide),GY underlying22 f1⟩
theorem RA{b0:Nat}{v:Value}{d:DataW H}{p:List MemPlace}(hv:Value.okWide prog W .any b0 26 v)(h:DataW.Trod enc prog W 0 (λ_=>true) true 26 v d p):∃m x vi vv vf,v=.agg #[.string x.name,vi,vv,vf]/\jK W m v x/\uM m x<=Rows.uptoBulk d/\DX W vi vf:=by obtain⟨m,x,hM,hW⟩:=open_mo hv h;obtain⟨c0,c1,c2,c3,y0,y1,y2,y3,m',rfl,rfl,_,f0,f1,f2,f3⟩:=open_agg4 underlying26 (by kernel_rfl) KF hv h;have hM':=hM;obtain⟨vi,vv,vf,e,_⟩:=hM';simp at e;obtain⟨rfl,rfl,rfl,rfl⟩:=e;exact⟨m,x,_,_,_,rfl,hM,hW,GY underlying22 f1,GY underlying24 f3,OZ f3⟩
end
theorem LG(m:Nat)(w:World)(vi vv vf vk:Value)(x:Mo)(known:List Mo)(k:Nat)(call:ByteArray)(h:jK w m (.agg #[.string x.name,vi,vv,vf]) x)(hK:kV w m vk known)(hC:DW vf)(hk:k<=x.aR.length)(hc:call.size<=maxLen)(IG:x.imports.length<=1048576):Calls prog 17 #[.agg #[.string x.name,vi,vv,vf],.int .i64 k,.string call,vk] w λe w'=>e=.returned (.tuple #[.int .i64 (fO x k call known).1,.int .i64 (fO x k call known).2.1,.bool (fO x k call known).2.2])/\Below w.heap.size w w':=by have HM:=hide h;have HK:=hide hK;have uH:=hide (λwx (hb:Below w.heap.size w wx)=>zW m wx _ _ _ _ x known (h.below hb) (hK.below hb) IG);have HST:=hide (λwx (hb:Below w.heap.size w wx) va (hI:Ints wx va (x.imports.map λs=>oI (jk known s)))=>DN m wx x known vi vv vf vk va k call ⟨h.below hb,hK.below hb,hI,hC⟩ hk hc);have dH:=λi v hv=>boxD w #[.string x.name,vi,vv,vf] 26 i v hv;have r0:=dH 0 _ rfl;have r1:=dH 1 _ rfl;have r2:=dH 2 _ rfl;have r3:=dH 3 _ rfl;have HB0:=hide (aB w (.cells #[.string x.name,vi,vv,vf] 26));obtain⟨R,hR⟩:=aG (fO x k call known);rw[<-hR]at HST ⊢;obtain⟨hI,hV,hF⟩:=h.split;obtain⟨ai,bi,oi,ci,rfl,-⟩:=hI;obtain⟨av,bv,ov,cv,rfl,-⟩:=hV;obtain⟨af,bf,of,cf,rfl,-⟩:=hF;obtain⟨ak,bk,ok,ck,rfl,-⟩:=hK;generalize x.imports.length=ni at *;generalize x.vars.length=nv at *;generalize x.aR.length=nf at *;generalize known.length=nk at *;clear h hC dH hR;go_enter func17,ntmps17;go_wp2_with fail;refine(uH _ HB0).mono ?_;rintro e w1 ⟨va,rfl,hints,hb1⟩;have Yf:=hide hints;have HB1:=hide (up HB0 hb1);clear r0 r1 r2 r3 hb1 hints;go_wp2_with fail;refine(HST _ HB1 _ Yf).mono ?_;rintro e w2 ⟨rfl,hb2⟩;have HB2:=hide (up HB1 hb2);clear hb2;go_wp2_with fail;go_ret3;exact⟨rfl,HB2⟩
namespace Rn
structure Rel(nm:List (ByteArray × ByteArray))(ρ:TR->TR->Prop):Prop where
 refl:∀s,ρ s s
 trans:∀{s t u},ρ s t->ρ t u->ρ s u
 gt:∀m o n s,ρ s (Rn.gt nm m o n s).2
 pt:∀m o n x s,ρ s (Rn.pt nm m o n x s).2
 burn:∀s s1,burn s=some s1->ρ s s1
 pr:∀s d,ρ s { s with pr:=s.pr++[d] }
section
variable {nm : List (ByteArray × ByteArray)} {ρ : TR → TR → Prop} (U : Rel nm ρ)
include U
end
end Rn
theorem Y8:(prog.info? 3).map (λi=>(i.zero,i.size,i.bytes))=some (some (.int .i64 0),1,8):=by kernel_rfl
def IntsR(w:World)(v:Value)(xs:List Nat):Prop:=
 ∃(a:Option Addr) (g cap:Nat),v=.slice a xs.length cap/\(0<xs.length->a=some ⟨g,0,none⟩)/\∀j,j<xs.length->w.cell? ⟨g,j,none⟩=some (.int .i64 (xs.getD j 0:Nat))
def Y9(c:Nat):Value:=.int .i64 c
theorem ints_of{w:World}{base:Nat}{v:Value}{xs:List Nat}(h:w.ownsRow base 3 1 v xs.length (xs.map Y9)):IntsR w v xs:=by
 obtain⟨h1,h2⟩:=h;rcases h2 with⟨rfl,h0⟩|⟨g,cap,cur,rfl,hg,hh,hn,hc,hs,ht⟩;·have:xs=[]:=List.eq_nil_of_length_eq_zero h0;subst this;exact⟨none,0,0,rfl,λh=>absurd h (Nat.lt_irrefl _),λj hj=>absurd hj (Nat.not_lt_zero _)⟩
 ·refine⟨_,g,cap,rfl,λ_=>rfl,λj hj=>?_⟩;have hown:w.ownsRow base 3 1 (.slice (some ⟨g,0,none⟩) xs.length cap) xs.length (xs.map Y9):=⟨h1,Or.inr ⟨g,cap,cur,rfl,hg,hh,hn,hc,hs,ht⟩⟩;rw[hown.cellAt j (by omega)];simp[List.getElem?_map,List.getElem?_eq_getElem hj,Y9,List.getD]
namespace bC
def upTo(Z:Nat->Nat->Bool)(a b k:Nat):List Nat:=(List.range k).filter λc=>Z a c&&Z b c
theorem Za{Z:Nat->Nat->Bool}{a b k:Nat}(h1:Z a k=true)(h2:Z b k=true):upTo Z a b (k+1)=upTo Z a b k++[k]:=by unfold upTo;rw[rA,LH];simp[h1,h2]
theorem Zb{Z:Nat->Nat->Bool}{a b k:Nat}(h1:Z a k=false):upTo Z a b (k+1)=upTo Z a b k:=by unfold upTo;rw[rA,LH];simp[h1]
theorem Zc{Z:Nat->Nat->Bool}{a b k:Nat}(h2:Z b k=false):upTo Z a b (k+1)=upTo Z a b k:=by unfold upTo;rw[rA,LH];simp[h2]
theorem Ur(Z:Nat->Nat->Bool)(a b k:Nat):(upTo Z a b k).length<=k:=by unfold upTo;have:=List.length_filter_le (λc=>Z a c&&Z b c) (List.range k);simpa using this
end bC
theorem VI(w:World)(ad:Option Addr)(vl:Value)(n cap a b:Nat)(Z:Nat->Nat->Bool)(hG:mO w vl n Z)(hn:n<=6)(ha:a<n)(hb:b<n):Calls prog 204 #[.agg #[.slice ad n cap,vl],.int .i64 a,.int .i64 b] w λe w'=>∃v,e=.returned v/\IntsR w' v (bC.upTo Z a b n)/\Below w.heap.size w w':=by
 obtain⟨gb,go,gc,RB,RO,C,rfl,h1,h2⟩:=hG.below (aB w (.cells #[.slice ad n cap,vl] 34));obtain⟨i0,hi,hz0,hz1,hz2⟩:=info_parts Y8;have q0:=zJ w (.slice ad n cap) (.slice (some ⟨gb,go,none⟩) n gc) 34;have q1:=mQ w (.slice ad n cap) (.slice (some ⟨gb,go,none⟩) n gc) 34;have HB0:=hide (aB w (.cells #[.slice ad n cap,.slice (some ⟨gb,go,none⟩) n gc] 34));go_enter func204,ntmps204;go_wp2;generalize w.alloc (.cells #[.slice ad n cap,.slice (some ⟨gb,go,none⟩) n gc] 34)=W0 at *;go_loopw[7,8] (λv i wr=>∃k:Nat,k<=n/\i=.int .i64 k/\wr.ownsRow W0.heap.size 3 1 v (bC.upTo Z a b k).length ((bC.upTo Z a b k).map Y9)/\Below W0.heap.size W0 wr) (λ_ i _=>n - (intOf i).toNat);case atStart=>exact⟨0,bJ _,rfl,nP _ _ _ _,aX _ _⟩
 case round=>
  obtain⟨k,hk,rfl,hrow,hnx⟩:=hrel;have p0:=aA q0 hnx;by_cases hlt:k<n
  ·have p1:=aA q1 hnx;have ra:=aA (h1 a ha) hnx;have rb:=aA (h1 b hb) hnx;have ca:=aA (h2 a k ha hlt) hnx;have cb:=aA (h2 b k hb hlt) hnx;have hle:=Ur Z a b k;cases za:Z a k
   ·rw[za]at ca;have HZ:=hide (Zb (b:=b) za);clear za;go_wp2;go_roundw;case rel=>exact⟨k+1,by omega,by go_num,by rw[HZ];exact hrow,hnx⟩
    case measure=>simp[intOf];omega
   ·rw[za]at ca;cases zb:Z b k
    ·rw[zb]at cb;have HZ:=hide (Zc (a:=a) zb);clear za zb;go_wp2;go_roundw;case rel=>exact⟨k+1,by omega,by go_num,by rw[HZ];exact hrow,hnx⟩
     case measure=>simp[intOf];omega
    ·rw[zb]at cb;have HZ:=hide (Za za zb);clear za zb
     go_wp2_with (first
      | (at_builtin;refine wpList_append_own _ rfl _ _ 47 rfl W0.heap.size 3 i0 (.int .i64 0) 1 8 underlying47 hi hz0 hz1 hz2 rfl (by decide) _ _ _ rfl (hrow.alloc _) ⟨wr.heap.size,0,none⟩ 1 1 [.int .i64 k] rfl rfl (cell_one_new _ _ _) (ints_oneCell .i64 [(k:Int)]) (by unfold maxLen;omega) (by omega) (by have:=hnx.size;simp;omega) ?_;intro v' w2 hown' hgrow2 O0)
      | go_in)
     have hs2:=hnx.size;have R2:=(hnx.alloc hnx.size (.cells #[.int .i64 k] 3)).grown hgrow2 (by simp;omega) (λj hj=>(hrow.lt j hj).1);clear O0 hgrow2 ra rb ca cb p0 p1;go_roundw;case rel=>exact⟨k+1,by omega,by go_num,by rw[HZ];simpa[Y9]using hown',R2⟩
     case measure=>simp[intOf];omega
  ·go_wp2;go_ret;have e:k=n:=by omega
   subst e;exact⟨_,rfl,ints_of hrow,HB0.trans (hnx.mono HB0.size)⟩
namespace bC
def nX(Z:Nat->Nat->Bool)(n a b:Nat):Int:=match kT Z n a b with|some c=>c|none=>-1
theorem Zd(Z:Nat->Nat->Bool)(n a b c:Nat):Fj Z n a b c=(upTo Z a b n).all (Z c):=by unfold Fj upTo;rw[List.all_filter];congr 1;funext d;cases Z a d<;>cases Z b d<;>simp
theorem O1(Z:Nat->Nat->Bool)(n a b:Nat):kT Z n a b=(upTo Z a b n).find? (λc=>(upTo Z a b n).all (Z c)):=by
 unfold kT;conv=>rhs;unfold upTo
 rw[List.find?_filter];congr 1;funext c;unfold uT;rw[Zd,upTo,rD];simp only[eB,decide_eq_true_eq]
theorem VJ(Z:Nat->Nat->Bool)(n a b i:Nat)(hi:i<(upTo Z a b n).length)(h0:∀j,j<i->(upTo Z a b n).all (Z ((upTo Z a b n).getD j 0))=false)(h1:(upTo Z a b n).all (Z ((upTo Z a b n).getD i 0))=true):nX Z n a b=((upTo Z a b n).getD i 0:Nat):=by
 have e:kT Z n a b=some ((upTo Z a b n).getD i 0):=by rw[O1,List.find?_eq_some_iff_getElem];refine⟨h1,i,hi,by simp[List.getD,aU hi],λj hj=>?_⟩;have:=h0 j hj;simp only[List.getD,aU (Nat.lt_trans hj hi),kr]at this;simp[this]
 unfold nX;rw[e]
theorem RD{Z:Nat->Nat->Bool}{n a b:Nat}(h0:∀j,j<(upTo Z a b n).length->(upTo Z a b n).all (Z ((upTo Z a b n).getD j 0))=false):nX Z n a b=-1:=by
 have e:kT Z n a b=none:=by rw[O1,xH];intro x hx;obtain⟨j,hj,rfl⟩:=eX.1 hx;have:=h0 j hj;simp only[List.getD,aU hj,kr]at this;simp[this]
 unfold nX;rw[e]
theorem upTo_lt{Z:Nat->Nat->Bool}{n a b j:Nat}(hj:j<(upTo Z a b n).length):(upTo Z a b n).getD j 0<n:=by
 have:(upTo Z a b n).getD j 0∈upTo Z a b n:=by simp only[List.getD,aU hj,kr];exact fI hj
 unfold upTo at this;exact j6.1 (List.mem_filter.1 this).1
theorem Ze{U:List Nat}{p:Nat->Bool}{k:Nat}(hk:k<U.length):(U.take (k+1)).all p=((U.take k).all p&&p (U.getD k 0)):=by rw[lI hk,sU];simp[List.getD,aU hk]
end bC
theorem wU(w:World)(ad:Option Addr)(vl:Value)(n cap a b:Nat)(Z:Nat->Nat->Bool)(hG:mO w vl n Z)(hn:n<=6)(ha:a<n)(hb:b<n):Calls prog 121 #[.agg #[.slice ad n cap,vl],.int .i64 a,.int .i64 b] w λe w'=>e=.returned (.int .i64 (nX Z n a b))/\Below w.heap.size w w':=by
 have HG:=hide (hG.below (aB w (.cells #[.slice ad n cap,vl] 34)));go_enter func121,ntmps121;go_wp2_with fail;refine(VI _ ad vl n cap a b Z HG hn ha hb).mono ?_;rintro e W0 ⟨vu,rfl,hI,hb0⟩;have q1:=aA (mQ w (.slice ad n cap) vl 34) hb0;have HB0:=hide (Qc hb0);obtain⟨gb,go,gc,RB,RO,C,hvl,h1,h2⟩:=HG.below hb0;rw[hvl]at q1;obtain⟨ua,g,uc,hvu,hu0,hu1⟩:=hI;rw[hvu];clear hb0 hG HG hvl hvu;have HX:∀j,j<(bC.upTo Z a b n).length->(bC.upTo Z a b n).getD j 0<n:=λj hj=>upTo_lt hj;have hJ0:=hide (VJ Z n a b);have hJ1:=hide (@RD Z n a b);have hm6:=Ur Z a b n;generalize bC.upTo Z a b n=U at *;obtain⟨m,hm⟩:=aG U.length;have HM:=hide hm;rw[<-hm]at hu0 hu1 HX hm6 ⊢;clear hm;go_wp2;go_loopw[8] (λi wr=>∃k:Nat,k<=m/\i=.int .i64 k/\(∀j,j<k->U.all (Z (U.getD j 0))=false)/\Below W0.heap.size W0 wr) (λi _=>m - (intOf i).toNat);case atStart=>exact⟨0,bJ _,rfl,λd hd=>absurd hd (dY _),aX _ _⟩
 case round=>
  obtain⟨k,hk,rfl,hall,hnx⟩:=hrel;have HA:=hide hall;clear hall;by_cases hlt:k<m
  ·obtain rfl:=hu0 (by omega);obtain⟨c,hc⟩:=aG (U.getD k 0);have hcn:c<n:=by rw[hc];exact HX k hlt
   have HC:=hide hc;have u1:=hu1 k hlt;rw[<-hc]at u1;clear hc;have bR:=hide hnx;clear hnx;go_wp2;go_loopw[9,10] (λs i wi=>∃k2:Nat,k2<=m/\i=.int .i64 k2/\s=.bool ((U.take k2).all (Z c))/\Below W0.heap.size W0 wi) (λ_ i _=>m - (intOf i).toNat);case atStart=>exact⟨0,bJ _,rfl,rfl,bR⟩
   case round=>
    obtain⟨k2,hk2,rfl,rfl,hnx⟩:=hrel;by_cases hlt2:k2<m
    ·obtain⟨d,hd⟩:=aG (U.getD k2 0);have hdn:d<n:=by rw[hd];exact HX k2 hlt2
     have HS:Hid ((U.take (k2+1)).all (Z c)=((U.take k2).all (Z c)&&Z c d)):=by rw[hd];exact Ze (by rw[<-HM];exact hlt2)
     have t1:=aA q1 hnx;have t2:=aA u1 hnx;have t3:=aA (hu1 k2 hlt2) hnx;rw[<-hd]at t3;have t4:=aA (h1 c hcn) hnx;have t5:=aA (h2 c d hcn hdn) hnx;have b1:(0:Int)<=(c:Int):=by omega
     have b2:(c:Int)<(n:Int):=by omega
     have b3:(0:Int)<=(d:Int):=by omega
     have b4:(d:Int)<(n:Int):=by omega
     have b5:(0:Int)<=(k:Int):=by omega
     have b6:(k:Int)<(m:Int):=by omega
     have b7:(0:Int)<=(k2:Int):=by omega
     have b8:(k2:Int)<(m:Int):=by omega
     clear hd h1 h2 hu1 u1 q1 HX;generalize hL:(U.take k2).all (Z c)=le at *;clear hL;cases le;all_goals
      go_wp2_with fail;go_quiet (fail);go_wp2;go_roundw;case rel=>exact⟨k2+1,by omega,by go_num,jL (by rw[HS];simp),hnx.trans ⟨rfl,rfl,rfl,bM _,λ_ _=>rfl⟩⟩
      case measure=>simp[intOf];omega
    ·have e2:k2=U.length:=by have:=HM.out;omega
     have t1:=aA u1 hnx;have e3:(U.take k2).all (Z c)=U.all (Z (U.getD k 0)):=by rw[e2,gG,HC]
     rw[e3];cases hle:U.all (Z (U.getD k 0))
     ·have kK:=hide hle;go_wp2;go_roundw;case rel=>exact⟨k+1,by omega,by go_num,λj hj=>by
       by_cases e:j=k;·subst e;exact kK
       ·exact HA j (by omega),hnx⟩
      case measure=>simp[intOf];omega
     ·have kK:=hide hle;go_wp2;go_ret;exact⟨bA (by rw[hJ0 k (by rw[<-HM];exact hlt) HA kK,<-HC]),up HB0 hnx⟩
  ·go_wp2;go_ret;exact⟨bA (by rw[hJ1 (λj hj=>HA j (by have:=HM.out;omega))]),up HB0 hnx⟩
section
variable {w w' : World} {base e size n : Nat} {v : Value} {xs : List Value}
theorem GZ(h:w.ownsRow base e size v n xs)(hb:Below w.heap.size w w'):w'.ownsRow base e size v n xs:=by
 obtain⟨h1,h2⟩:=h;refine⟨h1,?_⟩;rcases h2 with h2|⟨g,cap,cur,hv,hg,hh,r⟩;·exact Or.inl h2
 ·refine Or.inr ⟨g,cap,cur,hv,hg,?_,r⟩;have hlt:g<w.heap.size:=by
   rcases BR g w.heap.size with h'|h';·exact h'
   ·rw[Jc h']at hh;cases hh
  rw[hb.block g hlt];exact hh
theorem Zf{base':Nat}(h:w.ownsRow base e size v n xs)(hb:base'<=base):w.ownsRow base' e size v n xs:=by
 obtain⟨h1,h2⟩:=h;refine⟨h1,?_⟩;rcases h2 with h2|⟨g,cap,cur,hv,hg,r⟩;·exact Or.inl h2
 ·exact Or.inr ⟨g,cap,cur,hv,by omega,r⟩
theorem Us{base' e' size' n':Nat}{v':Value}{xs':List Value}(h:w.ownsRow base e size v n xs)(h':w.ownsRow base' e' size' v' n' xs')(hne:e≠e'):v.ownBlock=none\/v.ownBlock≠v'.ownBlock:=by
 rcases h.2 with⟨rfl,_⟩|⟨g,cap,cur,rfl,_,hh,_⟩;·exact Or.inl rfl
 ·right;intro e1;rcases h'.2 with⟨rfl,_⟩|⟨g',cap',cur',rfl,_,hh',_⟩;·simp[Value.ownBlock]at e1
  ·simp[Value.ownBlock]at e1;subst e1;rw[hh]at hh';simp at hh';exact hne hh'.2
theorem own_one(h:w.ownsRow base e size v n xs):v.oneCell'=true:=by rcases h.2 with⟨rfl,_⟩|⟨g,cap,cur,rfl,_⟩<;>rfl
theorem rZ(h:w.ownsRow base e 1 v n xs)(hn:0<n):∃g cap,v=.slice (some ⟨g,0,none⟩) n cap/\∀j,j<n->w.cell? ⟨g,j,none⟩=xs[j]?:=by
 have h0:=h;rcases h.2 with⟨rfl,h1⟩|⟨g,cap,cur,rfl,_⟩;·omega
 ·exact⟨g,cap,rfl,λj hj=>h0.cellAt j (by omega)⟩
end
theorem grid_of{w:World}{B n:Nat}{vo:Value}{vr:Nat->Value}{Z:Nat->Nat->Bool}(hn:0<n)(ho:w.ownsRow B 200 1 vo n ((List.range n).map vr))(hd:∀j,j<n->w.ownsRow B 4 1 (vr j) n ((List.range n).map λc=>.bool (Z j c))):mO w vo n Z:=by
 obtain⟨g,cap,rfl,hc⟩:=rZ ho hn;have each:∀j,∃p:Nat × Nat,j<n->vr j=.slice (some ⟨p.1,0,none⟩) n p.2/\∀c,c<n->w.cell? ⟨p.1,c,none⟩=some (.bool (Z j c)):=by
  intro j;by_cases hj:j<n;·obtain⟨g',cap',e',hc'⟩:=rZ (hd j hj) hn;refine⟨(g',cap'),λ_=>⟨e',λc hcn=>?_⟩⟩;rw[hc' c hcn];simp[hcn]
  ·exact⟨(0,0),λh=>absurd h hj⟩
 refine⟨g,0,cap,λj=>(Classical.choose (each j)).1,λ_=>0,λj=>(Classical.choose (each j)).2,rfl,λr hr=>?_,λr c hr hcn=>?_⟩;·rw[fT,hc r hr];have:=(Classical.choose_spec (each r) hr).1;simp only[rF,List.getElem?_range hr,vK];exact congrArg some this
 ·rw[fT];exact(Classical.choose_spec (each r) hr).2 c hcn
def oF(vn vo:Value):Nat->Value:=λi=>if i=0 then vn else vo
structure RO(W0 wr:World)(N n k:Nat)(vn:Value)(Z:Nat->Nat->Bool)(vr:Nat->Value)(vo:Value):Prop where
 below:Below (N+2) W0 wr
 size:N+3<=wr.heap.size
 out:wr.rowIs (N+2) 34 2 (oF vn vo)
 outer:wr.ownsRow (N+3) 200 1 vo k ((List.range k).map vr)
 done:∀j,j<k->wr.ownsRow (N+3) 4 1 (vr j) n ((List.range n).map λc=>.bool (Z j c))
theorem Az{B:Nat}{a b c:World}(h:Below B a b)(h2:Below b.heap.size b c)(hB:B<=b.heap.size):Below B a c:=h.trans (h2.mono hB)
theorem Zg{W0 wk wi:World}{N n k:Nat}{vn:Value}{Z:Nat->Nat->Bool}{vr:Nat->Value}{vo:Value}(h:RO W0 wk N n k vn Z vr vo)(hb:Below wk.heap.size wk wi):RO W0 wi N n k vn Z vr vo:=by have hs:=h.size;refine⟨Az h.below hb (by omega),by have:=hb.size;omega,h.out.of_block (hb.block _ (by omega)),GZ h.outer hb,λj hj=>GZ (h.done j hj) hb⟩
theorem RF{W0 wi w2:World}{N n k:Nat}{vn:Value}{Z:Nat->Nat->Bool}{vr:Nat->Value}{vo:Value}{o:Obj}(h:RO W0 wi N n k vn Z vr vo)(hg:(wi.alloc o).grownBy w2 vo.ownBlock):w2.rowIs (N+2) 34 2 (oF vn vo):=by refine(h.out.alloc o).of_block (hg.block (N+2) (by have:=h.size;simp;omega) (λe=>?_));have:=(h.outer.lt (N+2) e.symm).1;omega
theorem ro_step{W0 wi w2:World}{N n k:Nat}{vn:Value}{Z:Nat->Nat->Bool}{vr:Nat->Value}{vo v v':Value}{o:Obj}(h:RO W0 wi N n k vn Z vr vo)(hv:wi.ownsRow (N+3) 4 1 v n ((List.range n).map λc=>.bool (Z k c)))(hg:(wi.alloc o).grownBy w2 vo.ownBlock)(hown:w2.ownsRow (N+3) 200 1 v' (k+1) ((List.range k).map vr++[v])):RO W0 (w2.setCell ⟨N+2,1,none⟩ v') N n (k+1) vn Z (λj=>if j=k then v else vr j) v':=by
 have hs:=h.size;have hs2:=hg.size;simp at hs2;refine⟨((h.below.alloc (by omega) o).grown hg (by simp;omega) (λj hj=>?_)).setCell (bM _) _,by simp[World.setCell];omega,((RF h hg).set 1 v').congr (λi hi=>?_),?_,λj hj=>?_⟩;·have:=(h.outer.lt j hj).1;omega
 ·obtain rfl|rfl:i=0\/i=1:=by omega
  ·rfl
  ·rfl
 ·refine ownsRow_setCell_below ?_ (by show N+2<N+3;omega) _;have e:(List.range (k+1)).map (λj=>if j=k then v else vr j)=(List.range k).map vr++[v]:=by
   rw[rA,cZ];congr 1;·refine KE λj hj=>?_;have:=j6.1 hj;rw[if_neg (by omega)]
   ·simp
  rw[e];exact hown
 ·refine ownsRow_setCell_below ?_ (by show N+2<N+3;omega) _;by_cases e:j=k;·subst e;rw[if_pos rfl];exact(hv.alloc o).kept hg (Us (hv.alloc o) (h.outer.alloc o) (by decide))
  ·rw[if_neg e];have hd:=(h.done j (by omega)).alloc o;exact hd.kept hg (Us hd (h.outer.alloc o) (by decide))
theorem Zh(Z:Nat->Nat->Bool)(r c:Nat):(List.range (c+1)).map (λi=>Value.bool (Z r i))=(List.range c).map (λi=>Value.bool (Z r i))++[.bool (Z r c)]:=by rw[rA,cZ];rfl
theorem O3{B:Nat}{w w1:World}{a:Addr}{v:Value}(h:w.cell? a=some v)(hb:Below B w w1)(ha:a.block<B):w1.cell? a=some v:=by rw[hb.cell ha];exact h
theorem Zi(w:World)(vn vl:Value)(n:Nat)(Z:Nat->Nat->Bool):RO (((w.alloc (.cells #[vn,vl] 34)).alloc (.cells #[.slice none 0 0,.slice none 0 0] 34)).alloc (.cells #[vn,.slice none 0 0] 34)) (((w.alloc (.cells #[vn,vl] 34)).alloc (.cells #[.slice none 0 0,.slice none 0 0] 34)).alloc (.cells #[vn,.slice none 0 0] 34)) w.heap.size n 0 vn Z (λ_=>.slice none 0 0) (.slice none 0 0):=by
 refine⟨aX _ _,by simp,?_,nP _ _ _ _,λj hj=>absurd hj (dY _)⟩;have:=World.rowIs_alloc ((w.alloc (.cells #[vn,vl] 34)).alloc (.cells #[.slice none 0 0,.slice none 0 0] 34)) #[vn,.slice none 0 0] 34 (oF vn (.slice none 0 0)) (λi hi=>by
  have hi':i<2:=hi;obtain rfl|rfl:i=0\/i=1:=by omega
  ·rfl
  ·rfl)
 simpa using this
theorem O4(w:World)(ad:Option Addr)(vl:Value)(n cap:Nat)(Z:Nat->Nat->Bool)(hG:mO w vl n Z)(hn0:0<n)(hn:n<=6):Calls prog 191 #[.agg #[.slice ad n cap,vl]] w λe w'=>∃vl',e=.returned (.agg #[.slice ad n cap,vl'])/\mO w' vl' n (bC.tr Z)/\Below w.heap.size w w':=by
 obtain⟨iB,hiB,hzB0,hzB1,hzB2⟩:=info_parts NS;obtain⟨iR,hiR,hzR0,hzR1,hzR2⟩:=info_parts TB;obtain⟨gb,go,gc,RB,RO',C,rfl,h1,h2⟩:=hG;have hst:=Zi w (.slice ad n cap) (.slice (some ⟨gb,go,none⟩) n gc) n (bC.tr Z);have hbw:Below w.heap.size w (((w.alloc (.cells #[.slice ad n cap,.slice (some ⟨gb,go,none⟩) n gc] 34)).alloc (.cells #[.slice none 0 0,.slice none 0 0] 34)).alloc (.cells #[.slice ad n cap,.slice none 0 0] 34)):=(((Below.refl _ _).alloc (Nat.le_refl _) _).alloc (by simp) _).alloc (by simp;omega) _;have q0:(((w.alloc (.cells #[.slice ad n cap,.slice (some ⟨gb,go,none⟩) n gc] 34)).alloc (.cells #[.slice none 0 0,.slice none 0 0] 34)).alloc (.cells #[.slice ad n cap,.slice none 0 0] 34)).cell? ⟨w.heap.size,0,none⟩=some (.slice ad n cap):=by simp[go_sem]
 have q1:(((w.alloc (.cells #[.slice ad n cap,.slice (some ⟨gb,go,none⟩) n gc] 34)).alloc (.cells #[.slice none 0 0,.slice none 0 0] 34)).alloc (.cells #[.slice ad n cap,.slice none 0 0] 34)).cell? ⟨w.heap.size,1,none⟩=some (.slice (some ⟨gb,go,none⟩) n gc):=by simp[go_sem]
 have r0:(((w.alloc (.cells #[.slice ad n cap,.slice (some ⟨gb,go,none⟩) n gc] 34)).alloc (.cells #[.slice none 0 0,.slice none 0 0] 34)).alloc (.cells #[.slice ad n cap,.slice none 0 0] 34)).rowIs (w.heap.size+1) 34 2 (oF (.slice none 0 0) (.slice none 0 0)):=by
  have:=(World.rowIs_alloc (w.alloc (.cells #[.slice ad n cap,.slice (some ⟨gb,go,none⟩) n gc] 34)) #[.slice none 0 0,.slice none 0 0] 34 (oF (.slice none 0 0) (.slice none 0 0)) (λi hi=>by
   have hi':i<2:=hi;obtain rfl|rfl:i=0\/i=1:=by omega
   ·rfl
   ·rfl)).alloc (.cells #[.slice ad n cap,.slice none 0 0] 34)
  simpa using this
 go_enter func191,ntmps191;go_wp2;generalize (((w.alloc (.cells #[.slice ad n cap,.slice (some ⟨gb,go,none⟩) n gc] 34)).alloc (.cells #[.slice none 0 0,.slice none 0 0] 34)).alloc (.cells #[.slice ad n cap,.slice none 0 0] 34))=W0 at *;have eO:=hide hbw;have Qf:Hid (∀r,r<n->W0.cell? ⟨gb,go+r,none⟩=some (.slice (some ⟨RB r,RO' r,none⟩) n (C r))):=λr hr=>aA (h1 r hr) hbw;have HG2:Hid (∀r c,r<n->c<n->W0.cell? ⟨RB r,RO' r+c,none⟩=some (.bool (Z r c))):=λr c hr hc=>aA (h2 r c hr hc) hbw;have HGB:Hid (∀r,r<n->gb<w.heap.size):=λr hr=>World.block_lt_of_cell? _ _ (h1 r hr);have HGC:Hid (∀r c,r<n->c<n->RB r<w.heap.size):=λr c hr hc=>World.block_lt_of_cell? _ _ (h2 r c hr hc);clear h1 h2 hbw;go_loopw[4] (λi wr=>∃k:Nat,k<=n/\i=.int .i64 k/\∃vr vo,RO W0 wr w.heap.size n k (.slice ad n cap) (bC.tr Z) vr vo) (λi _=>n - (intOf i).toNat);case atStart=>exact⟨0,Nat.zero_le _,rfl,_,_,hst⟩
 case round=>
  obtain⟨k,hk,rfl,vr,vo,hO⟩:=hrel;generalize wr=wk at *;have HO:=hide hO;have p0:wk.cell? ⟨w.heap.size,0,none⟩=some (.slice ad n cap):=O3 q0 hO.below (by show w.heap.size<w.heap.size+2;omega);by_cases hlt:k<n
  ·have hz3:=hO.size;clear hst hO;go_wp2;clear p0;go_loopw[5,6] (λv i wi=>∃c:Nat,c<=n/\i=.int .i64 c/\wi.ownsRow wk.heap.size 4 1 v c ((List.range c).map λi=>.bool (bC.tr Z k i))/\Below wk.heap.size wk wi) (λ_ i _=>n - (intOf i).toNat);case atStart=>exact⟨0,Nat.zero_le _,rfl,World.ownsRow_nil _ _ _ _,Below.refl _ _⟩
   case round=>
    obtain⟨c,hc,rfl,hrow,hnx⟩:=hrel;have hb2:=Az HO.out.below hnx (by omega);have p0:=O3 q0 hb2 (by show w.heap.size<w.heap.size+2;omega);have hs1:=hnx.size;by_cases hcn:c<n
    ·have p1:=O3 q1 hb2 (by show w.heap.size<w.heap.size+2;omega);have t1:=O3 (Qf.out c hcn) hb2 (by have:=HGB.out c hcn;show gb<w.heap.size+2;omega);have t2:=O3 (HG2.out c k hcn hlt) hb2 (by have:=HGC.out c k hcn hlt;show RB c<w.heap.size+2;omega);clear hb2 q0 q1 r0
     go_wp2_with (first
      | (at_builtin;refine wpList_append_own _ rfl _ _ 200 rfl wk.heap.size 4 iB (.bool false) 1 1 underlying200 hiB hzB0 hzB1 hzB2 rfl (by decide) _ _ _ rfl (hrow.alloc _) ⟨wr.heap.size,0,none⟩ 1 1 [.bool (Z c k)] rfl rfl (cell_one_new _ _ _) (λu hu=>by simp at hu;subst hu;rfl) (by unfold maxLen;omega) (by omega) (by simp;omega) ?_;intro v' w2 hown' hgrow2 O0)
      | go_in)
     have R2:=(hnx.alloc hnx.size (.cells #[.bool (Z c k)] 4)).grown hgrow2 (by simp;omega) (λj hj=>(hrow.lt j hj).1);have hown2:w2.ownsRow wk.heap.size 4 1 v' (c+1) ((List.range (c+1)).map λi=>.bool (bC.tr Z k i)):=by rw[Zh];exact hown'
     clear O0 hgrow2 t1 t2 p0 p1 hown';go_roundw;case rel=>exact⟨c+1,by omega,by go_num,hown2,R2⟩
     case measure=>simp[intOf];omega
    ·have e:c=n:=by omega
     subst e;have hOi:=Zg HO.out hnx;have HOi:=hide hOi;have t1:wr.cell? ⟨w.heap.size+1+1,1,none⟩=some vo:=hOi.out.cell (i:=1) (by decide);have hown:=hOi.outer;obtain⟨gx,cx,hvx,_⟩:=rZ hrow hn0;rw[hvx]at hrow ⊢;have hv1:=own_one hrow;clear hOi hb2 q0 q1 r0 hvx
     go_wp2_with (first
      | (at_builtin;refine wpList_append_own _ rfl _ _ 32 rfl (w.heap.size+3) 200 iR (.slice none 0 0) 1 24 underlying32 hiR hzR0 hzR1 hzR2 rfl (by decide) _ _ _ rfl (hown.alloc _) ⟨wr.heap.size,0,none⟩ 1 1 [_] rfl rfl (cell_one_new _ _ _) (λu hu=>by simp at hu;subst hu;exact hv1) (by unfold maxLen;omega) (by omega) (by simp;omega) ?_;intro v' w2 hown' hgrow2 O0;have c1:w2.cell? ⟨w.heap.size+1+1,1,none⟩=some vo:=(RF HOi.out hgrow2).cell (i:=1) (by decide);have f1:w2.frozen? ⟨w.heap.size+1+1,1,none⟩=false:=(RF HOi.out hgrow2).frozen 1;obtain⟨g2,c2,hv2,_⟩:=rZ hown' (by omega);rw[hv2]at hown' ⊢;clear hv2)
      | go_in)
     have R3:=ro_step HOi.out (Zf hrow (by omega)) hgrow2 hown';clear O0 hgrow2 t1 c1 f1 hown' hown hrow;go_roundw;case rel=>exact⟨k+1,by omega,by go_num,_,_,R3⟩
     case measure=>simp[intOf];omega
  ·have e:k=n:=by omega
   subst e;obtain⟨g,cg,hvo,_⟩:=rZ hO.outer hn0;subst hvo;have rr:=r0.of_block (hO.below.block (w.heap.size+1) (by omega));have c0:wk.cell? ⟨w.heap.size+1,0,none⟩=some (.slice none 0 0):=rr.cell (i:=0) (by decide);have c1:wk.cell? ⟨w.heap.size+1,1,none⟩=some (.slice none 0 0):=rr.cell (i:=1) (by decide);have f0:=rr.frozen 0;have f1:=rr.frozen 1;have o0:wk.cell? ⟨w.heap.size+1+1,0,none⟩=some (.slice ad k cap):=hO.out.cell (i:=0) (by decide);have o1:wk.cell? ⟨w.heap.size+1+1,1,none⟩=some (.slice (some ⟨g,0,none⟩) k cg):=hO.out.cell (i:=1) (by decide);clear hO rr r0 hst q0 q1;go_wp2;refine bodyPost_ret (v:=.agg #[.slice ad k cap,.slice (some ⟨g,0,none⟩) k cg]) (by simp[results,results191,go_sem,c0,c1]) rfl ⟨_,rfl,?_,?_⟩
   ·refine grid_of (B:=w.heap.size+3) (vr:=vr) hn0 ?_ (λj hj=>?_);·exact ownsRow_setCell_below (ownsRow_setCell_below HO.out.outer (by show w.heap.size+1<w.heap.size+3;omega) _) (by show w.heap.size+1<w.heap.size+3;omega) _
    ·exact ownsRow_setCell_below (ownsRow_setCell_below (HO.out.done j hj) (by show w.heap.size+1<w.heap.size+3;omega) _) (by show w.heap.size+1<w.heap.size+3;omega) _
   ·exact((eO.out.trans (HO.out.below.mono (by omega))).setCell (by show w.heap.size<=w.heap.size+1;omega) _).setCell (by show w.heap.size<=w.heap.size+1;omega) _
theorem JY(w:World)(ad:Option Addr)(vl:Value)(n cap a b:Nat)(Z:Nat->Nat->Bool)(hG:mO w vl n Z)(hn:n<=6)(ha:a<n)(hb:b<n):Calls prog 107 #[.agg #[.slice ad n cap,vl],.int .i64 a,.int .i64 b] w λe w'=>e=.returned (.int .i64 (nX (bC.tr Z) n a b))/\Below w.heap.size w w':=by have HG:=hide (hG.below (aB w (.cells #[.slice ad n cap,vl] 34)));clear hG;go_enter func107,ntmps107;go_wp2_with fail;refine(O4 _ ad vl n cap Z HG (by omega) hn).mono ?_;rintro e w1 ⟨vl',rfl,hG1,hb1⟩;have Qf:=hide hG1;have HB1:=hide (Qc hb1);clear hG1 hb1;go_wp2_with fail;refine(wU _ ad vl' n cap a b (bC.tr Z) Qf hn ha hb).mono ?_;rintro e w2 ⟨rfl,hb2⟩;have HB2:=hide (up HB1 hb2);clear hb2;go_wp2;go_ret;exact⟨rfl,HB2⟩
namespace bC
variable {Z : Nat → Nat → Bool} {n : Nat}
def uJ(Z:Nat->Nat->Bool)(a b:Nat):Bool:=!((Z a b&&(Z b a != (a==b)))||((a==b)&&!Z a b))
def EA(Z:Nat->Nat->Bool)(a b c:Nat):Bool:=!(Z a b&&Z b c&&!Z a c)
def AA(Z:Nat->Nat->Bool)(n a b:Nat):Bool:=uJ Z a b&&(List.range n).all (EA Z a b)
def ordA(Z:Nat->Nat->Bool)(n a:Nat):Bool:=(List.range n).all (AA Z n a)
def VK(Z:Nat->Nat->Bool)(n:Nat):Bool:=(List.range n).all (ordA Z n)
def jP(Z:Nat->Nat->Bool)(n a b:Nat):Bool:=decide (0<=nX Z n a b)&&decide (0<=nX (tr Z) n a b)
def jA(Z:Nat->Nat->Bool)(n a:Nat):Bool:=(List.range n).all (jP Z n a)
def yR(Z:Nat->Nat->Bool)(n:Nat):Bool:=(List.range n).all (jA Z n)
theorem LJ(o:Ord Z n):o7 Z n=true:=by
 refine all_true λa ha=>?_;unfold uV;rw[o.refl a ha,gV];refine all_true λb hb=>?_;unfold uU;cases hab:Z a b;·rfl
 ·have hf:fH Z n a b=true:=by
   unfold fH;have h1:(a != b&&Z b a)=false:=by
    cases hba:Z b a;·simp
    ·have:=o.anti a b ha hb hab hba;simp[this]
   rw[h1];refine all_true λc hc=>?_;unfold zI;cases hbc:Z b c;·rfl
   ·rw[o.trans a b c ha hb hc hab hbc];rfl
  rw[hf];rfl
theorem rOrd_eq:VK Z n=o7 Z n:=by
 rw[rD];constructor
 ·intro h;have h1:∀a b,a<n->b<n->uJ Z a b=true/\∀c,c<n->EA Z a b c=true:=by intro a b ha hb;have:=jU (jU h ha) hb;unfold AA at this;obtain⟨x,y⟩:=DC.1 this;exact⟨x,λc hc=>jU y hc⟩
  refine LJ ⟨λa ha=>?_,λa b ha hb hab hba=>?_,λa b c ha hb hc hab hbc=>?_⟩
  ·have:=(h1 a a ha ha).1;unfold uJ at this;cases hz:Z a a;·rw[hz]at this;simp at this
   ·rfl
  ·have:=(h1 a b ha hb).1;unfold uJ at this;rw[hab,hba]at this;by_cases e:a=b;·exact e
   ·simp[e]at this
  ·have:=(h1 a b ha hb).2 c hc;unfold EA at this;rw[hab,hbc]at this;simpa using this
 ·intro h;have o:=FC h;refine all_true λa ha=>all_true λb hb=>?_;unfold AA;have h1:uJ Z a b=true:=by
   unfold uJ;by_cases e:a=b;·subst e;simp[o.refl a ha]
   ·cases hab:Z a b;·simp[e]
    ·cases hba:Z b a;·simp[e]
     ·exact absurd (o.anti a b ha hb hab hba) e
  rw[h1,gV];refine all_true λc hc=>?_;unfold EA;cases hab:Z a b;·rfl
  ·cases hbc:Z b c;·rfl
   ·rw[o.trans a b c ha hb hc hab hbc];rfl
theorem oM{a b:Nat}:decide (0<=nX Z n a b)=(kT Z n a b).isSome:=by
 unfold nX;cases h:kT Z n a b;·rfl
 ·simp
theorem G8(o:Ord Z n):jJ Z n=true↔∀a b,a<n->b<n->(kT Z n a b).isSome=true:=by
 constructor;·intro h a b ha hb;obtain⟨c,hc⟩:=(vE o h).has a b ha hb;rw[hc];rfl
 ·intro h;exact all_true λa ha=>all_true λb hb=>h a b ha (by omega)
theorem VL(h:o7 Z n=true):yR Z n=(jJ Z n&&jJ (tr Z) n):=by
 have o:=FC h;rw[rD,DC,G8 o,G8 o.turn];constructor
 ·intro hj;have h1:∀a b,a<n->b<n->(kT Z n a b).isSome=true/\(kT (tr Z) n a b).isSome=true:=by intro a b ha hb;have:=jU (jU hj ha) hb;unfold jP at this;rw[oM,oM]at this;exact DC.1 this
  exact⟨λa b ha hb=>(h1 a b ha hb).1,λa b ha hb=>(h1 a b ha hb).2⟩
 ·rintro⟨h1,h2⟩;refine all_true λa ha=>all_true λb hb=>?_;unfold jP;rw[oM,oM,h1 a b ha hb,h2 a b ha hb];rfl
theorem VN(ss:List ByteArray)(G:Nat)(L:Nat->Nat)(Z:Nat->Nat->Bool):dD ss G L Z=if gZ ss=false then 1 else if 6<ss.length then 2 else if fG G L ss.length=false then 5 else if VK Z ss.length=false then 5 else if yR Z ss.length=false then 5 else 0:=by
 unfold dD;rw[rOrd_eq];cases h:o7 Z ss.length;·rfl
 ·rw[VL h];cases jJ Z ss.length<;>cases jJ (tr Z) ss.length<;>simp
end bC
end Go.Proofs.YtfnboapebijcpaaGreatDoor
