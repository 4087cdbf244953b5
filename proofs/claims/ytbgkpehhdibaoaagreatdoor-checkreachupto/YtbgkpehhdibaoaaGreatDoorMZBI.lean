/- part -/
import Derived.Test.YtbgkpehhdibaoaaGreatDoorMZBC
import Derived.Test.YtbgkpehhdibaoaaGreatDoorMZBA
set_option maxHeartbeats 0
set_option maxRecDepth 99999
namespace Go.Proofs.YtbgkpehhdibaoaaGreatDoor
open bO aO Rn
open Go.Proofs.Tryz
open Go.ChangeShapes Go.WideShapes Go.ChangeAt Go.RowKit Go.Deep Go.Joins
section
variable {H : Type} {enc : TypeId × Value → H} {W : World}
theorem open_moSC{fuel:Nat}{cs:List Value}{d:DataW H}{pl:List MemPlace}(hl4:cs.length=4)(h:DataW.trod enc prog W 0 (λ_=>true) true fuel 58 cs=some (d,pl)):∃x vi vv vf,cs=[A x.name,vi,vv,vf]/\gT W fuel (.agg #[A x.name,vi,vv,vf]) x/\qx fuel x<=Rows.uptoBulk d/\nY W vi vf:=by obtain⟨xs,n,hfn,hx,hlen,hxs,hf⟩:=LY underlying58 h;obtain⟨c0,c1,c2,c3,rfl⟩:=LX hl4;obtain⟨y0,y1,y2,y3,rfl⟩:=LX (by simpa using hxs);have f0:DataW.trod enc prog W 0 (λ_=>true) true n 9 (([c0,c1,c2,c3].drop 0).take (prog.cellsOf 9))=some y0:=hf 0 _ rfl;rw[rT]at f0;simp only[List.drop,List.take]at f0;have f1:DataW.trod enc prog W 0 (λ_=>true) true n 22 (([c0,c1,c2,c3].drop 1).take (prog.cellsOf 22))=some y1:=hf 1 _ rfl;rw[D7]at f1;simp only[List.drop,List.take]at f1;have f2:DataW.trod enc prog W 0 (λ_=>true) true n 55 (([c0,c1,c2,c3].drop 2).take (prog.cellsOf 55))=some y2:=hf 2 _ rfl;rw[cellsVas]at f2;simp only[List.drop,List.take]at f2;have f3:DataW.trod enc prog W 0 (λ_=>true) true n 56 (([c0,c1,c2,c3].drop 3).take (prog.cellsOf 56))=some y3:=hf 3 _ rfl;rw[cellsFus]at f3;simp only[List.drop,List.take]at f3;obtain⟨s0,e0,rfl,hs0⟩:=Fx underlying9 f0;simp at e0;subst e0;obtain⟨im,him,hwi⟩:=AU f1;obtain⟨va,hva,hwv⟩:=QE f2;obtain⟨fu,hfu,hwf⟩:=QF f3;simp only[qC]at hx;obtain⟨rfl,_⟩:=hx;refine⟨⟨s0,im,va,fu⟩,_,_,_,rfl,⟨_,_,_,rfl,hs0,him,hva,hfu.Fy aV⟩,?_,yt underlying22 f1,yt underlying56 f3,F3 f3⟩;unfold qx;rw[Im hfu (k:=fuel) aV];simp only[fD,jN,Rows.uptoBulk,Rows.uptoBulkAll,oC];omega
end
namespace Rn
theorem EL{α:Type}[DecidableEq α]:∀{l r:List α},l.Nodup->(∀x∈l,x∈r)->l.length<=r.length
 | [],_,_,_=>bI _
 | a::l,r,hd,hs=>by have ha:=hs a cZ;rw[List.nodup_cons]at hd;have h1:=EL (l:=l) (r:=r.erase a) hd.2 (λx hx=>(List.mem_erase_of_ne (λe=>by subst e;exact hd.1 hx)).2 (hs x (by simp[hx])));rw[List.length_erase_of_mem ha]at h1;have:=List.length_pos_of_mem ha;rw[zU];omega
end Rn
namespace Rn
def leS(a b:ByteArray):Prop:=a.data.toList<=b.data.toList
def ltS(a b:ByteArray):Prop:=leS a b/\a≠b
theorem Sb{a b:aZ}(h:leS a b)(k:leS b a):a=b:=by have e:=List.le_antisymm h k;obtain⟨⟨x⟩⟩:=a;obtain⟨⟨y⟩⟩:=b;simp at e;rw[e]
theorem MR(l:List aZ):(oL l).Perm l:=by
 unfold oL;have h:=(List.mergeSort_perm (l.map (·.data.toList)) (λx y=>decide (x<=y))).map (λb:List UInt8=>(⟨b.toArray⟩:aZ));refine h.trans (List.Perm.of_eq ?_);rw[List.map_map];have:((λb:List UInt8=>(⟨b.toArray⟩:aZ)) ∘ λx:aZ=>x.data.toList)=id:=by funext x;cases x;simp
 rw[this,List.map_id]
theorem Dp(l:List aZ):(oL l).Pairwise leS:=by unfold oL;rw[List.pairwise_map];have h:=List.pairwise_mergeSort (le:=λx y:List UInt8=>decide (x<=y)) (λa b c h1 h2=>by simp only[iA]at *;exact List.le_trans h1 h2) (λa b=>by simp only[Iw,iA];exact List.le_total a b) (l.map (·.data.toList));refine h.imp (λ{a b} hab=>?_);unfold leS;simpa using hab
theorem JZ(l:List aZ)(h:l.Pairwise leS):(jC l).Pairwise ltS:=by
 have key:∀j,j<=l.length->(jC (l.take j)).Pairwise ltS:=λj=>by
  induction j with
  | zero=>intro _;simp[jC]
  | succ j ih=>
   intro hj;have hx:l[j]?=some l[j]:=bg aV;rw[zu hx];have hp:=ih aV;have hle:∀z∈jC (l.take j),leS z l[j]:=λz hz=>by rw[CS]at hz;obtain⟨i,hi,e⟩:=gP.1 hz;rw[jO]at hi;rw[List.getElem_take]at e;rw[<-e];exact OH.1 h i j aV aV aV
   unfold Ja;split
   ·rename_i y hy;split;·exact hp
    ·rename_i hs;rw[Ep];refine⟨hp,by simp,λz hz x hx'=>?_⟩;simp at hx';subst hx';refine⟨hle z hz,λe=>hs ?_⟩;have hyl:leS z y:=by
      obtain⟨pre,hpre⟩:=List.getLast?_eq_some_iff.1 hy;rw[hpre]at hz hp;rcases bV.1 hz with h1|h1;·exact((Ep.1 hp).2.2 z h1 y cZ).1
      ·simp at h1;subst h1;exact List.le_refl _
     have hym:y∈jC (l.take j):=Rp hy;have:=Sb (hle y hym) (by rw[<-e];exact hyl);exact eO.2 this.symm
   ·rename_i hn;rw[List.getLast?_eq_none_iff]at hn;rw[hn];simp
 have:=key l.length (bF _);rwa[iL]at this
theorem J2:∀{l1 l2:List aZ},l1.Pairwise ltS->l2.Pairwise ltS->(∀x,x∈l1↔x∈l2)->l1=l2
 | [],[],_,_,_=>rfl
 | [],y::_,_,_,h=>aN ((h y).2 cZ) cZ
 | x::_,[],_,_,h=>aN ((h x).1 cZ) cZ
 | x::r,y::s,h1,h2,h=>by
  obtain⟨a1,a2⟩:=eD (tX.1 h1) (tX.1 h2);have hxy:x=y:=by
   rcases gy.1 ((h x).1 cZ)with e|hx;·exact e
   ·rcases gy.1 ((h y).2 cZ)with e|hy;·exact e.symm
    ·exact Sb (a1.1 y hy).1 (a2.1 x hx).1
  subst hxy;congr 1;refine J2 a1.2 a2.2 λz=>?_;constructor
  ·intro hz;rcases gy.1 ((h z).1 (nW _ hz))with e|hz';·subst e;exact aN rfl (a1.1 z hz).2
   ·exact hz'
  ·intro hz;rcases gy.1 ((h z).2 (nW _ hz))with e|hz';·subst e;exact aN rfl (a2.1 z hz).2
   ·exact hz'
end Rn
variable{l:List Mo}{j m:Nat}{x:Mo}
theorem J3(m:Nat)(w:World)(vn vl vi vv vf vk:Value)(ss:List ByteArray)(G:Nat)(L:Nat->Nat)(Z:Nat->Nat->Bool)(x:Mo)(known:List Mo)(hS:Strs w vn ss)(hR:Fb w vl G L Z)(h:gT w m (.agg #[A x.name,vi,vv,vf]) x)(hK:nC w m vk known)(hw:qx m x<=1048576)(hks:∀y∈known,qx m y<=1048576)(ht:Tab w):Calls prog 97 #[.agg #[vn,vl],.agg #[A x.name,vi,vv,vf],vk] w λe w'=>e=cO (O (yK (dh ss G L Z) m x known))/\bG w w':=by
 obtain⟨HT,HKS⟩:=bT ht hks;have HL:=I (λwx (hb:bG w wx)=>zi wx vn vl ss G L Z (hS.below hb) (hR.below hb));have HM:=I (λwx (hb:bG w wx)=>wI m wx _ x (h.below hb) hw (ht.below hb));obtain⟨hI,hV,hF⟩:=h.split;obtain⟨an,bn,on,cn,rfl,-⟩:=hS;obtain⟨ai,bi,oi,ci,rfl,-⟩:=hI;obtain⟨av,bv,ov,cv,rfl,-⟩:=hV;obtain⟨af,bf,of,cf,rfl,-⟩:=hF;obtain⟨ak,bk,ok,ck,rfl,hak,hlk,hck⟩:=hK;have vW:Hid (MoEl w m bk ok known):=hck;have HAK:=I hak;obtain⟨nk,hnk⟩:=bC known.length;have KH:=I hnk;rw[<-hnk]at hlk HAK ⊢;obtain⟨e0,he0⟩:=bC (dh ss G L Z);rw[<-he0]at HL ⊢;obtain⟨e1,he1⟩:=bC (oM m x);rw[<-he1]at HM;have HE:Hid (yK e0 m x known=if e0=0 then (if e1=0 then zN m known else e1)else e0):=I (by rw[he1];rfl);obtain⟨R,hRR⟩:=bC (yK e0 m x known);rw[<-hRR]at HE ⊢;generalize x.imports.length=ni at *;generalize x.vars.length=nv at *;generalize x.bq.length=nf at *;generalize ss.length=nn at *;obtain⟨vl',hvl⟩:∃v,v=vl:=⟨_,rfl⟩;obtain⟨b0,b1,hb0⟩:=al2 w (aY #[Y an nn cn,vl] 25) (aY #[A x.name,Y ai ni ci,Y av nv cv,Y af nf cf] 58);have Eb:=I hb0;obtain⟨q0,q1,r0,r1⟩:=rG ((aj b0 0).trans (rfl:_=some (Y an nn cn))) ((aj b0 1).trans (rfl:_=some vl)) ((aj b1 0).trans (rfl:_=some (A x.name))) ((aj b1 1).trans (rfl:_=some (Y ai ni ci)));obtain⟨r2,r3⟩:=eD ((aj b1 2).trans (rfl:_=some (Y av nv cv))) ((aj b1 3).trans (rfl:_=some (Y af nf cf)));clear h hR ht hks hak hck hnk he0 he1 hRR hvl b0 b1 hb0;go_enter func97,ntmps97;go_wp2_with fail;generalize ((w.alloc (aY #[Y an nn cn,vl] 25)).alloc (aY #[A x.name,Y ai ni ci,Y av nv cv,Y af nf cf] 58))=W0 at *;refine(HL _ Eb).mono ?_;rintro e w1 ⟨rfl,hb1⟩;have HB1:=I (up Eb hb1);replace r0:=aC r0 hb1;replace r1:=aC r1 hb1;replace r2:=aC r2 hb1;replace r3:=aC r3 hb1;clear hb1 q0 q1;by_cases h0:e0=0
 ·subst h0;rw[aL rfl]at HE;go_wp2_with fail;refine(HM _ HB1).mono ?_;rintro e w2 ⟨rfl,hb2⟩;have HB2:=I (up HB1 hb2);clear hb2 r0 r1 r2 r3;by_cases h1:e1=0
  ·subst h1;rw[aL rfl]at HE;go_wp2_with fail;go_loopw[24] (λi wr=>∃j:Nat,j<=nk/\i=O j/\(∀(q:Nat) y,q<j->known[q]?=some y->oM m y=0)/\bG w wr) (λi _=>nk - (intOf i).toNat);case atStart=>exact⟨0,bI _,rfl,λq y hq=>aN hq (fK _),HB2⟩
   case round=>
    obtain⟨j,hj,rfl,hall,hnx⟩:=hrel;obtain⟨dU,dM⟩:=bT hall hnx;clear hall;by_cases hjl:j<nk
    ·obtain⟨y,hy⟩:∃y,known[j]?=some y:=⟨_,bg (by rw[<-KH];exact hjl)⟩;obtain⟨yi,yv,yf,g0,g1,g2,g3,KI⟩:=vW j y hy;obtain rfl:=HAK aV;have HY:=I hy;replace g0:=aC g0 hnx;replace g1:=aC g1 hnx;replace g2:=aC g2 hnx;replace g3:=aC g3 hnx;have dW:=I (aH wr (aY #[A y.name,yi,yv,yf] 58));obtain⟨z0,z1,z2,z3⟩:=rG (Ie wr (A y.name) yi yv yf 58) (Fv wr (A y.name) yi yv yf 58) (Fw wr (A y.name) yi yv yf 58) (Fp wr (A y.name) yi yv yf 58);have HCY:=I (wI m _ _ y (KI.below (up hnx dW)) (HKS y (dN hy)) (HT.below (up hnx dW)));obtain⟨hyI,hyV,hyF⟩:=KI.split;obtain⟨a1,b1,o1,c1,rfl,-⟩:=hyI;obtain⟨a2,b2,o2,c2,rfl,-⟩:=hyV;obtain⟨a3,b3,o3,c3,rfl,-⟩:=hyF;obtain⟨ey,hey⟩:=bC (oM m y);have HEY:=I hey;rw[<-hey]at HCY;generalize y.imports.length=n1 at *;generalize y.vars.length=n2 at *;generalize y.bq.length=n3 at *;clear hy KI hnx hey;go_wp2_with fail;refine HCY.mono ?_;rintro e w5 ⟨rfl,hb5⟩;have eF:=I (up (up dM dW) hb5);clear hb5 g0 g1 g2 g3 z0 z1 z2 z3;by_cases h2:ey=0
     ·have HE2:Hid (oM m y=0):=I (by rw[<-HEY];exact h2);subst h2;go_wp2_with fail;go_roundw;case rel=>exact⟨j+1,by omega,by go_num,λq z hq hz=>by
       by_cases e:q=j;·subst e;rw[HY]at hz;cases hz;exact HE2
       ·exact dU q z aV hz,eF⟩
      case measure=>simp[intOf];omega
     ·have h2':(ey==0)=false:=by simp[h2]
      have zm:Hid (R=ey):=I (by rw[HE,HEY];exact JR HY dU (by rw[<-HEY];exact h2));clear h2;go_wp2_with fail;go_ret;exact⟨by rw[zm];rfl,eF⟩
    ·have zm:Hid (R=0):=I (by rw[HE];refine yL λy hy=>?_;obtain⟨i,hi,rfl⟩:=gP.1 hy;exact dU i _ (by have:=KH.out;omega) (bg hi));clear hnx;go_wp2_with fail;go_ret;exact⟨by rw[zm];rfl,dM⟩
  ·have h1':(e1==0)=false:=by simp[h1]
   rw[aJ h1]at HE;clear h1;go_wp2_with fail;go_ret;exact⟨by rw[HE];rfl,HB2⟩
 ·have h0':(e0==0)=false:=by simp[h0]
  rw[aJ h0]at HE;clear h0;go_wp2_with fail;go_ret;exact⟨by rw[HE];rfl,HB1⟩
open Go.Maps Go.WideMaps
def MS(w:World)(b n:Nat)(z:Value)(o:ByteArray->Option Value):Prop:=
 ∃D:DataW Value,w.ownsMap prog 9 sD b n D/\(∀s:ByteArray,s.size<=maxLen->
  (Maps.has D (.string s.data.toList)=(o s).isSome/\D.atKey (.string s.data.toList) (.held z)=.held ((o s).getD z)))/\Maps.size D=n
section
variable {w w' : World} {b n : Nat} {z : Value} {o : ByteArray → Option Value}
theorem MS.caM(h:MS w b n z o):pK w b n z o:=by obtain⟨D,h1,h2,_⟩:=h;exact⟨D,h1,h2⟩
theorem MS.same(h:MS w b n z o)(hb:w'.heap[b]?=w.heap[b]?):MS w' b n z o:=by obtain⟨D,⟨es,cl,e,r⟩,h2⟩:=h;exact⟨D,⟨es,cl,hb.trans e,r⟩,h2⟩
theorem MS.lt(h:MS w b n z o):b<w.heap.size:=h.caM.lt
theorem MS.below(h:MS w b n z o)(hb:bG w w'):MS w' b n z o:=h.same (hb.block b h.lt)
theorem pK.Bz(h:pK w b n z o)(hb:bG w w'):pK w' b n z o:=h.same (hb.block b h.lt)
theorem MS.new(w:World)(z:Value):MS (w.alloc (.map #[] 0)) w.heap.size 0 z (λ_=>none):=
 ⟨.map [],World.ownsMap_made _ _ _ _,λ_ _=>⟨rfl,rfl⟩,rfl⟩
theorem MS.put{t e:TypeId}(ht:prog.underlying t=some (.map 9 e))(h:MS w b n z o)(hn:n<maxLen){s:ByteArray}(hs:s.size<=maxLen)(hnone:o s=none)(v:Value):∃w',(Instr.mapUpdate t (.map (some b)) (.string s) v).run prog w=.ok () w'/\MS w' b (n+1) z (nQ o s v)/\w.grownBy w' (some b):=by
 obtain⟨D,h1,h2,h0⟩:=h;obtain⟨w',e,h3,h4⟩:=h1.update ug ht hn (keyOf_string_mk underlying9 hs) (show sD v=some (.held v,[])from rfl);refine⟨w',e,⟨_,h3,λt ht=>?_,?_⟩,h4⟩
 ·cases hst:dD t s with
  | true =>have:=key_eq hst;subst this;rw[has_put_same h1.isMap (show WideAt.IsKeyLit (.string t.data.toList)from trivial),atKey_put_same h1.isMap (show WideAt.IsKeyLit (.string t.data.toList)from trivial)];simp[nQ,hst]
  | false =>rw[has_put_other (yc hst),atKey_put_other (yc hst)];simpa[nQ,hst]using h2 t ht
 ·rw[size_put (h1.tidy ug),(h2 s hs).1,hnone,h0];rfl
theorem MS.len{t e:TypeId}(ht:prog.underlying t=some (.map 9 e))(h:MS w b n z o)(ty:TypeId):(Builtin.len_ #[t] ty #[.map (some b)]).run prog w=.ok (O n) w:=by obtain⟨D,h1,_,h0⟩:=h;rw[h1.len ht ty,h0]
end
namespace Ck
def fi(l:List Mo)(s:ByteArray):Option Value:=(aO.dw l s).map λn=>.int .i64 (n:Nat)
def cnt(l:List Mo):Nat->Nat
 | 0=>0
 | j+1=>cnt l j+match l[j]? with|some x=>if (aO.dw (l.take j) x.name).isSome then 0 else 1|none=>0
def kN(E:Int)(m:Nat)(l:List Mo):Int:=
 if E≠0 then E else if 6<l.length then 2 else if zN m l≠0 then zN m l else if cnt l l.length<l.length then 5 else 0
def gJ(l:List Mo)(s:ByteArray)(i:Nat):Bool:=match l[i]? with|some x=>dD x.name s|none=>false
theorem Hl(l:List Mo)(s:aZ):aO.dw l s=(List.range l.length).find? (gJ l s):=rfl
theorem find_congr{α:Type}{p q:α->Bool}:∀{l:List α},(∀x∈l,p x=q x)->l.find? p=l.find? q
 | [],_=>rfl
 | x::l,h=>by rw[List.find?_cons,List.find?_cons,h x List.mem_cons_self,find_congr (l:=l) λy hy=>h y (nW _ hy)]
theorem moAt_snoc(l:List Mo)(x:Mo)(s:aZ):aO.dw (l++[x]) s=match aO.dw l s with|some n=>some n|none=>if dD x.name s then some l.length else none:=by
 rw[Hl,Hl,aW,iT,Hz,List.find?_append];rw[find_congr (p:=gJ (l++[x]) s) (q:=gJ l s) λi hi=>by unfold gJ;rw[qJ (jG.1 hi)]];cases(List.range l.length).find? (gJ l s)with
 | some n=>rfl
 | none=>
  have h2:gJ (l++[x]) s l.length=dD x.name s:=by unfold gJ;rw[pR (bF _),mZ];rfl
  rw[Option.none_or,List.find?_cons,h2];cases dD x.name s<;>rfl
theorem MU(hx:l[j]?=some x)(s:aZ):aO.dw (l.take (j+1)) s=match aO.dw (l.take j) s with|some n=>some n|none=>if dD x.name s then some j else none:=by rw[gH,hx,lM,moAt_snoc,jO];have:=(dz.1 hx).1;rw[Nat.min_eq_left aV]
theorem fi_old(hx:l[j]?=some x)(h:(aO.dw (l.take j) x.name).isSome=true):fi (l.take (j+1))=fi (l.take j):=by
 funext s;unfold fi;rw[MU hx];cases hs:aO.dw (l.take j) s with
 | some n=>rfl
 | none=>
  cases hq:dD x.name s with
  | false=>rfl
  | true =>have:=eO.1 hq;subst this;rw[hs]at h;cases h
theorem fi_new(hx:l[j]?=some x)(h:aO.dw (l.take j) x.name=none):fi (l.take (j+1))=nQ (fi (l.take j)) x.name (O (j:Nat)):=by
 funext s;unfold fi nQ;rw[MU hx];cases hq:dD s x.name with
 | true =>have:=eO.1 hq;subst this;rw[h];simp[dD]
 | false=>
  have hq':dD x.name s=false:=by
   cases h':dD x.name s with
   | false=>rfl
   | true=>have:=eO.1 h';subst this;rw[h']at hq;cases hq
  cases hmj:aO.dw (l.take j) s with
  | some n=>simp[hmj]
  | none=>simp[hq',hmj]
theorem cnt_old(hx:l[j]?=some x)(h:(aO.dw (l.take j) x.name).isSome=true):cnt l (j+1)=cnt l j:=by rw[cnt,hx];simp only[h,if_true,uf]
theorem cnt_new(hx:l[j]?=some x)(h:aO.dw (l.take j) x.name=none):cnt l (j+1)=cnt l j+1:=by rw[cnt,hx];simp[h]
theorem Pe(l:List Mo):∀j,cnt l j<=j
 | 0=>bF _
 | j+1=>by
  have:=Pe l j;rw[cnt];split;·split<;>omega
  ·omega
end Ck
open Ck
theorem Pf{w:World}{v:Value}(h:gT w m v x):x.name.size<=maxLen:=by obtain⟨_,_,_,_,h,_⟩:=h;exact h
theorem Pg(n:Int)(w:World):(Instr.makeMap 95 (some (O n))).run prog w=.ok (.map (some w.heap.size)) (w.alloc (.map #[] 0)):=by simp[Instr.makeMap,run_underlying underlying95,asInt,asIntOf,Result.andThen]
theorem BA(m:Nat)(w:World)(v:Value)(l:List Mo)(h:nC w m v l)(hl:l.length<=1048576):Calls prog 40 #[v] w λe w'=>∃b,e=cO (.map (some b))/\Hid (MS w' b (Ck.cnt l l.length) (O 0) (Ck.fi l)/\w.heap.size<=b/\bG w w'):=by
 obtain⟨a,b,off,cap,rfl,h0,-,hel⟩:=h;obtain⟨H0,kg⟩:=bT h0 hel;obtain⟨nk,hnk⟩:=bC l.length;have KH:=I hnk;rw[<-hnk]at hl H0 ⊢;obtain⟨HM0,HB0⟩:=bT (MS.new w (O 0)) (aH w (.map #[] 0));have hmm:=Pg;clear h0 hel hnk;go_enter func40,ntmps40;go_upto_region 2 with fail;clear hmm;generalize w.alloc (.map #[] 0)=W at *;obtain⟨B,hB⟩:=bC w.heap.size;rw[<-hB]at HM0 ⊢;have rA:Hid (w.heap.size<=B):=I (by rw[hB];exact bF _);clear hB;go_wp2_with fail;go_loopw[13] (λi wr=>∃j:Nat,j<=nk/\i=O j/\Hid (MS wr B (Ck.cnt l j) (O 0) (Ck.fi (l.take j))/\bG w wr)) (λi _=>nk - (intOf i).toNat);case atStart=>exact⟨0,bI _,rfl,I ⟨HM0,HB0⟩⟩
 case round=>
  obtain⟨j,hj,rfl,HR⟩:=hrel;by_cases hjl:j<nk
  ·obtain⟨y,hy⟩:∃y,l[j]?=some y:=⟨_,bg (by rw[<-KH];exact hjl)⟩;have HY:=I hy;obtain⟨yi,yv,yf,g0,g1,g2,g3,KI⟩:=kg j y hy;obtain rfl:=H0 aV;have HZ:=I (Pf KI);obtain⟨hyI,hyV,hyF⟩:=KI.split;obtain⟨a1,b1,o1,c1,rfl,-⟩:=hyI;obtain⟨a2,b2,o2,c2,rfl,-⟩:=hyV;obtain⟨a3,b3,o3,c3,rfl,-⟩:=hyF;generalize y.imports.length=n1 at *;generalize y.vars.length=n2 at *;generalize y.bq.length=n3 at *;replace g0:=aC g0 HR.2;replace g1:=aC g1 HR.2;replace g2:=aC g2 HR.2;replace g3:=aC g3 HR.2;clear hy KI;go_upto_region 5 with fail;obtain⟨oD,HKB⟩:=sS wr (aY #[A y.name,Y a1 n1 c1,Y a2 n2 c2,Y a3 n3 c3] 58);generalize wr.alloc (aY #[A y.name,Y a1 n1 c1,Y a2 n2 c2,Y a3 n3 c3] 58)=W5 at *;obtain⟨HM5,dW⟩:=bT (HR.1.below oD) (up HR.2 oD);generalize wr.heap.size=MK at *;have q0:=aj HKB 0;clear g0 g1 g2 g3;have LK:=HM5.caM.uh underlying95 Cu HZ;cases hmo:aO.dw (l.take j) y.name with
   | some n=>
    have e1:Ck.fi (l.take j) y.name=some (O (n:Nat)):=by unfold Ck.fi;rw[hmo];rfl
    rw[e1]at LK;simp only[iK,oO]at LK;obtain⟨Qi,HCO⟩:=bT (fi_old HY (by rw[hmo];rfl)) (cnt_old HY (by rw[hmo];rfl));clear hmo e1;go_wp2_with fail;go_roundw;case rel=>exact⟨j+1,by omega,by go_num,I ⟨by rw[Qi,HCO];exact HM5,dW⟩⟩
    case measure=>simp[intOf];omega
   | none=>
    have e1:Ck.fi (l.take j) y.name=none:=by unfold Ck.fi;rw[hmo];rfl
    obtain⟨w7,UP,hm7,hg7⟩:=HM5.put underlying95 (by have:=Pe l j;unfold maxLen;omega) HZ e1 (O (j:Nat));rw[e1]at LK;simp only[nG,oP]at LK;obtain⟨Qi,HCO,Yf⟩:=fq (fi_new HY hmo) (cnt_new HY hmo) hm7;have jB:Hid (bG w w7):=I (Below.grown dW hg7 dW.size (λk e=>by injection e with e;rw[<-e];exact rA));clear hmo e1 hm7 hg7;go_wp2_with fail;go_roundw;case rel=>exact⟨j+1,by omega,by go_num,I ⟨by rw[Qi,HCO];exact Yf,jB⟩⟩
    case measure=>simp[intOf];omega
  ·obtain rfl:j=nk:=by omega
   have Gq:Hid (l.take j=l):=I (by rw[KH,iL]);have HRR:=I HR.out.1;rw[Gq]at HRR;go_wp2_with fail;go_ret;exact⟨B,rfl,I ⟨HRR,rA,HR.2⟩⟩
theorem form_any(m:Nat)(w:World)(vn vl vk:Value)(ss:List ByteArray)(G:Nat)(L:Nat->Nat)(Z:Nat->Nat->Bool)(l:List Mo)(hS:Strs w vn ss)(hR:Fb w vl G L Z)(hK:nC w m vk l)(hks:∀y∈l,qx m y<=1048576)(ht:Tab w):Calls prog 39 #[.agg #[vn,vl],vk] w λe w'=>e=cO (O (kN (dh ss G L Z) m l))/\bG w w':=by
 obtain⟨HT,HKS⟩:=bT ht hks;have HL:=I (λwx (hb:bG w wx)=>zi wx vn vl ss G L Z (hS.below hb) (hR.below hb));have MV:=I (λwx (hb:bG w wx) hl=>BA m wx vk l (hK.below hb) hl);have HVL:Hid (∃a n c,vl=Y a n c):=I (by obtain⟨a,b,o,c,aaj,RB,RO,C,rfl,-⟩:=hR;exact⟨_,_,_,rfl⟩);obtain⟨an,bn,on,cn,rfl,-⟩:=hS;obtain⟨al,nl,cl,rfl⟩:=HVL.out;obtain⟨ak,bk,ok,ck,rfl,hak,hlk,hck⟩:=hK;have vW:Hid (MoEl w m bk ok l):=hck;have HAK:=I hak;obtain⟨nk,hnk⟩:=bC l.length;have KH:=I hnk;rw[<-hnk]at hlk HAK MV ⊢;obtain⟨E,hE⟩:=bC (dh ss G L Z);rw[<-hE]at HL ⊢;obtain⟨R,hRR⟩:=bC (kN E m l);have HR:=I hRR;rw[<-hRR];generalize ss.length=nn at *;obtain⟨dO,DV⟩:=sS w (aY #[Y an nn cn,Y al nl cl] 25);clear hR ht hks hak hck hnk hE hRR;go_enter func39,ntmps39;go_upto_region 1 with fail;generalize w.alloc (aY #[Y an nn cn,Y al nl cl] 25)=W0 at *;obtain⟨x0,x1⟩:=jm DV;go_wp2_with fail;refine(HL _ dO).mono ?_;rintro e w1 ⟨rfl,hb1⟩;have HB1:=I (up dO hb1);clear hb1 x0 x1;by_cases h0:E=0
 ·subst h0;by_cases h6:6<nk
  ·have zm:Hid (R=2):=I (by rw[HR];unfold kN;rw[aJ cZ,<-KH,aL h6]);have h6':((nk:Int) > 6):=by omega
   go_wp2_with fail;go_ret;exact⟨by rw[zm];rfl,HB1⟩
  ·have h6':¬((nk:Int) > 6):=by omega
   go_wp2_with fail;go_loopw[19] (λi wr=>∃j:Nat,j<=nk/\i=O j/\Hid ((∀(q:Nat) y,q<j->l[q]?=some y->oM m y=0)/\bG w wr)) (λi _=>nk - (intOf i).toNat);case atStart=>exact⟨0,bI _,rfl,I ⟨λq y hq=>aN hq (fK _),HB1⟩⟩
   case round=>
    obtain⟨j,hj,rfl,HH⟩:=hrel;have hnx:=HH.2;by_cases hjl:j<nk
    ·obtain⟨y,hy⟩:∃y,l[j]?=some y:=⟨_,bg (by rw[<-KH];exact hjl)⟩;obtain⟨yi,yv,yf,g0,g1,g2,g3,KI⟩:=vW j y hy;obtain rfl:=HAK aV;have HY:=I hy;replace g0:=aC g0 hnx;replace g1:=aC g1 hnx;replace g2:=aC g2 hnx;replace g3:=aC g3 hnx;have dW:=I (aH wr (aY #[A y.name,yi,yv,yf] 58));obtain⟨z0,z1,z2,z3⟩:=rG (Ie wr (A y.name) yi yv yf 58) (Fv wr (A y.name) yi yv yf 58) (Fw wr (A y.name) yi yv yf 58) (Fp wr (A y.name) yi yv yf 58);have HCY:=I (wI m _ _ y (KI.below (up hnx dW)) (HKS y (dN hy)) (HT.below (up hnx dW)));obtain⟨hyI,hyV,hyF⟩:=KI.split;obtain⟨a1,b1,o1,c1,rfl,-⟩:=hyI;obtain⟨a2,b2,o2,c2,rfl,-⟩:=hyV;obtain⟨a3,b3,o3,c3,rfl,-⟩:=hyF;obtain⟨ey,hey⟩:=bC (oM m y);have HEY:=I hey;rw[<-hey]at HCY;generalize y.imports.length=n1 at *;generalize y.vars.length=n2 at *;generalize y.bq.length=n3 at *;clear hy KI hnx hey;go_wp2_with fail;refine HCY.mono ?_;rintro e w5 ⟨rfl,hb5⟩;have eF:=I (up (up HH.2 dW) hb5);clear hb5 g0 g1 g2 g3 z0 z1 z2 z3;by_cases h2:ey=0
     ·have HE2:Hid (oM m y=0):=I (by rw[<-HEY];exact h2);subst h2;go_wp2_with fail;go_roundw;case rel=>exact⟨j+1,by omega,by go_num,I ⟨λq z hq hz=>by
       by_cases e:q=j;·subst e;rw[HY]at hz;cases hz;exact HE2
       ·exact HH.1 q z aV hz,eF⟩⟩
      case measure=>simp[intOf];omega
     ·have HME:Hid (zN m l=ey):=I (by rw[HEY];exact JR HY HH.1 (by rw[<-HEY];exact h2));have zm:Hid (R=ey):=I (by rw[HR];unfold kN;rw[aJ cZ,<-KH,aJ h6,HME,aL h2]);have hz:=dY h2;clear h2;go_wp2_with fail;go_ret;exact⟨by rw[zm];rfl,eF⟩
    ·obtain rfl:j=nk:=by omega
     have HME:Hid (zN m l=0):=I (by refine yL λy hy=>?_;obtain⟨i,hi,rfl⟩:=gP.1 hy;exact HH.1 i _ (by have:=KH.out;omega) (bg hi));have zm:Hid (R=if Ck.cnt l j<j then 5 else 0):=I (by rw[HR];unfold kN;rw[aJ cZ,<-KH,aJ h6,HME,aJ cZ]);have NK:=I (MV wr hnx aV);clear hnx;go_wp2_with fail;refine NK.mono ?_;rintro e w7 ⟨b7,rfl,JE⟩;obtain⟨hm7,-,pW⟩:=JE.out;have jB:=I (up HH.2 pW);have LN:=hm7.len underlying95;obtain⟨c,hc⟩:=bC (Ck.cnt l j);rw[<-hc]at LN zm;clear JE hm7 pW hc;by_cases hlt:c<j
     ·have hlt':(c:Int)<(j:Int):=by omega
      rw[aL hlt]at zm;go_wp2_with fail;go_ret;exact⟨by rw[zm];rfl,jB⟩
     ·have hlt':¬(c:Int)<(j:Int):=by omega
      rw[aJ hlt]at zm;go_wp2_with fail;go_ret;exact⟨by rw[zm];rfl,jB⟩
 ·have zm:Hid (R=E):=I (by rw[HR];unfold kN;rw[aL h0]);have hz:=dY h0;clear h0;go_wp2_with fail;go_ret;exact⟨by rw[zm];rfl,HB1⟩
end Go.Proofs.YtbgkpehhdibaoaaGreatDoor
