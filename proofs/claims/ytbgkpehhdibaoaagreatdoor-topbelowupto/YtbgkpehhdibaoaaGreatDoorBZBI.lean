/- part -/
import Derived.Test.YtbgkpehhdibaoaaGreatDoorBZBC
import Derived.Test.YtbgkpehhdibaoaaGreatDoorBZBA
set_option maxHeartbeats 0
set_option maxRecDepth 99999
namespace Go.Proofs.YtbgkpehhdibaoaaGreatDoor
open bN bJ Rn
open Go.Proofs.Tryz
open Go.ChangeShapes Go.WideShapes Go.ChangeAt Go.RowKit Go.Deep Go.Joins
section
variable {H : Type} {enc : TypeId × Value → H} {W : World}
theorem X9{fuel:Nat}{cs:List Value}{d:DataW H}{pl:List MemPlace}(hl4:cs.length=4)(h:DataW.trod enc prog W 0 (λ_=>true) true fuel 58 cs=some (d,pl)):∃x vi vv vf,cs=[A x.name,vi,vv,vf]/\iY W fuel (.agg #[A x.name,vi,vv,vf]) x/\vF fuel x<=Rows.uptoBulk d/\yR W vi vf:=by obtain⟨xs,n,hfn,hx,hlen,hxs,hf⟩:=J2 underlying58 h;obtain⟨c0,c1,c2,c3,rfl⟩:=JZ hl4;obtain⟨y0,y1,y2,y3,rfl⟩:=JZ (by simpa using hxs);have f0:DataW.trod enc prog W 0 (λ_=>true) true n 9 (([c0,c1,c2,c3].drop 0).take (prog.cellsOf 9))=some y0:=hf 0 _ rfl;rw[qG]at f0;simp only[List.drop,List.take]at f0;have f1:DataW.trod enc prog W 0 (λ_=>true) true n 22 (([c0,c1,c2,c3].drop 1).take (prog.cellsOf 22))=some y1:=hf 1 _ rfl;rw[Cw]at f1;simp only[List.drop,List.take]at f1;have f2:DataW.trod enc prog W 0 (λ_=>true) true n 55 (([c0,c1,c2,c3].drop 2).take (prog.cellsOf 55))=some y2:=hf 2 _ rfl;rw[ZI]at f2;simp only[List.drop,List.take]at f2;have f3:DataW.trod enc prog W 0 (λ_=>true) true n 56 (([c0,c1,c2,c3].drop 3).take (prog.cellsOf 56))=some y3:=hf 3 _ rfl;rw[ZJ]at f3;simp only[List.drop,List.take]at f3;obtain⟨s0,e0,rfl,hs0⟩:=Ga underlying9 f0;simp at e0;subst e0;obtain⟨im,him,hwi⟩:=Gc f1;obtain⟨va,hva,hwv⟩:=ZL f2;obtain⟨fu,hfu,hwf⟩:=ZM f3;simp only[pq]at hx;obtain⟨rfl,_⟩:=hx;refine⟨⟨s0,im,va,fu⟩,_,_,_,rfl,⟨_,_,_,rfl,hs0,him,hva,hfu.UC aX⟩,?_,GY underlying22 f1,GY underlying56 f3,Pg f3⟩;unfold vF;rw[Gd hfu (k:=fuel) aX];simp only[fG,jA,Rows.uptoBulk,Rows.uptoBulkAll,qH];omega
end
namespace Rn
theorem Dm{α:Type}[DecidableEq α]:∀{l r:List α},l.Nodup->(∀x∈l,x∈r)->l.length<=r.length
 | [],_,_,_=>bL _
 | a::l,r,hd,hs=>by have ha:=hs a dx;rw[List.nodup_cons]at hd;have h1:=Dm (l:=l) (r:=r.erase a) hd.2 (λx hx=>(List.mem_erase_of_ne (λe=>by subst e;exact hd.1 hx)).2 (hs x (by simp[hx])));rw[List.length_erase_of_mem ha]at h1;have:=List.length_pos_of_mem ha;rw[yI];omega
end Rn
namespace Rn
def leS(a b:ByteArray):Prop:=a.data.toList<=b.data.toList
def ltS(a b:ByteArray):Prop:=leS a b/\a≠b
theorem PN{a b:aY}(h:leS a b)(k:leS b a):a=b:=by have e:=List.le_antisymm h k;obtain⟨⟨x⟩⟩:=a;obtain⟨⟨y⟩⟩:=b;simp at e;rw[e]
theorem KI(l:List aY):(nN l).Perm l:=by
 unfold nN;have h:=(List.mergeSort_perm (l.map (·.data.toList)) (λx y=>decide (x<=y))).map (λb:List UInt8=>(⟨b.toArray⟩:aY));refine h.trans (List.Perm.of_eq ?_);rw[List.map_map];have:((λb:List UInt8=>(⟨b.toArray⟩:aY)) ∘ λx:aY=>x.data.toList)=id:=by funext x;cases x;simp
 rw[this,List.map_id]
theorem BJ(l:List aY):(nN l).Pairwise leS:=by unfold nN;rw[List.pairwise_map];have h:=List.pairwise_mergeSort (le:=λx y:List UInt8=>decide (x<=y)) (λa b c h1 h2=>by simp only[gP]at *;exact List.le_trans h1 h2) (λa b=>by simp only[Gl,gP];exact List.le_total a b) (l.map (·.data.toList));refine h.imp (λ{a b} hab=>?_);unfold leS;simpa using hab
theorem Ik(l:List aY)(h:l.Pairwise leS):(ji l).Pairwise ltS:=by
 have key:∀j,j<=l.length->(ji (l.take j)).Pairwise ltS:=λj=>by
  induction j with
  | zero=>intro _;simp[ji]
  | succ j ih=>
   intro hj;have hx:l[j]?=some l[j]:=bD aX;rw[xW hx];have hp:=ih aX;have hle:∀z∈ji (l.take j),leS z l[j]:=λz hz=>by rw[Bf]at hz;obtain⟨i,hi,e⟩:=gZ.1 hz;rw[jB]at hi;rw[List.getElem_take]at e;rw[<-e];exact Mt.1 h i j aX aX aX
   unfold GI;split
   ·rename_i y hy;split;·exact hp
    ·rename_i hs;rw[CW];refine⟨hp,by simp,λz hz x hx'=>?_⟩;simp at hx';subst hx';refine⟨hle z hz,λe=>hs ?_⟩;have hyl:leS z y:=by
      obtain⟨pre,hpre⟩:=List.getLast?_eq_some_iff.1 hy;rw[hpre]at hz hp;rcases bZ.1 hz with h1|h1;·exact((CW.1 hp).2.2 z h1 y dx).1
      ·simp at h1;subst h1;exact List.le_refl _
     have hym:y∈ji (l.take j):=OX hy;have:=PN (hle y hym) (by rw[<-e];exact hyl);exact eu.2 this.symm
   ·rename_i hn;rw[List.getLast?_eq_none_iff]at hn;rw[hn];simp
 have:=key l.length (bE _);rwa[jC]at this
theorem Il:∀{l1 l2:List aY},l1.Pairwise ltS->l2.Pairwise ltS->(∀x,x∈l1↔x∈l2)->l1=l2
 | [],[],_,_,_=>rfl
 | [],y::_,_,_,h=>aM ((h y).2 dx) dx
 | x::_,[],_,_,h=>aM ((h x).1 dx) dx
 | x::r,y::s,h1,h2,h=>by
  obtain⟨a1,a2⟩:=eY (rU.1 h1) (rU.1 h2);have hxy:x=y:=by
   rcases fK.1 ((h x).1 dx)with e|hx;·exact e
   ·rcases fK.1 ((h y).2 dx)with e|hy;·exact e.symm
    ·exact PN (a1.1 y hy).1 (a2.1 x hx).1
  subst hxy;congr 1;refine Il a1.2 a2.2 λz=>?_;constructor
  ·intro hz;rcases fK.1 ((h z).1 (pR _ hz))with e|hz';·subst e;exact aM rfl (a1.1 z hz).2
   ·exact hz'
  ·intro hz;rcases fK.1 ((h z).2 (pR _ hz))with e|hz';·subst e;exact aM rfl (a2.1 z hz).2
   ·exact hz'
end Rn
variable{l:List Mo}{j m:Nat}{x:Mo}
theorem Im(m:Nat)(w:World)(vn vl vi vv vf vk:Value)(ss:List ByteArray)(G:Nat)(L:Nat->Nat)(Z:Nat->Nat->Bool)(x:Mo)(known:List Mo)(hS:Strs w vn ss)(hR:Fg w vl G L Z)(h:iY w m (.agg #[A x.name,vi,vv,vf]) x)(hK:nD w m vk known)(hw:vF m x<=1048576)(hks:∀y∈known,vF m y<=1048576)(ht:Tab w):Calls prog 97 #[.agg #[vn,vl],.agg #[A x.name,vi,vv,vf],vk] w λe w'=>e=dz (O (yZ (bX ss G L Z) m x known))/\bG w w':=by
 obtain⟨HT,HKS⟩:=bU ht hks;have HL:=I (λwx (hb:bG w wx)=>xS wx vn vl ss G L Z (hS.below hb) (hR.below hb));have HM:=I (λwx (hb:bG w wx)=>uU m wx _ x (h.below hb) hw (ht.below hb));obtain⟨hI,hV,hF⟩:=h.split;obtain⟨an,bn,on,cn,rfl,-⟩:=hS;obtain⟨ai,bi,oi,ci,rfl,-⟩:=hI;obtain⟨av,bv,ov,cv,rfl,-⟩:=hV;obtain⟨af,bf,of,cf,rfl,-⟩:=hF;obtain⟨ak,bk,ok,ck,rfl,hak,hlk,hck⟩:=hK;have uI:Hid (MoEl w m bk ok known):=hck;have HAK:=I hak;obtain⟨nk,hnk⟩:=bC known.length;have I5:=I hnk;rw[<-hnk]at hlk HAK ⊢;obtain⟨e0,he0⟩:=bC (bX ss G L Z);rw[<-he0]at HL ⊢;obtain⟨e1,he1⟩:=bC (sI m x);rw[<-he1]at HM;have HE:Hid (yZ e0 m x known=if e0=0 then (if e1=0 then BF m known else e1)else e0):=I (by rw[he1];rfl);obtain⟨R,hRR⟩:=bC (yZ e0 m x known);rw[<-hRR]at HE ⊢;generalize x.imports.length=ni at *;generalize x.vars.length=nv at *;generalize x.bg.length=nf at *;generalize ss.length=nn at *;obtain⟨vl',hvl⟩:∃v,v=vl:=⟨_,rfl⟩;obtain⟨b0,b1,hb0⟩:=al2 w (aW #[Y an nn cn,vl] 25) (aW #[A x.name,Y ai ni ci,Y av nv cv,Y af nf cf] 58);have Fv:=I hb0;obtain⟨q0,q1,r0,r1⟩:=tZ ((aj b0 0).trans (rfl:_=some (Y an nn cn))) ((aj b0 1).trans (rfl:_=some vl)) ((aj b1 0).trans (rfl:_=some (A x.name))) ((aj b1 1).trans (rfl:_=some (Y ai ni ci)));obtain⟨r2,r3⟩:=eY ((aj b1 2).trans (rfl:_=some (Y av nv cv))) ((aj b1 3).trans (rfl:_=some (Y af nf cf)));clear h hR ht hks hak hck hnk he0 he1 hRR hvl b0 b1 hb0;go_enter func97,ntmps97;go_wp2_with fail;generalize ((w.alloc (aW #[Y an nn cn,vl] 25)).alloc (aW #[A x.name,Y ai ni ci,Y av nv cv,Y af nf cf] 58))=W0 at *;refine(HL _ Fv).mono ?_;rintro e w1 ⟨rfl,hb1⟩;have HB1:=I (up Fv hb1);replace r0:=aD r0 hb1;replace r1:=aD r1 hb1;replace r2:=aD r2 hb1;replace r3:=aD r3 hb1;clear hb1 q0 q1;by_cases h0:e0=0
 ·subst h0;rw[aL rfl]at HE;go_wp2_with fail;refine(HM _ HB1).mono ?_;rintro e w2 ⟨rfl,hb2⟩;have HB2:=I (up HB1 hb2);clear hb2 r0 r1 r2 r3;by_cases h1:e1=0
  ·subst h1;rw[aL rfl]at HE;go_wp2_with fail;go_loopw[24] (λi wr=>∃j:Nat,j<=nk/\i=O j/\(∀(q:Nat) y,q<j->known[q]?=some y->sI m y=0)/\bG w wr) (λi _=>nk - (intOf i).toNat);case atStart=>exact⟨0,bL _,rfl,λq y hq=>aM hq (fT _),HB2⟩
   case round=>
    obtain⟨j,hj,rfl,hall,hnx⟩:=hrel;obtain⟨fF,fO⟩:=bU hall hnx;clear hall;by_cases hjl:j<nk
    ·obtain⟨y,hy⟩:∃y,known[j]?=some y:=⟨_,bD (by rw[<-I5];exact hjl)⟩;obtain⟨yi,yv,yf,g0,g1,g2,g3,I6⟩:=uI j y hy;obtain rfl:=HAK aX;have HY:=I hy;replace g0:=aD g0 hnx;replace g1:=aD g1 hnx;replace g2:=aD g2 hnx;replace g3:=aD g3 hnx;have d9:=I (aH wr (aW #[A y.name,yi,yv,yf] 58));obtain⟨z0,z1,z2,z3⟩:=tZ (F5 wr (A y.name) yi yv yf 58) (DN wr (A y.name) yi yv yf 58) (DR wr (A y.name) yi yv yf 58) (DK wr (A y.name) yi yv yf 58);have HCY:=I (uU m _ _ y (I6.below (up hnx d9)) (HKS y (eT hy)) (HT.below (up hnx d9)));obtain⟨hyI,hyV,Y3⟩:=I6.split;obtain⟨a1,b1,o1,c1,rfl,-⟩:=hyI;obtain⟨a2,b2,o2,c2,rfl,-⟩:=hyV;obtain⟨a3,b3,o3,c3,rfl,-⟩:=Y3;obtain⟨ey,hey⟩:=bC (sI m y);have Zf:=I hey;rw[<-hey]at HCY;generalize y.imports.length=n1 at *;generalize y.vars.length=n2 at *;generalize y.bg.length=n3 at *;clear hy I6 hnx hey;go_wp2_with fail;refine HCY.mono ?_;rintro e w5 ⟨rfl,hb5⟩;have dX:=I (up (up fO d9) hb5);clear hb5 g0 g1 g2 g3 z0 z1 z2 z3;by_cases h2:ey=0
     ·have HE2:Hid (sI m y=0):=I (by rw[<-Zf];exact h2);subst h2;go_wp2_with fail;go_roundw;case rel=>exact⟨j+1,by omega,by go_num,λq z hq hz=>by
       by_cases e:q=j;·subst e;rw[HY]at hz;cases hz;exact HE2
       ·exact fF q z aX hz,dX⟩
      case measure=>simp[intOf];omega
     ·have h2':(ey==0)=false:=by simp[h2]
      have xV:Hid (R=ey):=I (by rw[HE,Zf];exact Ic HY fF (by rw[<-Zf];exact h2));clear h2;go_wp2_with fail;go_ret;exact⟨by rw[xV];rfl,dX⟩
    ·have xV:Hid (R=0):=I (by rw[HE];refine Pz λy hy=>?_;obtain⟨i,hi,rfl⟩:=gZ.1 hy;exact fF i _ (by have:=I5.out;omega) (bD hi));clear hnx;go_wp2_with fail;go_ret;exact⟨by rw[xV];rfl,fO⟩
  ·have h1':(e1==0)=false:=by simp[h1]
   rw[aJ h1]at HE;clear h1;go_wp2_with fail;go_ret;exact⟨by rw[HE];rfl,HB2⟩
 ·have h0':(e0==0)=false:=by simp[h0]
  rw[aJ h0]at HE;clear h0;go_wp2_with fail;go_ret;exact⟨by rw[HE];rfl,HB1⟩
open Go.Maps Go.WideMaps
def KJ(w:World)(b n:Nat)(z:Value)(o:ByteArray->Option Value):Prop:=
 ∃D:DataW Value,w.ownsMap prog 9 jD b n D/\(∀s:ByteArray,s.size<=maxLen->
  (Maps.has D (.string s.data.toList)=(o s).isSome/\D.atKey (.string s.data.toList) (.held z)=.held ((o s).getD z)))/\Maps.size D=n
section
variable {w w' : World} {b n : Nat} {z : Value} {o : ByteArray → Option Value}
theorem KJ.caM(h:KJ w b n z o):mV w b n z o:=by obtain⟨D,h1,h2,_⟩:=h;exact⟨D,h1,h2⟩
theorem KJ.same(h:KJ w b n z o)(hb:w'.heap[b]?=w.heap[b]?):KJ w' b n z o:=by obtain⟨D,⟨es,cl,e,r⟩,h2⟩:=h;exact⟨D,⟨es,cl,hb.trans e,r⟩,h2⟩
theorem KJ.lt(h:KJ w b n z o):b<w.heap.size:=h.caM.lt
theorem KJ.below(h:KJ w b n z o)(hb:bG w w'):KJ w' b n z o:=h.same (hb.block b h.lt)
theorem mV.zZ(h:mV w b n z o)(hb:bG w w'):mV w' b n z o:=h.same (hb.block b h.lt)
theorem KJ.new(w:World)(z:Value):KJ (w.alloc (.map #[] 0)) w.heap.size 0 z (λ_=>none):=
 ⟨.map [],World.ownsMap_made _ _ _ _,λ_ _=>⟨rfl,rfl⟩,rfl⟩
theorem KJ.put{t e:TypeId}(ht:prog.underlying t=some (.map 9 e))(h:KJ w b n z o)(hn:n<maxLen){s:ByteArray}(hs:s.size<=maxLen)(hnone:o s=none)(v:Value):∃w',(Instr.mapUpdate t (.map (some b)) (.string s) v).run prog w=.ok () w'/\KJ w' b (n+1) z (jk o s v)/\w.grownBy w' (some b):=by
 obtain⟨D,h1,h2,h0⟩:=h;obtain⟨w',e,h3,h4⟩:=h1.update pJ ht hn (keyOf_string_mk underlying9 hs) (show jD v=some (.held v,[])from rfl);refine⟨w',e,⟨_,h3,λt ht=>?_,?_⟩,h4⟩
 ·cases hst:dA t s with
  | true =>have:=key_eq hst;subst this;rw[has_put_same h1.isMap (show WideAt.IsKeyLit (.string t.data.toList)from trivial),atKey_put_same h1.isMap (show WideAt.IsKeyLit (.string t.data.toList)from trivial)];simp[jk,hst]
  | false =>rw[has_put_other (wL hst),atKey_put_other (wL hst)];simpa[jk,hst]using h2 t ht
 ·rw[size_put (h1.tidy pJ),(h2 s hs).1,hnone,h0];rfl
theorem KJ.len{t e:TypeId}(ht:prog.underlying t=some (.map 9 e))(h:KJ w b n z o)(ty:TypeId):(Builtin.len_ #[t] ty #[.map (some b)]).run prog w=.ok (O n) w:=by obtain⟨D,h1,_,h0⟩:=h;rw[h1.len ht ty,h0]
end
namespace Ck
def fi(l:List Mo)(s:ByteArray):Option Value:=(dI l s).map λn=>.int .i64 (n:Nat)
def cnt(l:List Mo):Nat->Nat
 | 0=>0
 | j+1=>cnt l j+match l[j]? with|some x=>if (dI (l.take j) x.name).isSome then 0 else 1|none=>0
def jU(E:Int)(m:Nat)(l:List Mo):Int:=
 if E≠0 then E else if 6<l.length then 2 else if BF m l≠0 then BF m l else if cnt l l.length<l.length then 5 else 0
def gF(l:List Mo)(s:ByteArray)(i:Nat):Bool:=match l[i]? with|some x=>dA x.name s|none=>false
theorem VB(l:List Mo)(s:aY):dI l s=(List.range l.length).find? (gF l s):=rfl
theorem find_congr{α:Type}{p q:α->Bool}:∀{l:List α},(∀x∈l,p x=q x)->l.find? p=l.find? q
 | [],_=>rfl
 | x::l,h=>by rw[List.find?_cons,List.find?_cons,h x List.mem_cons_self,find_congr (l:=l) λy hy=>h y (pR _ hy)]
theorem Ya(l:List Mo)(x:Mo)(s:aY):dI (l++[x]) s=match dI l s with|some n=>some n|none=>if dA x.name s then some l.length else none:=by
 rw[VB,VB,aT,iF,FT,List.find?_append];rw[find_congr (p:=gF (l++[x]) s) (q:=gF l s) λi hi=>by unfold gF;rw[pQ (jr.1 hi)]];cases(List.range l.length).find? (gF l s)with
 | some n=>rfl
 | none=>
  have h2:gF (l++[x]) s l.length=dA x.name s:=by unfold gF;rw[oq (bE _),mE];rfl
  rw[Option.none_or,List.find?_cons,h2];cases dA x.name s<;>rfl
theorem KL(hx:l[j]?=some x)(s:aY):dI (l.take (j+1)) s=match dI (l.take j) s with|some n=>some n|none=>if dA x.name s then some j else none:=by rw[gy,hx,kU,Ya,jB];have:=(dK.1 hx).1;rw[Nat.min_eq_left aX]
theorem fi_old(hx:l[j]?=some x)(h:(dI (l.take j) x.name).isSome=true):fi (l.take (j+1))=fi (l.take j):=by
 funext s;unfold fi;rw[KL hx];cases hs:dI (l.take j) s with
 | some n=>rfl
 | none=>
  cases hq:dA x.name s with
  | false=>rfl
  | true =>have:=eu.1 hq;subst this;rw[hs]at h;cases h
theorem fi_new(hx:l[j]?=some x)(h:dI (l.take j) x.name=none):fi (l.take (j+1))=jk (fi (l.take j)) x.name (O (j:Nat)):=by
 funext s;unfold fi jk;rw[KL hx];cases hq:dA s x.name with
 | true =>have:=eu.1 hq;subst this;rw[h];simp[dA]
 | false=>
  have hq':dA x.name s=false:=by
   cases h':dA x.name s with
   | false=>rfl
   | true=>have:=eu.1 h';subst this;rw[h']at hq;cases hq
  cases hmj:dI (l.take j) s with
  | some n=>simp[hmj]
  | none=>simp[hq',hmj]
theorem cnt_old(hx:l[j]?=some x)(h:(dI (l.take j) x.name).isSome=true):cnt l (j+1)=cnt l j:=by rw[cnt,hx];simp only[h,if_true,rY]
theorem cnt_new(hx:l[j]?=some x)(h:dI (l.take j) x.name=none):cnt l (j+1)=cnt l j+1:=by rw[cnt,hx];simp[h]
theorem M0(l:List Mo):∀j,cnt l j<=j
 | 0=>bE _
 | j+1=>by
  have:=M0 l j;rw[cnt];split;·split<;>omega
  ·omega
end Ck
open Ck
theorem M4{w:World}{v:Value}(h:iY w m v x):x.name.size<=maxLen:=by obtain⟨_,_,_,_,h,_⟩:=h;exact h
theorem M5(n:Int)(w:World):(Instr.makeMap 95 (some (O n))).run prog w=.ok (.map (some w.heap.size)) (w.alloc (.map #[] 0)):=by simp[Instr.makeMap,run_underlying underlying95,asInt,asIntOf,Result.andThen]
theorem Aa(m:Nat)(w:World)(v:Value)(l:List Mo)(h:nD w m v l)(hl:l.length<=1048576):Calls prog 40 #[v] w λe w'=>∃b,e=dz (.map (some b))/\Hid (KJ w' b (Ck.cnt l l.length) (O 0) (Ck.fi l)/\w.heap.size<=b/\bG w w'):=by
 obtain⟨a,b,off,cap,rfl,h0,-,hel⟩:=h;obtain⟨H0,lK⟩:=bU h0 hel;obtain⟨nk,hnk⟩:=bC l.length;have I5:=I hnk;rw[<-hnk]at hl H0 ⊢;obtain⟨Zn,HB0⟩:=bU (KJ.new w (O 0)) (aH w (.map #[] 0));have hmm:=M5;clear h0 hel hnk;go_enter func40,ntmps40;go_upto_region 2 with fail;clear hmm;generalize w.alloc (.map #[] 0)=W at *;obtain⟨B,hB⟩:=bC w.heap.size;rw[<-hB]at Zn ⊢;have UY:Hid (w.heap.size<=B):=I (by rw[hB];exact bE _);clear hB;go_wp2_with fail;go_loopw[13] (λi wr=>∃j:Nat,j<=nk/\i=O j/\Hid (KJ wr B (Ck.cnt l j) (O 0) (Ck.fi (l.take j))/\bG w wr)) (λi _=>nk - (intOf i).toNat);case atStart=>exact⟨0,bL _,rfl,I ⟨Zn,HB0⟩⟩
 case round=>
  obtain⟨j,hj,rfl,HR⟩:=hrel;by_cases hjl:j<nk
  ·obtain⟨y,hy⟩:∃y,l[j]?=some y:=⟨_,bD (by rw[<-I5];exact hjl)⟩;have HY:=I hy;obtain⟨yi,yv,yf,g0,g1,g2,g3,I6⟩:=lK j y hy;obtain rfl:=H0 aX;have HZ:=I (M4 I6);obtain⟨hyI,hyV,Y3⟩:=I6.split;obtain⟨a1,b1,o1,c1,rfl,-⟩:=hyI;obtain⟨a2,b2,o2,c2,rfl,-⟩:=hyV;obtain⟨a3,b3,o3,c3,rfl,-⟩:=Y3;generalize y.imports.length=n1 at *;generalize y.vars.length=n2 at *;generalize y.bg.length=n3 at *;replace g0:=aD g0 HR.2;replace g1:=aD g1 HR.2;replace g2:=aD g2 HR.2;replace g3:=aD g3 HR.2;clear hy I6;go_upto_region 5 with fail;obtain⟨oP,HKB⟩:=rZ wr (aW #[A y.name,Y a1 n1 c1,Y a2 n2 c2,Y a3 n3 c3] 58);generalize wr.alloc (aW #[A y.name,Y a1 n1 c1,Y a2 n2 c2,Y a3 n3 c3] 58)=W5 at *;obtain⟨HM5,d9⟩:=bU (HR.1.below oP) (up HR.2 oP);generalize wr.heap.size=MK at *;have q0:=aj HKB 0;clear g0 g1 g2 g3;have LK:=HM5.caM.sw underlying95 AP HZ;cases hmo:dI (l.take j) y.name with
   | some n=>
    have e1:Ck.fi (l.take j) y.name=some (O (n:Nat)):=by unfold Ck.fi;rw[hmo];rfl
    rw[e1]at LK;simp only[iw,nP]at LK;obtain⟨NU,HCO⟩:=bU (fi_old HY (by rw[hmo];rfl)) (cnt_old HY (by rw[hmo];rfl));clear hmo e1;go_wp2_with fail;go_roundw;case rel=>exact⟨j+1,by omega,by go_num,I ⟨by rw[NU,HCO];exact HM5,d9⟩⟩
    case measure=>simp[intOf];omega
   | none=>
    have e1:Ck.fi (l.take j) y.name=none:=by unfold Ck.fi;rw[hmo];rfl
    obtain⟨w7,UP,hm7,hg7⟩:=HM5.put underlying95 (by have:=M0 l j;unfold maxLen;omega) HZ e1 (O (j:Nat));rw[e1]at LK;simp only[mJ,nQ]at LK;obtain⟨NU,HCO,VD⟩:=fD (fi_new HY hmo) (cnt_new HY hmo) hm7;have jG:Hid (bG w w7):=I (Below.grown d9 hg7 d9.size (λk e=>by injection e with e;rw[<-e];exact UY));clear hmo e1 hm7 hg7;go_wp2_with fail;go_roundw;case rel=>exact⟨j+1,by omega,by go_num,I ⟨by rw[NU,HCO];exact VD,jG⟩⟩
    case measure=>simp[intOf];omega
  ·obtain rfl:j=nk:=by omega
   have EJ:Hid (l.take j=l):=I (by rw[I5,jC]);have HRR:=I HR.out.1;rw[EJ]at HRR;go_wp2_with fail;go_ret;exact⟨B,rfl,I ⟨HRR,UY,HR.2⟩⟩
theorem form_any(m:Nat)(w:World)(vn vl vk:Value)(ss:List ByteArray)(G:Nat)(L:Nat->Nat)(Z:Nat->Nat->Bool)(l:List Mo)(hS:Strs w vn ss)(hR:Fg w vl G L Z)(hK:nD w m vk l)(hks:∀y∈l,vF m y<=1048576)(ht:Tab w):Calls prog 39 #[.agg #[vn,vl],vk] w λe w'=>e=dz (O (jU (bX ss G L Z) m l))/\bG w w':=by
 obtain⟨HT,HKS⟩:=bU ht hks;have HL:=I (λwx (hb:bG w wx)=>xS wx vn vl ss G L Z (hS.below hb) (hR.below hb));have KM:=I (λwx (hb:bG w wx) hl=>Aa m wx vk l (hK.below hb) hl);have HVL:Hid (∃a n c,vl=Y a n c):=I (by obtain⟨a,b,o,c,aag,RB,RO,C,rfl,-⟩:=hR;exact⟨_,_,_,rfl⟩);obtain⟨an,bn,on,cn,rfl,-⟩:=hS;obtain⟨al,nl,cl,rfl⟩:=HVL.out;obtain⟨ak,bk,ok,ck,rfl,hak,hlk,hck⟩:=hK;have uI:Hid (MoEl w m bk ok l):=hck;have HAK:=I hak;obtain⟨nk,hnk⟩:=bC l.length;have I5:=I hnk;rw[<-hnk]at hlk HAK KM ⊢;obtain⟨E,hE⟩:=bC (bX ss G L Z);rw[<-hE]at HL ⊢;obtain⟨R,hRR⟩:=bC (jU E m l);have HR:=I hRR;rw[<-hRR];generalize ss.length=nn at *;obtain⟨dQ,Aq⟩:=rZ w (aW #[Y an nn cn,Y al nl cl] 25);clear hR ht hks hak hck hnk hE hRR;go_enter func39,ntmps39;go_upto_region 1 with fail;generalize w.alloc (aW #[Y an nn cn,Y al nl cl] 25)=W0 at *;obtain⟨x0,x1⟩:=iV Aq;go_wp2_with fail;refine(HL _ dQ).mono ?_;rintro e w1 ⟨rfl,hb1⟩;have HB1:=I (up dQ hb1);clear hb1 x0 x1;by_cases h0:E=0
 ·subst h0;by_cases h6:6<nk
  ·have xV:Hid (R=2):=I (by rw[HR];unfold jU;rw[aJ dx,<-I5,aL h6]);have h6':((nk:Int) > 6):=by omega
   go_wp2_with fail;go_ret;exact⟨by rw[xV];rfl,HB1⟩
  ·have h6':¬((nk:Int) > 6):=by omega
   go_wp2_with fail;go_loopw[19] (λi wr=>∃j:Nat,j<=nk/\i=O j/\Hid ((∀(q:Nat) y,q<j->l[q]?=some y->sI m y=0)/\bG w wr)) (λi _=>nk - (intOf i).toNat);case atStart=>exact⟨0,bL _,rfl,I ⟨λq y hq=>aM hq (fT _),HB1⟩⟩
   case round=>
    obtain⟨j,hj,rfl,HH⟩:=hrel;have hnx:=HH.2;by_cases hjl:j<nk
    ·obtain⟨y,hy⟩:∃y,l[j]?=some y:=⟨_,bD (by rw[<-I5];exact hjl)⟩;obtain⟨yi,yv,yf,g0,g1,g2,g3,I6⟩:=uI j y hy;obtain rfl:=HAK aX;have HY:=I hy;replace g0:=aD g0 hnx;replace g1:=aD g1 hnx;replace g2:=aD g2 hnx;replace g3:=aD g3 hnx;have d9:=I (aH wr (aW #[A y.name,yi,yv,yf] 58));obtain⟨z0,z1,z2,z3⟩:=tZ (F5 wr (A y.name) yi yv yf 58) (DN wr (A y.name) yi yv yf 58) (DR wr (A y.name) yi yv yf 58) (DK wr (A y.name) yi yv yf 58);have HCY:=I (uU m _ _ y (I6.below (up hnx d9)) (HKS y (eT hy)) (HT.below (up hnx d9)));obtain⟨hyI,hyV,Y3⟩:=I6.split;obtain⟨a1,b1,o1,c1,rfl,-⟩:=hyI;obtain⟨a2,b2,o2,c2,rfl,-⟩:=hyV;obtain⟨a3,b3,o3,c3,rfl,-⟩:=Y3;obtain⟨ey,hey⟩:=bC (sI m y);have Zf:=I hey;rw[<-hey]at HCY;generalize y.imports.length=n1 at *;generalize y.vars.length=n2 at *;generalize y.bg.length=n3 at *;clear hy I6 hnx hey;go_wp2_with fail;refine HCY.mono ?_;rintro e w5 ⟨rfl,hb5⟩;have dX:=I (up (up HH.2 d9) hb5);clear hb5 g0 g1 g2 g3 z0 z1 z2 z3;by_cases h2:ey=0
     ·have HE2:Hid (sI m y=0):=I (by rw[<-Zf];exact h2);subst h2;go_wp2_with fail;go_roundw;case rel=>exact⟨j+1,by omega,by go_num,I ⟨λq z hq hz=>by
       by_cases e:q=j;·subst e;rw[HY]at hz;cases hz;exact HE2
       ·exact HH.1 q z aX hz,dX⟩⟩
      case measure=>simp[intOf];omega
     ·have HME:Hid (BF m l=ey):=I (by rw[Zf];exact Ic HY HH.1 (by rw[<-Zf];exact h2));have xV:Hid (R=ey):=I (by rw[HR];unfold jU;rw[aJ dx,<-I5,aJ h6,HME,aL h2]);have hz:=eP h2;clear h2;go_wp2_with fail;go_ret;exact⟨by rw[xV];rfl,dX⟩
    ·obtain rfl:j=nk:=by omega
     have HME:Hid (BF m l=0):=I (by refine Pz λy hy=>?_;obtain⟨i,hi,rfl⟩:=gZ.1 hy;exact HH.1 i _ (by have:=I5.out;omega) (bD hi));have xV:Hid (R=if Ck.cnt l j<j then 5 else 0):=I (by rw[HR];unfold jU;rw[aJ dx,<-I5,aJ h6,HME,aJ dx]);have Lm:=I (KM wr hnx aX);clear hnx;go_wp2_with fail;refine Lm.mono ?_;rintro e w7 ⟨b7,rfl,Ho⟩;obtain⟨hm7,-,sW⟩:=Ho.out;have jG:=I (up HH.2 sW);have LN:=hm7.len underlying95;obtain⟨c,hc⟩:=bC (Ck.cnt l j);rw[<-hc]at LN xV;clear Ho hm7 sW hc;by_cases hlt:c<j
     ·have hlt':(c:Int)<(j:Int):=by omega
      rw[aL hlt]at xV;go_wp2_with fail;go_ret;exact⟨by rw[xV];rfl,jG⟩
     ·have hlt':¬(c:Int)<(j:Int):=by omega
      rw[aJ hlt]at xV;go_wp2_with fail;go_ret;exact⟨by rw[xV];rfl,jG⟩
 ·have xV:Hid (R=E):=I (by rw[HR];unfold jU;rw[aL h0]);have hz:=eP h0;clear h0;go_wp2_with fail;go_ret;exact⟨by rw[xV];rfl,HB1⟩
end Go.Proofs.YtbgkpehhdibaoaaGreatDoor
