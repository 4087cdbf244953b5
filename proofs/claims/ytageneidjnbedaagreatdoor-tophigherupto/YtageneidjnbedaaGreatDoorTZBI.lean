import Derived.Test.YtageneidjnbedaaGreatDoorTZBC
import Derived.Test.YtageneidjnbedaaGreatDoorTZBA
set_option maxHeartbeats 0
set_option maxRecDepth 99999
namespace Go.Proofs.YtageneidjnbedaaGreatDoor
open bS bO Rn
open Go.Proofs.Tryz
open Go.ChangeShapes Go.WideShapes Go.ChangeAt Go.RowKit Go.Deep Go.Joins
section
variable {H : Type} {enc : TypeId × Value → H} {W : World}
theorem abk{p:Nat}{cs:List aC}{d:DataW H}{pl:List MemPlace}(D:cs.length=4)(h:DataW.trod enc prog W 0 (λ_=>true) true p 47 cs=some (d,pl)):∃x t B vf,cs=[A x.name,t,B,vf]/\jl W p (.agg #[A x.name,t,B,vf]) x/\xH p x<=Rows.uptoBulk d/\Bg W t vf:=by obtain⟨Q,n,K,y,L,G,q⟩:=Jw underlying47 h;obtain⟨e,f,g,i,rfl⟩:=Nb D;obtain⟨y0,y1,y2,y3,rfl⟩:=Nb (by simpa using G);have r:DataW.trod enc prog W 0 (λ_=>true) true n 9 (([e,f,g,i].drop 0).take (prog.cellsOf 9))=some y0:=q 0 _ rfl;rw[nZ]at r;simp only[List.drop,List.take]at r;have f1:DataW.trod enc prog W 0 (λ_=>true) true n 22 (([e,f,g,i].drop 1).take (prog.cellsOf 22))=some y1:=q 1 _ rfl;rw[Fg]at f1;simp only[List.drop,List.take]at f1;have s:DataW.trod enc prog W 0 (λ_=>true) true n 44 (([e,f,g,i].drop 2).take (prog.cellsOf 44))=some y2:=q 2 _ rfl;rw[acQ]at s;simp only[List.drop,List.take]at s;have a:DataW.trod enc prog W 0 (λ_=>true) true n 45 (([e,f,g,i].drop 3).take (prog.cellsOf 45))=some y3:=q 3 _ rfl;rw[acR]at a;simp only[List.drop,List.take]at a;obtain⟨I,u,rfl,E⟩:=Di underlying9 r;simp at u;subst u;obtain⟨im,C,N⟩:=Jy f1;obtain⟨va,F,P⟩:=acT s;obtain⟨fu,v,M⟩:=acU a;simp only[pO]at y;obtain⟨rfl,_⟩:=y;refine⟨⟨I,im,va,fu⟩,_,_,_,rfl,⟨_,_,_,rfl,E,C,F,v.Yr bC⟩,?_,Kl underlying22 f1,Kl underlying45 a,Td a⟩;unfold xH;rw[Jz v (k:=p) bC];simp only[fZ,jV,Rows.uptoBulk,Rows.uptoBulkAll,sK];omega
end
namespace Rn
theorem Ga{α:Type}[DecidableEq α]:∀{l r:List α},l.Nodup->(∀x∈l,x∈r)->l.length<=r.length
 | [],_,_,_=>bN _
 | a::l,r,d,f=>by have e:=f a cK;rw[List.nodup_cons]at d;have i:=Ga (l:=l) (r:=r.erase a) d.2 (λx g=>(List.mem_erase_of_ne (λh=>by subst h;exact d.1 g)).2 (f x<|by simp[g]));rw[List.length_erase_of_mem e]at i;have:=List.length_pos_of_mem e;rw[vN];omega
end Rn
namespace Rn
def leS(a b:ByteArray):Prop:=a.data.toList<=b.data.toList
def ltS(a b:ByteArray):Prop:=leS a b/\a≠b
theorem TJ{a b:aS}(h:leS a b)(k:leS b a):a=b:=by have e:=List.le_antisymm h k;obtain⟨⟨x⟩⟩:=a;obtain⟨⟨y⟩⟩:=b;simp at e;rw[e]
theorem NY(l:aJ):(jZ l).Perm l:=by
 unfold jZ;have h:=(List.mergeSort_perm (l.map (·.data.toList)) (λx y=>decide (x<=y))).map (λb:List UInt8=>(⟨b.toArray⟩:aS));refine h.trans (List.Perm.of_eq ?_);rw[List.map_map];have:((λb:List UInt8=>(⟨b.toArray⟩:aS)) ∘ λx:aS=>x.data.toList)=id:=by funext x;cases x;simp
 rw[this,List.map_id]
theorem Et(l:aJ):(jZ l).Pairwise leS:=by unfold jZ;rw[List.pairwise_map];have h:=List.pairwise_mergeSort (le:=λx y:List UInt8=>decide (x<=y)) (λa b c h1 h2=>by simp only[iy]at *;exact List.le_trans h1 h2) (λa b=>by simp only[GK,iy];exact List.le_total a b) (l.map (·.data.toList));refine h.imp (λ{a b} hab=>?_);unfold leS;simpa using hab
theorem KV(l:aJ)(h:l.Pairwise leS):(gP l).Pairwise ltS:=by
 have D:∀j,j<=l.length->(gP<|l.take j).Pairwise ltS:=λj=>by
  induction j with
  | zero=>intro _;simp[gP]
  | succ j C=>
   intro E;have u:l[j]?=some l[j]:=aZ bC;rw[zZ u];have f:=C bC;have g:∀z∈gP (l.take j),leS z l[j]:=λz a=>by rw[yY]at a;obtain⟨i,r,d⟩:=gU.1 a;rw[iA]at r;rw[List.getElem_take]at d;rw[<-d];exact Px.1 h i j bC bC bC
   unfold BS;split
   ·rename_i y q;split;·exact f
    ·rename_i t;rw[FP];refine⟨f,by simp,λz a x p=>?_⟩;simp at p;subst p;refine⟨g z a,λd=>t ?_⟩;have v:leS z y:=by
      obtain⟨F,s⟩:=List.getLast?_eq_some_iff.1 q;rw[s]at a f;rcases bX.1 a with e|e;·exact((FP.1 f).2.2 z e y cK).1
      ·simp at e;subst e;exact List.le_refl _
     have B:y∈gP (l.take j):=SC q;have:=TJ (g y B) (by rw[<-d];exact v);exact dM.2 this.symm
   ·rename_i k;rw[List.getLast?_eq_none_iff]at k;rw[k];simp
 have:=D l.length<|bG _;rwa[jQ]at this
theorem KW:∀{g i:aJ},g.Pairwise ltS->i.Pairwise ltS->(∀x,x∈g↔x∈i)->g=i
 | [],[],_,_,_=>rfl
 | [],y::_,_,_,h=>aM ((h y).2 cK) cK
 | x::_,[],_,_,h=>aM ((h x).1 cK) cK
 | x::r,y::s,k,p,h=>by
  obtain⟨e,f⟩:=eY (uT.1 k)<|uT.1 p;have q:x=y:=by
   rcases fV.1 ((h x).1 cK)with a|hx;·exact a
   ·rcases fV.1 ((h y).2 cK)with a|hy;·exact a.symm
    ·exact TJ (e.1 y hy).1 (f.1 x hx).1
  subst q;congr 1;refine KW e.2 f.2 λz=>?_;constructor
  ·intro d;rcases fV.1 ((h z).1 (l8 _ d))with a|hz';·subst a;exact aM rfl (e.1 z d).2
   ·exact hz'
  ·intro d;rcases fV.1 ((h z).2 (l8 _ d))with a|hz';·subst a;exact aM rfl (f.1 z d).2
   ·exact hz'
end Rn
variable{l:List Mo}{j m:Nat}{x:Mo}
theorem afC(m:Nat)(w:bI)(vn vl vi vv vf vk:aC)(ss:aJ)(G:Nat)(L:Nat->Nat)(Z:aL)(x:Mo)(known:List Mo)(hS:Strs w vn ss)(hR:EX w vl G L Z)(h:jl w m (.agg #[A x.name,vi,vv,vf]) x)(hK:jN w m vk known)(hw:xH m x<=1048576)(aw:∀y∈known,xH m y<=1048576)(ht:Tab w):aD 99 #[.agg #[vn,vl],.agg #[A x.name,vi,vv,vf],vk] w λf w'=>f=dz (O<|AO (dD ss G L Z) m x known)/\bK w w':=by
 obtain⟨HT,Zf⟩:=bV ht aw;have HL:=Y (λt (s:bK w t)=>zW t vn vl ss G L Z (hS.below s)<|hR.below s);have HM:=Y (λt (s:bK w t)=>tF m t _ x (h.below s) (bE hw bM)<|ht.below s);obtain⟨hI,hV,hF⟩:=h.split;obtain⟨an,bn,on,V,rfl,-⟩:=hS;obtain⟨P,bi,oi,ci,rfl,-⟩:=hI;obtain⟨Q,bv,ov,cv,rfl,-⟩:=hV;obtain⟨N,bf,of,U,rfl,-⟩:=hF;obtain⟨ak,bk,ok,ck,rfl,al,az,ar⟩:=hK;have wV:J (Im w m bk ok known):=ar;have ad:=Y al;obtain⟨nk,ac⟩:=aV known.length;have LW:=Y ac;rw[<-ac]at az ad ⊢;obtain⟨g,au⟩:=aV<|dD ss G L Z;rw[<-au]at HL ⊢;obtain⟨D,aa⟩:=aV<|oO m x;rw[<-aa]at HM;have a:J (AO g m x known=if g=0 then (if D=0 then um m known else D)else g):=Y (by rw[aa];rfl);obtain⟨R,ah⟩:=aV<|AO g m x known;rw[<-ah]at a ⊢;generalize x.imports.length=ni at *;generalize x.vars.length=nv at *;generalize x.bq.length=nf at *;generalize ss.length=nn at *;obtain⟨a8,aA⟩:∃v,v=vl:=⟨_,rfl⟩;obtain⟨S,e,ao⟩:=al2 w (aY #[X an nn V,vl] 25)<|aY #[A x.name,X P ni ci,X Q nv cv,X N nf U] 47;have Fy:=Y ao;obtain⟨q0,q1,r0,r1⟩:=rY ((aj S 0).trans (rfl:_=some (X an nn V))) ((aj S 1).trans (rfl:_=some vl)) ((aj e 0).trans (rfl:_=some (A x.name))) ((aj e 1).trans (rfl:_=some (X P ni ci)));obtain⟨r2,r3⟩:=eY ((aj e 2).trans (rfl:_=some (X Q nv cv))) ((aj e 3).trans (rfl:_=some (X N nf U)));clear h hR ht aw al ar ac au aa ah aA S e ao;go_enter func99,ntmps99;go_wp2_with fail;generalize ((w.alloc<|aY #[X an nn V,vl] 25).alloc (aY #[A x.name,X P ni ci,X Q nv cv,X N nf U] 47))=W0 at *;refine(HL _ Fy).mono ?_;rintro f w1 ⟨rfl,k⟩;have I:=Y<|up Fy k;replace r0:=aG r0 k;replace r1:=aG r1 k;replace r2:=aG r2 k;replace r3:=aG r3 k;clear k q0 q1;by_cases E:g=0
 ·subst E;rw[aK rfl]at a;go_wp2_with fail;refine(HM _ I).mono ?_;rintro f w2 ⟨rfl,ap⟩;have ae:=Y<|up I ap;clear ap r0 r1 r2 r3;by_cases F:D=0
  ·subst F;rw[aK rfl]at a;go_wp2_with fail;go_loopw[24] (λi wr=>∃j:Nat,j<=nk/\i=O j/\(∀(q:Nat) y,q<j->known[q]?=some y->oO m y=0)/\bK w wr) (λi _=>nk - (intOf i).toNat);exact⟨0,bN _,rfl,λq y hq=>aM hq<|fU _,ae⟩
   obtain⟨j,hj,rfl,am,d⟩:=hrel;obtain⟨eP,fT⟩:=bV am d;clear am;by_cases ay:j<nk
   ·obtain⟨y,p⟩:∃y,known[j]?=some y:=⟨_,aZ (by rw[<-LW];exact ay)⟩;obtain⟨B,C,u,g0,g1,g2,g3,M⟩:=wV j y p;obtain rfl:=ad bC;have HY:=Y p;replace g0:=aG g0 d;replace g1:=aG g1 d;replace g2:=aG g2 d;replace g3:=aG g3 d;have eD:=Y<|aH wr<|aY #[A y.name,B,C,u] 47;obtain⟨z0,z1,z2,z3⟩:=rY (GD wr (A y.name) B C u 47) (GH wr (A y.name) B C u 47) (GI wr (A y.name) B C u 47)<|Gz wr (A y.name) B C u 47;have ag:=Y<|tF m _ _ y (M.below<|up d eD) (bE (Zf y<|dG p) bM)<|HT.below<|up d eD;obtain⟨a0,a4,aE⟩:=M.split;obtain⟨a1,e,o1,c1,rfl,-⟩:=a0;obtain⟨a2,b2,o2,c2,rfl,-⟩:=a4;obtain⟨a3,b3,o3,c3,rfl,-⟩:=aE;obtain⟨ey,ab⟩:=aV<|oO m y;have K:=Y ab;rw[<-ab]at ag;generalize y.imports.length=n1 at *;generalize y.vars.length=n2 at *;generalize y.bq.length=n3 at *;clear p M d ab;go_wp2_with fail;refine ag.mono ?_;rintro f w5 ⟨rfl,aq⟩;have fD:=Y<|up (up fT eD) aq;clear aq g0 g1 g2 g3 z0 z1 z2 z3;by_cases r:ey=0
    ·have ax:J (oO m y=0):=Y (by rw[<-K];exact r);subst r;go_wp2;go_roundw;exact⟨j+1,by omega,by go_num,λq z hq hz=>by
      by_cases f:q=j;·subst f;rw[HY]at hz;cases hz;exact ax
      ·exact eP q z bC hz,fD⟩
     exact gV
    ·have a7:(ey==0)=false:=by simp[r]
     have nL:J (R=ey):=Y (by rw[a,K];exact Cu HY eP (by rw[<-K];exact r));clear r;go_wp2;go_ret;exact⟨by rw[nL];rfl,fD⟩
   ·have nL:J (R=0):=Y (by rw[a];refine KM λy p=>?_;obtain⟨i,hi,rfl⟩:=gU.1 p;exact eP i _ (by have:=LW.out;omega) (aZ hi));clear d;go_wp2;go_ret;exact⟨by rw[nL];rfl,fT⟩
  ·have a6:(D==0)=false:=by simp[F]
   rw[aI F]at a;clear F;go_wp2;go_ret;exact⟨by rw[a];rfl,ae⟩
 ·have a5:(g==0)=false:=by simp[E]
  rw[aI E]at a;clear E;go_wp2;go_ret;exact⟨by rw[a];rfl,I⟩
open Go.Maps Go.WideMaps
def NZ(w:World)(b n:Nat)(z:Value)(o:ByteArray->Option Value):Prop:=
 ∃D:DataW Value,w.ownsMap prog 9 sW b n D/\(∀s:ByteArray,s.size<=maxLen->
  (Maps.has D (.string s.data.toList)=(o s).isSome/\D.atKey (.string s.data.toList) (.held z)=.held ((o s).getD z)))/\Maps.size D=n
section
variable {w w' : World} {b n : Nat} {z : Value} {o : ByteArray → Option Value}
theorem NZ.caM(h:NZ w b n z o):qo w b n z o:=by obtain⟨D,a,d,_⟩:=h;exact⟨D,a,d⟩
theorem NZ.same(h:NZ w b n z o)(g:w'.heap[b]?=w.heap[b]?):NZ w' b n z o:=by obtain⟨D,⟨e,a,d,r⟩,f⟩:=h;exact⟨D,⟨e,a,g.trans d,r⟩,f⟩
theorem NZ.lt(h:NZ w b n z o):b<w.heap.size:=h.caM.lt
theorem NZ.below(h:NZ w b n z o)(a:bK w w'):NZ w' b n z o:=h.same<|a.block b h.lt
theorem qo.Cw(h:qo w b n z o)(a:bK w w'):qo w' b n z o:=h.same<|a.block b h.lt
theorem NZ.new(w:bI)(z:aC):NZ (w.alloc<|.map #[] 0) w.heap.size 0 z (λ_=>none):=
 ⟨.map [],World.ownsMap_made _ _ _ _,λ_ _=>⟨rfl,rfl⟩,rfl⟩
theorem NZ.put{t e:TypeId}(f:prog.underlying t=some (.map 9 e))(h:NZ w b n z o)(r:n<maxLen){s:ByteArray}(i:s.size<=maxLen)(u:o s=none)(v:Value):∃w',(Instr.mapUpdate t (.map<|some b) (.string s) v).run prog w=.ok () w'/\NZ w' b (n+1) z (oQ o s v)/\w.grownBy w' (some b):=by
 obtain⟨D,d,g,k⟩:=h;obtain⟨w',e,p,q⟩:=d.update uY f r (keyOf_string_mk underlying9 i)<|show sW v=some (.held v,[])from rfl;refine⟨w',e,⟨_,p,λt f=>?_,?_⟩,q⟩
 ·cases a:cB t s with
  | true =>have:=key_eq a;subst this;rw[has_put_same d.isMap (show WideAt.IsKeyLit (.string t.data.toList)from trivial),atKey_put_same d.isMap<|show WideAt.IsKeyLit (.string t.data.toList)from trivial];simp[oQ,a]
  | false =>rw[has_put_other (yV a),atKey_put_other<|yV a];simpa[oQ,a]using g t f
 ·rw[size_put (d.tidy uY),(g s i).1,u,k];rfl
theorem NZ.len{t d:TypeId}(g:prog.underlying t=some (.map 9 d))(h:NZ w b n z o)(a:TypeId):(Builtin.len_ #[t] a #[.map (some b)]).run prog w=.ok (O n) w:=by obtain⟨D,f,_,e⟩:=h;rw[f.len g a,e]
end
namespace Ck
def fi(l:List Mo)(s:ByteArray):Option Value:=(dQ l s).map λn=>.int .i64 (n:Nat)
def cnt(l:List Mo):Nat->Nat
 | 0=>0
 | j+1=>cnt l j+match l[j]? with|some x=>if (dQ (l.take j) x.name).isSome then 0 else 1|none=>0
def nN(E:Int)(m:Nat)(l:List Mo):Int:=
 if E≠0 then E else if 6<l.length then 2 else if um m l≠0 then um m l else if cnt l l.length<l.length then 5 else 0
def iw(l:List Mo)(s:ByteArray)(i:Nat):Bool:=match l[i]? with|some x=>cB x.name s|none=>false
theorem Zl(l:List Mo)(s:aS):dQ l s=(List.range l.length).find? (iw l s):=rfl
theorem find_congr{α:Type}{p q:α->Bool}:∀{l:List α},(∀x∈l,p x=q x)->l.find? p=l.find? q
 | [],_=>rfl
 | x::l,h=>by rw[List.find?_cons,List.find?_cons,h x List.mem_cons_self,find_congr (l:=l) λy a=>h y<|l8 _ a]
theorem abl(l:List Mo)(x:Mo)(s:aS):dQ (l++[x]) s=match dQ l s with|some n=>some n|none=>if cB x.name s then some l.length else none:=by
 rw[Zl,Zl,bg,iI,Ji,List.find?_append];rw[find_congr (p:=iw (l++[x]) s) (q:=iw l s) λi d=>by unfold iw;rw[jX (jE.1 d)]];cases(List.range l.length).find? (iw l s)with
 | some n=>rfl
 | none=>
  have a:iw (l++[x]) s l.length=cB x.name s:=by unfold iw;rw[kL (bG _),mW];rfl
  rw[Option.none_or,List.find?_cons,a];cases cB x.name s<;>rfl
theorem N7(a:l[j]?=some x)(s:aS):dQ (l.take<|j+1) s=match dQ (l.take j) s with|some n=>some n|none=>if cB x.name s then some j else none:=by rw[gy,a,kI,abl,iA];have:=(cO.1 a).1;rw[Nat.min_eq_left bC]
theorem ak4(e:l[j]?=some x)(h:(dQ (l.take j) x.name).isSome=true):fi (l.take<|j+1)=fi (l.take j):=by
 funext s;unfold fi;rw[N7 e];cases d:dQ (l.take j) s with
 | some n=>rfl
 | none=>
  cases a:cB x.name s with
  | false=>rfl
  | true =>have:=dM.1 a;subst this;rw[d]at h;cases h
theorem ak5(g:l[j]?=some x)(h:dQ (l.take j) x.name=none):fi (l.take<|j+1)=oQ (fi<|l.take j) x.name (O (j:Nat)):=by
 funext s;unfold fi oQ;rw[N7 g];cases a:cB s x.name with
 | true =>have:=dM.1 a;subst this;rw[h];simp[cB]
 | false=>
  have f:cB x.name s=false:=by
   cases d:cB x.name s with
   | false=>rfl
   | true=>have:=dM.1 d;subst this;rw[d]at a;cases a
  cases e:dQ (l.take j) s with
  | some n=>simp[e]
  | none=>simp[f,e]
theorem aie(a:l[j]?=some x)(h:(dQ (l.take j) x.name).isSome=true):cnt l (j+1)=cnt l j:=by rw[cnt,a];simp only[h,if_true,sN]
theorem aif(a:l[j]?=some x)(h:dQ (l.take j) x.name=none):cnt l (j+1)=cnt l j+1:=by rw[cnt,a];simp[h]
theorem KY(l:List Mo):∀j,cnt l j<=j
 | 0=>bG _
 | j+1=>by
  have:=KY l j;rw[cnt];split;·split<;>omega
  ·omega
end Ck
open Ck
theorem Qj{w:bI}{v:aC}(h:jl w m v x):x.name.size<=maxLen:=by obtain⟨_,_,_,_,h,_⟩:=h;exact h
theorem adB(n:Int)(w:bI):(Instr.makeMap 58<|some<|O n).run prog w=.ok (.map<|some w.heap.size) (w.alloc<|.map #[] 0):=by simp[Instr.makeMap,run_underlying underlying58,asInt,asIntOf,Result.andThen]
theorem Cy(m:Nat)(w:bI)(v:aC)(l:List Mo)(h:jN w m v l)(hl:l.length<=1048576):aD 13 #[v] w λg w'=>∃b,g=dz (.map<|some b)/\J (NZ w' b (Ck.cnt l l.length) (O 0) (Ck.fi l)/\w.heap.size<=b/\bK w w'):=by
 obtain⟨a,b,off,cap,rfl,h0,-,aa⟩:=h;obtain⟨M,j5⟩:=bV h0 aa;obtain⟨nk,K⟩:=aV l.length;have R:=Y K;rw[<-K]at hl M ⊢;obtain⟨N,ad⟩:=bV (NZ.new w<|O 0)<|aH w<|.map #[] 0;have ag:=adB;clear h0 aa K;go_enter func13,ntmps13;go_upto_region 2 with fail;clear ag;generalize w.alloc (.map #[] 0)=W at *;obtain⟨B,I⟩:=aV w.heap.size;rw[<-I]at N ⊢;have S:J (w.heap.size<=B):=Y (by rw[I];exact bG _);clear I;go_wp2_with fail;go_loopw[13] (λi wr=>∃j:Nat,j<=nk/\i=O j/\J (NZ wr B (Ck.cnt l j) (O 0) (Ck.fi<|l.take j)/\bK w wr)) (λi _=>nk - (intOf i).toNat);exact⟨0,bN _,rfl,Y ⟨N,ad⟩⟩
 obtain⟨j,hj,rfl,d⟩:=hrel;by_cases af:j<nk
 ·obtain⟨y,L⟩:∃y,l[j]?=some y:=⟨_,aZ (by rw[<-R];exact af)⟩;have p:=Y L;obtain⟨yi,yv,yf,D,E,F,G,s⟩:=j5 j y L;obtain rfl:=M bC;have Q:=Y<|Qj s;obtain⟨ai,ak,ah⟩:=s.split;obtain⟨U,b1,o1,c1,rfl,-⟩:=ai;obtain⟨V,b2,o2,c2,rfl,-⟩:=ak;obtain⟨Z,b3,o3,c3,rfl,-⟩:=ah;generalize y.imports.length=n1 at *;generalize y.vars.length=n2 at *;generalize y.bq.length=n3 at *;replace D:=aG D d.2;replace E:=aG E d.2;replace F:=aG F d.2;replace G:=aG G d.2;clear L s;go_upto_region 5 with fail;obtain⟨qO,ae⟩:=sO wr<|aY #[A y.name,X U n1 c1,X V n2 c2,X Z n3 c3] 47;generalize wr.alloc (aY #[A y.name,X U n1 c1,X V n2 c2,X Z n3 c3] 47)=W5 at *;obtain⟨u,C⟩:=bV (d.1.below qO)<|up d.2 qO;generalize wr.heap.size=MK at *;have q0:=aj ae 0;clear D E F G;have q:=u.caM.sS underlying58 Dq Q;cases e:dQ (l.take j) y.name with
  | some n=>
   have f:Ck.fi (l.take j) y.name=some (O (n:Nat)):=by unfold Ck.fi;rw[e];rfl
   rw[f]at q;simp only[gD,nD]at q;obtain⟨t,r⟩:=bV (ak4 p (by rw[e];rfl)) (aie p (by rw[e];rfl));clear e f;go_wp2;go_roundw;exact⟨j+1,by omega,by go_num,Y ⟨by rw[t,r];exact u,C⟩⟩;exact gV
  | none=>
   have f:Ck.fi (l.take j) y.name=none:=by unfold Ck.fi;rw[e];rfl
   obtain⟨w7,UP,ac,ab⟩:=u.put underlying58 (by have:=KY l j;unfold maxLen;omega) Q f (O (j:Nat));rw[f]at q;simp only[lK,nE]at q;obtain⟨t,r,Zm⟩:=fE (ak5 p e) (aif p e) ac;have kG:J (bK w w7):=Y (Below.grown C ab C.size (λk g=>by injection g with g;rw[<-g];exact S));clear e f ac ab;go_wp2;go_roundw;exact⟨j+1,by omega,by go_num,Y ⟨by rw[t,r];exact Zm,kG⟩⟩;exact gV
 ·obtain rfl:j=nk:=by omega
  have DU:J (l.take j=l):=Y (by rw[R,jQ]);have P:=Y d.out.1;rw[DU]at P;go_wp2;go_ret;exact⟨B,rfl,Y ⟨P,S,d.2⟩⟩
theorem ae4(m:Nat)(w:bI)(vn F vk:aC)(ss:aJ)(G:Nat)(L:Nat->Nat)(Z:aL)(l:List Mo)(hS:Strs w vn ss)(hR:EX w F G L Z)(hK:jN w m vk l)(am:∀y∈l,xH m y<=1048576)(ht:Tab w):aD 5 #[.agg #[vn,F],vk] w λg w'=>g=dz (O<|nN (dD ss G L Z) m l)/\bK w w':=by
 obtain⟨HT,Zf⟩:=bV ht am;have HL:=Y (λs (E:bK w s)=>zW s vn F ss G L Z (hS.below E)<|hR.below E);have KZ:=Y (λs (E:bK w s) hl=>Cy m s vk l (hK.below E) hl);have Ah:J (∃a n c,F=X a n c):=Y (by obtain⟨a,b,o,c,Zk,RB,RO,C,rfl,-⟩:=hR;exact⟨_,_,_,rfl⟩);obtain⟨an,bn,on,cn,rfl,-⟩:=hS;obtain⟨al,nl,cl,rfl⟩:=Ah.out;obtain⟨ak,bk,ok,ck,rfl,af,av,ai⟩:=hK;have wV:J (Im w m bk ok l):=ai;have ad:=Y af;obtain⟨nk,ac⟩:=aV l.length;have p:=Y ac;rw[<-ac]at av ad KZ ⊢;obtain⟨I,hE⟩:=aV<|dD ss G L Z;rw[<-hE]at HL ⊢;obtain⟨R,aa⟩:=aV<|nN I m l;have B:=Y aa;rw[<-aa];generalize ss.length=nn at *;obtain⟨eT,EW⟩:=sO w<|aY #[X an nn cn,X al nl cl] 25;clear hR ht am af ai ac hE aa;go_enter func5,ntmps5;go_upto_region 1 with fail;generalize w.alloc (aY #[X an nn cn,X al nl cl] 25)=W0 at *;obtain⟨x0,x1⟩:=jv EW;go_wp2_with fail;refine(HL _ eT).mono ?_;rintro g w1 ⟨rfl,ag⟩;have K:=Y<|up eT ag;clear ag x0 x1;by_cases D:I=0
 ·subst D;by_cases h6:6<nk
  ·have d:J (R=2):=Y (by rw[B];unfold nN;rw[aI cK,<-p,aK h6]);have ar:((nk:Int) > 6):=by omega
   go_wp2;go_ret;exact⟨by rw[d];rfl,K⟩
  ·have ar:¬((nk:Int) > 6):=by omega
   go_wp2_with fail;go_loopw[19] (λi wr=>∃j:Nat,j<=nk/\i=O j/\J ((∀(q:Nat) y,q<j->l[q]?=some y->oO m y=0)/\bK w wr)) (λi _=>nk - (intOf i).toNat);exact⟨0,bN _,rfl,Y ⟨λq y hq=>aM hq<|fU _,K⟩⟩
   obtain⟨j,hj,rfl,f⟩:=hrel;have e:=f.2;by_cases au:j<nk
   ·obtain⟨y,k⟩:∃y,l[j]?=some y:=⟨_,aZ (by rw[<-p];exact au)⟩;obtain⟨u,v,t,U,V,g2,g3,P⟩:=wV j y k;obtain rfl:=ad bC;have HY:=Y k;replace U:=aG U e;replace V:=aG V e;replace g2:=aG g2 e;replace g3:=aG g3 e;have Q:=Y<|aH wr<|aY #[A y.name,u,v,t] 47;obtain⟨z0,z1,z2,z3⟩:=rY (GD wr (A y.name) u v t 47) (GH wr (A y.name) u v t 47) (GI wr (A y.name) u v t 47)<|Gz wr (A y.name) u v t 47;have ae:=Y<|tF m _ _ y (P.below<|up e Q) (bE (Zf y<|dG k) bM)<|HT.below<|up e Q;obtain⟨ay,az,ax⟩:=P.split;obtain⟨a1,b1,o1,c1,rfl,-⟩:=ay;obtain⟨a2,b2,o2,c2,rfl,-⟩:=az;obtain⟨a3,b3,o3,c3,rfl,-⟩:=ax;obtain⟨S,ab⟩:=aV<|oO m y;have M:=Y ab;rw[<-ab]at ae;generalize y.imports.length=n1 at *;generalize y.vars.length=n2 at *;generalize y.bq.length=n3 at *;clear k P e ab;go_wp2_with fail;refine ae.mono ?_;rintro g w5 ⟨rfl,ah⟩;have fD:=Y<|up (up f.2 Q) ah;clear ah U V g2 g3 z0 z1 z2 z3;by_cases h:S=0
    ·have aq:J (oO m y=0):=Y (by rw[<-M];exact h);subst h;go_wp2;go_roundw;exact⟨j+1,by omega,by go_num,Y ⟨λq z hq r=>by
      by_cases g:q=j;·subst g;rw[HY]at r;cases r;exact aq
      ·exact f.1 q z bC r,fD⟩⟩
     exact gV
    ·have N:J (um m l=S):=Y (by rw[M];exact Cu HY f.1 (by rw[<-M];exact h));have d:J (R=S):=Y (by rw[B];unfold nN;rw[aI cK,<-p,aI h6,N,aK h]);have r:=eO h;clear h;go_wp2;go_ret;exact⟨by rw[d];rfl,fD⟩
   ·obtain rfl:j=nk:=by omega
    have N:J (um m l=0):=Y (by refine KM λy k=>?_;obtain⟨i,hi,rfl⟩:=gU.1 k;exact f.1 i _ (by have:=p.out;omega) (aZ hi));have d:J (R=if Ck.cnt l j<j then 5 else 0):=Y (by rw[B];unfold nN;rw[aI cK,<-p,aI h6,N,aI cK]);have OI:=Y<|KZ wr e bC;clear e;go_wp2_with fail;refine OI.mono ?_;rintro g w7 ⟨b7,rfl,Ky⟩;obtain⟨ap,-,ug⟩:=Ky.out;have kG:=Y<|up f.2 ug;have LN:=ap.len underlying58;obtain⟨c,hc⟩:=aV<|Ck.cnt l j;rw[<-hc]at LN d;clear Ky ap ug hc;by_cases ao:c<j
    ·have aw:(c:Int)<(j:Int):=by omega
     rw[aK ao]at d;go_wp2;go_ret;exact⟨by rw[d];rfl,kG⟩
    ·have aw:¬(c:Int)<(j:Int):=by omega
     rw[aI ao]at d;go_wp2;go_ret;exact⟨by rw[d];rfl,kG⟩
 ·have d:J (R=I):=Y (by rw[B];unfold nN;rw[aK D]);have r:=eO D;clear D;go_wp2;go_ret;exact⟨by rw[d];rfl,K⟩
