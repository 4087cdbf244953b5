import Derived.Test.YtiebmbnfedbdeaaGreatDoorTZBC
import Derived.Test.YtiebmbnfedbdeaaGreatDoorTZBA
set_option maxHeartbeats 0
set_option maxRecDepth 99999
namespace Go.Proofs.YtiebmbnfedbdeaaGreatDoor
open bS bO Rn
open Go.Proofs.Tryz
open Go.ChangeShapes Go.WideShapes Go.ChangeAt Go.RowKit Go.Deep Go.Joins
section
variable {H : Type} {enc : TypeId × Value → H} {W : World}
theorem abk{fuel:Nat}{cs:List aC}{d:DataW H}{pl:List MemPlace}(C:cs.length=4)(y:DataW.trod enc prog W 0 (λ_=>true) true fuel 59 cs=some (d,pl)):∃x q u vf,cs=[A x.name,q,u,vf]/\jl W fuel (.agg #[A x.name,q,u,vf]) x/\xH fuel x<=Rows.uptoBulk d/\Bg W q vf:=by obtain⟨S,n,L,t,N,F,h⟩:=Jw underlying59 y;obtain⟨c,e,f,g,rfl⟩:=Nb C;obtain⟨y0,y1,y2,y3,rfl⟩:=Nb (by simpa using F);have i:DataW.trod enc prog W 0 (λ_=>true) true n 9 (([c,e,f,g].drop 0).take (prog.cellsOf 9))=some y0:=h 0 _ rfl;rw[nZ]at i;simp only[List.drop,List.take]at i;have f1:DataW.trod enc prog W 0 (λ_=>true) true n 22 (([c,e,f,g].drop 1).take (prog.cellsOf 22))=some y1:=h 1 _ rfl;rw[Fg]at f1;simp only[List.drop,List.take]at f1;have p:DataW.trod enc prog W 0 (λ_=>true) true n 56 (([c,e,f,g].drop 2).take (prog.cellsOf 56))=some y2:=h 2 _ rfl;rw[acQ]at p;simp only[List.drop,List.take]at p;have a:DataW.trod enc prog W 0 (λ_=>true) true n 57 (([c,e,f,g].drop 3).take (prog.cellsOf 57))=some y3:=h 3 _ rfl;rw[acR]at a;simp only[List.drop,List.take]at a;obtain⟨I,r,rfl,D⟩:=Di underlying9 i;simp at r;subst r;obtain⟨G,B,Q⟩:=Jy f1;obtain⟨K,E,R⟩:=acT p;obtain⟨v,s,P⟩:=acU a;simp only[pO]at t;obtain⟨rfl,_⟩:=t;refine⟨⟨I,G,K,v⟩,_,_,_,rfl,⟨_,_,_,rfl,D,B,E,s.Yr bC⟩,?_,Kl underlying22 f1,Kl underlying57 a,Td a⟩;unfold xH;rw[Jz s (k:=fuel) bC];simp only[fZ,jV,Rows.uptoBulk,Rows.uptoBulkAll,sK];omega
end
namespace Rn
theorem Ga{α:Type}[DecidableEq α]:∀{l r:List α},l.Nodup->(∀x∈l,x∈r)->l.length<=r.length
 | [],_,_,_=>bN _
 | a::l,r,c,e=>by have d:=e a cK;rw[List.nodup_cons]at c;have h:=Ga (l:=l) (r:=r.erase a) c.2 (λx f=>(List.mem_erase_of_ne (λg=>by subst g;exact c.1 f)).2 (e x<|by simp[f]));rw[List.length_erase_of_mem d]at h;have:=List.length_pos_of_mem d;rw[vN];omega
end Rn
namespace Rn
def leS(a b:ByteArray):Prop:=a.data.toList<=b.data.toList
def ltS(a b:ByteArray):Prop:=leS a b/\a≠b
theorem TJ{a b:aS}(h:leS a b)(k:leS b a):a=b:=by have e:=List.le_antisymm h k;obtain⟨⟨x⟩⟩:=a;obtain⟨⟨y⟩⟩:=b;simp at e;rw[e]
theorem NY(l:aJ):(jZ l).Perm l:=by
 unfold jZ;have h:=(List.mergeSort_perm (l.map (·.data.toList)) (λx y=>decide (x<=y))).map (λb:List UInt8=>(⟨b.toArray⟩:aS));refine h.trans (List.Perm.of_eq ?_);rw[List.map_map];have:((λb:List UInt8=>(⟨b.toArray⟩:aS)) ∘ λx:aS=>x.data.toList)=id:=by funext x;cases x;simp
 rw[this,List.map_id]
theorem Et(l:aJ):(jZ l).Pairwise leS:=by unfold jZ;rw[List.pairwise_map];have h:=List.pairwise_mergeSort (le:=λx y:List UInt8=>decide (x<=y)) (λa b c h1 h2=>by simp only[iy]at *;exact List.le_trans h1 h2) (λa b=>by simp only[GK,iy];exact List.le_total a b) (l.map (·.data.toList));refine h.imp (λ{a b} hab=>?_);unfold leS;simpa using hab
theorem KV(l:aJ)(p:l.Pairwise leS):(gP l).Pairwise ltS:=by
 have C:∀j,j<=l.length->(gP<|l.take j).Pairwise ltS:=λj=>by
  induction j with
  | zero=>intro _;simp[gP]
  | succ j B=>
   intro D;have t:l[j]?=some l[j]:=aZ bC;rw[zZ t];have e:=B bC;have f:∀z∈gP (l.take j),leS z l[j]:=λz a=>by rw[yY]at a;obtain⟨i,q,c⟩:=gU.1 a;rw[iA]at q;rw[List.getElem_take]at c;rw[<-c];exact Px.1 p i j bC bC bC
   unfold BS;split
   ·rename_i y k;split;·exact e
    ·rename_i s;rw[FP];refine⟨e,by simp,λz a x h=>?_⟩;simp at h;subst h;refine⟨f z a,λc=>s ?_⟩;have u:leS z y:=by
      obtain⟨E,r⟩:=List.getLast?_eq_some_iff.1 k;rw[r]at a e;rcases bX.1 a with d|d;·exact((FP.1 e).2.2 z d y cK).1
      ·simp at d;subst d;exact List.le_refl _
     have v:y∈gP (l.take j):=SC k;have:=TJ (f y v) (by rw[<-c];exact u);exact dM.2 this.symm
   ·rename_i g;rw[List.getLast?_eq_none_iff]at g;rw[g];simp
 have:=C l.length<|bG _;rwa[jQ]at this
theorem KW:∀{g h:aJ},g.Pairwise ltS->h.Pairwise ltS->(∀x,x∈g↔x∈h)->g=h
 | [],[],_,_,_=>rfl
 | [],y::_,_,_,a=>aM ((a y).2 cK) cK
 | x::_,[],_,_,a=>aM ((a x).1 cK) cK
 | x::r,y::s,i,k,a=>by
  obtain⟨e,f⟩:=eY (uT.1 i)<|uT.1 k;have p:x=y:=by
   rcases fV.1 ((a x).1 cK)with c|hx;·exact c
   ·rcases fV.1 ((a y).2 cK)with c|hy;·exact c.symm
    ·exact TJ (e.1 y hy).1 (f.1 x hx).1
  subst p;congr 1;refine KW e.2 f.2 λz=>?_;constructor
  ·intro d;rcases fV.1 ((a z).1 (l8 _ d))with c|hz';·subst c;exact aM rfl (e.1 z d).2
   ·exact hz'
  ·intro d;rcases fV.1 ((a z).2 (l8 _ d))with c|hz';·subst c;exact aM rfl (f.1 z d).2
   ·exact hz'
end Rn
variable{l:List Mo}{j m:Nat}{x:Mo}
theorem afC(m:Nat)(w:bI)(vn vl vi vv vf vk:aC)(ss:aJ)(G:Nat)(L:Nat->Nat)(Z:aL)(x:Mo)(known:List Mo)(hS:Strs w vn ss)(hR:EX w vl G L Z)(h:jl w m (.agg #[A x.name,vi,vv,vf]) x)(hK:jN w m vk known)(hw:xH m x<=1048576)(ax:∀y∈known,xH m y<=1048576)(ht:Tab w):aD 72 #[.agg #[vn,vl],.agg #[A x.name,vi,vv,vf],vk] w λe w'=>e=dz (O<|AO (dD ss G L Z) m x known)/\bK w w':=by
 obtain⟨HT,Zf⟩:=bV ht ax;have HL:=Y (λwx (p:bK w wx)=>zW wx vn vl ss G L Z (hS.below p)<|hR.below p);have HM:=Y (λwx (p:bK w wx)=>tF m wx _ x (h.below p) hw<|ht.below p);obtain⟨hI,hV,hF⟩:=h.split;obtain⟨an,bn,on,S,rfl,-⟩:=hS;obtain⟨K,bi,oi,ci,rfl,-⟩:=hI;obtain⟨N,bv,ov,U,rfl,-⟩:=hV;obtain⟨I,bf,of,Q,rfl,-⟩:=hF;obtain⟨ak,bk,ok,ck,rfl,al,aA,au⟩:=hK;have wV:J (Im w m bk ok known):=au;have ad:=Y al;obtain⟨nk,ac⟩:=aV known.length;have LW:=Y ac;rw[<-ac]at aA ad ⊢;obtain⟨f,aw⟩:=aV<|dD ss G L Z;rw[<-aw]at HL ⊢;obtain⟨u,aa⟩:=aV<|oO m x;rw[<-aa]at HM;have a:J (AO f m x known=if f=0 then (if u=0 then um m known else u)else f):=Y (by rw[aa];rfl);obtain⟨R,ah⟩:=aV<|AO f m x known;rw[<-ah]at a ⊢;generalize x.imports.length=ni at *;generalize x.vars.length=nv at *;generalize x.bq.length=nf at *;generalize ss.length=nn at *;obtain⟨a9,aE⟩:∃v,v=vl:=⟨_,rfl⟩;obtain⟨P,d,ao⟩:=al2 w (aY #[X an nn S,vl] 25)<|aY #[A x.name,X K ni ci,X N nv U,X I nf Q] 59;have Fy:=Y ao;obtain⟨q0,q1,r0,r1⟩:=rY ((aj P 0).trans (rfl:_=some (X an nn S))) ((aj P 1).trans (rfl:_=some vl)) ((aj d 0).trans (rfl:_=some (A x.name))) ((aj d 1).trans (rfl:_=some (X K ni ci)));obtain⟨r2,r3⟩:=eY ((aj d 2).trans (rfl:_=some (X N nv U))) ((aj d 3).trans (rfl:_=some (X I nf Q)));clear h hR ht ax al au ac aw aa ah aE P d ao;go_enter func72,ntmps72;go_wp2_with fail;generalize ((w.alloc<|aY #[X an nn S,vl] 25).alloc (aY #[A x.name,X K ni ci,X N nv U,X I nf Q] 59))=W0 at *;refine(HL _ Fy).mono ?_;rintro e w1 ⟨rfl,g⟩;have D:=Y<|up Fy g;replace r0:=aG r0 g;replace r1:=aG r1 g;replace r2:=aG r2 g;replace r3:=aG r3 g;clear g q0 q1;by_cases B:f=0
 ·subst B;rw[aK rfl]at a;go_wp2_with fail;refine(HM _ D).mono ?_;rintro e w2 ⟨rfl,aq⟩;have ae:=Y<|up D aq;clear aq r0 r1 r2 r3;by_cases C:u=0
  ·subst C;rw[aK rfl]at a;go_wp2_with fail;go_loopw[24] (λi wr=>∃j:Nat,j<=nk/\i=O j/\(∀(q:Nat) y,q<j->known[q]?=some y->oO m y=0)/\bK w wr) (λi _=>nk - (intOf i).toNat);exact⟨0,bN _,rfl,λq y hq=>aM hq<|fU _,ae⟩
   obtain⟨j,hj,rfl,am,c⟩:=hrel;obtain⟨eP,fT⟩:=bV am c;clear am;by_cases az:j<nk
   ·obtain⟨y,hy⟩:∃y,known[j]?=some y:=⟨_,aZ (by rw[<-LW];exact az)⟩;obtain⟨s,t,r,g0,g1,g2,g3,F⟩:=wV j y hy;obtain rfl:=ad bC;have HY:=Y hy;replace g0:=aG g0 c;replace g1:=aG g1 c;replace g2:=aG g2 c;replace g3:=aG g3 c;have V:=Y<|aH wr<|aY #[A y.name,s,t,r] 59;obtain⟨z0,z1,z2,z3⟩:=rY (GD wr (A y.name) s t r 59) (GH wr (A y.name) s t r 59) (GI wr (A y.name) s t r 59)<|Gz wr (A y.name) s t r 59;have ag:=Y<|tF m _ _ y (F.below<|up c V) (Zf y<|dG hy)<|HT.below<|up c V;obtain⟨a4,a5,a0⟩:=F.split;obtain⟨a1,d,o1,c1,rfl,-⟩:=a4;obtain⟨a2,b2,o2,c2,rfl,-⟩:=a5;obtain⟨a3,b3,o3,c3,rfl,-⟩:=a0;obtain⟨ey,ab⟩:=aV<|oO m y;have E:=Y ab;rw[<-ab]at ag;generalize y.imports.length=n1 at *;generalize y.vars.length=n2 at *;generalize y.bq.length=n3 at *;clear hy F c ab;go_wp2_with fail;refine ag.mono ?_;rintro e w5 ⟨rfl,ar⟩;have fD:=Y<|up (up fT V) ar;clear ar g0 g1 g2 g3 z0 z1 z2 z3;by_cases k:ey=0
    ·have ay:J (oO m y=0):=Y (by rw[<-E];exact k);subst k;go_wp2;go_roundw;exact⟨j+1,by omega,by go_num,λq z hq hz=>by
      by_cases e:q=j;·subst e;rw[HY]at hz;cases hz;exact ay
      ·exact eP q z bC hz,fD⟩
     exact gV
    ·have a8:(ey==0)=false:=by simp[k]
     have nL:J (R=ey):=Y (by rw[a,E];exact Cu HY eP (by rw[<-E];exact k));clear k;go_wp2;go_ret;exact⟨by rw[nL];rfl,fD⟩
   ·have nL:J (R=0):=Y (by rw[a];refine KM λy hy=>?_;obtain⟨i,hi,rfl⟩:=gU.1 hy;exact eP i _ (by have:=LW.out;omega) (aZ hi));clear c;go_wp2;go_ret;exact⟨by rw[nL];rfl,fT⟩
  ·have a7:(u==0)=false:=by simp[C]
   rw[aI C]at a;clear C;go_wp2;go_ret;exact⟨by rw[a];rfl,ae⟩
 ·have a6:(f==0)=false:=by simp[B]
  rw[aI B]at a;clear B;go_wp2;go_ret;exact⟨by rw[a];rfl,D⟩
open Go.Maps Go.WideMaps
def NZ(w:World)(b n:Nat)(z:Value)(o:ByteArray->Option Value):Prop:=
 ∃D:DataW Value,w.ownsMap prog 9 sW b n D/\(∀s:ByteArray,s.size<=maxLen->
  (Maps.has D (.string s.data.toList)=(o s).isSome/\D.atKey (.string s.data.toList) (.held z)=.held ((o s).getD z)))/\Maps.size D=n
section
variable {w w' : World} {b n : Nat} {z : Value} {o : ByteArray → Option Value}
theorem NZ.caM(a:NZ w b n z o):qo w b n z o:=by obtain⟨D,c,d,_⟩:=a;exact⟨D,c,d⟩
theorem NZ.same(e:NZ w b n z o)(g:w'.heap[b]?=w.heap[b]?):NZ w' b n z o:=by obtain⟨D,⟨d,a,c,r⟩,f⟩:=e;exact⟨D,⟨d,a,g.trans c,r⟩,f⟩
theorem NZ.lt(h:NZ w b n z o):b<w.heap.size:=h.caM.lt
theorem NZ.below(a:NZ w b n z o)(c:bK w w'):NZ w' b n z o:=a.same<|c.block b a.lt
theorem qo.Cw(a:qo w b n z o)(c:bK w w'):qo w' b n z o:=a.same<|c.block b a.lt
theorem NZ.new(w:bI)(z:aC):NZ (w.alloc<|.map #[] 0) w.heap.size 0 z (λ_=>none):=
 ⟨.map [],World.ownsMap_made _ _ _ _,λ_ _=>⟨rfl,rfl⟩,rfl⟩
theorem NZ.put{t d:TypeId}(e:prog.underlying t=some (.map 9 d))(h:NZ w b n z o)(q:n<maxLen){s:ByteArray}(g:s.size<=maxLen)(r:o s=none)(v:Value):∃w',(Instr.mapUpdate t (.map<|some b) (.string s) v).run prog w=.ok () w'/\NZ w' b (n+1) z (oQ o s v)/\w.grownBy w' (some b):=by
 obtain⟨D,c,f,i⟩:=h;obtain⟨w',d,k,p⟩:=c.update uY e q (keyOf_string_mk underlying9 g)<|show sW v=some (.held v,[])from rfl;refine⟨w',d,⟨_,k,λt e=>?_,?_⟩,p⟩
 ·cases a:cB t s with
  | true =>have:=key_eq a;subst this;rw[has_put_same c.isMap (show WideAt.IsKeyLit (.string t.data.toList)from trivial),atKey_put_same c.isMap<|show WideAt.IsKeyLit (.string t.data.toList)from trivial];simp[oQ,a]
  | false =>rw[has_put_other (yV a),atKey_put_other<|yV a];simpa[oQ,a]using f t e
 ·rw[size_put (c.tidy uY),(f s g).1,r,i];rfl
theorem NZ.len{t c:TypeId}(g:prog.underlying t=some (.map 9 c))(d:NZ w b n z o)(a:TypeId):(Builtin.len_ #[t] a #[.map (some b)]).run prog w=.ok (O n) w:=by obtain⟨D,f,_,e⟩:=d;rw[f.len g a,e]
end
namespace Ck
def fi(l:List Mo)(s:ByteArray):Option Value:=(dQ l s).map λn=>.int .i64 (n:Nat)
def cnt(l:List Mo):Nat->Nat
 | 0=>0
 | j+1=>cnt l j+match l[j]? with|some x=>if (dQ (l.take j) x.name).isSome then 0 else 1|none=>0
def nN(E:Int)(m:Nat)(l:List Mo):Int:=
 if E≠0 then E else if 6<l.length then 2 else if um m l≠0 then um m l else if cnt l l.length<l.length then 5 else 0
def iw(l:List Mo)(s:ByteArray)(i:Nat):Bool:=match l[i]? with|some x=>cB x.name s|none=>false
theorem Zl(l:List Mo)(s:aS):dQ l s=(List.range l.length).find? (iw l s):=rfl
theorem find_congr{α:Type}{p q:α->Bool}:∀{l:List α},(∀x∈l,p x=q x)->l.find? p=l.find? q
 | [],_=>rfl
 | x::l,a=>by rw[List.find?_cons,List.find?_cons,a x List.mem_cons_self,find_congr (l:=l) λy c=>a y<|l8 _ c]
theorem abl(l:List Mo)(x:Mo)(s:aS):dQ (l++[x]) s=match dQ l s with|some n=>some n|none=>if cB x.name s then some l.length else none:=by
 rw[Zl,Zl,bg,iI,Ji,List.find?_append];rw[find_congr (p:=iw (l++[x]) s) (q:=iw l s) λi c=>by unfold iw;rw[jX (jE.1 c)]];cases(List.range l.length).find? (iw l s)with
 | some n=>rfl
 | none=>
  have a:iw (l++[x]) s l.length=cB x.name s:=by unfold iw;rw[kL (bG _),mW];rfl
  rw[Option.none_or,List.find?_cons,a];cases cB x.name s<;>rfl
theorem N7(a:l[j]?=some x)(s:aS):dQ (l.take<|j+1) s=match dQ (l.take j) s with|some n=>some n|none=>if cB x.name s then some j else none:=by rw[gy,a,kI,abl,iA];have:=(cO.1 a).1;rw[Nat.min_eq_left bC]
theorem ak4(e:l[j]?=some x)(a:(dQ (l.take j) x.name).isSome=true):fi (l.take<|j+1)=fi (l.take j):=by
 funext s;unfold fi;rw[N7 e];cases d:dQ (l.take j) s with
 | some n=>rfl
 | none=>
  cases c:cB x.name s with
  | false=>rfl
  | true =>have:=dM.1 c;subst this;rw[d]at a;cases a
theorem ak5(g:l[j]?=some x)(e:dQ (l.take j) x.name=none):fi (l.take<|j+1)=oQ (fi<|l.take j) x.name (O (j:Nat)):=by
 funext s;unfold fi oQ;rw[N7 g];cases a:cB s x.name with
 | true =>have:=dM.1 a;subst this;rw[e];simp[cB]
 | false=>
  have f:cB x.name s=false:=by
   cases c:cB x.name s with
   | false=>rfl
   | true=>have:=dM.1 c;subst this;rw[c]at a;cases a
  cases d:dQ (l.take j) s with
  | some n=>simp[d]
  | none=>simp[f,d]
theorem aie(c:l[j]?=some x)(a:(dQ (l.take j) x.name).isSome=true):cnt l (j+1)=cnt l j:=by rw[cnt,c];simp only[a,if_true,sN]
theorem aif(c:l[j]?=some x)(a:dQ (l.take j) x.name=none):cnt l (j+1)=cnt l j+1:=by rw[cnt,c];simp[a]
theorem KY(l:List Mo):∀j,cnt l j<=j
 | 0=>bG _
 | j+1=>by
  have:=KY l j;rw[cnt];split;·split<;>omega
  ·omega
end Ck
open Ck
theorem Qj{w:bI}{v:aC}(h:jl w m v x):x.name.size<=maxLen:=by obtain⟨_,_,_,_,h,_⟩:=h;exact h
theorem adB(n:Int)(w:bI):(Instr.makeMap 117<|some<|O n).run prog w=.ok (.map<|some w.heap.size) (w.alloc<|.map #[] 0):=by simp[Instr.makeMap,run_underlying underlying117,asInt,asIntOf,Result.andThen]
theorem Cy(m:Nat)(w:bI)(v:aC)(l:List Mo)(h:jN w m v l)(hl:l.length<=1048576):aD 41 #[v] w λf w'=>∃b,f=dz (.map<|some b)/\J (NZ w' b (Ck.cnt l l.length) (O 0) (Ck.fi l)/\w.heap.size<=b/\bK w w'):=by
 obtain⟨a,b,off,cap,rfl,h0,-,aa⟩:=h;obtain⟨K,j5⟩:=bV h0 aa;obtain⟨nk,G⟩:=aV l.length;have Q:=Y G;rw[<-G]at hl K ⊢;obtain⟨L,ad⟩:=bV (NZ.new w<|O 0)<|aH w<|.map #[] 0;have ag:=adB;clear h0 aa G;go_enter func41,ntmps41;go_upto_region 2 with fail;clear ag;generalize w.alloc (.map #[] 0)=W at *;obtain⟨B,F⟩:=aV w.heap.size;rw[<-F]at L ⊢;have R:J (w.heap.size<=B):=Y (by rw[F];exact bG _);clear F;go_wp2_with fail;go_loopw[13] (λi wr=>∃j:Nat,j<=nk/\i=O j/\J (NZ wr B (Ck.cnt l j) (O 0) (Ck.fi<|l.take j)/\bK w wr)) (λi _=>nk - (intOf i).toNat);exact⟨0,bN _,rfl,Y ⟨L,ad⟩⟩
 obtain⟨j,hj,rfl,c⟩:=hrel;by_cases af:j<nk
 ·obtain⟨y,I⟩:∃y,l[j]?=some y:=⟨_,aZ (by rw[<-Q];exact af)⟩;have g:=Y I;obtain⟨yi,yv,yf,u,C,D,E,q⟩:=j5 j y I;obtain rfl:=K bC;have P:=Y<|Qj q;obtain⟨ai,ak,ah⟩:=q.split;obtain⟨S,b1,o1,Z,rfl,-⟩:=ai;obtain⟨U,b2,o2,c2,rfl,-⟩:=ak;obtain⟨V,b3,o3,c3,rfl,-⟩:=ah;generalize y.imports.length=n1 at *;generalize y.vars.length=n2 at *;generalize y.bq.length=n3 at *;replace u:=aG u c.2;replace C:=aG C c.2;replace D:=aG D c.2;replace E:=aG E c.2;clear I q;go_upto_region 5 with fail;obtain⟨qO,ae⟩:=sO wr<|aY #[A y.name,X S n1 Z,X U n2 c2,X V n3 c3] 59;generalize wr.alloc (aY #[A y.name,X S n1 Z,X U n2 c2,X V n3 c3] 59)=W5 at *;obtain⟨s,t⟩:=bV (c.1.below qO)<|up c.2 qO;generalize wr.heap.size=MK at *;have q0:=aj ae 0;clear u C D E;have LK:=s.caM.sS underlying117 Dq P;cases d:dQ (l.take j) y.name with
  | some n=>
   have e:Ck.fi (l.take j) y.name=some (O (n:Nat)):=by unfold Ck.fi;rw[d];rfl
   rw[e]at LK;simp only[gD,nD]at LK;obtain⟨r,p⟩:=bV (ak4 g (by rw[d];rfl)) (aie g (by rw[d];rfl));clear d e;go_wp2;go_roundw;exact⟨j+1,by omega,by go_num,Y ⟨by rw[r,p];exact s,t⟩⟩;exact gV
  | none=>
   have e:Ck.fi (l.take j) y.name=none:=by unfold Ck.fi;rw[d];rfl
   obtain⟨w7,UP,ac,ab⟩:=s.put underlying117 (by have:=KY l j;unfold maxLen;omega) P e (O (j:Nat));rw[e]at LK;simp only[lK,nE]at LK;obtain⟨r,p,Zm⟩:=fE (ak5 g d) (aif g d) ac;have kG:J (bK w w7):=Y<|Below.grown t ab t.size (λk f=>by injection f with f;rw[<-f];exact R);clear d e ac ab;go_wp2;go_roundw;exact⟨j+1,by omega,by go_num,Y ⟨by rw[r,p];exact Zm,kG⟩⟩;exact gV
 ·obtain rfl:j=nk:=by omega
  have DU:J (l.take j=l):=Y (by rw[Q,jQ]);have N:=Y c.out.1;rw[DU]at N;go_wp2;go_ret;exact⟨B,rfl,Y ⟨N,R,c.2⟩⟩
theorem ae4(m:Nat)(w:bI)(vn E vk:aC)(ss:aJ)(G:Nat)(L:Nat->Nat)(Z:aL)(l:List Mo)(hS:Strs w vn ss)(hR:EX w E G L Z)(hK:jN w m vk l)(am:∀y∈l,xH m y<=1048576)(ht:Tab w):aD 40 #[.agg #[vn,E],vk] w λg w'=>g=dz (O<|nN (dD ss G L Z) m l)/\bK w w':=by
 obtain⟨HT,Zf⟩:=bV ht am;have HL:=Y (λwx (D:bK w wx)=>zW wx vn E ss G L Z (hS.below D)<|hR.below D);have KZ:=Y (λwx (D:bK w wx) hl=>Cy m wx vk l (hK.below D) hl);have Ah:J (∃a n c,E=X a n c):=Y (by obtain⟨a,b,o,c,Zk,RB,RO,C,rfl,-⟩:=hR;exact⟨_,_,_,rfl⟩);obtain⟨an,bn,on,cn,rfl,-⟩:=hS;obtain⟨al,nl,cl,rfl⟩:=Ah.out;obtain⟨ak,bk,ok,ck,rfl,af,aw,ai⟩:=hK;have wV:J (Im w m bk ok l):=ai;have ad:=Y af;obtain⟨nk,ac⟩:=aV l.length;have p:=Y ac;rw[<-ac]at aw ad KZ ⊢;obtain⟨F,hE⟩:=aV<|dD ss G L Z;rw[<-hE]at HL ⊢;obtain⟨R,aa⟩:=aV<|nN F m l;have v:=Y aa;rw[<-aa];generalize ss.length=nn at *;obtain⟨eT,EW⟩:=sO w<|aY #[X an nn cn,X al nl cl] 25;clear hR ht am af ai ac hE aa;go_enter func40,ntmps40;go_upto_region 1 with fail;generalize w.alloc (aY #[X an nn cn,X al nl cl] 25)=W0 at *;obtain⟨x0,x1⟩:=jv EW;go_wp2_with fail;refine(HL _ eT).mono ?_;rintro g w1 ⟨rfl,ag⟩;have I:=Y<|up eT ag;clear ag x0 x1;by_cases B:F=0
 ·subst B;by_cases h6:6<nk
  ·have d:J (R=2):=Y (by rw[v];unfold nN;rw[aI cK,<-p,aK h6]);have au:((nk:Int) > 6):=by omega
   go_wp2;go_ret;exact⟨by rw[d];rfl,I⟩
  ·have au:¬((nk:Int) > 6):=by omega
   go_wp2_with fail;go_loopw[19] (λi wr=>∃j:Nat,j<=nk/\i=O j/\J ((∀(q:Nat) y,q<j->l[q]?=some y->oO m y=0)/\bK w wr)) (λi _=>nk - (intOf i).toNat);exact⟨0,bN _,rfl,Y ⟨λq y hq=>aM hq<|fU _,I⟩⟩
   obtain⟨j,hj,rfl,f⟩:=hrel;have e:=f.2;by_cases av:j<nk
   ·obtain⟨y,k⟩:∃y,l[j]?=some y:=⟨_,aZ (by rw[<-p];exact av)⟩;obtain⟨t,u,s,U,V,g2,g3,P⟩:=wV j y k;obtain rfl:=ad bC;have HY:=Y k;replace U:=aG U e;replace V:=aG V e;replace g2:=aG g2 e;replace g3:=aG g3 e;have Q:=Y<|aH wr<|aY #[A y.name,t,u,s] 59;obtain⟨z0,z1,z2,z3⟩:=rY (GD wr (A y.name) t u s 59) (GH wr (A y.name) t u s 59) (GI wr (A y.name) t u s 59)<|Gz wr (A y.name) t u s 59;have ae:=Y<|tF m _ _ y (P.below<|up e Q) (Zf y<|dG k)<|HT.below<|up e Q;obtain⟨az,aA,ay⟩:=P.split;obtain⟨a1,b1,o1,c1,rfl,-⟩:=az;obtain⟨a2,b2,o2,c2,rfl,-⟩:=aA;obtain⟨a3,b3,o3,c3,rfl,-⟩:=ay;obtain⟨S,ab⟩:=aV<|oO m y;have K:=Y ab;rw[<-ab]at ae;generalize y.imports.length=n1 at *;generalize y.vars.length=n2 at *;generalize y.bq.length=n3 at *;clear k P e ab;go_wp2_with fail;refine ae.mono ?_;rintro g w5 ⟨rfl,ah⟩;have fD:=Y<|up (up f.2 Q) ah;clear ah U V g2 g3 z0 z1 z2 z3;by_cases h:S=0
    ·have ar:J (oO m y=0):=Y (by rw[<-K];exact h);subst h;go_wp2;go_roundw;exact⟨j+1,by omega,by go_num,Y ⟨λq z hq r=>by
      by_cases g:q=j;·subst g;rw[HY]at r;cases r;exact ar
      ·exact f.1 q z bC r,fD⟩⟩
     exact gV
    ·have N:J (um m l=S):=Y (by rw[K];exact Cu HY f.1 (by rw[<-K];exact h));have d:J (R=S):=Y (by rw[v];unfold nN;rw[aI cK,<-p,aI h6,N,aK h]);have r:=eO h;clear h;go_wp2;go_ret;exact⟨by rw[d];rfl,fD⟩
   ·obtain rfl:j=nk:=by omega
    have N:J (um m l=0):=Y (by refine KM λy k=>?_;obtain⟨i,hi,rfl⟩:=gU.1 k;exact f.1 i _ (by have:=p.out;omega) (aZ hi));have d:J (R=if Ck.cnt l j<j then 5 else 0):=Y (by rw[v];unfold nN;rw[aI cK,<-p,aI h6,N,aI cK]);have OI:=Y<|KZ wr e bC;clear e;go_wp2_with fail;refine OI.mono ?_;rintro g w7 ⟨b7,rfl,Ky⟩;obtain⟨aq,-,ug⟩:=Ky.out;have kG:=Y<|up f.2 ug;have LN:=aq.len underlying117;obtain⟨c,hc⟩:=aV<|Ck.cnt l j;rw[<-hc]at LN d;clear Ky aq ug hc;by_cases ao:c<j
    ·have ax:(c:Int)<(j:Int):=by omega
     rw[aK ao]at d;go_wp2;go_ret;exact⟨by rw[d];rfl,kG⟩
    ·have ax:¬(c:Int)<(j:Int):=by omega
     rw[aI ao]at d;go_wp2;go_ret;exact⟨by rw[d];rfl,kG⟩
 ·have d:J (R=F):=Y (by rw[v];unfold nN;rw[aK B]);have r:=eO B;clear B;go_wp2;go_ret;exact⟨by rw[d];rfl,I⟩
