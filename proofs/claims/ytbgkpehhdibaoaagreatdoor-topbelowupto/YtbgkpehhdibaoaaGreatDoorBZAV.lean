/- part -/
import Derived.Test.YtbgkpehhdibaoaaGreatDoorBZAQ
import Derived.Test.YtbgkpehhdibaoaaGreatDoorBZVS
import Derived.Test.YtbgkpehhdibaoaaGreatDoorBZAP
import Derived.Deep.RegionHeld3
set_option maxHeartbeats 0
set_option maxRecDepth 99999
namespace Go.Proofs.YtbgkpehhdibaoaaGreatDoor
open bN bJ Rn Sv
open Go.Proofs.Tryz
open Go.ChangeShapes Go.WideShapes Go.ChangeAt Go.RowKit Go.Deep Go.Joins
section
variable {H : Type} {enc : TypeId × Value → H} {W : World}
theorem GY{t e fuel:Nat}{v:Value}{y:DataW H × List MemPlace}(ht:prog.underlying t=some (.slice e))(h:DataW.trod enc prog W 0 (λ_=>true) true fuel t [v]=some y):Gy v:=by
 rcases DataW.trod_slice ht h with⟨hcs,rfl⟩|⟨a,len,cap,elems,rest,n,hfuel,hcs,rfl,_,hl,hm,hlen,hel,_,_⟩;·simp at hcs;subst hcs;intro a n c e;injection e with _ e1 e2;omega
 ·simp at hcs;subst hcs;intro a n c e;injection e with _ e1 e2;omega
theorem Pg{fuel:Nat}{v:Value}{y:DataW H × List MemPlace}(h:DataW.trod enc prog W 0 (λ_=>true) true fuel 56 [v]=some y):∀b off n c,v=Y (some (X b off)) n c->∀i,i<n->∃vp,W.cell? (X b (off+i*7+1))=some vp/\Gy vp:=by obtain⟨a,b,off,len,cap,D,hv,ha,hl,hD,Gb,hel⟩:=lM underlying56 Uz bO h;intro b' off' n' c' e i hi;rw[hv]at e;injection e with e0 e1 e2;subst e1;have h1:=ha aX;rw[e0]at h1;injection h1 with h1;injection h1 with h1 h2;subst h1 h2;obtain⟨n0,cs,d',pl',hn',hlen',hcell,sU,Y2⟩:=hel i hi;obtain⟨xs,n,hfn,hx,hlen,hxs,hf⟩:=J2 underlying109 sU;obtain⟨c0,c1,c2,c3,c4,c5,c6,rfl⟩:=list7 hlen';obtain⟨y0,y1,y2,y3,rfl⟩:=JZ (by simpa using hxs);have f1:DataW.trod enc prog W 0 (λ_=>true) true n 22 (([c0,c1,c2,c3,c4,c5,c6].drop 1).take (prog.cellsOf 22))=some y1:=hf 1 _ rfl;rw[Cw]at f1;simp only[List.drop,List.take]at f1;exact⟨c1,hcell 1 bO,GY underlying22 f1⟩
end
variable{V V':Nat->Nat × Nat}{r nl vs:List aY}{k m i j g n off B cap:Nat}{cs:List Co}{S S':Nat->Nat}{l b:List Int}{s:aY}{z:Int}{w w' W:World}{v vf r0 r1:Value}
theorem Ms(w:World)(g len cap:Nat)(l:List Int)(h:jN w g l)(hlen:len=l.length)(hcap:len<=cap)(hl:len<=16777216):Calls prog 257 #[Y (some (X g 0)) len cap] w λe w'=>∃c',e=dz (Y (some (X g 0)) (jT l).length c')/\jN w' g (jT l)/\But g w w':=by
 obtain⟨HL,HR⟩:=bU hlen h;clear hlen h;by_cases h2:len<2
 ·have HE:Hid (jT l=l):=I (by
   have hl':=HL.out;match l,hl' with
   | [],_=>rfl
   | [x],_=>rfl
   | x::y::r,h=>simp at h;omega)
  go_enter func257,ntmps257;go_wp2_with fail;go_ret;exact⟨_,by rw[HE,<-HL];rfl,by rw[HE];exact HR,But.refl _ _⟩
 ·go_enter func257,ntmps257;go_wp2_with fail;go_loopw[3] (λi wr=>∃j:Nat,j+1<=len/\i=O ((j:Int)+1)/\(∀(q:Nat) x y,q<j->l[q]?=some y->l[q+1]?=some x->Bg x y=false)/\jN wr g l/\But g w wr) (λi _=>len - (intOf i).toNat);case atStart=>exact⟨0,by omega,rfl,λq x y hq=>aM hq (fT _),HR,But.refl _ _⟩
  case round=>
   obtain⟨j,hj,rfl,hall,hrow,hnx⟩:=hrel;obtain⟨fF,uO,fO⟩:=fD hall hrow hnx;clear hall hnx;by_cases hjl:j+1<len
   ·obtain⟨y,hy⟩:∃y,l[j]?=some y:=⟨_,bD (by rw[<-HL];omega)⟩;obtain⟨x,hx⟩:∃y,l[j+1]?=some y:=⟨_,bD (by rw[<-HL];omega)⟩;obtain⟨HX,HY⟩:=bU hx hy;obtain⟨p0,k0⟩:=eY (hrow.cell hx) (hrow.cell hy);have hlt:decide ((j:Int)+1<(len:Int))=true:=by simp;omega
    clear hx hy hrow;cases hsm:Bg x y
    ·have heq:(x==y)=false:=hsm;have Sd:=I hsm;clear hsm;go_wp2_with fail;go_quiet (fail);go_wp2_with fail;go_roundw;case rel=>exact⟨j+1,by omega,by go_num,λq a b hq h1 h2=>by
      by_cases e:q=j;·subst e;rw[HY]at h1;rw[HX]at h2;cases h1;cases h2;exact Sd
      ·exact fF q a b aX h1 h2,uO.drew,fO.drew _⟩
     case measure=>simp[intOf];omega
    ·have heq:(x==y)=true:=hsm;have WZ:Hid (jT (l.take (j+1+1))=l.take (j+1)):=I (by
      rw[CV HY HX,hsm,aL rfl];have hll:(l.take (j+1)).length=j+1:=by rw[jB];have:=HL.out;omega
      have h1:=Km (l:=l.take (j+1)) (λq a b h1 h2=>by have hq:=(dK.1 h2).1;rw[hll]at hq;rw[qL aX]at h1 h2;exact fF q a b aX h1 h2) (j+1) aX;rwa[List.take_take,Nat.min_self]at h1)
     clear hsm;go_wp2_with fail;go_quiet (fail);obtain⟨HR1,LV⟩:=bU (uO.out.drew (n:=nq)) (fO.out.drew nq);clear p0 k0 heq;generalize wr.drewN nq=W1 at *;go_wp2_with fail;go_loopw[3,5] (λa b wx=>∃c t:Nat,a=O c/\b=O ((t:Int)+1)/\j+1+(t+1)<=len/\c=(jT (l.take (j+1+(t+1)))).length/\c<=j+1+t/\jN wx g (jT (l.take (j+1+(t+1)))++l.drop c)/\But g w wx) (λ_ b _=>len - (intOf b).toNat);case atStart=>exact⟨j+1,0,by go_num,rfl,by omega,by
      rw[show j+1+(0+1)=j+1+1 from rfl,WZ,jB];have:=HL.out;omega,bE _,by
      rw[show j+1+(0+1)=j+1+1 from rfl,WZ,oV];exact HR1,LV⟩
     case round=>
      obtain⟨c,t,rfl,rfl,htl,hcc,hct,hrow,hnx⟩:=hrel;obtain⟨qK,qM,Pd⟩:=fD hcc hrow hnx;by_cases hend:j+1+(t+1)<len
      ·obtain⟨y',hy⟩:∃y,l[j+1+t]?=some y:=⟨_,bD (by rw[<-HL];omega)⟩;obtain⟨x',hx⟩:∃y,l[j+1+(t+1)]?=some y:=⟨_,bD (by rw[<-HL];omega)⟩;obtain⟨z',hz⟩:∃y,l[c]?=some y:=⟨_,bD (by rw[<-HL];omega)⟩;obtain⟨p0,k0,m0⟩:=l9 (hrow.cell (i:=j+1+(t+1)) (d:=x') (by rw[Mi hcc aX];exact hx)) (hrow.cell (i:=j+1+t) (d:=y') (by rw[Mi hcc aX];exact hy)) (hrow.cell (i:=c) (d:=z') (by rw[Mi hcc aX];exact hz));obtain⟨cur,hcur,-,-⟩:=hrow;have f0:=aG hcur c;have og:Hid (jT (l.take (j+1+(t+1)+1))=if Bg x' y' then jT (l.take (j+1+(t+1)))else jT (l.take (j+1+(t+1)))++[x']):=I (CV (j:=j+1+t) hy hx);have hlt2:decide ((t:Int)+1<((len - (j+1):Nat):Int))=true:=by simp;omega
       clear hx hy hz hcur hcc hnx;cases tu:Bg x' y'
       ·have heq:(x'==y')=false:=tu;have hne:(x' != y')=true:=by rw[bne,heq];rfl
        rw[tu,aJ dx]at og;clear tu;go_wp2_with fail;go_quiet (fail);have HR2:Hid (jN (wr.drewN nq) g _):=I (qM.out.drew (n:=nq));have Ao:=I (Pd.out.drew nq);replace p0:(wr.drewN nq).cell? _=_:=p0;replace m0:(wr.drewN nq).cell? _=_:=m0;replace f0:(wr.drewN nq).frozen? _=_:=f0;clear k0 heq hne;generalize wr.drewN nq=W2 at *;go_wp2_with fail;go_roundw;case rel=>exact⟨c+1,t+1,by go_num,by go_num,by omega,by
         rw[show j+1+(t+1+1)=j+1+(t+1)+1 by omega,og,aT,<-qK];rfl,by omega,by
         rw[show j+1+(t+1+1)=j+1+(t+1)+1 by omega,og,<-row_setI qK (by rw[<-HL];omega)];exact HR2.set (by rw[aT,Ee,<-qK,<-HL];omega) x',Ao.set (aR rfl) _⟩
        case measure=>simp[intOf];omega
       ·have heq:(x'==y')=true:=tu;have hne:(x' != y')=false:=by rw[bne,heq];rfl
        rw[tu,aL rfl]at og;clear tu;go_wp2_with fail;go_quiet (fail);have HR2:Hid (jN (wr.drewN nq) g _):=I (qM.out.drew (n:=nq));have Ao:=I (Pd.out.drew nq);clear p0 m0 f0 k0 heq hne;generalize wr.drewN nq=W2 at *;go_wp2_with fail;go_roundw;case rel=>exact⟨c,t+1,rfl,by go_num,by omega,by
         rw[show j+1+(t+1+1)=j+1+(t+1)+1 by omega,og];exact qK,by omega,by
         rw[show j+1+(t+1+1)=j+1+(t+1)+1 by omega,og];exact HR2,Ao⟩
        case measure=>simp[intOf];omega
      ·have EJ:Hid (l.take (j+1+(t+1))=l):=I (fU (by rw[<-HL];omega));rw[EJ]at qM qK hrow;have hrow':=hrow;obtain⟨cur,hcur,hsz,-⟩:=hrow;rw[aT,Ee,<-qK,<-HL]at hsz;have hcl:=λty=>RX (c:=cap - c) hcur (show 0<len - c by omega) (show c+(len - c)<=cur.size by omega) ty;have Xy:=I (λzs m=>jN.clear (zs:=zs) (k:=c) hrow' hcur (by rw[aT,<-qK];omega) m);have hlt2:decide ((t:Int)+1<((len - (j+1):Nat):Int))=false:=by simp;omega
       have Jb:Hid ((jT l++l.drop c).take c=jT l):=I (by rw[qK,List.take_left]);rw[Jb]at Xy;generalize (Builtin.zeroCells (O 0).cells (len - c)).toList=zs at *;obtain⟨Ao,HR2⟩:=bU (But.row (cs:=(cur.toList.take (c)++zs++cur.toList.drop (c+zs.length)).toArray) hnx) (Xy zs (c+zs.length));generalize wr.setRow g (cur.toList.take (c)++zs++cur.toList.drop (c+zs.length)).toArray=W2 at *;clear hrow' hcur hcc hnx;go_wp2_with fail;go_ret;exact⟨_,by rw[<-qK];rfl,HR2,Ao⟩
   ·have HE:Hid (jT l=l):=I (by have h1:=Km (l:=l) (λq a b h1 h2=>fF q a b (by have:=(dK.1 h2).1;have:=HL.out;omega) h1 h2) l.length (bE _);rwa[jC]at h1);have hlt:decide ((j:Int)+1<(len:Int))=false:=by simp;omega
    clear hrow;go_wp2_with fail;go_ret;exact⟨_,by rw[HE,<-HL];rfl,by rw[HE];exact uO,fO⟩
theorem Jz(w:World):Calls prog 257 #[J] w λe w'=>e=dz (J)/\w'=w:=by go_enter func257,ntmps257;go_wp2_with fail;go_ret;exact⟨rfl,rfl⟩
namespace Sv
variable {Z : Nat → Nat → Bool} {N n : Nat} {S : Nat → Nat}
def Closed(Z:Nat->Nat->Bool)(n:Nat)(S:Nat->Nat)(U:Nat->Nat × Nat):Prop:=∀t f,t<n->f<n->(S t).testBit f=true->le Z (U f) (U t)=true
structure Rd(Z:Nat->Nat->Bool)(N n:Nat)(S:Nat->Nat)(V V':Nat->Nat × Nat)(r:Bool):Prop where
 ok:wI N n V'
 ge:LH Z n V V'
 same:r=false->V'=V
 less:r=true->left Z N n V'<left Z N n V
 least:∀U,wI N n U->Closed Z n S U->LH Z n V U->LH Z n V' U
theorem Rd.refl(aah:bN.Joins Z N)(h:wI N n V):Rd Z N n S V V false:=⟨h,OA aah h,λ_=>rfl,(λe=>by cases e),λ_ _ _ h=>h⟩
theorem Rd.up(aah:bN.Joins Z N){r:Bool}(hV:wI N n V)(h:Rd Z N n S V V' r)(hk:k<n)(hm:m<n)(hb:(S k).testBit m=true)(hne:le Z (V' m) (V' k)=false):Rd Z N n S V (up Z N V' k (V' m)) true:=by
 have ok':=up_ok aah h.ok hk (h.ok m hm);refine⟨ok',CJ aah hV h.ok ok' h.ge (up_ge aah h.ok hk (h.ok m hm)),(λe=>by cases e),λ_=>?_,λU hU hc hVU=>?_⟩;·have h1:=left_lt aah h.ok hk (h.ok m hm) hne;have h2:=left_le aah hV h.ok h.ge;omega
 ·have h1:=h.least U hU hc hVU;exact up_le aah h.ok hU hk (h.ok m hm) h1 (le_trans aah (h.ok m hm) (hU m hm) (hU k hk) (h1 m hm) (hc k m hk hm hb))
structure Vg(Z:Nat->Nat->Bool)(N n:Nat)(S:Nat->Nat)(V V':Nat->Nat × Nat):Prop where
 ok:wI N n V'
 ge:LH Z n V V'
 closed:Closed Z n S V'
 least:∀U,wI N n U->Closed Z n S U->LH Z n V U->LH Z n V' U
structure Fed(Z:Nat->Nat->Bool)(N n:Nat)(cs:List Co)(V:Nat->Nat × Nat)(S:Nat->Nat):Prop where
 ok:wI N n V
 has:∀c∈cs,le Z c.lab (V c.to.toNat)=true
 least:∀U,wI N n U->Sol Z cs U->LH Z n V U
 bit:∀t j,(S t).testBit j=true↔∃c∈cs,c.to.toNat=t/\(j:Int)∈c.fr
theorem Fed.nil(M:bN.Joins (bN.tr Z) N)(hN:0<N):Fed Z N n [] (λ_=>(0,vE Z N)) (λ_=>0):=by obtain⟨h1,h2⟩:=F3 M hN;refine⟨λv _=>⟨by show(0:Nat)<16;omega,h1⟩,λc hc=>by simp at hc,λU hU _ v hv=>?_,λt j=>by simp⟩;unfold le;rw[sub_zero,h2 _ (hU v hv).2];rfl
theorem Fed.more(aah:bN.Joins Z N)(h:Fed Z N n cs V S){c:Co}(hn:∀d∈cs,Jq N n d=true)(hc:Jq N n c=true)(hS:∀i j,(S' i).testBit j=((S i).testBit j||(decide (i=c.to.toNat)&&c.fr.contains (j:Int)))):Fed Z N n (cs++[c]) (up Z N V c.to.toNat c.lab) S':=by
 obtain⟨_,ht,hl⟩:=AV hc;have ht':=(kH ht).2.1;have hl':=(uK hl).1;have ok':=up_ok aah h.ok ht' hl';refine⟨ok',λd hd=>?_,λU hU hs=>?_,λt j=>?_⟩
 ·rcases bZ.1 hd with hd|hd;·obtain⟨_,dt,dl⟩:=AV (hn d hd);have dt':=(kH dt).2.1;exact le_trans aah (uK dl).1 (h.ok _ dt') (ok' _ dt') (h.has d hd) (up_ge aah h.ok ht' hl' _ dt')
  ·rw[dD]at hd;subst hd;exact up_has aah h.ok ht' hl'
 ·exact up_le aah h.ok hU ht' hl' (h.least U hU hs.less) (hs c dx).1
 ·rw[hS,Gl,h.bit,dJ,gP,List.contains_iff_mem];constructor
  ·rintro(⟨d,hd,h1,h2⟩|⟨h1,h2⟩);·exact⟨d,List.mem_append_left _ hd,h1,h2⟩
   ·exact⟨c,by simp,h1.symm,h2⟩
  ·rintro⟨d,hd,h1,h2⟩;rcases bZ.1 hd with hd|hd;·exact aR ⟨d,hd,h1,h2⟩
   ·rw[dD]at hd;subst hd;exact aV ⟨h1.symm,h2⟩
theorem Fed.done(aah:bN.Joins Z N)(h:Fed Z N n cs V S)(hc:∀c∈cs,Jq N n c=true)(k:Vg Z N n S V V'):yQ Z N n cs V':=by
 refine⟨k.ok,λc hcm=>?_,λU hU hs=>k.least U hU (λt f ht hf hb=>?_) (h.least U hU hs)⟩;·obtain⟨hf,ht,hl⟩:=AV (hc c hcm);have ht':=(kH ht).2.1;refine⟨le_trans aah (uK hl).1 (h.ok _ ht') (k.ok _ ht') (h.has c hcm) (k.ge _ ht'),λf hfm=>?_⟩;obtain⟨_,hv,he⟩:=kH (hf f hfm);exact k.closed _ _ ht' hv ((h.bit _ _).2 ⟨c,hcm,rfl,by rw[<-he];exact hfm⟩)
 ·obtain⟨c,hcm,h1,h2⟩:=(h.bit t f).1 hb;have:=(hs c hcm).2 _ h2;rwa[h1,DX]at this
end Sv
structure Sc where
 fn:ByteArray
 mask:Int
 level:Int
 bounds:List Int
 pc:Int
 gY:List ByteArray
structure Si where
 fr:List Int
 mask:Int
 level:Int
 lv:Int
 name:ByteArray
 gY:Bool
structure Pb where
 names:List ByteArray
 cons:List Co
 sinks:List Si
 fr:List Int
 mask:Int
 level:Int
 gY:List ByteArray
namespace Fl
def has(l:List ByteArray)(s:ByteArray):Bool:=l.any λt=>dA t s
theorem uQ{l:List aY}:has l s=true↔s∈l:=by
 unfold has;rw[OG];constructor;·rintro⟨t,ht,h⟩;rw[eu]at h;subst h;exact ht
 ·intro h;exact⟨s,h,eu.2 rfl⟩
theorem has_not{l:List aY}:has l s=false↔s∉l:=by rw[<-uQ];cases has l s<;>simp
def add(l:List ByteArray)(s:ByteArray):List ByteArray:=if has l s then l else l++[s]
def adds(l r:List ByteArray):List ByteArray:=r.foldl add l
theorem mem_add{l:List aY}{z:aY}:z∈add l s↔z∈l\/z=s:=by
 unfold add;split;·rename_i h;rw[uQ]at h;exact⟨aR,λk=>k.elim id (λe=>e ▸ h)⟩
 ·simp
theorem qN:∀{l:List aY} {z:aY},z∈adds l r↔z∈l\/z∈r:=by
 induction r with
 | nil=>intro l z;simp[adds]
 | cons s r ih =>intro l z;have:adds l (s::r)=adds (add l s) r:=rfl;rw[this,ih,mem_add,fK,or_assoc]
theorem add_len(l:List aY)(s:aY):(add l s).length<=l.length+1:=by unfold add;split<;>simp
theorem kD:∀(r l:List aY),(adds l r).length<=l.length+r.length:=by
 intro r;induction r with
 | nil=>intro l;simp[adds]
 | cons s r ih =>intro l;obtain⟨h1,h2⟩:=eY (ih (add l s)) (add_len l s);have:adds l (s::r)=adds (add l s) r:=rfl;rw[this,yI];omega
theorem wQ(l a b:List aY):adds l (a++b)=adds (adds l a) b:=by unfold adds;rw[OQ]
theorem Ph(l:List aY):adds l []=l:=rfl
theorem XG(l:List aY)(s:aY)(r:List aY):adds l (s::r)=adds (add l s) r:=rfl
theorem add_pre(l:List aY)(s:aY):∃t,add l s=l++t:=by
 unfold add;split;·exact⟨[],by simp⟩
 ·exact⟨[s],rfl⟩
theorem adds_pre:∀(r l:List aY),∃t,adds l r=l++t:=by
 intro r;induction r with
 | nil=>intro l;exact⟨[],by simp[adds]⟩
 | cons s r ih =>intro l;obtain⟨t,ht⟩:=ih (add l s);obtain⟨u,hu⟩:=add_pre l s;exact⟨u++t,by rw[XG,ht,hu,iy]⟩
def nums(nl vs:List ByteArray):List Int:=((List.range nl.length).filter λi=>has vs (nl.getD i ByteArray.empty)).map λi:Nat=>(i:Int)
theorem wR:z∈nums nl vs↔∃i:Nat,z=i/\∃s,nl[i]?=some s/\s∈vs:=by
 unfold nums;rw[jP];constructor;·rintro⟨i,hi,rfl⟩;rw[List.mem_filter,jr,uQ]at hi;refine⟨i,rfl,nl[i],bD hi.1,?_⟩;have:=hi.2;rw[List.getD,bD hi.1]at this;exact this
 ·rintro⟨i,rfl,s,hs,hv⟩;obtain⟨hi,e⟩:=dK.1 hs;refine⟨i,?_,rfl⟩;rw[List.mem_filter,jr,uQ];refine⟨hi,?_⟩;rw[List.getD,hs];exact hv
theorem Pj(nl vs:List aY):Ju (nums nl vs):=by unfold nums Ju;rw[List.pairwise_map];refine List.Pairwise.imp (R:=λa b:Nat=>a<b) (λh=>by omega) ?_;exact List.Pairwise.filter _ List.pairwise_lt_range
theorem tC(nl vs:List aY):(nums nl vs).length<=nl.length:=by unfold nums;rw[dO];have:=GZ (λi=>has vs (nl.getD i ByteArray.empty)) (List.range nl.length);rwa[rM]at this
theorem nums_bd(h:z∈nums nl vs):0<=z/\z<nl.length:=by obtain⟨i,rfl,s,hs,_⟩:=wR.1 h;have:=(dK.1 hs).1;omega
theorem nums_nil(nl:List aY):nums nl []=[]:=by unfold nums;rw[List.filter_eq_nil_iff.2 (by simp[has])];rfl
theorem XH(nl a b:List aY):jT (tq (nums nl a++nums nl b))=nums nl (adds a b):=by
 obtain⟨h1,h2⟩:=cpt_srtI (nums nl a++nums nl b);refine U6 h1 (Pj _ _) λx=>?_;rw[h2,bZ,wR,wR,wR];constructor
 ·rintro(⟨i,e,s,hs,hv⟩|⟨i,e,s,hs,hv⟩);·exact⟨i,e,s,hs,qN.2 (aR hv)⟩
  ·exact⟨i,e,s,hs,qN.2 (aV hv)⟩
 ·rintro⟨i,e,s,hs,hv⟩;rcases qN.1 hv with hv|hv;·exact aR ⟨i,e,s,hs,hv⟩
  ·exact aV ⟨i,e,s,hs,hv⟩
def idx(nl:List ByteArray)(s:ByteArray):Option Nat:=(List.range nl.length).find? λi=>dA (nl.getD i ByteArray.empty) s
theorem tF(h:idx nl s=some i):nl[i]?=some s:=by obtain⟨h1,h2⟩:=bN.find_spec h;rw[eu,List.getD,bD h1]at h2;rw[bD h1];exact congrArg some h2
theorem uR(h:s∈nl):∃i,idx nl s=some i:=by
 obtain⟨i,hi,rfl⟩:=gZ.1 h;cases e:idx nl nl[i]with
 | some j=>exact⟨j,rfl⟩
 | none =>have:=JO.1 e i (jr.2 hi);exact aM (eu.2 (by rw[List.getD,bD hi];rfl)) this
theorem Bl(h:s∉nl):idx nl s=none:=by
 cases e:idx nl s with
 | none=>rfl
 | some i=>exact aM (eT (tF e)) h
theorem G5(h:nl.Nodup)(hi:nl[i]?=some s)(hj:nl[j]?=some s):i=j:=by
 obtain⟨a,ha⟩:=dK.1 hi;obtain⟨b,hb⟩:=dK.1 hj;rcases Nat.lt_trichotomy i j with hij|hij|hij;·exact aM (ha.trans hb.symm) (Mt.1 h i j a b hij)
 ·exact hij
 ·exact aM (hb.trans ha.symm) (Mt.1 h j i b a hij)
theorem idx_at(h:nl.Nodup)(hi:nl[i]?=some s):idx nl s=some i:=by obtain⟨j,hj⟩:=uR (eT hi);rw[hj,G5 h (tF hj) hi]
theorem nums_one(hn:nl.Nodup)(h:idx nl s=some i):nums nl [s]=[(i:Int)]:=by
 refine U6 (Pj _ _) (List.pairwise_singleton _ _) λx=>?_;rw[wR,dD];constructor;·rintro⟨j,rfl,t,ht,hv⟩;rw[dD]at hv;subst hv;rw[G5 hn ht (tF h)]
 ·rintro rfl;exact⟨i,rfl,s,tF h,by simp⟩
theorem idx_pre{t:List aY}(hn:(nl++t).Nodup)(hs:s∈nl):idx (nl++t) s=idx nl s:=by obtain⟨i,hi⟩:=uR hs;have h1:=tF hi;have:=(dK.1 h1).1;rw[hi,idx_at hn (by rw[pQ this];exact h1)]
structure Env where
 Z:Nat->Nat->Bool
 N:Nat
 low:Nat
 md:ByteArray
 mX:ByteArray->Option Nat
 pl:ByteArray->Int
 dW:ByteArray->Sc
abbrev Hg:=List ByteArray × Nat
def ex0:Ex:=⟨0,0,⟨#[]⟩,[]⟩
def bit(k:Int)(i:Nat):Bool:=k.toNat.testBit i
section
variable (c : Env)
def Env.and(a b:Hg):Hg:=(adds a.1 b.1,mh c.Z c.N a.2 b.2)
def Env.nh(s:ByteArray):Hg:=match c.mX s with|some n=>([],n)|none=>([s],c.low)
def Env.hgA(f:Ex->Hg)(k:Int)(h:Hg)(args:List Ex):Nat->Hg
 | 0=>h
 | j+1=>if bit k j then c.and (Env.hgA f k h args j) (f (args.getD j ex0))else Env.hgA f k h args j
def Env.hg:Nat->Ex->Hg
 | 0,_=>([],c.low)
 | m+1,x=>
  if x.kind=2 then c.nh x.name
  else if x.kind=3 then c.and (Env.hg m (x.args.getD 0 ex0)) (Env.hg m (x.args.getD 1 ex0))
  else if x.kind=4 then c.hgA (Env.hg m) (c.dW x.name).mask ([],(c.dW x.name).level.toNat) x.args x.args.length
  else ([],c.low)
def Env.JA(s:ByteArray):List ByteArray:=match c.mX s with|some _=>[]|none=>[s]
def Env.mW:Nat->Ex->List ByteArray
 | 0,_=>[]
 | m+1,x=>(if x.kind=2 then c.JA x.name else [])++x.args.flatMap (Env.mW m)
def Env.Eh(s:St):List ByteArray:=if s.kind=1 then c.JA s.name else []
def Env.vS:Nat->List St->List ByteArray
 | 0,_=>[]
 | m+1,l=>l.flatMap λs=>c.mW m s.e++c.Eh s++Env.vS m s.a++Env.vS m s.b
def deed(d md n:ByteArray):ByteArray:=d++md++⟨#[46]⟩++n
def Env.Vh(d s:ByteArray):List ByteArray:=match c.mX s with|some _=>[deed d c.md s]|none=>[]
def Env.zP:Nat->Ex->List ByteArray
 | 0,_=>[]
 | m+1,x=>(if x.kind=2 then c.Vh ⟨#[114,58]⟩ x.name else if x.kind=4 then (c.dW x.name).gY else [])++x.args.flatMap (Env.zP m)
def Env.Pk(s:St):List ByteArray:=
 if s.kind=1 then c.Vh ⟨#[119,58]⟩ s.name else if s.kind=4 then [⟨#[112,58]⟩++s.name]else []
def Env.Pm:Nat->List St->List ByteArray
 | 0,_=>[]
 | m+1,l=>l.flatMap λs=>c.zP m s.e++c.Pk s++Env.Pm m s.a++Env.Pm m s.b
def Env.vM(s:St):Nat:=if s.kind=1 then (c.JA s.name).length else 0
def Env.tH:Nat->List St->Nat
 | 0,_=>0
 | m+1,l=>(l.map λs=>c.vM s+Env.tH m s.a+Env.tH m s.b).sum
end
structure Sk where
 vs:List ByteArray
 lab:Nat
 lv:Int
 name:ByteArray
 gY:Bool
structure Cn where
 «to»:ByteArray
 vs:List ByteArray
 lab:Nat
def sk(h:Hg)(lv:Int)(name:ByteArray)(gY:Bool):Sk:=⟨h.1,h.2,lv,name,gY⟩
section
variable (c : Env)
def Env.XI(f:Ex->Hg)(x:Ex)(j:Nat):List Sk:=(List.range j).map λi=>sk (f (x.args.getD i ex0)) ((c.dW x.name).bounds.getD i 0) x.name false
def Env.yV:Nat->Ex->Hg->List Sk
 | 0,_,_=>[]
 | m+1,x,pc=>(x.args.flatMap λy=>Env.yV m y pc)++if x.kind=4 then c.XI (c.hg m) x x.args.length++[sk pc (c.dW x.name).pc x.name true]else []
def Env.skN(name:ByteArray)(h:Hg):List Sk:=match c.mX name with|some n=>[sk h n name true]|none=>[]
def Env.cnN(name:ByteArray)(h:Hg):List Cn:=match c.mX name with|some _=>[]|none=>[⟨name,h.1,h.2⟩]
def Env.Vi(s:St)(here:Hg):List Sk:=
 if s.kind=1 then c.skN s.name here else if s.kind=4 then [sk here (c.pl s.name) s.name true]else []
def Env.XJ(s:St)(here:Hg):List Cn:=if s.kind=1 then c.cnN s.name here else []
def Env.here(m:Nat)(pc:Hg)(s:St):Hg:=c.and pc (c.hg m s.e)
def Env.at(m:Nat)(pc:Hg)(s:St):Hg:=if s.kind=3 then c.here m pc s else pc
def Env.Jd:Nat->List St->Hg->List Sk
 | 0,_,_=>[]
 | m+1,l,pc=>l.flatMap λs=>c.yV m s.e (c.at m pc s)++c.Vi s (c.here m pc s)++Env.Jd m s.a (c.here m pc s)++Env.Jd m s.b (c.here m pc s)
def Env.G6:Nat->List St->Hg->List Cn
 | 0,_,_=>[]
 | m+1,l,pc=>l.flatMap λs=>c.XJ s (c.here m pc s)++Env.G6 m s.a (c.here m pc s)++Env.G6 m s.b (c.here m pc s)
def nO(nl:List ByteArray)(s:Sk):Si:=⟨nums nl s.vs,0,s.lab,s.lv,s.name,s.gY⟩
def zQ(nl:List ByteArray)(s:Cn):Co:=⟨((idx nl s.to).getD 0:Nat),nums nl s.vs,0,s.lab⟩
def Bo(low:Nat)(i:Nat):Co:=⟨i,[],(2 ^ i:Nat),low⟩
def Env.names(m:Nat)(f:Fu):List ByteArray:=adds f.params (c.vS m f.body++c.mW m f.result)
def Env.gY(m:Nat)(f:Fu):List ByteArray:=c.Pm m f.body++c.zP m f.result
def Env.jq(m:Nat)(f:Fu):Pb:=
 ⟨c.names m f,((List.range f.params.length).map (Bo c.low))++(c.G6 m f.body ([],c.low)).map (zQ (c.names m f)),(c.Jd m f.body ([],c.low)++c.yV m f.result ([],c.low)).map (nO (c.names m f)),nums (c.names m f) (c.hg m f.result).1,0,(c.hg m f.result).2,ji (nN (c.gY m f))⟩
end
structure Sq(N:Nat)(s:Sc)(n:Nat):Prop where
 bounds:s.bounds.length=n
 Ce:∀b∈s.bounds,0<=b/\b<N
 mask:0<=s.mask/\s.mask<=15
 level:0<=s.level/\s.level<N
 pc:0<=s.pc/\s.pc<N
structure Env.Ok(c:Env):Prop where
 low:c.low<c.N
 mX:∀s n,c.mX s=some n->n<c.N
 joins:bN.Joins c.Z c.N
 six:c.N<=6
def Env.wT(c:Env):Nat->Ex->Prop
 | 0,_=>False
 | m+1,x=>x.name.size<=17/\(x.kind=3->x.args.length=2)/\(x.kind=4->x.args.length<=4/\Sq c.N (c.dW x.name) x.args.length)/\∀y∈x.args,Env.wT c m y
def Env.wU(c:Env):Nat->List St->Prop
 | 0,_=>False
 | m+1,l=>∀s∈l,s.name.size<=8/\c.wT m s.e/\(s.kind=1\/s.kind=4->s.a=[]/\s.b=[])/\(s.kind=4->0<=c.pl s.name)/\Env.wU c m s.a/\Env.wU c m s.b
section
variable {c : Env}
theorem Env.Mv(h:c.Ok){a b:Hg}(ha:a.2<c.N)(hb:b.2<c.N):(c.and a b).2<c.N:=h.joins.lt ha hb
theorem Env.hgA_lt(h:c.Ok){f:Ex->Hg}{k:Int}{h0:Hg}{args:List Ex}(h1:h0.2<c.N):∀j,j<=args.length->(∀x∈args,(f x).2<c.N)->(c.hgA f k h0 args j).2<c.N:=by
 intro j;induction j with
 | zero=>intro _ _;exact h1
 | succ j ih=>
  intro hj hf;simp only[Env.hgA];split;·refine Env.Mv h (ih aX hf) (hf _ ?_);rw[List.getD,bD aX];exact kP _
  ·exact ih aX hf
theorem G7{l:List Ex}{i:Nat}(h:i<l.length):l.getD i ex0∈l:=by rw[List.getD,bD h];exact kP h
theorem Env.wV(h:c.Ok):∀{m:Nat} {x:Ex},c.wT m x->(c.hg m x).2<c.N
 | 0,_,hx=>iW hx
 | m+1,x,hx=>by
  obtain⟨_,h3,h4,hr⟩:=hx;simp only[Env.hg];split
  ·unfold Env.nh;split;·rename_i n hn;exact h.mX _ _ hn
   ·exact h.low
  ·split;·rename_i e;have h2:=h3 e;exact Env.Mv h (Env.wV h (hr _ (G7 aX))) (Env.wV h (hr _ (G7 aX)))
   ·split;·rename_i e;obtain⟨_,hs⟩:=h4 e;exact Env.hgA_lt h (by have:=hs.level;simp only;omega) _ (bE _) (λy hy=>Env.wV h (hr y hy))
    ·exact h.low
end
end Fl
open Fl
open Go.Shelf
theorem jN.holds(h:jN w g l):Sort.Holds (Value.int .i64) w g 0 l.toArray:=by
 obtain⟨cur,hc,hsz,hel⟩:=h;intro j hj;have hjl:j<l.length:=by simpa using hj
 refine⟨?_,aG hc _⟩;rw[eD,aj hc,hel j _ (bD hjl)];congr 1;simp[hjl]
theorem jN.Sw{os:Array Obj}(h:jN w g l)(hb:b.length=l.length):jN (Sort.grow (Sort.putRow (Value.int .i64) (Sort.ahead w n) g 0 b.toArray) os) g b:=by
 obtain⟨cur,hc,hsz,hel⟩:=h;have hg:=bq hc;have hblk:(Sort.grow (Sort.putRow (Value.int .i64) (Sort.ahead w n) g 0 b.toArray) os).heap[g]?=some (.cells (Sort.putCells (Value.int .i64) 0 b.toArray cur) 3 (0,0)):=by simp only[Sort.grow,Sort.putRow,Sort.mapBlock,Sort.ahead];rw[ZQ1Z (by simpa using hg)];simp[Zu,hc,Sort.onCells]
 refine⟨_,hblk,by simp only[Sort.putCells,Array.size_mapIdx];omega,λi d hd=>?_⟩;have hi:i<b.length:=by simpa using(dK.1 hd).1
 rw[bD hi]at hd;simp at hd;subst hd;have hic:i<cur.size:=by omega
 simp[Sort.putCells,hic,hi]
theorem XK(w:World)(g len cap:Nat)(l:List Int)(h:jN w g l)(hlen:len=l.length)(hl:l.length<=16777216):Calls prog 256 #[Y (some (X g 0)) len cap] w λe w'=>e=dz (.tuple #[])/\jN w' g (tq l)/\But g w w':=by
 subst hlen;have h0:=h;obtain⟨cur,hc,hsz,hel⟩:=h;have hcon:=Any.slices_Sort_int Tryz.lSoI g 0 cap l w h0.holds (bq hc) aX;refine Calls.mono (show Calls prog 256 #[Y (some (X g 0)) l.length cap] w _ from hcon) ?_;rintro e w' ⟨he,k,os,rfl⟩;refine⟨he,h0.Sw (by rw[U4]),rfl,rfl,rfl,?_,λj hj hp=>?_⟩;·simp[Sort.grow,Sort.putRow,Sort.mapBlock,Sort.ahead]
 ·have hg:=bq hc;simp only[Sort.grow,Sort.putRow,Sort.mapBlock,Sort.ahead];rw[ZQ1Z (by simp;omega)];simp[Zu];intro e';exact aM e'.symm hp
theorem Sy(w:World)(p:Option Addr)(cap:Nat):Calls prog 256 #[Y p 0 cap] w λe w'=>e=dz (.tuple #[])/\w'=w:=
 Any.slices_Sort_int_none Tryz.lSoI p cap w
theorem G8{b:Nat}(hel:∀(j:Nat) z,l[j]?=some z->w.cell? (X b (off+j))=some (O z)):(∀(j:Nat) u,(l.map (Value.int .i64))[j]?=some u->w.cell? (X b (off+j))=some u)/\∀u∈l.map (Value.int .i64),u.oneCell'=true:=by
 refine⟨λj u hu=>?_,λu hu=>?_⟩;·rw[qA]at hu;obtain⟨z,hz,rfl⟩:=vX.1 hu;exact hel j z hz
 ·obtain⟨z,_,rfl⟩:=jP.1 hu;rfl
theorem fM.nil(w:World)(B:Nat):fM w B (J) []:=kg _ _ _ _
theorem fM.row(h:fM w B (Y (some (X g 0)) n cap) l):jN w g l/\l.length<=cap/\n=l.length/\B<=g:=by
 rcases h.2 with⟨h1,_⟩|⟨g',cap',cur,h1,hg,hh,hc,_,hsz,ht⟩;·simp at h1
 ·simp at h1;obtain⟨rfl,rfl,rfl⟩:=h1;refine⟨⟨cur,hh,by omega,λi d hd=>?_⟩,hc,rfl,hg⟩;have hi:=(dK.1 hd).1;have h2:(cur.toList.take (l.length*1))[i]?=some (O d):=by rw[ht,qA,hd];rfl
  rw[qL aX]at h2;simpa using h2
theorem fM.shapeT(h:fM w B v l):(v=J/\l=[])\/∃g cap,v=Y (some (X g 0)) l.length cap/\l.length<=cap/\B<=g/\jN w g l:=by
 have h0:=h;rcases h.2 with⟨rfl,h1⟩|⟨g,cap,cur,rfl,_⟩;·exact aR ⟨rfl,om.1 aX⟩
 ·obtain⟨h1,h2,_,h3⟩:=h0.row;exact aV ⟨g,cap,rfl,h2,h3,h1⟩
def cO(w:World)(v:Value)(l:List Int):Prop:=(v=.slice none 0 0/\l=[])\/∃g cap,v=.slice (some ⟨g,0,none⟩) l.length cap/\l.length<=9223372036854775807/\jN w g l
theorem cO.ints(h:cO w v l):Ints w v l:=by
 rcases h with⟨rfl,rfl⟩|⟨g,cap,rfl,hl,hr⟩;·exact⟨none,0,0,0,rfl,λh=>aM h dx,by simp,λj z hz=>aM hz dx⟩
 ·exact⟨_,g,0,cap,rfl,λ_=>rfl,hl,λj z hz=>by rw[eD];exact hr.cell hz⟩
theorem cO.below(h:cO w v l)(hb:bG w w'):cO w' v l:=by
 rcases h with h|⟨g,cap,e,hl,hr⟩;·exact aR h
 ·exact aV ⟨g,cap,e,hl,hr.below hb⟩
theorem cO.form(h:cO w v l):∃a c,v=Y a l.length c:=by
 rcases h with⟨rfl,rfl⟩|⟨g,cap,rfl,_⟩;·exact⟨_,_,rfl⟩
 ·exact⟨_,_,rfl⟩
theorem cO.nil(w:World):cO w (J) []:=aR ⟨rfl,rfl⟩
theorem fM.Pn(h:fM w B v l)(hl:l.length<=9223372036854775807):cO w v l:=by
 rcases h.shapeT with h|⟨g,cap,e,_,_,hr⟩;·exact aR h
 ·exact aV ⟨g,cap,e,hl,hr⟩
theorem XL(w:World)(n:Nat)(hn:n<=16777216):Calls prog 277 #[J,O n] w λe w'=>∃v,e=dz v/\Hid (fM w' w.heap.size v []/\(n=0->v=J)/\bG w w'):=by
 obtain⟨iS,Ak,hz0,hz1,hz2⟩:=info_parts xO;by_cases h0:n=0;·subst h0;go_enter func277,ntmps277;go_wp2;go_ret;exact⟨_,rfl,I ⟨fM.nil _ _,λ_=>rfl,bP _ _⟩⟩
 ·obtain⟨Z,hZ⟩:∃Z:Value,Z=O 0:=⟨_,rfl⟩;rw[<-hZ]at hz0;have hrz:∀ty,(Builtin.append_ #[27,3] ty #[J,O n]).run prog w=.ok (Y (some (X w.heap.size 0)) n (grownCap w n 0 3)) (w.drew.alloc (.cells (Builtin.zeroCells Z.cells n++Builtin.zeroCells Z.cells (grownCap w n 0 3 - n)) 3)):=λty=>by have h:=Lib.run_append_grow_zeros w 27 3 ty 3 iS Z .i64 .i64 underlying27 underlying3 Ak hz0 none 0 0 [] (run_firstCells_none w.drew _ 0 0 0) n aX aX aX aX (by rw[hz2];omega) (by rw[eD];exact growslice_fits aX (by rw[hz2];omega));simpa using h
  have hGn:n<=grownCap w n 0 3:=grownCap_ge w _ _ _;have hGm:grownCap w n 0 3<=maxLen:=grownCap_le_maxLen w n 0 3 (by unfold maxLen;omega);obtain⟨G,hG⟩:=bC (grownCap w n 0 3);rw[<-hG]at hrz hGn hGm;have hG63:G<=9223372036854775807:=by unfold maxLen at hGm;omega
  have hown:(w.drew.alloc (.cells (Builtin.zeroCells Z.cells n++Builtin.zeroCells Z.cells (G - n)) 3)).ownsRow w.heap.size 3 1 (Y (some (X w.heap.size 0)) 0 G) 0 []:=
   ⟨by simp,.inr ⟨w.heap.size,G,_,rfl,bE _,heap_alloc_new w.drew _,bL _,hGm,by
    have e:∀k,(Builtin.zeroCells Z.cells k).size=k*1:=λk=>by rw[hZ];simp[Builtin.zeroCells,Value.cells]
    rw[Array.size_append,e,e];omega,by simp⟩⟩
  have HO:=I hown;have iA:Hid (bG w (w.drew.alloc (.cells (Builtin.zeroCells Z.cells n++Builtin.zeroCells Z.cells (G - n)) 3))):=I (((bP _ _).drew).alloc dx _);clear hown hG;generalize (w.drew.alloc (.cells (Builtin.zeroCells Z.cells n++Builtin.zeroCells Z.cells (G - n)) 3))=W1 at *;go_enter func277,ntmps277;go_wp2_with (at_builtin;refine Lib.wpList_append_run _ rfl _ _ _ _ rfl _ _ rfl rfl _ _ (hrz _) ?_);go_ret;exact⟨_,rfl,I ⟨HO,λh=>aM h h0,iA⟩⟩
def IntsS(w:World)(v:Value)(ls:List (List Int)):Prop:=
 ∃b off cap,v=.slice (some ⟨b,off,none⟩) ls.length cap/\ls.length<=16/\∀i l,ls[i]?=some l->∃vi,w.cell? ⟨b,off+i,none⟩=some vi/\Ints w vi l
theorem G9{ls:List (List Int)}(h:ls[j]?=some l):(ls.take (j+1)).flatten=(ls.take j).flatten++l:=by obtain⟨hj,rfl⟩:=dK.1 h;rw[rX hj,DJ];simp
theorem Bp(ls:List (List Int))(j:Nat):(ls.take j).flatten.length<=ls.flatten.length:=by
 conv=>rhs;rw[<-oV j ls]
 rw[DJ,aT];omega
theorem Po(w:World)(v:Value)(ls:List (List Int))(h:IntsS w v ls)(hn:ls.flatten.length<=16777216):Calls prog 255 #[v] w λe w'=>∃v',e=dz v'/\Hid (fM w' w.heap.size v' ls.flatten/\(ls.flatten=[]->v'=J)/\bG w w'):=by
 obtain⟨b,off,cap,rfl,hl16,hel⟩:=h;have lK:=I hel;clear hel;obtain⟨len,hlen⟩:=bC ls.length;have HL:=I hlen;rw[<-hlen]at hl16 ⊢;clear hlen;go_enter func255,ntmps255;go_wp2;go_loop [3,11] (λo i=>∃k:Nat,k<=len/\i=O k/\o=O (ls.take k).flatten.length) (λ_ i=>len - (intOf i).toNat);case atStart=>exact⟨0,bL _,rfl,rfl⟩
 case round=>
  obtain⟨k,hk,rfl,rfl⟩:=hrel;have hacc:=bF (Bp ls k) hn;by_cases hlt:k<len
  ·obtain⟨l,hy⟩:∃l,ls[k]?=some l:=⟨_,bD (by rw[<-HL];exact hlt)⟩;obtain⟨vi,g0,hst⟩:=lK k l hy;obtain⟨a,bb,oo,cp,rfl,-⟩:=hst;have HST:Hid ((ls.take (k+1)).flatten.length=(ls.take k).flatten.length+l.length):=I (by rw[G9 hy,aT]);have rH:=bF (Bp ls (k+1)) hn;rw[HST]at rH;generalize (ls.take k).flatten.length=n0 at *;generalize l.length=n1 at *;clear hy;go_wp2;go_round;case rel=>exact⟨k+1,by omega,by go_num,by rw[HST];go_num⟩
   case measure=>simp[intOf];omega
  ·have e:ls.take k=ls:=fU (by have:=HL.out;omega);rw[e]at hacc ⊢;clear e;obtain⟨N,hN⟩:=bC ls.flatten.length;have HN:=I hN;rw[<-hN]at hacc ⊢;clear hN;go_wp2_with fail;refine(XL w N hacc).mono ?_;rintro e w1 ⟨v1,rfl,Kr⟩;obtain⟨ho1,hz1,hb1⟩:=Kr.out;obtain⟨HO,HB⟩:=bU ho1 hb1;have HZ:Hid (ls.flatten=[]->v1=J):=I (λh=>hz1 (by rw[HN,h];rfl));clear ho1 hb1 hk hlt hz1 Kr;go_wp2;go_loopw[6,27] (λo i wr=>∃k:Nat,k<=len/\i=O k/\fM wr w.heap.size o (ls.take k).flatten/\(ls.flatten=[]->o=J)/\bG w wr) (λ_ i _=>len - (intOf i).toNat);case atStart=>exact⟨0,bL _,rfl,HO,HZ,HB⟩
   case round=>
    obtain⟨k,hk,rfl,hown,hzz,hnx⟩:=hrel;by_cases hlt:k<len
    ·obtain⟨l,hy⟩:∃l,ls[k]?=some l:=⟨_,bD (by rw[<-HL];exact hlt)⟩;obtain⟨vi,g0,hst⟩:=lK k l hy;obtain⟨u0,hss⟩:=eY (aD g0 hnx) (hst.below hnx);obtain⟨a,bb,oo,cp,rfl,ha0,-,hel⟩:=hss;obtain⟨HC,Ef,HST⟩:=fD (G8 hel) ha0 (G9 hy);have rH:=bF (Bp ls (k+1)) hn;rw[HST,aT]at rH;obtain⟨HOW,fO,HZZ⟩:=fD hown hnx hzz;have hbs:=hnx.size;have HEM:Hid (ls.flatten=[]->l.length=0):=I (λh=>by have h1:=Bp ls (k+1);rw[HST,aT,h]at h1;simp at h1;simpa using h1.2);have Cc:Hid ((l.map (Value.int .i64)).length=l.length*1):=I dx;obtain⟨n1,hn1⟩:=bC l.length;have LV:=I hn1;rw[<-hn1]at u0 Ef Cc HEM rH;clear hn1 hy hst g0 hown hnx hzz ha0 hel
     go_wp2_with (first
      | (at_builtin;refine j5 rfl _ _ 27 3 1 8 _ rfl underlying27 xO bO bO w.heap.size _ _ _ rfl HOW a bb oo n1 cp (l.map (Value.int .i64)) rfl Ef Cc HC.1 HC.2 (by unfold maxLen;omega) aX hbs ?_;intro v' w2 hown2 hgrow2 hz2 hp2)
      | fail)
     have R2:=I (fO.grown hgrow2 hbs (λj hj=>(HOW.lt j hj).1));have HO2:Hid (fM w2 w.heap.size v' ((ls.take k).flatten++l)):=I (by unfold fM;rw[aT,fQ,<-LV];exact hown2);have HZ2:=I hz2;clear hgrow2 hown2 hz2 hp2;go_roundw;case rel=>exact⟨k+1,by omega,by go_num,by rw[HST];exact HO2,λh=>by rw[HZ2 (HEM h)];exact HZZ h,R2⟩
     case measure=>simp[intOf];omega
    ·have e:ls.take k=ls:=fU (by have:=HL.out;omega);rw[e]at hown;obtain⟨HO2,HZ2,fO⟩:=fD hown hzz hnx;clear hown hzz hnx;go_wp2;go_ret;exact⟨_,rfl,I ⟨HO2,HZ2,fO⟩⟩
theorem He(w:World)(v:Value)(l:List Int)(h:Ints w v l)(hl:l.length<=16777216):Calls prog 254 #[v] w λe w'=>∃v',e=dz v'/\Hid (fM w' w.heap.size v' l/\bG w w'):=by
 obtain⟨a,b,off,cap,rfl,h0,-,hel⟩:=h;cases a with
 | none=>
  have hz:l=[]:=by
   cases l with
   | nil=>rfl
   | cons y r=>exact aM (h0 dx) dx
  subst hz;clear h0 hel;have hnil:∀w c,(binOp .eql 27 (Y none 0 c) (J)).run prog w=.ok (.bool true) w:=λw c=>Lib.run_eql_slice_nil w 27 3 none 0 c 0 0 underlying27;go_enter func254,ntmps254;go_wp2_with fail;go_ret;exact⟨_,rfl,I ⟨fM.nil _ _,bP _ _⟩⟩
 | some ad=>
  have dQ:=I (aH w (aW #[] 3));have HC:=I (G8 (w:=w.alloc (aW #[] 3)) (b:=b) (off:=off) (l:=l) λj z hz=>aD (hel j z hz) dQ);have Cc:Hid ((l.map (Value.int .i64)).length=l.length*1):=I dx;have HH0:=I h0;obtain⟨nl,hnl⟩:=bC l.length;rw[<-hnl]at Cc HH0 hl ⊢;obtain⟨HNL,HL⟩:=bU hnl hl;clear hnl hl h0 hel;have hnil:∀w n c,(binOp .eql 27 (Y (some ad) n c) (J)).run prog w=.ok (.bool false) w:=λw n c=>Lib.run_eql_slice_nil w 27 3 (some ad) n c 0 0 underlying27;have HOW:=I (JU w 3 1);go_enter func254,ntmps254
  go_wp2_with (first
   | (at_builtin;refine j5 rfl _ _ 27 3 1 8 _ rfl underlying27 xO bO bO w.heap.size _ 0 [] rfl HOW (some ad) b off nl cap (l.map (Value.int .i64)) rfl HH0 Cc HC.1 HC.2 (by have:=HL.out;unfold maxLen;omega) (by have:=HL.out;omega) dQ.size ?_;intro v7 w7 jg dL RY hp7;have Ca:=I jg;have jG:=I (Below.grown dQ dL dQ.size (λk e=>by have:=(HOW.lt k e).1;omega));clear jg dL RY hp7)
   | fail)
  go_ret;refine⟨_,rfl,I ⟨?_,jG⟩⟩;unfold fM;rw[<-HNL];have h:=Ca.out;rwa[eD,uL]at h
open Go.Maps Go.WideMaps
structure Kx(B:Nat)(mu:Obj->Bool)(w w':World):Prop where
 os:w'.os=w.os
 tape:w'.tape=w.tape
 output:w'.output=w.output
 size:w.heap.size<=w'.heap.size
 block:∀k o,w.heap[k]?=some o->(k<B\/mu o=false)->w'.heap[k]?=some o
section
variable {B : Nat} {mu : Obj → Bool} {a b w w' : World}
theorem Kx.refl(w:World):Kx B mu w w:=⟨rfl,rfl,rfl,bE _,λ_ _ h _=>h⟩
theorem Kx.trans(h:Kx B mu a b)(k:Kx B mu b w):Kx B mu a w:=
 ⟨k.os.trans h.os,k.tape.trans h.tape,k.output.trans h.output,bF h.size k.size,λi o hi hm=>k.block i o (h.block i o hi hm) hm⟩
theorem Kx.of_below(h:bG w w'):Kx B mu w w':=⟨h.os,h.tape,h.output,h.size,λk o ho _=>by rw[h.block k (bq ho)];exact ho⟩
theorem Kx.below(h:Kx B mu w w')(hB:B<=w.heap.size):Below B w w':=⟨h.os,h.tape,h.output,h.size,λk hk=>by have h1:w.heap[k]?=some w.heap[k]:=Array.getElem?_eq_getElem aX;rw[h1];exact h.block k _ h1 (aR hk)⟩
theorem Kx.at{q:Nat}{o:Obj}(h:Kx B mu w w')(ho:w.heap[q]?=some o)(hm:mu o=false):w'.heap[q]?=some o:=h.block q o ho (aV hm)
theorem Kx.set{p:Nat}{o:Obj}(ho:w.heap[p]?=some o)(hm:mu o=true)(hB:B<=p)(i:Nat)(v:Value):Kx B mu w (w.setCell (X p i) v):=
 ⟨rfl,rfl,rfl,by simp only[World.setCell,Cr];exact bE _,λk o' hk hq=>by
  refine bI hk (λe=>?_) _;subst e;rw[ho]at hk;cases hk;rcases hq with hq|hq;·omega
  ·rw[hm]at hq;cases hq⟩
theorem Kx.grown{r:Option Nat}(hg:w.grownBy w' r)(hr:∀k,r=some k->B<=k/\∀o,w.heap[k]?=some o->mu o=true):Kx B mu w w':=
 ⟨hg.os,hg.tape,hg.output,hg.size,λk o hk hq=>by
  rw[hg.block k (bq hk) (λe=>?_)];·exact hk
  ·obtain⟨h1,h2⟩:=hr k e.symm;rcases hq with hq|hq;·omega
   ·rw[h2 o hk]at hq;cases hq⟩
theorem Kx.cells{v:Value}{l:List Int}(h:Kx B mu w w')(hm:∀cs f,mu (.cells cs 3 f)=false)(hi:cO w v l):cO w' v l:=by
 rcases hi with hi|⟨g,cap,e,hl,cur,hc,hr⟩;·exact aR hi
 ·exact aV ⟨g,cap,e,hl,cur,h.at hc (hm _ _),hr⟩
end
def jD(v:Value):Option (DataW Value × List MemPlace):=some (.held v,[])
def mV(w:World)(b n:Nat)(z:Value)(o:ByteArray->Option Value):Prop:=
 ∃D:DataW Value,w.ownsMap prog 9 jD b n D/\∀s:ByteArray,s.size<=maxLen->
  (Maps.has D (.string s.data.toList)=(o s).isSome/\D.atKey (.string s.data.toList) (.held z)=.held ((o s).getD z))
def jk(o:ByteArray->Option Value)(s:ByteArray)(v:Value):ByteArray->Option Value:=λt=>if dA t s then some v else o t
section
variable {w w' : World} {b n : Nat} {z : Value} {o : ByteArray → Option Value}
theorem mV.kept{row:Option Nat}(h:mV w b n z o)(hg:w.grownBy w' row)(hne:some b≠row):mV w' b n z o:=by obtain⟨D,h1,h2⟩:=h;exact⟨D,h1.kept hg hne,h2⟩
theorem mV.same(h:mV w b n z o)(hb:w'.heap[b]?=w.heap[b]?):mV w' b n z o:=by obtain⟨D,⟨es,cl,h0,h1⟩,h2⟩:=h;exact⟨D,⟨es,cl,by rw[hb];exact h0,h1⟩,h2⟩
theorem mV.mono{n':Nat}(h:mV w b n z o)(hn:n<=n'):mV w b n' z o:=by obtain⟨D,h1,h2⟩:=h;exact⟨D,h1.mono hn,h2⟩
theorem mV.lt(h:mV w b n z o):b<w.heap.size:=by obtain⟨D,h1,_⟩:=h;exact h1.lt
theorem mV.isMap(h:mV w b n z o):∃es cl,w.heap[b]?=some (.map es cl):=by obtain⟨D,⟨es,cl,h0,_⟩,_⟩:=h;exact⟨es,cl,h0⟩
theorem mV.new(w:World)(z:Value):mV (w.alloc (.map #[] 0)) w.heap.size 0 z (λ_=>none):=
 ⟨.map [],World.ownsMap_made _ _ _ _,λ_ _=>⟨rfl,rfl⟩⟩
theorem mV.put{t e:TypeId}(ht:prog.underlying t=some (.map 9 e))(h:mV w b n z o)(hn:n<maxLen){s:ByteArray}(hs:s.size<=maxLen)(v:Value):∃w',(Instr.mapUpdate t (.map (some b)) (.string s) v).run prog w=.ok () w'/\mV w' b (n+1) z (jk o s v)/\w.grownBy w' (some b):=by
 obtain⟨D,h1,h2⟩:=h;obtain⟨w',e,h3,h4⟩:=h1.update pJ ht hn (keyOf_string_mk underlying9 hs) (show jD v=some (.held v,[])from rfl);refine⟨w',e,⟨_,h3,λt ht=>?_⟩,h4⟩;cases hst:dA t s with
 | true =>have:=key_eq hst;subst this;rw[has_put_same h1.isMap (show WideAt.IsKeyLit (.string t.data.toList)from trivial),atKey_put_same h1.isMap (show WideAt.IsKeyLit (.string t.data.toList)from trivial)];simp[jk,hst]
 | false =>rw[has_put_other (wL hst),atKey_put_other (wL hst)];simpa[jk,hst]using h2 t ht
theorem Pp{v u:Value}{ps:List MemPlace}(h:jD v=some (.held u,ps)):v=u:=by unfold jD at h;simp only[Option.some.injEq,pq,DataW.held.injEq]at h;exact h.1
theorem mV.look{t e:TypeId}(ht:prog.underlying t=some (.map 9 e))(hz:∀w,(zeroValue e).run prog w=.ok z w)(h:mV w b n z o){s:aY}(hs:s.size<=maxLen):(Instr.lookup t (.map (some b)) (A s) false).run prog w=.ok ((o s).getD z) w:=by obtain⟨D,h1,h2⟩:=h;obtain⟨v,ps,e,h3⟩:=h1.lookup pJ ht (hz w) (zd:=.held z) (zp:=[]) rfl (keyOf_string_mk underlying9 hs);rw[(h2 s hs).2]at h3;rw[e,Pp h3]
theorem mV.sw{t e:TypeId}(ht:prog.underlying t=some (.map 9 e))(hz:∀w,(zeroValue e).run prog w=.ok z w)(h:mV w b n z o){s:aY}(hs:s.size<=maxLen):(Instr.lookup t (.map (some b)) (A s) true).run prog w=.ok (.tuple #[(o s).getD z,.bool (o s).isSome]) w:=by obtain⟨D,h1,h2⟩:=h;obtain⟨v,ps,e,h3⟩:=h1.look_ok pJ ht (hz w) (zd:=.held z) (zp:=[]) rfl (keyOf_string_mk underlying9 hs);rw[(h2 s hs).2]at h3;rw[e,(h2 s hs).1,Pp h3]
end
def C8(w:World)(v:Value)(y:Sc):Prop:=∃vb ve,v=.agg #[.string y.fn,.int .i64 y.mask,.int .i64 y.level,vb,.int .i64 y.pc,ve]/\Ints w vb y.bounds/\Strs w ve y.gY
theorem C8.below{y:Sc}(h:C8 w v y)(hb:bG w w'):C8 w' v y:=by obtain⟨vb,ve,e,h1,h2⟩:=h;exact⟨vb,ve,e,h1.below hb,h2.below hb⟩
def yX(w:World)(v:Value)(l:List Sc):Prop:=
 ∃(a:Option Addr) (b off cap:Nat),v=.slice a l.length cap/\(0<l.length->a=some ⟨b,off,none⟩)/\l.length<=9223372036854775807/\
  ∀(i:Nat) y,l[i]?=some y->∃vb ve,w.cell? ⟨b,off+i*6,none⟩=some (.string y.fn)/\w.cell? ⟨b,off+i*6+1,none⟩=some (.int .i64 y.mask)/\w.cell? ⟨b,off+i*6+2,none⟩=some (.int .i64 y.level)/\
   w.cell? ⟨b,off+i*6+3,none⟩=some vb/\w.cell? ⟨b,off+i*6+4,none⟩=some (.int .i64 y.pc)/\w.cell? ⟨b,off+i*6+5,none⟩=some ve/\Ints w vb y.bounds/\Strs w ve y.gY
theorem yX.below{l:List Sc}(h:yX w v l)(hb:bG w w'):yX w' v l:=by obtain⟨a,b,off,cap,e,h0,hl,h1⟩:=h;refine⟨a,b,off,cap,e,h0,hl,λi y hy=>?_⟩;obtain⟨vb,ve,g0,g1,g2,g3,g4,g5,k1,k2⟩:=h1 i y hy;exact⟨vb,ve,aD g0 hb,aD g1 hb,aD g2 hb,aD g3 hb,aD g4 hb,aD g5 hb,k1.below hb,k2.below hb⟩
def zR(w:World)(v:Value)(l:List (List Sc)):Prop:=
 ∃(a:Option Addr) (b off cap:Nat),v=.slice a l.length cap/\(0<l.length->a=some ⟨b,off,none⟩)/\l.length<=9223372036854775807/\
  ∀(i:Nat) y,l[i]?=some y->∃u,w.cell? ⟨b,off+i,none⟩=some u/\yX w u y
theorem zR.below{l:List (List Sc)}(h:zR w v l)(hb:bG w w'):zR w' v l:=by obtain⟨a,b,off,cap,e,h0,hl,h1⟩:=h;refine⟨a,b,off,cap,e,h0,hl,λi y hy=>?_⟩;obtain⟨u,g0,k1⟩:=h1 i y hy;exact⟨u,aD g0 hb,k1.below hb⟩
def sc0:Value:=.agg #[.string ⟨#[]⟩,.int .i64 0,.int .i64 0,.slice none 0 0,.int .i64 0,.slice none 0 0]
theorem Sz(w:World):(zeroValue 35).run prog w=.ok sc0 w:=by kernel_rfl
structure Sp where
 p:Nat
 vn:Value
 vl:Value
 ss:List ByteArray
 G:Nat
 L:Nat->Nat
 c:Fl.Env
 ml:Nat
 mn:Nat
 mc:Nat
structure Bq(w:World)(q:Sp)(nl:List ByteArray)(eB:ByteArray->Option Value)(dS:Value)(sets:Int)(ve:Value):Prop where
 blk:w.heap[q.p]?=some (.cells #[q.vn,q.vl,.int .i64 q.c.low,.string q.c.md,.map (some q.ml),dS,.map (some q.mn),.map (some q.mc),.int .i64 sets,ve] 204 (0,0))
 lat:lT w q.vn q.vl q.ss q.G q.L q.c.Z
 N:q.c.N=q.ss.length
 levels:qd w q.ml 1048576 (λs=>(q.c.mX s).map λn:Nat=>(n:Int))
 numbers:qd w q.mn nl.length (λs=>(Fl.idx nl s).map λn:Nat=>(n:Int))
 called:mV w q.mc 16777216 sc0 eB
 dW:∀s v,eB s=some v->C8 w v (q.c.dW s)
 nodup:nl.Nodup
 len:nl.length<=1048576
section
variable {w w' : World} {q : Sp} {nl : List ByteArray} {eB : ByteArray → Option Value} {dS : Value} {sets : Int} {ve : Value}
theorem qd.below{b n:Nat}{o:Rn.Own}(h:qd w b n o)(hb:bG w w'):qd w' b n o:=h.same (hb.block _ h.lt)
theorem mV.below{b n:Nat}{z:Value}{o:aY->Option Value}(h:mV w b n z o)(hb:bG w w'):mV w' b n z o:=h.same (hb.block _ h.lt)
theorem Bq.below(h:Bq w q nl eB dS sets ve)(hb:bG w w'):Bq w' q nl eB dS sets ve:=
 ⟨aU h.blk hb,h.lat.below hb,h.N,h.levels.below hb,h.numbers.below hb,h.called.below hb,λs v hv=>(h.dW s v hv).below hb,h.nodup,h.len⟩
theorem Bq.cells(h:Bq w q nl eB dS sets ve):w.cell? (X q.p 0)=some q.vn/\w.cell? (X q.p 1)=some q.vl/\w.cell? (X q.p 2)=some (O q.c.low)/\w.cell? (X q.p 3)=some (A q.c.md)/\w.cell? (X q.p 4)=some (.map (some q.ml))/\
  w.cell? (X q.p 5)=some dS/\w.cell? (X q.p 6)=some (.map (some q.mn))/\w.cell? (X q.p 7)=some (.map (some q.mc))/\w.cell? (X q.p 8)=some (O sets)/\w.cell? (X q.p 9)=some ve:=
 ⟨(aj h.blk 0).trans rfl,(aj h.blk 1).trans rfl,(aj h.blk 2).trans rfl,(aj h.blk 3).trans rfl,(aj h.blk 4).trans rfl,(aj h.blk 5).trans rfl,(aj h.blk 6).trans rfl,(aj h.blk 7).trans rfl,(aj h.blk 8).trans rfl,(aj h.blk 9).trans rfl⟩
end
def gQ(w:World)(nl:List ByteArray)(vf:Value)(h:Fl.Hg):Prop:=cO w vf (Fl.nums nl h.1)
theorem gQ.below{h:Fl.Hg}(hh:gQ w nl vf h)(hb:bG w w'):gQ w' nl vf h:=cO.below hh hb
theorem gQ.nil(w:World)(nl:List aY)(n:Nat):gQ w nl (J) ([],n):=by unfold gQ;rw[nums_nil];exact cO.nil w
theorem jl(h:Below n w W)(hB:n<=B)(x y:Value):Below n w ((W.setCell (X B 0) x).setCell (X B 1) y):=(h.setCell hB _).setCell hB _
theorem C9(w:World)(vf:Value)(n:Int):Calls prog 170 #[.agg #[vf,O n]] w λe w'=>e=dz (.agg #[O 0,O n])/\bG w w':=by have q1:=sM (w) vf (O n) 263;have r1:((w.alloc (aW #[vf,O n] 263)).alloc (aW #[O 0,O 0] 33)).cell? (X w.heap.size 1)=some (O n):=aD q1 (aH _ _);clear q1;go_enter func170,ntmps170;go_wp2;refine bV (v:=.agg #[O 0,O n]) (by simp[results,results170,go_sem]) rfl ⟨rfl,?_⟩;exact up (aH _ _) (aH _ _)
theorem vw{t:TypeId}(h:W.heap[B]?=some (.cells #[r0,r1] t (0,0)))(c0 c1:Value):((W.setCell (X B 0) c0).setCell (X B 1) c1).heap[B]?=some (.cells #[c0,c1] t (0,0)):=aO (aO h 0 c0) 1 c1
theorem Za(w:World)(o0 o1 o2:Obj):∃W,W=((w.alloc o0).alloc o1).alloc o2/\W.heap[w.heap.size]?=some o0/\W.heap[w.heap.size+1]?=some o1/\W.heap[w.heap.size+1+1]?=some o2/\W.heap.size=w.heap.size+1+1+1/\bG w W:=by
 refine⟨_,rfl,dw (dw (aZ w _) _) _,?_,?_,by simp,(((bP _ _).alloc (bE _) _).alloc dx _).alloc (by simp;omega) _⟩;·have h:=aZ (w.alloc o0) o1;rw[show(w.alloc o0).heap.size=w.heap.size+1 by simp]at h;exact dw h _
 ·have h:=aZ ((w.alloc o0).alloc o1) o2;rw[show((w.alloc o0).alloc o1).heap.size=w.heap.size+1+1 by simp]at h;exact h
theorem bH(h:Below n w w'):Below n w w'.drew:=h.drew
theorem XM(h:jN w g l):jN w.drew g l:=h
theorem jN.Hf(h:jN w g l){a:Addr}(ha:g≠a.block)(v:Value):jN (w.setCell a v) g l:=by obtain⟨cur,hc,h1,h2⟩:=h;exact⟨cur,bI hc ha v,h1,h2⟩
theorem Hl(w:World)(q:Sp)(nl:List aY)(eB:aY->Option Value)(dS:Value)(sets:Int)(ve va vb:Value)(a b:Fl.Hg)(hS:Bq w q nl eB dS sets ve)(ha:gQ w nl va a)(hb:gQ w nl vb b)(la:a.2<q.c.N)(lb:b.2<q.c.N):Calls prog 217 #[iO q.p,.agg #[va,O a.2],.agg #[vb,O b.2]] w λe w'=>∃vf,e=dz (.agg #[vf,O (q.c.and a b).2])/\Hid (gQ w' nl vf (q.c.and a b)/\bG w w'):=by
 obtain⟨W,hW,k0,k1,k2,hsz,hBW⟩:=Za w (aW #[va,O a.2] 263) (aW #[vb,O b.2] 263) (aW #[J,O 0] 263);obtain⟨aah,hJ⟩:=bC ((q.c.and a b).2);have HJN:Hid (∀wx,bG W wx->Calls prog 222 #[.agg #[q.vn,q.vl],O a.2,O b.2] wx λe w'=>e=dz (O aah)/\bG wx w'):=I λwx hx=>by rw[hJ];have h:=Ec wx q.vn q.vl q.ss.length a.2 b.2 q.c.Z ((hS.lat.below (up hBW hx)).grid) hS.lat.six (by rw[<-hS.N];exact la) (by rw[<-hS.N];exact lb);rw[<-hS.N]at h;exact h
 have HAND:Hid (∀vf w',cO w' vf (jT (tq (Fl.nums nl a.1++Fl.nums nl b.1)))->gQ w' nl vf (q.c.and a b)):=I λvf w' h=>by rw[XH]at h;exact h
 have HLEN:Hid ((Fl.nums nl a.1++Fl.nums nl b.1).length<=16777216):=I (by have h1:=tC nl a.1;have h2:=tC nl b.1;have h3:=hS.len;rw[aT];omega);obtain⟨HIA,HIB⟩:=bU (cO.below ha hBW) (cO.below hb hBW);obtain⟨aa,ca,rfl⟩:=cO.form ha;obtain⟨ab,cb,rfl⟩:=cO.form hb;have HF:Hid (∀wx,bG W wx->wx.cell? (X q.p 0)=some q.vn/\wx.cell? (X q.p 1)=some q.vl/\wx.cell? (X w.heap.size 1)=some (O a.2)/\wx.cell? (X (w.heap.size+1) 1)=some (O b.2)):=I λwx hx=>by have hc:=(hS.below (up hBW hx)).cells;exact⟨hc.1,hc.2.1,(aj (aU k0 hx) 1).trans rfl,(aj (aU k1 hx) 1).trans rfl⟩
 have HR:Hid (∀wx,bG W wx->wx.heap[w.heap.size+1+1]?=some (aW #[J,O 0] 263)):=I λwx hx=>aU k2 hx;have q0:=aj k0 0;have q1:=aj k1 0;rw[<-hJ];generalize (Fl.nums nl a.1).length=na at *;generalize (Fl.nums nl b.1).length=nb at *;obtain⟨iA,zS⟩:=bU hBW hsz;clear hS ha hb k0 k1 k2 hBW hsz hJ la lb;go_enter func217,ntmps217;go_wp2_with fail;rw[<-hW];have HU:=I (aH W (aW #[Y aa na ca,Y ab nb cb] 27));have HIS:Hid (IntsS (W.alloc (aW #[Y aa na ca,Y ab nb cb] 27)) (Y (some (X (w.heap.size+1+1+1) 0)) 2 2) [Fl.nums nl a.1,Fl.nums nl b.1]):=I ⟨_,0,2,rfl,by simp,λi l hl=>by
  have hbl:=aZ W (aW #[Y aa na ca,Y ab nb cb] 27);rw[zS]at hbl;match i,hl with
  | 0,hl=>simp at hl;subst hl;exact⟨_,(aj hbl 0).trans rfl,(HIA.below HU).ints⟩
  | 1,hl=>simp at hl;subst hl;exact⟨_,(aj hbl 1).trans rfl,(HIB.below HU).ints⟩
  | i+2,hl=>simp at hl⟩
 have Cc:Hid ([Fl.nums nl a.1,Fl.nums nl b.1].flatten=Fl.nums nl a.1++Fl.nums nl b.1):=I dx;obtain⟨F,hF⟩:=bC (Fl.nums nl a.1++Fl.nums nl b.1);rw[<-hF]at Cc HLEN HAND;have qK:=I (Po _ _ _ HIS (by rw[Cc];exact HLEN));rw[Cc]at qK;clear hF;refine qK.mono ?_;rintro e w1 ⟨v1,rfl,Kr⟩;obtain⟨hown,hnil,hb1⟩:=Kr.out;have HB1:=I (up HU hb1);clear Kr hW q0 q1;rcases fM.shapeT hown with⟨rfl,hF0⟩|⟨g,cap,rfl,hcp,hg,hrow⟩
 ·have ug:=I hF0;clear hF0 hnil hown hb1;go_wp2_with fail;refine(Sy _ _ _).mono ?_;rintro e w2 ⟨rfl,hw2⟩;subst hw2;obtain⟨c0,c1,c2,c3⟩:=HF _ HB1;go_wp2_with fail;refine bW [some false,none,some false,some false,some false,some true,some false,some true,some false,some true,none,none,none] 12 (λw'=>w'.cell? (X q.p 0)=some q.vn/\w'.cell? (X q.p 1)=some q.vl/\w'.cell? (X w.heap.size 1)=some (O a.2)/\w'.cell? (X (w.heap.size+1) 1)=some (O b.2)) 4 bR bR (λ_ _ d _ _ h=>(by cases d<;>exact h)) (HF _ (bH HB1)) ?_;dsimp only[fE];repeat(first|(refine fq (v:=?_) cZ ?_ ?_;rotate_left 1;(focus(intro w;go_simp;try(with_reducible rfl)));simp only[Act.put,dG,dM,dU])|(refine fA (v:=?_) cZ ?_ ?_;rotate_left 1;(focus(intro w hSw;go_simp;try(with_reducible rfl)));simp only[Act.put,dG,dM,dU]))
  refine dH ?_;refine aN (i:=1) bR cZ (λK hK=>?_);go_simp;go_at_call 257;refine(Jz _).mono ?_;rintro e w9 ⟨rfl,hw9⟩;subst hw9;dsimp only;refine hK _ _ (λ_=>HF _ (bH HB1)) ?_;clear hK K;refine aN (i:=10) bR cZ (λK hK=>?_);go_simp;go_at_call 222;refine(HJN _ (bH HB1)).mono ?_;rintro e w9 ⟨rfl,uh⟩;have xX:=I (up (bH HB1) uh);clear uh;dsimp only;refine hK _ _ (λ_=>HF _ xX) ?_;clear hK K;refine aN (i:=11) bR cZ (λK hK=>?_);go_simp;refine hK _ _ (λ_=>HF _ xX) ?_;clear hK K;have j6:=I (HR _ xX);obtain⟨r0,r1⟩:=iV j6;obtain⟨z0,z1⟩:=eY (aG j6 0) (aG j6 1);refine aN (i:=12) bR cZ (λK hK=>?_);go_simp;refine hK _ _ (λh=>aM (h.symm.trans bR) gN) ?_;clear hK K;refine dB bR ?_ _;go_wp2_with fail;have hs:=vw j6 (J) (O aah);obtain⟨f0,f1⟩:=iV hs;refine bV (v:=.agg #[J,O aah]) (by simp[results,results217,go_sem,f0,f1]) rfl ⟨_,rfl,I ⟨?_,jl (up iA xX) aX _ _⟩⟩;refine HAND _ _ ?_;rw[ug,show jT (tq [])=[]from by simp[tq,jT]];exact cO.nil _
 ·have uO:=I hrow;have HG:Hid (W.heap.size<g):=I (by have:=hg;rw[show(W.alloc (aW #[Y aa na ca,Y ab nb cb] 27)).heap.size=W.heap.size+1 by simp]at this;omega);obtain⟨fl,hfl⟩:=bC F.length;have HFLN:=I hfl;rw[<-hfl]at hcp HLEN ⊢;have HCPP:=I hcp;clear hrow hg hfl hnil hown hb1;go_wp2_with fail;refine(XK w1 g fl cap F uO HFLN (by rw[<-HFLN];exact HLEN)).mono ?_;rintro e w2 ⟨rfl,hrow2,hb2⟩;obtain⟨qM,HB2⟩:=bU hrow2 (HB1.trans (hb2.below (Nat.le_of_lt HG) HB1.size));have HCP:Hid (∀wx,jN wx g (tq F)->Calls prog 257 #[Y (some (X g 0)) fl cap] wx λe w'=>∃c',e=dz (Y (some (X g 0)) (jT (tq F)).length c')/\jN w' g (jT (tq F))/\But g wx w'):=I λwx hr=>Ms wx g fl cap (tq F) hr (by rw[OZ];exact HFLN) HCPP HLEN;have HPLE:Hid ((jT (tq F)).length<=9223372036854775807):=I (by have h1:=cptI_len (tq F);rw[OZ,<-HFLN]at h1;have:=HLEN.out;omega);obtain⟨pl,hpl⟩:=bC ((jT (tq F)).length);have Xz:=I hpl;rw[<-hpl]at HCP HPLE;clear hrow2 hb2 hpl hcp;obtain⟨c0,c1,c2,c3⟩:=HF _ HB2;go_wp2_with fail;refine bW [some false,none,some false,some false,some false,some true,some false,some true,some false,some true,none,none,none] 12 (λw'=>w'.cell? (X q.p 0)=some q.vn/\w'.cell? (X q.p 1)=some q.vl/\w'.cell? (X w.heap.size 1)=some (O a.2)/\w'.cell? (X (w.heap.size+1) 1)=some (O b.2)) 4 bR bR (λ_ _ d _ _ h=>(by cases d<;>exact h)) (HF _ (bH HB2)) ?_;dsimp only[fE];repeat(first|(refine fq (v:=?_) cZ ?_ ?_;rotate_left 1;(focus(intro w;go_simp;try(with_reducible rfl)));simp only[Act.put,dG,dM,dU])|(refine fA (v:=?_) cZ ?_ ?_;rotate_left 1;(focus(intro w hSw;go_simp;try(with_reducible rfl)));simp only[Act.put,dG,dM,dU]))
  refine dH ?_;refine aN (i:=1) bR cZ (λK hK=>?_);go_simp;go_at_call 257;refine(HCP w2.drew (XM qM)).mono ?_;rintro e w5 ⟨c5,rfl,hrow5,hb5⟩;obtain⟨HROW5,d9⟩:=bU hrow5 ((bH HB2).trans (hb5.below (Nat.le_of_lt HG) (bH HB2).size));clear hrow5 hb5;dsimp only;refine hK _ _ (λ_=>HF _ d9) ?_;clear hK K;refine aN (i:=10) bR cZ (λK hK=>?_);go_simp;go_at_call 222;refine(HJN _ d9).mono ?_;rintro e w9 ⟨rfl,uh⟩;obtain⟨HROW9,xX⟩:=bU (HROW5.below uh) (up d9 uh);clear uh;dsimp only;refine hK _ _ (λ_=>HF _ xX) ?_;clear hK K;refine aN (i:=11) bR cZ (λK hK=>?_);go_simp;refine hK _ _ (λ_=>HF _ xX) ?_;clear hK K;have j6:=I (HR _ xX);obtain⟨r0,r1⟩:=iV j6;obtain⟨z0,z1⟩:=eY (aG j6 0) (aG j6 1);refine aN (i:=12) bR cZ (λK hK=>?_);go_simp;refine hK _ _ (λh=>aM (h.symm.trans bR) gN) ?_;clear hK K;refine dB bR ?_ _;go_wp2_with fail;have hs:=vw j6 (Y (some (X g 0)) pl c5) (O aah);obtain⟨f0,f1⟩:=iV hs;refine bV (v:=.agg #[Y (some (X g 0)) pl c5,O aah]) (by simp[results,results217,go_sem,f0,f1]) rfl ⟨_,rfl,I ⟨?_,jl (up iA xX) aX _ _⟩⟩;refine HAND _ _ (aV ⟨g,c5,by rw[Xz],by rw[<-Xz];exact HPLE,(HROW9.Hf (by have:=HG.out;have:=zS.out;show g≠w.heap.size+1+1;omega) _).Hf (by have:=HG.out;have:=zS.out;show g≠w.heap.size+1+1;omega) _⟩)
namespace Fl
def cls:Nat->Ex->List ByteArray
 | 0,_=>[]
 | m+1,x=>(if x.kind=4 then [x.name]else [])++x.args.flatMap (cls m)
end Fl
theorem qd.rQ{b:Nat}{o:aY->Option Nat}(h:qd w b n (λs=>(o s).map λn:Nat=>(n:Int)))(hs:s.size<=maxLen):(Instr.lookup 95 (.map (some b)) (A s) true).run prog w=.ok (.tuple #[O (((o s).map λn:Nat=>(n:Int)).getD 0),.bool (o s).isSome]) w:=by have:=h.sw hs;rwa[Option.isSome_map]at this
theorem EL(w:World)(q:Sp)(nl:List aY)(eB:aY->Option Value)(dS:Value)(sets:Int)(ve:Value)(s:aY)(hS:Bq w q nl eB dS sets ve)(hs:s.size<=maxLen)(hin:q.c.mX s=none->s∈nl):Calls prog 216 #[iO q.p,A s] w λe w'=>∃vf,e=dz (.agg #[vf,O (q.c.nh s).2])/\Hid (gQ w' nl vf (q.c.nh s)/\bG w w'):=by
 obtain⟨W,hW⟩:=bC (w.alloc (aW #[J,O 0] 263));have hBW:bG w W:=by rw[hW];exact aH _ _
 have k0:W.heap[w.heap.size]?=some (aW #[J,O 0] 263):=by rw[hW];exact aZ _ _
 have hsz:W.heap.size=w.heap.size+1:=by rw[hW];simp
 have NT:=I (hS.below hBW);have HR:Hid (∀wx,bG W wx->wx.heap[w.heap.size]?=some (aW #[J,O 0] 263)):=I λwx hx=>aU k0 hx;obtain⟨iA,zS⟩:=bU hBW hsz;cases hv:q.c.mX s with
 | some n =>rw[show q.c.nh s=([],n) by simp[Fl.Env.nh,hv]];have hl:=NT.levels.rQ hs;rw[hv]at hl;simp only[pz,iw,nP]at hl;obtain⟨c0,c1,c2,c3,c4,-⟩:=NT.cells;clear hS hin hv k0 hBW hsz;subst hW;go_enter func216,ntmps216;go_wp2_with fail;refine bV (v:=.agg #[J,O (n:Nat)]) (by simp[results,results216,go_sem]) rfl ⟨_,rfl,I ⟨gQ.nil _ _ _,aH _ _⟩⟩
 | none=>
  rw[show q.c.nh s=([s],q.c.low) by simp[Fl.Env.nh,hv]];obtain⟨i,hi⟩:=Fl.uR (hin hv);have hl:=NT.levels.rQ hs;rw[hv]at hl;simp only[Da,mJ,nQ]at hl;have HF:Hid (∀wx,bG W wx->wx.cell? (X q.p 6)=some (.map (some q.mn))/\wx.cell? (X q.p 2)=some (O q.c.low)/\(Instr.lookup 95 (.map (some q.mn)) (A s) false).run prog wx=.ok (O (i:Nat)) wx):=I λwx hx=>by have hh:=NT.below hx;obtain⟨c0,c1,c2,c3,c4,c5,c6,-⟩:=hh.cells;have:=hh.numbers.look hs;rw[hi]at this;exact⟨c6,c2,this⟩
  have Fz:=I (nums_one NT.nodup hi);obtain⟨c0,c1,c2,c3,c4,-⟩:=NT.cells;clear hS hin hv k0 hBW hsz hi;subst hW;go_enter func216,ntmps216;go_wp2_with fail;generalize w.alloc (aW #[J,O 0] 263)=W at *;clear hl c0 c1 c2 c3 c4;refine bW [some false,some false,some false,some true,some false,some true,none,some false,some false,some false,some true,none,none] 12 (λw'=>w'.cell? (X q.p 6)=some (.map (some q.mn))/\w'.cell? (X q.p 2)=some (O q.c.low)/\(Instr.lookup 95 (.map (some q.mn)) (A s) false).run prog w'=.ok (O (i:Nat)) w') 3 bR bR (λ_ _ d _ _ h=>(by cases d<;>exact h)) (HF _ (bH (bP _ _))) ?_;dsimp only[fE];repeat(first|(refine fq (v:=?_) cZ ?_ ?_;rotate_left 1;(focus(intro w;go_simp;try(with_reducible rfl)));simp only[Act.put,dG,dM,dU])|(refine fA (v:=?_) cZ ?_ ?_;rotate_left 1;(focus(intro w hSw;go_simp;try(with_reducible rfl)));simp only[Act.put,dG,dM,dU]))
  refine dH ?_;refine aN (i:=6) bR cZ (λK hK=>?_);go_simp;refine hK _ _ (λ_=>HF _ (bH (aH _ _))) ?_;clear hK K;try simp only[Act.put,dG,dM,dU]
  have HWN:=I (bH (aH W (aW #[O (i:Nat)] 3)));have HRW:Hid (jN (W.alloc (aW #[O (i:Nat)] 3)).drew W.heap.size [(i:Int)]):=I ⟨_,aZ W _,by simp,λj d hd=>by
   match j,hd with
   | 0,hd=>simp at hd;subst hd;rfl
   | j+1,hd=>simp at hd⟩
  generalize (W.alloc (aW #[O (i:Nat)] 3)).drew=W9 at *;refine aN (i:=11) bR cZ (λK hK=>?_);go_simp;refine hK _ _ (λ_=>HF _ HWN) ?_;clear hK K;have j6:=I (HR _ HWN);obtain⟨r0,r1⟩:=iV j6;obtain⟨z0,z1⟩:=eY (aG j6 0) (aG j6 1);refine aN (i:=12) bR cZ (λK hK=>?_);go_simp;refine hK _ _ (λh=>aM (h.symm.trans bR) gN) ?_;clear hK K;refine dB bR ?_ _;go_wp2_with fail;have hs':=vw j6 (Y (some (X W.heap.size 0)) 1 1) (O q.c.low);obtain⟨f0,f1⟩:=eY ((aj hs' 0).trans rfl) ((aj hs' 1).trans rfl);refine bV (v:=.agg #[Y (some (X W.heap.size 0)) 1 1,O q.c.low]) (by simp[results,results216,go_sem,f0,f1]) rfl ⟨_,rfl,I ⟨?_,jl (up iA HWN) (bE _) _ _⟩⟩;unfold gQ;rw[Fz];exact aV ⟨_,1,rfl,by simp,(HRW.Hf (by have:=zS.out;show W.heap.size≠w.heap.size;omega) _).Hf (by have:=zS.out;show W.heap.size≠w.heap.size;omega) _⟩
end Go.Proofs.YtbgkpehhdibaoaaGreatDoor
