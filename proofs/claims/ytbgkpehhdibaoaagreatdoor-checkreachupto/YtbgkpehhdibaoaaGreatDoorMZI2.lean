/- part -/
import Derived.Lib.AppendIntMem
import Derived.Lib.ItoaLen
import Derived.Test.YtbgkpehhdibaoaaGreatDoorMZAI
set_option maxHeartbeats 0
set_option maxRecDepth 99999
namespace Go.Proofs.YtbgkpehhdibaoaaGreatDoor
open bO
open Go.Proofs.Tryz
open Go.RowKit Go.Maps Go.WideMaps
namespace bO
def xR(ss:List aZ)(k:Nat):Bool:=!((ss.take k).any λt=>t.data.toList==(ss.getD k ByteArray.empty).data.toList)&&dx (ss.getD k ByteArray.empty).data.toList
def mH(ss:List aZ):Bool:=(List.range ss.length).all (xR ss)&&decide (0<ss.length)
end bO
variable{w w':World}{t:Ex->aZ}{a b:aZ}
theorem lawS:Keyed prog 9:=string_keyed underlying9
theorem Cu(w:World):(zeroValue 3).run prog w=.ok (O 0) w:=by kernel_rfl
theorem any_take(ss:List aZ)(k:Nat)(hk:k<ss.length)(p:aZ->Bool):(ss.take (k+1)).any p=((ss.take k).any p||p (ss.getD k ByteArray.empty)):=by rw[kR hk,List.any_append];simp[List.getD,bg hk]
theorem has_next{ss:List ByteArray}{k:Nat}(hk:k<ss.length){D:DataW Unit}(hm:IsMap D)(h:∀l,Maps.has D (.string l)=(ss.take k).any λt=>t.data.toList==l)(d:DataW Unit):∀l,Maps.has (D.put (.string (ss.getD k ByteArray.empty).data.toList) d) (.string l)=(ss.take (k+1)).any λt=>t.data.toList==l:=by
 intro l;rw[any_take ss k hk];by_cases e:l=(ss.getD k ByteArray.empty).data.toList;·subst e;rw[has_put_same hm (by simp[WideAt.IsKeyLit])];simp
 ·rw[has_put_other (by intro h';exact e (by injection h')),h l];have e':((ss.getD k ByteArray.empty).data.toList==l)=false:=beq_eq_false_iff_ne.2 (λh'=>e h'.symm);rw[e',Bool.or_false]
theorem Zc{ss:List aZ}(h:∀s∈ss,s.size<=maxLen)(k:Nat):(ss.getD k ByteArray.empty).size<=maxLen:=by
 by_cases hk:k<ss.length;·rw[List.getD,bg hk];exact h _ (jS hk)
 ·rw[List.getD,L6 aV];exact bI _
theorem K3(w:World)(v:Value)(ss:List ByteArray)(hS:Strs w v ss):Calls prog 66 #[v] w λe w'=>e=.returned (.bool (mH ss))/\Below w.heap.size w w':=by
 obtain⟨a,b,off,cap,rfl,ha,hl,hs,h1⟩:=hS;obtain⟨len,hlen⟩:=bC ss.length;rw[<-hlen]at ha hl h1 ⊢;have HL:Hid (len=ss.length):=hlen;clear hlen;have hmm:=@run_makeMap prog;go_enter func66,ntmps66;go_wp2;go_loopw[11] (λi wr=>∃k:Nat,k<=len/\i=.int .i64 k/\(∀d,d<k->xR ss d=true)/\Below w.heap.size w wr/\∃D:DataW Unit,wr.ownsMap prog 9 (plainElem prog 3) w.heap.size k D/\∀l,Maps.has D (.string l)=(ss.take k).any λt=>t.data.toList==l) (λi _=>len - (intOf i).toNat);case atStart=>exact⟨0,bI _,rfl,λd hd=>aN hd (fK _),(bN _ _).alloc (bF _) _,.map [],World.ownsMap_made _ _ _ _,λl=>rfl⟩
 case round=>
  obtain⟨k,hk,rfl,hall,hnx,D,hown,hhas⟩:=hrel;have HA:Hid (∀d,d<k->xR ss d=true):=hall;have HH:Hid (∀l,Maps.has D (.string l)=(ss.take k).any λt=>t.data.toList==l):=hhas;clear hall hhas hmm;by_cases hlt:k<len
  ·obtain rfl:=ha (by omega);obtain⟨s,hsk⟩:=bC (ss.getD k ByteArray.empty);have hcx:wr.cell? ⟨b,off+k,none⟩=some (.string s):=by rw[hsk];rw[hnx.cell (eZ _ _ (h1 k hlt))];exact h1 k hlt
   have hsz:s.size<=maxLen:=by rw[hsk];exact Zc hs k
   have hkey:keyOf prog 9 (.string s)=some (.string s.data.toList):=keyOf_string_mk underlying9 hsz;have HK:Hid (s=ss.getD k ByteArray.empty):=hsk;have hbad:Maps.has D (.string s.data.toList)=true\/dx s.data.toList=false->mH ss=false:=by
    intro h;have:xR ss k=false:=by unfold xR;rw[<-HK,<-HH];rcases h with h|h<;>simp[h]
    unfold mH;rw[bO.all_false (by rw[<-HL];exact hlt) this];rfl
   have HB:=I hbad;clear hsk h1 hs hbad;cases hh:Maps.has D (.string s.data.toList)
   ·cases hnm:dx s.data.toList
    ·go_wp2_with (first
      | (at_lookup;refine wpList_lookup_own_ok_int _ rfl _ _ 95 rfl 9 3 .i64 lawS underlying95 underlying3 (Cu _) w.heap.size k D rfl hown _ _ rfl hkey ?_;intro c _ _)
      | (go_at_call 92;refine(Fq _ s hsz).mono ?_;rintro e w' ⟨rfl,rfl⟩)
      | go_in)
     go_ret;exact⟨aM ((gM HB) (aT hnm)).symm,hnx⟩
    ·go_wp2_with (first
      | (at_lookup;refine wpList_lookup_own_ok_int _ rfl _ _ 95 rfl 9 3 .i64 lawS underlying95 underlying3 (Cu _) w.heap.size k D rfl hown _ _ rfl hkey ?_;intro c _ _)
      | (go_at_call 92;refine(Fq _ s hsz).mono ?_;rintro e w' ⟨rfl,rfl⟩)
      | (at_mapUpdate;refine wpList_mapUpdate_own _ rfl _ _ _ 95 rfl 9 3 lawS underlying95 _ w.heap.size k _ rfl hown (by unfold maxLen;omega) _ _ _ rfl rfl hkey _ [] (plainElem_int underlying3 (WalkArith.wf_i64 (by omega))) ?_)
      | go_in)
     intro w1 hown1 hgrow1;have R2:=hnx.grown hgrow1 hnx.size (λj hj=>by cases hj;exact bF _);have hn1:xR ss k=true:=by unfold xR;rw[<-HK,<-HH,hh,hnm];rfl
     have hn2:=has_next (k:=k) (by rw[<-HL];exact hlt) hown.isMap HH (.lit (.int .i64 k));rw[<-HK]at hn2;obtain⟨H2,H1⟩:=bT hn2 hn1;clear hgrow1 hown hcx hn1 hn2 hh;go_wp2;go_roundw;case rel=>exact⟨k+1,by omega,by go_num,λd hd=>by
      by_cases e:d=k;·subst e;exact gM H1
      ·exact HA d (by omega),R2,_,hown1,gM H2⟩
     case measure=>simp[intOf];omega
   ·go_wp2_with (first
     | (at_lookup;refine wpList_lookup_own_ok_int _ rfl _ _ 95 rfl 9 3 .i64 lawS underlying95 underlying3 (Cu _) w.heap.size k D rfl hown _ _ rfl hkey ?_;intro c _ _)
     | go_in)
    go_ret;exact⟨aM ((gM HB) (aR hh)).symm,hnx⟩
  ·go_wp2;go_ret;refine⟨aM ?_,hnx⟩;unfold mH;rw[bO.all_true (λd hd=>HA d (by have:=HL.out;omega)),<-HL];simp
def Tab(w:World):Prop:=Lib.TabIs prog w "internal/strconv.uint64pow10" .u64 Lib.pow10Tab
theorem tabNamed:(prog.globalNamed "internal/strconv.uint64pow10").isSome=true:=by kernel_rfl
theorem Tab.below(h:Tab w)(hb:bG w w'):Tab w':=by obtain⟨g,hg⟩:=xM.1 tabNamed;exact Joins.tab_stays hg h hb (bF _)
theorem itoa_any(w:World)(n:Int)(hn:LP n)(ht:Tab w):Calls prog 130 #[O n] w λe w'=>e=cO (A ⟨(Lib.itoa n).toArray⟩)/\bG w w':=by refine(Tryz.strconv_Itoa n hn.1 hn.2 w ht).mono ?_;rintro e w' ⟨rfl,k,os,rfl⟩;exact⟨rfl,Lib.below_grow _ _ (bF _) _ _⟩
namespace bO
def jX(t:Ex->aZ)(acc:aZ)(y:Ex):aZ:=acc++((⟨#[32]⟩:aZ)++t y)
def qD(x:Ex):aZ:=(if x.kind=4 then (⟨#[40,99,97,108,108,32]⟩:aZ)else ⟨#[40]⟩)++x.name
def kP:Nat->Ex->aZ
 | 0,_=>⟨#[]⟩
 | m+1,x=>if x.kind=1 then ⟨(Lib.itoa x.n).toArray⟩else if x.kind=2 then x.name else x.args.foldl (jX (kP m)) (qD x)++(⟨#[41]⟩:aZ)
end bO
theorem vX:∀(l:List Ex) (acc:aZ),(l.foldl (jX t) acc).size=acc.size+(l.map λy=>(t y).size+1).sum
 | [],acc=>by simp
 | y::l,acc=>by
  rw[rQ,vX l];have e:(jX t acc y).size=acc.size+(1+(t y).size):=by unfold jX;rw[nH,nH];rfl
  rw[e,fD,iW];omega
theorem uI{f g:Ex->Nat}:∀{l:List Ex},(∀(i:Nat) (x:Ex),l[i]?=some x->f x<=g x)->(l.map f).sum<=(l.map g).sum
 | [],_=>bF _
 | x::l,h=>by have h0:=h 0 x rfl;have h1:=uI (l:=l) (λi y hy=>h (i+1) y (by simpa using hy));simp only[fD,iW];omega
theorem Xn(k:Nat)(f:Ex->Nat):∀l:List Ex,(l.map λx=>k*f x).sum=k*(l.map f).sum
 | []=>rfl
 | x::l=>by simp only[fD,iW,Xn k f l,Nat.mul_add]
theorem qc:∀{m:Nat} {c0 c1 c2 c3:Value} {x:Ex},gQ w m c0 c1 c2 c3 x->(kP m x).size+1<=6*iO m x
 | 0,_,_,_,_,_,h=>iG h
 | m+1,c0,c1,c2,c3,x,h=>by
  obtain⟨_,_,_,_,_,hn,a,b,off,cap,_,_,_,h9⟩:=h;have hs:(x.args.map λy=>(kP m y).size+1).sum<=6*(x.args.map (iO m)).sum:=by rw[<-Xn];exact uI (λi y hy=>by obtain⟨e0,e1,e2,e3,_,_,_,_,hx⟩:=h9 i y hy;exact qc hx)
  have hh:(qD x).size<=x.name.size+6:=by
   unfold qD;rw[nH];split;·show 6+_<=_;omega
   ·show 1+_<=_;omega
  simp only[kP,iO];split;·have:=Lib.itoa_length_le x.n hn.1 hn.2;show(Lib.itoa x.n).toArray.size+1<=_;rw[List.size_toArray];omega
  ·split;·omega
   ·rw[nH,vX];show _+1+1<=_;omega
theorem Cv(h:a=b):cO (A a)=cO (A b):=by rw[h]
theorem jy(h:a=b):A a=A b:=by rw[h]
theorem jY{α:Type}{f:α->Nat}{y:α}:∀{l:List α},y∈l->f y<=(l.map f).sum
 | x::l,h=>by
  simp only[fD,iW];rcases gy.1 h with rfl|h;·omega
  ·have:=jY (f:=f) h;omega
theorem Zd{l:List Ex}{j:Nat}{y:Ex}(h:l[j]?=some y)(acc:aZ):(l.take (j+1)).foldl (jX t) acc=jX t ((l.take j).foldl (jX t) acc) y:=by obtain⟨hj,rfl⟩:=dz.1 h;rw[kR hj,IC];rfl
theorem IE(l:List Ex)(j:Nat)(acc:aZ):((l.take j).foldl (jX t) acc).size<=(l.foldl (jX t) acc).size:=by
 rw[vX,vX];have:((l.take j).map λy=>(t y).size+1).sum<=(l.map λy=>(t y).size+1).sum:=by
  conv=>rhs;rw[<-mE j l]
  rw[fH,kU];omega
 omega
theorem qQ(m:Nat):∀(w:World) (c0 c1 c2 c3:Value) (x:Ex),gQ w m c0 c1 c2 c3 x->iO m x<=1048576->Tab w->Calls prog 75 #[.agg #[c0,c1,c2,c3]] w λe w'=>e=cO (A (kP m x))/\bG w w':=by
 induction m with
 | zero=>intro w c0 c1 c2 c3 x h;exact iG h
 | succ m ih=>
  intro w c0 c1 c2 c3 x h hw ht;have HI:=I ih;clear ih;have hsize:=qc h;obtain⟨rfl,rfl,rfl,hsz,hk1,hk2,a,b,off,cap,rfl,ha,hl,hel⟩:=h;obtain⟨k,n,s,args⟩:=x;simp only at hsz hk1 hk2 ha hl hel ⊢;obtain⟨kg,HA,HT⟩:=fq hel ha (ht.below (aH w (aY #[O k,O n,A s,Y a args.length cap] 107)));have hsn:s.size<=1048576:=by simp only[iO]at hw;omega
  have HW:Hid (∀(i:Nat) (y:Ex),args[i]?=some y->iO m y<=1048576):=I (λi y hy=>by have:iO m y<=(args.map (iO m)).sum:=jY (dN hy);simp only[iO]at hw;omega);clear hel ha ht;by_cases h1:k=1;·subst h1;go_enter func75,ntmps75;go_wp2_with fail;refine(itoa_any _ n hk2 HT).mono ?_;rintro e w1 ⟨rfl,hb1⟩;have HB:=I (TU hb1);clear hb1;go_wp2_with fail;go_ret;exact⟨Cv (by simp[kP]),HB⟩
  by_cases h2:k=2;·subst h2;go_enter func75,ntmps75;go_wp2_with fail;go_ret;exact⟨Cv (by simp[kP]),aH _ _⟩
  have hk1':(k==1)=false:=by simp[h1]
  have hk2':(k==2)=false:=by simp[h2]
  have HE:Hid (kP (m+1) ⟨k,n,s,args⟩=args.foldl (jX (kP m)) (qD ⟨k,n,s,args⟩)++(⟨#[41]⟩:aZ)):=I (by simp only[kP];rw[aJ h1,aJ h2]);have hfs:(args.foldl (jX (kP m)) (qD ⟨k,n,s,args⟩)).size<=6291456:=by rw[HE,nH]at hsize;have e:(⟨#[41]⟩:aZ).size=1:=rfl;omega
  have HFS:=I hfs;have HHD:Hid (qD ⟨k,n,s,args⟩=(if k=4 then (⟨#[40,99,97,108,108,32]⟩:aZ)else ⟨#[40]⟩)++s):=rfl;generalize qD ⟨k,n,s,args⟩=hd at *;obtain⟨len,hlen⟩:=bC args.length;have HL:=I hlen;rw[<-hlen]at hl HA HT ⊢;have HB0:=I (aH w (aY #[O k,O n,A s,Y a len cap] 107));have q3:=oq w (O k) (O n) (A s) (Y a len cap) 107;clear hlen hfs hsize hw h1 h2;cases hk4:(k==4);case' false=>rw[aJ (by simpa using hk4)]at HHD
  case' true=>rw[aL (by simpa using hk4)]at HHD
  all_goals
   go_enter func75,ntmps75;go_wp2_with fail;rw[<-HHD];generalize (w.alloc (aY #[O k,O n,A s,Y a len cap] 107))=W0 at *;go_loopw[3,4] (λo i wr=>∃j:Nat,j<=len/\i=O j/\o=A ((args.take j).foldl (jX (kP m)) hd)/\bG W0 wr) (λ_ i _=>len - (intOf i).toNat);case atStart=>exact⟨0,bI _,rfl,rfl,bN _ _⟩
   case round=>
    obtain⟨j,hj,rfl,rfl,hnx⟩:=hrel;obtain⟨t3,hacc⟩:=eD (aC q3 hnx) (bH (IE (t:=kP m) args j hd) HFS);by_cases hjl:j<len
    ·obtain⟨y,hy⟩:∃y,args[j]?=some y:=⟨_,bg (by rw[<-HL];exact hjl)⟩;obtain⟨e0,e1,e2,e3,g0,g1,g2,g3,hye⟩:=kg j y hy;obtain rfl:=HA aV;have hbb:=up HB0 hnx;obtain⟨u0,u1⟩:=eD (aC g0 hbb) (aC g1 hbb);have Xa:=aC g2 hbb;have KD:=aC g3 hbb;have Nr:=I (hye.below hbb);obtain⟨hys,Qc⟩:=eD (qc hye) (HW j y hy);have hyt:(kP m y).size<=6291456:=by omega
     obtain⟨HST,dM⟩:=bT (Zd (t:=kP m) hy hd) hnx;clear g0 g1 g2 g3 hye hy hbb hnx hys;go_wp2_with fail;refine(HI _ e0 e1 e2 e3 y Nr Qc (HT.below dM)).mono ?_;rintro e w5 ⟨rfl,hb5⟩;have kG:=I (up dM hb5);clear hb5;generalize hty:kP m y=ty at *;have HTY:=I hty;clear hty;generalize hac:(args.take j).foldl (jX (kP m)) hd=acc at *;have HAC:=I hac;clear hac;go_wp2_with fail;go_roundw;case rel=>exact⟨j+1,by omega,by go_num,jy (by rw[HST];unfold jX;rw[HTY]),kG⟩
     case measure=>simp[intOf];omega
    ·go_wp2_with fail;go_ret;exact⟨Cv (by rw[HE,fJ (by have:=HL.out;omega)]),up HB0 hnx⟩
end Go.Proofs.YtbgkpehhdibaoaaGreatDoor
