/- Rows of a call's own: all that was said of them -/
import Derived.Test.YtfnboapebijcpaaGreatDoorMZAD
import Derived.Laws.CopyRow
import Derived.Laws.CopyOwn
import Derived.Lib.AppendZerosOnto
import Derived.Lib.Overlaps
import Derived.Laws.Externs
import Derived.Shelf.Spec.SlicesInsert
import Derived.Lib.AppendZeros
set_option maxHeartbeats 16000000
set_option maxRecDepth 100000
namespace Go.Proofs.YtfnboapebijcpaaGreatDoor
open bC aI
open Go.Proofs.Tryz
open Go.RowKit
def Ny(w:World)(m:Nat)(c:List Value)(x:Ex):Prop:=∃c0 c1 c2 c3,c=[c0,c1,c2,c3]/\gq w m c0 c1 c2 c3 x
theorem EK:(prog.info? 129).map (λi=>(i.zero,i.size,i.bytes))=some (some (.agg #[.int .i64 0,.int .i64 0,.string ⟨#[]⟩,.slice none 0 0]),4,56):=by kernel_rfl
theorem gq.oneN{w:World}{m:Nat}{c0 c1 c2 c3:Value}{x:Ex}(h:gq w m c0 c1 c2 c3 x):∀u∈[c0,c1,c2,c3],u.oneCell'=true:=by obtain⟨a,cap,rfl,rfl,rfl,rfl⟩:=h.shape;intro u hu;simp at hu;rcases hu with rfl|rfl|rfl|rfl<;>rfl
namespace aI
def calls:Nat->Ex->List Ex
 | 0,_=>[]
 | m+1,x=>x.args.flatMap (calls m)++if x.kind=4 then [x]else []
end aI
theorem bZ{α β:Type}{f:α->List β}{l:List α}{j:Nat}{y:α}(h:l[j]?=some y):(l.take (j+1)).flatMap f=(l.take j).flatMap f++f y:=by rw[iY,h];simp
theorem oh{α β:Type}{f:α->List β}{l:List α}(j:Nat):((l.take j).flatMap f).length<=(l.flatMap f).length:=by have h:=congrArg (λt=>(t.flatMap f).length) (kW j l);simp only[jD,aP]at h;omega
theorem eD{w w1 w2:World}{r:Option Nat}(h:Below w.heap.size w w1)(hg:w1.grownBy w2 r)(hr:∀k,r=some k->w.heap.size<=k):Below w.heap.size w w2:=
 ⟨hg.os.trans h.os,hg.tape.trans h.tape,hg.output.trans h.output,bS h.size hg.size,λk hk=>(hg.block k (ql hk h.size) (λe=>by have:=hr k e.symm;omega)).trans (h.block k hk)⟩
theorem FJ(w:World)(c0 c1 c2 c3:Value)(t:TypeId):(w.alloc (.cells #[c0,c1,c2,c3] t)).cell? ⟨w.heap.size,0,none⟩=some c0:=by simp[go_sem]
theorem DI(w:World)(c0 c1 c2 c3:Value)(t:TypeId):(w.alloc (.cells #[c0,c1,c2,c3] t)).cell? ⟨w.heap.size,1,none⟩=some c1:=by simp[go_sem]
theorem DJ(w:World)(c0 c1 c2 c3:Value)(t:TypeId):(w.alloc (.cells #[c0,c1,c2,c3] t)).cell? ⟨w.heap.size,2,none⟩=some c2:=by simp[go_sem]
theorem FK(W:World)(M:Nat)(m:Nat):∀(w:World) (c0 c1 c2 c3:Value) (x:Ex),Below W.heap.size W w->m<=M->gq W m c0 c1 c2 c3 x->(aI.calls m x).length<=16777216->Calls prog 70 #[.agg #[c0,c1,c2,c3]] w λe w'=>∃v,e=.returned v/\bI (Ny W M) w' w.heap.size 129 4 v (aI.calls m x)/\Below w.heap.size w w':=by
 induction m with
 | zero=>intro w c0 c1 c2 c3 x _ _ h;exact False.elim h
 | succ m ih=>
  intro w c0 c1 c2 c3 x hW hM h hlen;have HI:=hide ih;have HX:=hide (h.mono M hM);have HW:=hide hW;clear ih hW;obtain⟨rfl,rfl,rfl,hsz,hk1,hk2,a,b,off,cap,rfl,ha,hl,hel⟩:=h;obtain⟨k,n,s,args⟩:=x;simp only at hsz hk1 hk2 ha hl hel HX ⊢;have gF:=hide hel;have HA:=hide ha;have kK:Hid (∀j,((args.take j).flatMap (aI.calls m)).length<=16777215+(if k=4 then 0 else 1)):=hide (λj=>by have h1:=oh (f:=aI.calls m) (l:=args) j;simp only[aI.calls,aP]at hlen;split at hlen<;>simp_all<;>omega);obtain⟨len,hlen'⟩:∃len,len=args.length:=⟨_,rfl⟩;have HL:=hide hlen';rw[<-hlen']at hl HA HX ⊢;have HK4:Hid (aI.calls (m+1) ⟨k,n,s,args⟩=args.flatMap (aI.calls m)++if k=4 then [⟨k,n,s,args⟩]else []):=rfl;obtain⟨R,hR⟩:=aG (aI.calls (m+1) ⟨k,n,s,args⟩);rw[<-hR]at HK4 ⊢;have q0:=FJ w (.int .i64 k) (.int .i64 n) (.string s) (.slice a len cap) 129;have q1:=DI w (.int .i64 k) (.int .i64 n) (.string s) (.slice a len cap) 129;have q2:=DJ w (.int .i64 k) (.int .i64 n) (.string s) (.slice a len cap) 129;have q3:=kU w (.int .i64 k) (.int .i64 n) (.string s) (.slice a len cap) 129;have HB0:=hide (aB w (.cells #[.int .i64 k,.int .i64 n,.string s,.slice a len cap] 129));have hsz0:w.heap.size<=(w.alloc (.cells #[.int .i64 k,.int .i64 n,.string s,.slice a len cap] 129)).heap.size:=HB0.size;clear hel ha hlen hlen' hR;go_enter func70,ntmps70;go_wp2_with fail;generalize w.alloc (.cells #[.int .i64 k,.int .i64 n,.string s,.slice a len cap] 129)=W0 at *;go_loopw[3,4] (λv i wr=>∃j:Nat,j<=len/\i=.int .i64 j/\bI (Ny W M) wr W0.heap.size 129 4 v ((args.take j).flatMap (aI.calls m))/\Below W0.heap.size W0 wr) (λ_ i _=>len - (intOf i).toNat);case atStart=>exact⟨0,bJ _,rfl,bI.nil _ _ _ _,aX _ _⟩
  case round=>
   obtain⟨j,hj,rfl,hown,hnx⟩:=hrel;have HOW:=hide hown;have bR:=hide hnx;have t0:=aA q0 hnx;have t1:=aA q1 hnx;have t2:=aA q2 hnx;have t3:=aA q3 hnx;clear hown q0 q1 q2 q3;by_cases hjl:j<len
   ·obtain⟨y,hy⟩:∃y,args[j]?=some y:=⟨_,aU (by rw[<-HL];exact hjl)⟩;obtain⟨e0,e1,e2,e3,g0,g1,g2,g3,hye⟩:=gF j y hy;have HY:=hide hy;obtain rfl:=HA (by omega);have hbb:=up HW (up HB0 hnx);have nQ:=hide hbb;have u0:=aA g0 hbb;have u1:=aA g1 hbb;have Qt:=aA g2 hbb;have Ed:=aA g3 hbb;have Ni:=hide hye;have mU:Hid (((args.take j).flatMap (aI.calls m)).length+(aI.calls m y).length<=16777216):=hide (by have h1:=kK (j+1);rw[bZ hy,aP]at h1;split at h1<;>omega);clear g0 g1 g2 g3 hye hy hbb hnx;go_wp2_with fail;refine(HI _ e0 e1 e2 e3 y nQ (by omega) Ni (by have:=mU.out;omega)).mono ?_;rintro e w5 ⟨v5,rfl,hown5,hb5⟩;have HOW5:=hide hown5;have dw:=hide hb5;have iL:=hide (up bR hb5);clear hown5 hb5
    go_wp2_with (first
     | (at_builtin;refine bW (At:=Ny W M) rfl _ _ 127 129 4 56 _ rfl underlying127 EK (by decide) (by decide) (by decide) W0.heap.size _ _ rfl (HOW.below dw) _ _ _ rfl HOW5 mU iL.size ?_;intro v6 w6 hown6 dI;have pY:=hide hown6;have iM:=hide (eD iL dI (λj hj=>(HOW.lt j hj).1));clear hown6 dI)
     | fail)
    go_roundw;case rel=>exact⟨j+1,by omega,by go_num,by rw[bZ HY];exact pY,iM⟩
    case measure=>simp[intOf];omega
   ·have jF:(args.take j)=args:=eP (by have:=HL.out;omega);rw[jF]at HOW;have Qv:Hid ((args.flatMap (aI.calls m)).length<=16777215+(if k=4 then 0 else 1)):=hide (by have h1:=kK j;rw[jF]at h1;exact h1);clear jF hnx;by_cases h4:k=4
    ·have h4':(k==4)=true:=by simp[h4]
     rw[if_pos h4]at HK4 Qv;clear h4
     go_wp2_with (first
      | (at_builtin;refine bW (At:=Ny W M) rfl _ _ 127 129 4 56 _ rfl underlying127 EK (by decide) (by decide) (by decide) W0.heap.size _ _ rfl (HOW.below (aB _ _)) _ _ [⟨k,n,s,args⟩] rfl (bI.one _ _ rfl HX.oneN ⟨_,_,_,_,rfl,HX⟩) (by have:=Qv.out;simp only[iJ];omega) (bS bR.size (aB _ _).size) ?_;intro v6 w6 hown6 dI;have pY:=hide hown6;have iM:=hide (eD (up bR (aB _ _)) dI (λj hj=>(HOW.lt j hj).1));clear hown6 dI)
      | fail)
     go_ret;exact⟨_,rfl,by rw[HK4];exact pY.old hsz0,up HB0 iM⟩
    ·have h4':(k==4)=false:=by simp[h4]
     rw[if_neg h4]at HK4;clear h4;go_wp2_with fail;go_ret;exact⟨_,rfl,by rw[HK4,bX];exact HOW.old hsz0,up HB0 bR⟩
def Qz(w:World)(m:Nat)(c:List Value)(s:St):Prop:=∃e0 e1 e2 e3 va vb,c=[.int .i64 s.kind,.string s.name,e0,e1,e2,e3,va,vb]/\Qr s.kind/\s.name.size<=maxLen/\gq w m e0 e1 e2 e3 s.e/\dW w m va s.a/\dW w m vb s.b
theorem Kz:(prog.info? 144).map (λi=>(i.zero,i.size,i.bytes))=some (some (.agg #[.int .i64 0,.string ⟨#[]⟩,.int .i64 0,.int .i64 0,.string ⟨#[]⟩,.slice none 0 0,.slice none 0 0,.slice none 0 0]),8,128):=by kernel_rfl
theorem dW.mh{w:World}:∀{m:Nat} {v:Value} {l:List St},dW w m v l->∃a cap,v=.slice a l.length cap
 | 0,_,_,h=>False.elim h
 | _+1,_,_,⟨a,_,_,cap,e,_⟩=>⟨a,cap,e⟩
theorem Qz.one{w:World}{m:Nat}{c:List Value}{s:St}(h:Qz w m c s):∀u∈c,u.oneCell'=true:=by obtain⟨e0,e1,e2,e3,va,vb,rfl,_,_,hx,ha,hb⟩:=h;obtain⟨a,cap,rfl,rfl,rfl,rfl⟩:=hx.shape;obtain⟨a1,c1,rfl⟩:=ha.mh;obtain⟨a2,c2,rfl⟩:=hb.mh;intro u hu;simp at hu;rcases hu with rfl|rfl|rfl|rfl|rfl|rfl|rfl|rfl<;>rfl
namespace aI
def within(f:List St->List St)(s:St):List St:=([s]++f s.a)++f s.b
def all:Nat->List St->List St
 | 0,_=>[]
 | m+1,l=>l.flatMap (within (all m))
end aI
theorem Xr(W:World)(M:Nat)(m:Nat):∀(w:World) (v:Value) (l:List St),Below W.heap.size W w->m<=M->dW W m v l->(aI.all m l).length<=16777216->Calls prog 69 #[v] w λe w'=>∃u,e=.returned u/\bI (Qz W M) w' w.heap.size 144 8 u (aI.all m l)/\Below w.heap.size w w':=by
 induction m with
 | zero=>intro w v l _ _ h;exact False.elim h
 | succ m ih=>
  intro w v l hW hM h hlen;have HI:=hide ih;have HW:=hide hW;clear ih hW;obtain⟨a,b,off,cap,rfl,ha,hl,hel⟩:=h;have gF:=hide hel;have HA:=hide ha;have kK:Hid (∀j,((l.take j).flatMap (aI.within (aI.all m))).length<=16777216):=hide (λj=>bS (oh j) hlen);obtain⟨R,hR⟩:=aG (aI.all (m+1) l);have HR:Hid (R=l.flatMap (aI.within (aI.all m))):=hR;rw[<-hR];obtain⟨len,hlen'⟩:∃len,len=l.length:=⟨_,rfl⟩;have HL:=hide hlen';rw[<-hlen']at hl HA ⊢;clear hel ha hlen hlen' hR;go_enter func69,ntmps69;go_wp2_with fail;go_loopw[3,4] (λv i wr=>∃j:Nat,j<=len/\i=.int .i64 j/\bI (Qz W M) wr w.heap.size 144 8 v ((l.take j).flatMap (aI.within (aI.all m)))/\Below w.heap.size w wr) (λ_ i _=>len - (intOf i).toNat);case atStart=>exact⟨0,bJ _,rfl,bI.nil _ _ _ _,aX _ _⟩
  case round=>
   obtain⟨j,hj,rfl,hown,hnx⟩:=hrel;have HOW:=hide hown;have bR:=hide hnx;clear hown;by_cases hjl:j<len
   ·obtain⟨y,hy⟩:∃y,l[j]?=some y:=⟨_,aU (by rw[<-HL];exact hjl)⟩;obtain⟨k1,k2,e0,e1,e2,e3,va,vb,g0,g1,g2,g3,g4,g5,g6,g7,hx,hva,hvb⟩:=gF j y hy;have HY:=hide hy;obtain rfl:=HA (by omega);have hbb:=up HW hnx;have nQ:=hide hbb;have Nz:=hide g6;have HG7:=hide g7;have u0:=aA g0 hbb;have u1:=aA g1 hbb;have u2:=aA g2 hbb;have Ed:=aA g3 hbb;have UW:=aA g4 hbb;have u5:=aA g5 hbb;have u6:=aA g6 hbb;have u7:=aA g7 hbb;have HST:Hid (Qz W M [.int .i64 y.kind,.string y.name,e0,e1,e2,e3,va,vb] y):=hide ⟨e0,e1,e2,e3,va,vb,rfl,k1,k2,hx.mono M (by omega),hva.mono M (by omega),hvb.mono M (by omega)⟩;have HVA:=hide hva;have NA:=hide hvb;have mU:Hid (((l.take j).flatMap (aI.within (aI.all m))).length+(1+(aI.all m y.a).length+(aI.all m y.b).length)<=16777216):=hide (by have h1:=kK (j+1);rw[bZ hy,aP,aI.within,aP,aP,iJ]at h1;exact h1);obtain⟨sa,ca,rfl⟩:=hva.mh;obtain⟨sb,cb,rfl⟩:=hvb.mh;obtain⟨xa,xc,rfl,rfl,rfl,rfl⟩:=hx.shape;clear g0 g1 g2 g3 g4 g5 g6 g7 hx hva hvb hy hbb hnx
    go_wp2_with (first
     | (at_builtin;have hg:=HST;clear hg;refine bW (At:=Qz W M) rfl _ _ 125 144 8 128 _ rfl underlying125 Kz (by decide) (by decide) (by decide) w.heap.size _ _ rfl (HOW.below (aB _ _)) _ _ [y] rfl (bI.one _ _ rfl HST.one HST) (by have:=mU.out;simp only[iJ];omega) (bS bR.size (aB _ _).size) ?_;intro v6 w6 hown6 dI;have pY:=hide hown6;have iM:=hide (eD (up bR (aB _ _)) dI (λj hj=>(HOW.lt j hj).1));have z6:=aA Nz (up HW iM);have z7:=aA HG7 (up HW iM);clear hown6 dI u0 u1 u2 Ed UW u5 u6 u7 HST)
     | fail)
    refine(HI _ _ y.a (up HW iM) (by omega) HVA (by have:=mU.out;omega)).mono ?_;rintro e w7 ⟨v7,rfl,qy,jT⟩;have Xt:=hide qy;have iw:=hide jT;have BS:=hide (up iM jT);clear qy jT z6
    go_wp2_with (first
     | (at_builtin;have hg:=Xt;clear hg;refine bW (At:=Qz W M) rfl _ _ 125 144 8 128 _ rfl underlying125 Kz (by decide) (by decide) (by decide) w.heap.size _ _ rfl (pY.below iw) _ _ _ rfl Xt (by have:=mU.out;simp only[aP,iJ];omega) BS.size ?_;intro v8 w8 fU bV;have HOW8:=hide fU;have Ji:=hide (eD BS bV (λj hj=>(pY.lt j hj).1));clear z7;have z7:=aA HG7 (up HW Ji);clear fU bV Xt)
     | fail)
    refine(HI _ _ y.b (up HW Ji) (by omega) NA (by have:=mU.out;omega)).mono ?_;rintro e w9 ⟨v9,rfl,jM,nG⟩;have IC:=hide jM;have kI:=hide nG;have HN9:=hide (up Ji nG);clear jM nG z7
    go_wp2_with (first
     | (at_builtin;have hg:=IC;clear hg;refine bW (At:=Qz W M) rfl _ _ 125 144 8 128 _ rfl underlying125 Kz (by decide) (by decide) (by decide) w.heap.size _ _ rfl (HOW8.below kI) _ _ _ rfl IC (by have:=mU.out;simp only[aP,iJ];omega) HN9.size ?_;intro v10 NC Xu Tx;have HOW10:=hide Xu;have HN10:=hide (eD HN9 Tx (λj hj=>(HOW8.lt j hj).1));clear Xu Tx IC)
     | fail)
    go_roundw;case rel=>exact⟨j+1,by omega,by go_num,by rw[bZ HY,aI.within,<-bE,<-bE];exact HOW10,HN10⟩
    case measure=>simp[intOf];omega
   ·have jF:(l.take j)=l:=eP (by have:=HL.out;omega);rw[jF]at HOW;clear jF hnx;go_wp2_with fail;go_ret;exact⟨_,rfl,by rw[HR];exact HOW,bR⟩
structure Dg where
 code:Int
 fn:ByteArray
 name:ByteArray
namespace aI
def dV(a b:Dg):Bool:=
 if (a.fn.toList==b.fn.toList)=false then Op.bytesLess a.fn.toList b.fn.toList
 else if (a.code==b.code)=false then decide (a.code<b.code)else Op.bytesLess a.name.toList b.name.toList
end aI
theorem Jj(w:World)(x y:Dg):Calls prog 151 #[.agg #[.int .i64 x.code,.string x.fn,.string x.name],.agg #[.int .i64 y.code,.string y.fn,.string y.name]] w λe w'=>e=.returned (.bool (dV x y))/\Below w.heap.size w w':=by
 obtain⟨cx,fx,nx⟩:=x;obtain⟨cy,fy,ny⟩:=y;simp only;have HE:Hid (dV ⟨cx,fx,nx⟩ ⟨cy,fy,ny⟩=if (fx.toList==fy.toList)=false then Op.bytesLess fx.toList fy.toList else if (cx==cy)=false then decide (cx<cy)else Op.bytesLess nx.toList ny.toList):=rfl;have HB:Hid (Below w.heap.size w ((w.alloc (.cells #[.int .i64 cx,.string fx,.string nx] 43)).alloc (.cells #[.int .i64 cy,.string fy,.string ny] 43))):=hide (up (aB _ _) (aB _ _));cases h1:(fx.toList==fy.toList);·rw[if_pos h1]at HE;go_enter func151,ntmps151;go_wp2;go_ret;exact⟨aH HE.symm,HB⟩
 ·rw[if_neg (by rw[h1];simp)]at HE;cases h2:(cx==cy);·rw[if_pos h2]at HE;go_enter func151,ntmps151;go_wp2;go_ret;exact⟨aH HE.symm,HB⟩
  ·rw[if_neg (by rw[h2];simp)]at HE;go_enter func151,ntmps151;go_wp2;go_ret;exact⟨aH HE.symm,HB⟩
def lY(c:List Value)(d:Dg):Prop:=c=[.int .i64 d.code,.string d.fn,.string d.name]
theorem kL:(prog.info? 43).map (λi=>(i.zero,i.size,i.bytes))=some (some (.agg #[.int .i64 0,.string ⟨#[]⟩,.string ⟨#[]⟩]),3,40):=by kernel_rfl
theorem lY.one{c:List Value}{d:Dg}(h:lY c d):∀u∈c,u.oneCell'=true:=by subst h;intro u hu;simp at hu;rcases hu with rfl|rfl|rfl<;>rfl
def Told(w:World)(n p:Nat)(l:List Dg):Prop:=n<=p/\∃v,w.heap[p]?=some (.cells #[v] 37 (0,0))/\bI lY w n 43 3 v l
structure bU(p:Nat)(w w':World):Prop where
 size:w.heap.size<=w'.heap.size
 block:∀k,k<w.heap.size->k≠p->(∀cs fz,w.heap[k]?≠some (.cells cs 43 fz))->w'.heap[k]?=w.heap[k]?
theorem bU.refl(p:Nat)(w:World):bU p w w:=⟨bM _,λ_ _ _ _=>rfl⟩
theorem bU.trans{p:Nat}{a b c:World}(h:bU p a b)(k:bU p b c):bU p a c:=⟨bS h.size k.size,λi hi hp hd=>by have h1:=h.block i hi hp hd;rw[<-h1];exact k.block i (ql hi h.size) hp (λcs fz=>by rw[h1];exact hd cs fz)⟩
theorem bU.of_below{p:Nat}{w w':World}(h:Below w.heap.size w w'):bU p w w':=⟨h.size,λk hk _ _=>h.block k hk⟩
theorem bU.at{p q:Nat}{w w':World}(h:bU p w w')(hq:q≠p){cs:Array Value}{t:TypeId}{fz:Nat × Nat}(ho:w.heap[q]?=some (.cells cs t fz))(ht:t≠43):w'.heap[q]?=some (.cells cs t fz):=by rw[h.block q (block_lt ho) hq (λcs' fz' e=>by rw[ho]at e;simp at e;exact ht e.2.1)];exact ho
theorem Told.below{w w':World}{n p:Nat}{l:List Dg}(h:Told w n p l)(hb:Below w.heap.size w w'):Told w' n p l:=by obtain⟨h0,v,h1,h2⟩:=h;exact⟨h0,v,by rw[hb.block p (block_lt h1)];exact h1,h2.below hb⟩
theorem bI.set{α:Type}{At:List Value->α->Prop}{w:World}{n e k:Nat}{v:Value}{l:List α}(h:bI At w n e k v l){a:Addr}(ha:v.ownBlock≠some a.block)(x:Value):bI At (w.setCell a x) n e k v l:=by
 obtain⟨cs,⟨h0,h1⟩,h2⟩:=h;refine⟨cs,⟨h0,?_⟩,h2⟩;rcases h1 with h1|⟨g,cap,cur,hv,hg,hh,r⟩;·exact Or.inl h1
 ·refine Or.inr ⟨g,cap,cur,hv,hg,aV hh (λe'=>ha (by rw[hv,<-e'];rfl)) _,r⟩
theorem bI.apart{α:Type}{At:List Value->α->Prop}{w:World}{n e k p:Nat}{v:Value}{l:List α}{cs:Array Value}{t:TypeId}{fz:Nat × Nat}(h:bI At w n e k v l)(hp:w.heap[p]?=some (.cells cs t fz))(ht:t≠e):v.ownBlock≠some p:=by
 intro e';obtain⟨_,⟨_,h1⟩,_⟩:=h;rcases h1 with⟨rfl,_⟩|⟨g,cap,cur,hv,_,hh,_⟩;·cases e'
 ·rw[hv]at e';have:g=p:=by simpa[Value.ownBlock]using e'
  subst this;rw[hp]at hh;simp at hh;exact ht hh.2.1
theorem bI.form{α:Type}{At:List Value->α->Prop}{w:World}{n e k:Nat}{v:Value}{l:List α}(h:bI At w n e k v l):∃a c,v=.slice a l.length c:=by
 rcases h.shape with⟨rfl,rfl⟩|⟨g,cap,rfl,_⟩;·exact⟨_,_,rfl⟩
 ·exact⟨_,_,rfl⟩
theorem bI.typ{α:Type}{At:List Value->α->Prop}{w:World}{n e k g:Nat}{v:Value}{l:List α}(h:bI At w n e k v l)(hg:v.ownBlock=some g):∃cur,w.heap[g]?=some (.cells cur e (0,0)):=by
 obtain⟨_,⟨_,h1⟩,_⟩:=h;rcases h1 with⟨rfl,_⟩|⟨g',cap,cur,hv,_,hh,_⟩;·cases hg
 ·rw[hv]at hg;have:g'=g:=by simpa[Value.ownBlock]using hg
  subst this;exact⟨cur,hh⟩
theorem Told.push{w w6:World}{n p:Nat}{l:List Dg}{d:Dg}{v v6:Value}{o:Obj}(hn:n<=p)(hp:w.heap[p]?=some (.cells #[v] 37 (0,0)))(hv:bI lY w n 43 3 v l)(hown:bI lY w6 n 43 3 v6 (l++[d]))(hg:(w.alloc o).grownBy w6 v.ownBlock):w6.heap[p]?=some (.cells #[v] 37 (0,0))/\Told (w6.setCell ⟨p,0,none⟩ v6) n p (l++[d])/\Below n w (w6.setCell ⟨p,0,none⟩ v6)/\bU p w (w6.setCell ⟨p,0,none⟩ v6):=by
 have hb:=aB w o;have hplt:=block_lt hp;have hne:=hv.apart hp (by decide);have h1:w6.heap[p]?=some (.cells #[v] 37 (0,0)):=by rw[hg.block p (ql hplt hb.size) (λe=>hne e.symm),hb.block p hplt];exact hp
 have hne6:=hown.apart h1 (by decide);have hkeep:∀k,k<w.heap.size->k≠p->some k≠v.ownBlock->(w6.setCell ⟨p,0,none⟩ v6).heap[k]?=w.heap[k]?:=λk hk hkp hkv=>by rw[qm _ _ _ _ hkp,hg.block k (ql hk hb.size) hkv,hb.block k hk]
 have hsz:w.heap.size<=(w6.setCell ⟨p,0,none⟩ v6).heap.size:=by simp only[World.setCell,vw];exact bS hb.size hg.size
 refine⟨h1,⟨hn,v6,?_,hown.set hne6 _⟩,⟨hg.os.trans hb.os,hg.tape.trans hb.tape,hg.output.trans hb.output,hsz,λk hk=>hkeep k (by omega) (by omega) (λe=>?_)⟩,⟨hsz,λk hk hkp hd=>hkeep k hk hkp (λe=>?_)⟩⟩;·rw[aQ h1];rfl
 ·have:=(hv.lt k e.symm).1;omega
 ·obtain⟨cur,hc⟩:=hv.typ e.symm;exact hd _ _ hc
theorem jl(w:World)(n p:Nat)(l:List Dg)(code:Int)(fn name:ByteArray)(h:Told w n p l)(hn:n<=w.heap.size)(hl:l.length<16777216):Calls prog 66 #[.int .i64 code,.string fn,.string name,.pointer (some ⟨p,0,none⟩)] w λe w'=>e=.returned (.tuple #[])/\Told w' n p (l++[⟨code,fn,name⟩])/\Below n w w'/\bU p w w':=by
 obtain⟨h0,v,h1,h2⟩:=h;have q0:w.cell? ⟨p,0,none⟩=some v:=by rw[aj h1];rfl
 have H0:=hide h0;have H1:=hide h1;have H2:=hide h2;clear h0 h1 h2;go_enter func66,ntmps66
 go_wp2_with (first
  | (at_builtin;refine bW (At:=lY) rfl _ _ 37 43 3 40 _ rfl underlying37 kL (by decide) (by decide) (by decide) n _ _ rfl (H2.below (aB _ _)) _ _ [⟨code,fn,name⟩] rfl (bI.one _ _ rfl (lY.one (d:=⟨code,fn,name⟩) rfl) rfl) (by simp only[iJ];omega) (bS hn (aB _ _).size) ?_;intro v6 w6 hown6 dI;obtain⟨a6,c6,hv6⟩:=hown6.form;subst hv6;have HP:=hide (Told.push H0 H1 H2 hown6 dI);have z0:=(aj HP.1 0).trans (show _=some v from rfl);have zf:=aD HP.1 0;clear hown6 dI)
  | fail)
 go_end0;have hl1:(l++[(⟨code,fn,name⟩:Dg)]).length=l.length+1:=by simp
 rw[hl1]at HP;exact⟨rfl,HP.2⟩
namespace aI
def kX(names:List ByteArray)(fn name:ByteArray):List Dg:=if decide (0<=bD names name)=true then []else [⟨3,fn,name⟩]
end aI
theorem Jk(w:World)(n p q r:Nat)(l:List Dg)(vn:Value)(names:List ByteArray)(fn name:ByteArray)(h:Told w n p l)(hn:n<=w.heap.size)(hl:l.length<16777216)(hq:w.cell? ⟨q,0,none⟩=some vn)(hN:Strs w vn names)(hr:w.cell? ⟨r,0,none⟩=some (.func (.func 66) #[] #[.pointer (some ⟨p,0,none⟩)])):Calls prog 67 #[.string fn,.string name,.pointer (some ⟨q,0,none⟩),.pointer (some ⟨r,0,none⟩)] w λe w'=>e=.returned (.tuple #[])/\Told w' n p (l++aI.kX names fn name)/\Below n w w'/\bU p w w':=by
 have HN:=hide hN;have HT:=hide h;obtain⟨a,b,off,cap,rfl,_⟩:=hN;have HL:Hid (aI.kX names fn name=if decide (0<=bD names name)=true then []else [⟨3,fn,name⟩]):=rfl;clear h;go_enter func67,ntmps67;go_wp2_with fail;refine(dh w _ names name HN).mono ?_;rintro e w' ⟨rfl,hw'⟩;subst hw';generalize decide (0<=bD names name)=is at *;cases is;·go_wp2_with fail;refine(jl _ n p l 3 fn name HT hn hl).mono ?_;rintro e w5 ⟨rfl,h5,hb5,sH⟩;go_wp2;go_end0;exact⟨rfl,by rw[HL];exact h5,hb5,sH⟩
 ·go_wp2_with fail;go_end0;exact⟨rfl,by rw[HL];simpa using HT.out,aX _ _,bU.refl _ _⟩
theorem UZ{P:Program}(w:World)(dT sT ty elem:TypeId)(k g o dLen dCap:Nat)(a:Addr)(sLen sCap:Nat)(cur:Array Value)(t:TypeId)(cs:List Value)(hu:P.underlying dT=some (.slice elem))(hs:(P.info? elem).map (·.size)=some k)(hg:w.heap[g]?=some (.cells cur t (0,0)))(hn:cs.length=Nat.min sLen dLen*k)(hsrc:∀j v,cs[j]?=some v->w.cell? (a.add j)=some v)(hfit:o+cs.length<=cur.size)(h1:∀v∈cs,v.oneCell'=true):(Builtin.copy_ #[dT,sT] ty #[.slice (some ⟨g,o,none⟩) dLen dCap,.slice (some a) sLen sCap]).run P w=.ok (goInt (Nat.min sLen dLen)) (w.setRow g (cur.toList.take o++cs++cur.toList.drop (o+cs.length)).toArray):=by
 have hl:=run_loadCells_list (P:=P) w a cs hsrc;have hst:=run_storeCells_at P g o t cs 0 cur w hg (by simpa using hfit) h1;cases hq:P.info? elem with
 | none=>simp[hq]at hs
 | some i=>
  have hi:i.size=k:=by simpa[hq]using hs
  rw[hn]at hl;simp[Builtin.copy_,run_underlying hu,Builtin.lenOf,Builtin.firstCells,sizeOf,typeInfo,hq,hi,hl,hst]
theorem But.setRow{g:Nat}(w:World)(cs:Array Value):But g w (w.setRow g cs):=⟨rfl,rfl,rfl,by simp[World.setRow],λk _ hk=>setRow_other w g k cs hk⟩
section
variable {w : World} {ops : Array Oper} {rest : List Oper} {o : Oper} {a : Act} {Q : Exit → Act → World → Prop}
theorem ND{K:Act->World->Prop}(d s:Operand)(dT sT elem:TypeId)(k:Nat)(ho:o.op=.call { callee:=.builtin .copy,args:=#[d,s],argTypes:=#[dT,sT] })(hu:prog.underlying dT=some (.slice elem))(hs:(prog.info? elem).map (·.size)=some k)(g off dLen dCap:Nat)(ad:Addr)(sLen sCap:Nat)(hd:a.eval d=.slice (some ⟨g,off,none⟩) dLen dCap)(hx:a.eval s=.slice (some ad) sLen sCap)(cur:List Value)(t:TypeId)(hg:w.heap[g]?=some (.cells cur.toArray t (0,0)))(cs:List Value)(hn:cs.length=Nat.min sLen dLen*k)(hsrc:∀j v,cs[j]?=some v->w.cell? (ad.add j)=some v)(hfit:off+cs.length<=cur.length)(h1:∀v∈cs,v.oneCell'=true)(h:∀w' r,Hid (w'.heap[g]?=some (.cells (splice cur off cs).toArray t (0,0)))->Hid (But g w w')->K (a.put o.dst r) w'):o.wp prog a w K Q:=by have hrun:=UZ (P:=prog) w dT sT o.type elem k g off dLen dCap ad sLen sCap cur.toArray t cs hu hs hg hn hsrc (by simpa using hfit) h1;unfold Oper.wp execOp;simp only[ho,resolve,invoke,builtin,Sem.run_bind,Sem.run_pure,Result.andThen_ok,List.map_toArray,dN,iK,hd,hx,hrun];exact h _ _ (hide (by rw[setRow_heap w g _ _ t _ hg];simp[splice])) (hide (But.setRow w _))
theorem zR(hgd:o.guard=none)(d s:Operand)(dT sT elem:TypeId)(k:Nat)
  (ho:o.op=.call { callee:=.builtin .copy,args:=#[d,s],argTypes:=#[dT,sT] })(hu:prog.underlying dT=some (.slice elem))(hs:(prog.info? elem).map (·.size)=some k)
  (g off dLen dCap:Nat)(ad:Addr)(sLen sCap:Nat)(hd:a.eval d=.slice (some ⟨g,off,none⟩) dLen dCap)(hx:a.eval s=.slice (some ad) sLen sCap)
  (cur:List Value)(t:TypeId)(hg:w.heap[g]?=some (.cells cur.toArray t (0,0)))(cs:List Value)(hn:cs.length=Nat.min sLen dLen*k)
  (hsrc:∀j v,cs[j]?=some v->w.cell? (ad.add j)=some v)(hfit:off+cs.length<=cur.length)(h1:∀v∈cs,v.oneCell'=true)
  (h:∀w' r,Hid (w'.heap[g]?=some (.cells (splice cur off cs).toArray t (0,0)))->Hid (But g w w')->wpList prog ops Q rest (a.put o.dst r) w'):wpList prog ops Q (o::rest) a w:=
 wpList_plain hgd λ_ hK=>ND d s dT sT elem k ho hu hs g off dLen dCap ad sLen sCap hd hx cur t hg cs hn hsrc hfit h1 λw' r h2 h3=>hK _ _ (h w' r h2 h3)
theorem FL{K:Act->World->Prop}{E:Prop}(hgd:o.guard=none)(d s:Operand)(dT sT elem:TypeId)(k:Nat)(ho:o.op=.call { callee:=.builtin .copy,args:=#[d,s],argTypes:=#[dT,sT] })(hu:prog.underlying dT=some (.slice elem))(hs:(prog.info? elem).map (·.size)=some k)(g off dLen dCap:Nat)(ad:Addr)(sLen sCap:Nat)(hd:a.eval d=.slice (some ⟨g,off,none⟩) dLen dCap)(hx:a.eval s=.slice (some ad) sLen sCap)(cur:List Value)(t:TypeId)(hg:w.heap[g]?=some (.cells cur.toArray t (0,0)))(cs:List Value)(hn:cs.length=Nat.min sLen dLen*k)(hsrc:∀j v,cs[j]?=some v->w.cell? (ad.add j)=some v)(hfit:off+cs.length<=cur.length)(h1:∀v∈cs,v.oneCell'=true)(h:∀w' r,Hid (w'.heap[g]?=some (.cells (splice cur off cs).toArray t (0,0)))->Hid (But g w w')->K (a.put o.dst r) w'):if Region.wanted o (yielded ops a.tmps)=true then Oper.wp prog o a w K Q else E:=by
 have hw:Region.wanted o (yielded ops a.tmps)=true:=by simp[Region.wanted,hgd]
 rw[if_pos hw];exact ND d s dT sT elem k ho hu hs g off dLen dCap ad sLen sCap hd hx cur t hg cs hn hsrc hfit h1 h
end
theorem KA:(prog.info? 43).map (·.size)=some 3:=by obtain⟨iS,BA,_,hz1,_⟩:=info_parts kL;rw[BA];simp[hz1]
theorem Xv(w:World):(Go.sizeOf 43).run prog w=.ok 3 w:=by obtain⟨iS,BA,_,hz1,_⟩:=info_parts kL;simp[Go.sizeOf,typeInfo,BA,hz1]
theorem FM{w:World}{g B off lb cb:Nat}{cur:Array Value}{c0 c1 c2:Value}(hg:w.heap[g]?=some (.cells cur 43 (0,0)))(hB:w.heap[B]?=some (.cells #[c0,c1,c2] 43 (0,0)))(hne:B≠g)(hc:cur.size≠0):(callFunc 224 #[.slice (some ⟨B,0,none⟩) 1 1,.slice (some ⟨g,off,none⟩) lb cb]).run prog w=.ok (.value (.bool false)) w:=by rw[run_callFunc_extern func224 (by kernel_rfl) (by kernel_rfl) (by kernel_rfl) (e:=Extern.SlicesOverlaps.overlaps #[37,37] #[4]) (by kernel_rfl),Lib.run_overlaps_apart w 37 4 43 underlying37 3 Xv ⟨B,0,none⟩ ⟨g,off,none⟩ 1 1 lb cb hne 43 43 3 cur.size (by simp[World.shape?,hB]) (by simp[World.shape?,hg]) hc (aD hB 0) (aD hB 3)];rfl
def FN(cur:List Value)(len i:Nat)(c:List Value):List Value:=splice (splice cur ((i+1)*3) ((cur.drop (i*3)).take ((len - i)*3))) (i*3) c
theorem KC(w:World)(g B len cap i:Nat)(cur:List Value)(c0 c1 c2:Value)(hg:w.heap[g]?=some (.cells cur.toArray 43 (0,0)))(hB:w.heap[B]?=some (.cells #[c0,c1,c2] 43 (0,0)))(hne:B≠g)(hcur:cur.length=cap*3)(hcap:cap<=9223372036854775807)(hi:i<len)(hr:len+1<=cap)(h1:∀u∈cur.take (len*3),u.oneCell'=true)(h1c:∀u∈[c0,c1,c2],u.oneCell'=true):Calls prog 152 #[.slice (some ⟨g,0,none⟩) len cap,.int .i64 i,.slice (some ⟨B,0,none⟩) 1 1] w λe w'=>e=.returned (.slice (some ⟨g,0,none⟩) (len+1) cap)/\w'.heap[g]?=some (.cells (FN cur len i [c0,c1,c2]).toArray 43 (0,0))/\But g w w':=by
 have hz2:¬((i:Int)=(len:Int)):=by omega
 have hov:∀off lb cb,(callFunc 224 #[.slice (some ⟨B,0,none⟩) 1 1,.slice (some ⟨g,off,none⟩) lb cb]).run prog w=.ok (.value (.bool false)) w:=λoff lb cb=>FM hg hB hne (by rw[List.size_toArray];omega);obtain⟨C1,QA⟩:=aG ((cur.drop (i*3)).take ((len - i)*3));have Jl:=hide QA;have HG:=hide hg;have HBk:=hide hB;have pF:=hide hne;have H1:=hide h1;have H1C:=hide h1c;have HCU:=hide hcur;have uL:Hid (C1.length=(len - i)*3):=hide (by rw[QA,d9,qz];omega);have M6:Hid (∀(j:Nat) v,C1[j]?=some v->cur[i*3+j]?=some v):=hide (λj v hj=>by
  rw[QA,vG]at hj;split at hj;·rwa[yh]at hj
  ·cases hj)
 have HO1:Hid (∀u∈C1,u.oneCell'=true):=hide (λu hu=>by obtain⟨j,hj⟩:=List.mem_iff_getElem?.1 hu;refine h1 u (gD (i:=i*3+j) ?_);have hjl:=(dG.1 hj).1;rw[uL]at hjl;rw[vG,if_pos (by omega)];exact M6 j u hj);clear QA hg hB hne h1 h1c hcur;have hb3:(i:Int)<=(len:Int)+1:=by omega
 have hb4:¬(cap=i):=by omega
 have hb5:¬(cap=i+1):=by omega
 have hw1:IntKind.i64.wrap ((i:Int)+1)=(i:Int)+1:=by rw[IntKind.wrap_i64];omega
 have hb1:(0:Int)<=(i:Int)+1:=by omega
 have hin:i<=len:=by omega
 have htn:((i:Int)+1).toNat=i+1:=by omega
 go_enter func152,ntmps152;go_wp2_with (simp only[hov]);go_region_law (refine FL rfl _ _ 37 37 43 3 rfl underlying37 KA g ((i+1)*3) (len - i) (cap - (i+1)) ⟨g,i*3,none⟩ (len+1 - i) (cap - i) (by simp[Act.eval,Act.put]) (by simp[Act.eval,Act.put]) cur 43 HG C1 (by rw[uL];congr 1;simp only[Nat.min_def];split<;>omega) (λj v hj=>by rw[Addr.add_lit];exact(aj HG _).trans (by simpa using M6.out j v hj)) (by rw[uL.out,HCU.out];omega) HO1 ?_;intro w4 r4 HG4 qY);have HB4':=hide (qY.at pF HBk);have Wy:Hid ((splice cur ((i+1)*3) C1).length=cap*3):=hide (by rw[length_splice _ _ _ (by rw[uL,HCU];omega)];exact HCU);generalize hS4:splice cur ((i+1)*3) C1=S4 at *;have HS4:=hide hS4;clear hS4;have iL:Hid ([c0,c1,c2].length=Nat.min 1 (len+1 - i)*3):=hide (by
  have:Nat.min 1 (len+1 - i)=1:=by simp only[Nat.min_def];split<;>omega
  rw[this];rfl)
 have Wz:Hid (∀(j:Nat) v,[c0,c1,c2][j]?=some v->w4.cell? ((⟨B,0,none⟩:Addr).add j)=some v):=hide (λj v hj=>by rw[Addr.add_lit,fT];exact(aj HB4'.out j).trans (by simpa using hj));have U0:Hid (i*3+[c0,c1,c2].length<=S4.length):=hide (by rw[Wy];show i*3+3<=_;omega);go_wp2_with (refine zR rfl (.tmp 80) (.tmp 81) 37 37 43 3 rfl underlying37 KA g (i*3) (len+1 - i) (cap - i) ⟨B,0,none⟩ 1 1 rfl rfl S4 43 HG4 [c0,c1,c2] iL Wz U0 H1C ?_;intro w5 r5 HG5 dw);go_ret;refine⟨rfl,?_,?_⟩;·rw[HG5,FN,<-Jl,HS4]
 ·exact But.trans (b:=w4) ⟨qY.os,qY.tape,qY.output,qY.size,qY.block⟩ dw
theorem Jm(z:Array Value)(n:Nat):(Builtin.zeroCells z n).size=n*z.size:=by simp[Builtin.zeroCells]
theorem QB(w:World)(g len cap i:Nat)(cur:List Value)(hg:w.heap[g]?=some (.cells cur.toArray 43 (0,0)))(hcur:cur.length=cap*3)(hlen:len<=16777216)(hi:i<len)(hl:len<=cap)(hr:cap<len+1):∃(G:Nat) (R:List Value) (W1:World),(∀ty,(Builtin.append_ #[37,3] ty #[.slice (some ⟨g,0,none⟩) i cap,.int .i64 ((len:Int)+1 - (i:Int))]).run prog w=.ok (.slice (some ⟨w.heap.size,0,none⟩) (len+1) G) W1)/\len+1<=G/\G<=maxLen/\R.length=G*3/\R.take (i*3)=cur.take (i*3)/\W1.heap[w.heap.size]?=some (.cells R.toArray 43 (0,0))/\Below w.heap.size w W1:=by
 obtain⟨iS,BA,hz0,hz1,hz2⟩:=info_parts kL;have hkk:(len:Int)+1 - (i:Int)=((len+1 - i:Nat):Int):=by omega
 have hik:i+(len+1 - i)=len+1:=by omega
 have hold:(Builtin.firstCells iS.size i (.slice (some ⟨g,0,none⟩) i cap)).run prog w.drew=.ok (cur.take (i*3)).toArray w.drew:=by
  rw[hz1];exact run_firstCells_some w.drew 3 i ⟨g,0,none⟩ i cap (cur.take (i*3)) (by rw[d9];omega) (λj v hj=>by
   rw[Addr.add_lit,fT];rw[vG]at hj;split at hj;·exact(aj (w:=w) hg j).trans (by simpa using hj)
   ·cases hj)
 have h:=λty=>Lib.run_append_grow_zeros w 37 3 ty 43 iS _ .i64 .i64 underlying37 underlying3 BA hz0 (some ⟨g,0,none⟩) i cap (cur.take (i*3)) hold (len+1 - i) (by omega) (by omega) (by omega) (by omega) (by rw[hz2];omega) (by rw[hz2,hik];exact growslice_fits hr (by omega));rw[hik]at h;obtain⟨G,hG⟩:=aG (grownCap w (len+1) cap 43);have hGn:len+1<=G:=by rw[hG];exact grownCap_ge w _ _ _
 have hG63:G<=maxLen:=by rw[hG];exact grownCap_le_maxLen w (len+1) cap 43 (by unfold maxLen;omega)
 rw[<-hG]at h;obtain⟨Z1,hZ1⟩:=aG (Builtin.zeroCells (Value.agg #[Value.int IntKind.i64 0,Value.string ⟨#[]⟩,Value.string ⟨#[]⟩]).cells (len+1 - i));obtain⟨Z2,hZ2⟩:=aG (Builtin.zeroCells (Value.agg #[Value.int IntKind.i64 0,Value.string ⟨#[]⟩,Value.string ⟨#[]⟩]).cells (G - (len+1)));have hs1:Z1.size=(len+1 - i)*3:=by rw[hZ1,Jm];rfl
 have hs2:Z2.size=(G - (len+1))*3:=by rw[hZ2,Jm];rfl
 rw[<-hZ1,<-hZ2]at h;have hR:(cur.take (i*3)).toArray++Z1++Z2=(cur.take (i*3)++Z1.toList++Z2.toList).toArray:=by apply Array.ext';simp
 rw[hR]at h;refine⟨G,cur.take (i*3)++Z1.toList++Z2.toList,_,λty=>(congrArg (λq=>(Builtin.append_ #[37,3] ty #[.slice (some ⟨g,0,none⟩) i cap,.int .i64 q]).run prog w) hkk).trans (h ty),hGn,hG63,?_,?_,aJ w.drew _,up (iP (aX _ _) 1) (aB _ _)⟩
 ·have e1:Z1.toList.length=(len+1 - i)*3:=by rw[Array.length_toList];exact hs1
  have e2:Z2.toList.length=(G - (len+1))*3:=by rw[Array.length_toList];exact hs2
  rw[aP,aP,d9,e1,e2];omega
 ·rw[bE,FQ (by rw[d9];omega),yj,Nat.min_self]
theorem NG(w:World)(g B len cap i:Nat)(cur:List Value)(c0 c1 c2:Value)(hg:w.heap[g]?=some (.cells cur.toArray 43 (0,0)))(hB:w.heap[B]?=some (.cells #[c0,c1,c2] 43 (0,0)))(hcur:cur.length=cap*3)(hlen:len<=16777216)(hi:i<len)(hl:len<=cap)(hr:cap<len+1)(h1:∀u∈cur.take (len*3),u.oneCell'=true)(h1c:∀u∈[c0,c1,c2],u.oneCell'=true):Calls prog 152 #[.slice (some ⟨g,0,none⟩) len cap,.int .i64 i,.slice (some ⟨B,0,none⟩) 1 1] w λe w'=>∃G R,e=.returned (.slice (some ⟨w.heap.size,0,none⟩) (len+1) G)/\len+1<=G/\G<=maxLen/\R.length=G*3/\R.take (i*3)=cur.take (i*3)/\w'.heap[w.heap.size]?=some (.cells (splice (splice R (i*3) [c0,c1,c2]) ((i+1)*3) ((cur.drop (i*3)).take ((len - i)*3))).toArray 43 (0,0))/\Below w.heap.size w w':=by
 have hz2:¬((i:Int)=(len:Int)):=by omega
 obtain⟨G,R,W1,hrz,hGn,hG63,hRl,hRt,hW1,hbW⟩:=QB w g len cap i cur hg hcur hlen hi hl hr;have hG63':G<=9223372036854775807:=by unfold maxLen at hG63;omega
 have hglt:=block_lt hg;have hBlt:=block_lt hB;obtain⟨C1,QA⟩:=aG ((cur.drop (i*3)).take ((len - i)*3));have Jl:=hide QA;have uL:Hid (C1.length=(len - i)*3):=hide (by rw[QA,d9,qz];omega);have M6:Hid (∀(j:Nat) v,C1[j]?=some v->cur[i*3+j]?=some v):=hide (λj v hj=>by
  rw[QA,vG]at hj;split at hj;·rwa[yh]at hj
  ·cases hj)
 have HO1:Hid (∀u∈C1,u.oneCell'=true):=hide (λu hu=>by obtain⟨j,hj⟩:=List.mem_iff_getElem?.1 hu;refine h1 u (gD (i:=i*3+j) ?_);have hjl:=(dG.1 hj).1;rw[uL]at hjl;rw[vG,if_pos (by omega)];exact M6 j u hj);have Qf:Hid (W1.heap[g]?=some (.cells cur.toArray 43 (0,0))):=hide (by rw[hbW.block g hglt];exact hg);have HB1:Hid (W1.heap[B]?=some (.cells #[c0,c1,c2] 43 (0,0))):=hide (by rw[hbW.block B hBlt];exact hB);have nR:Hid (B≠w.heap.size):=hide (by omega);have HNG:Hid (g≠w.heap.size):=hide (by omega);have HH:=hide hW1;have eO:=hide hbW;have Xw:=hide hRl;have HRT:=hide hRt;have H1C:=hide h1c;have HG63:=hide hG63;have iL:Hid ([c0,c1,c2].length=Nat.min 1 (len+1 - i)*3):=hide (by
  have:Nat.min 1 (len+1 - i)=1:=by simp only[Nat.min_def];split<;>omega
  rw[this];rfl)
 have Wz:Hid (∀(j:Nat) v,[c0,c1,c2][j]?=some v->W1.cell? ((⟨B,0,none⟩:Addr).add j)=some v):=hide (λj v hj=>by rw[Addr.add_lit,fT];exact(aj HB1 j).trans (by simpa using hj));have U0:Hid (i*3+[c0,c1,c2].length<=R.length):=hide (by rw[Xw];show i*3+3<=_;omega);have Wy:Hid ((splice R (i*3) [c0,c1,c2]).length=G*3):=hide (by rw[length_splice _ _ _ U0];exact hRl);clear QA hg hB hcur h1 h1c hW1 hbW hRl hRt hG63 hglt hBlt;generalize hH:w.heap.size=H at *;have hb4:¬(cap=i):=by omega
 have hb6:¬(G=i):=by omega
 have hb5:¬(G=i+1):=by omega
 have hw1:IntKind.i64.wrap ((i:Int)+1)=(i:Int)+1:=by rw[IntKind.wrap_i64];omega
 have hb1:(0:Int)<=(i:Int)+1:=by omega
 have hin:i<=len:=by omega
 have hb3:(i:Int)<=(len:Int):=by omega
 have htn:((i:Int)+1).toNat=i+1:=by omega
 clear hH;go_enter func152,ntmps152
 go_wp2_with (first
  | (at_builtin;refine Lib.wpList_append_run _ rfl (.tmp 34) (.tmp 39) 37 3 rfl _ _ rfl rfl _ _ (hrz _) ?_)
  | (refine zR rfl (.tmp 43) (.tmp 44) 37 37 43 3 rfl underlying37 KA H (i*3) (len+1 - i) (G - i) ⟨B,0,none⟩ 1 1 rfl rfl R 43 HH [c0,c1,c2] iL Wz U0 H1C ?_;intro w5 r5 HG5 dw))
 have HG5':=hide (dw.at HNG Qf);generalize hS4:splice R (i*3) [c0,c1,c2]=S4 at *;go_region_law (refine FL rfl (.tmp 50) (.tmp 53) 37 37 43 3 rfl underlying37 KA H ((i+1)*3) (len - i) (G - (i+1)) ⟨g,i*3,none⟩ (len - i) (cap - i) (by simp[Act.eval,Act.put]) (by simp[Act.eval,Act.put]) S4 43 HG5 C1 (by rw[uL];congr 1;simp only[Nat.min_def];split<;>omega) (λj v hj=>by rw[Addr.add_lit];exact(aj HG5'.out _).trans (by simpa using M6.out j v hj)) (by rw[uL.out,Wy.out];omega) HO1 ?_;intro w6 r6 Nz dB);go_wp2;go_ret;refine⟨G,R,rfl,hGn,HG63,Xw,HRT,?_,?_⟩;·rw[Nz,hS4,Jl]
 ·have s1:=block_lt HH;have s2:=dw.size;have b5:Below H W1 w5:=dw.below (bM H) (zS s1);have b6:Below H w5 w6:=⟨dB.os,dB.tape,dB.output,dB.size,λk hk=>dB.block k (show k<w5.heap.size by omega) (by omega)⟩;exact(eO.trans b5).trans b6
theorem iT{k:Nat}:∀(cs:List (List Value)) (i:Nat),(∀c∈cs,c.length=k)->(cs.take i).flatten=cs.flatten.take (i*k)/\(cs.drop i).flatten=cs.flatten.drop (i*k)
 | [],i,_=>by simp
 | c::cs,0,_=>by simp
 | c::cs,i+1,h=>by
  have hc:c.length=k:=h c (by simp);obtain⟨h1,h2⟩:=iT cs i (λd hd=>h d (by simp[hd]));have e:(i+1)*k=c.length+i*k:=by rw[hc,Nat.succ_mul,Nat.add_comm]
  constructor;·rw[KD,qx,qx,e,List.take_append,h1,show List.take (c.length+i*k) c=c from eP (by omega),Nat.add_sub_cancel_left]
  ·rw[List.drop_succ_cons,qx,e,List.drop_append,h2,show List.drop (c.length+i*k) c=[]from List.drop_eq_nil_of_le (by omega),Nat.add_sub_cancel_left,ug]
theorem NH(cur:List Value)(len i cap:Nat)(c:List Value)(hc:c.length=3)(hcur:cur.length=cap*3)(hi:i<len)(hr:len+1<=cap):(FN cur len i c).take ((len+1)*3)=cur.take (i*3)++(c++(cur.drop (i*3)).take ((len - i)*3)):=by
 obtain⟨C1,QA⟩:=aG ((cur.drop (i*3)).take ((len - i)*3));have hl:C1.length=(len - i)*3:=by rw[QA,d9,qz];omega
 unfold FN;rw[<-QA];have e1:(splice cur ((i+1)*3) C1).take (i*3)=cur.take (i*3):=by unfold splice;rw[FQ (by rw[d9];omega),yj,Nat.min_eq_left (by omega)]
 have e2:(splice cur ((i+1)*3) C1).drop (i*3+3)=C1++cur.drop ((i+1)*3+C1.length):=by
  unfold splice;rw[List.drop_append,List.drop_eq_nil_of_le (by rw[d9];omega),ug,d9];have:i*3+3 - min ((i+1)*3) cur.length=0:=by omega
  rw[this,List.drop_zero]
 rw[splice,hc,e1,e2,<-bE,<-bE,<-bE,FQ (by
  rw[aP,aP,d9,hl,hc];omega),eP (by
  rw[aP,aP,d9,hl,hc];omega),bE]
theorem NI(cur R:List Value)(len i cap G:Nat)(c:List Value)(hc:c.length=3)(hcur:cur.length=cap*3)(hi:i<len)(hl:len<=cap)(hG:len+1<=G)(hR:R.length=G*3)(ht:R.take (i*3)=cur.take (i*3)):(splice (splice R (i*3) c) ((i+1)*3) ((cur.drop (i*3)).take ((len - i)*3))).take ((len+1)*3)=cur.take (i*3)++(c++(cur.drop (i*3)).take ((len - i)*3)):=by
 obtain⟨C1,QA⟩:=aG ((cur.drop (i*3)).take ((len - i)*3));have hl:C1.length=(len - i)*3:=by rw[QA,d9,qz];omega
 rw[<-QA];have e1:(splice R (i*3) c).take ((i+1)*3)=cur.take (i*3)++c:=by unfold splice;rw[<-bE,FQ (by rw[aP,d9,hc];omega),eP (by rw[aP,d9,hc];omega),ht]
 rw[splice,e1,<-bE,FQ (by
  rw[aP,aP,d9,hl,hc];omega),eP (by
  rw[aP,aP,d9,hl,hc];omega),bE]
theorem FR{w':World}{n g cap:Nat}{l:List Dg}{cs:List (List Value)}{c:List Value}{d:Dg}{i:Nat}{nw cur:List Value}(hi:i<l.length)(hcs:cs.length=l.length)(hk:∀c∈cs,c.length=3/\∀u∈c,u.oneCell'=true)(hat:∀(j:Nat) c y,cs[j]?=some c->l[j]?=some y->lY c y)(hfl:cur.take (l.length*3)=cs.flatten)(hc:c.length=3)(h1:∀u∈c,u.oneCell'=true)(hd:lY c d)(hg:n<=g)(hw:w'.heap[g]?=some (.cells nw.toArray 43 (0,0)))(hcap:l.length+1<=cap)(hm:cap<=maxLen)(hnl:nw.length=cap*3)(hnw:nw.take ((l.length+1)*3)=cur.take (i*3)++(c++(cur.drop (i*3)).take ((l.length - i)*3))):bI lY w' n 43 3 (.slice (some ⟨g,0,none⟩) (l.length+1) cap) (l.take i++([d]++l.drop i)):=by
 obtain⟨t1,t2⟩:=iT cs i (λc hc=>(hk c hc).1);have hlen:(l.take i++([d]++l.drop i)).length=l.length+1:=by simp;omega
 have hfl':(cs.take i++([c]++cs.drop i)).flatten=nw.take ((l.length+1)*3):=by
  rw[hnw,Dx,Dx,t1,t2,<-hfl,yj,Nat.min_eq_left (by omega),List.drop_take];have:l.length*3 - i*3=(l.length - i)*3:=by omega
  rw[this];simp
 refine⟨cs.take i++([c]++cs.drop i),?_,by simp[hcs],λb hb=>?_,λj b y hb hy=>?_,λh=>by simp at h⟩;·rw[hlen,hfl'];refine⟨by rw[d9,hnl];omega,Or.inr ⟨g,cap,nw.toArray,rfl,hg,hw,hcap,hm,by simpa using hnl,by simp⟩⟩
 ·rcases cK.1 hb with hb|hb;·exact hk b (nS hb)
  ·rcases cK.1 hb with hb|hb;·rw[iy]at hb;subst hb;exact⟨hc,h1⟩
   ·exact hk b (List.mem_of_mem_drop hb)
 ·have hti:(cs.take i).length=i:=by rw[d9];omega
  have htl:(l.take i).length=i:=by rw[d9];omega
  by_cases hj:j<i;·rw[rE (by omega),vG,if_pos hj]at hb;rw[rE (by omega),vG,if_pos hj]at hy;exact hat j b y hb hy
  ·rw[uf (by omega),hti]at hb;rw[uf (by omega),htl]at hy;rcases Nat.eq_zero_or_pos (j - i)with e|e;·rw[e]at hb hy;simp at hb hy;subst hb hy;exact hd
   ·rw[uf (by simp only[iJ];omega),yh]at hb hy;simp only[iJ]at hb hy;exact hat _ b y hb hy
theorem QC(w:World)(n B:Nat)(v:Value)(l:List Dg)(d:Dg)(h:bI lY w n 43 3 v l)(hB:w.heap[B]?=some (.cells #[.int .i64 d.code,.string d.fn,.string d.name] 43 (0,0)))(hl:l.length<16777216)(hn:n<=w.heap.size):Calls prog 152 #[v,.int .i64 l.length,.slice (some ⟨B,0,none⟩) 1 1] w λe w'=>∃v',e=.returned v'/\bI lY w' n 43 3 v' (l++[d])/\Below n w w':=by
 have HO:=hide h;have HS:Hid (bI lY w B 43 3 (.slice (some ⟨B,0,none⟩) 1 1) [d]):=hide ⟨[[.int .i64 d.code,.string d.fn,.string d.name]],⟨by simp,Or.inr ⟨B,1,_,rfl,bM _,hB,bM _,by decide,by simp,by simp⟩⟩,rfl,(λc hc=>by
  rw[iy]at hc;subst hc;exact⟨rfl,lY.one (d:=d) rfl⟩),(λj c y hc hy=>by
  cases j with
  | zero=>simp at hc hy;subst hc hy;rfl
  | succ j=>simp at hc),λe=>by simp at e⟩
 rcases h.shape with⟨rfl,rfl⟩|⟨g,cap,rfl,hcl,hng,hgl,hne⟩
 ·go_enter func152,ntmps152
  go_wp2_with (first
   | (at_builtin;refine bW (At:=lY) rfl (.tmp 23) (.tmp 24) 37 43 3 40 _ rfl underlying37 kL (by decide) (by decide) (by decide) n (.slice none 0 0) _ rfl HO _ _ [d] rfl HS (by simp) hn ?_;intro v6 w6 hown6 dI;have HO6:=hide hown6;have Nz:=hide dI;clear hown6 dI)
   | fail)
  go_ret;exact⟨_,rfl,HO6,⟨Nz.os,Nz.tape,Nz.output,Nz.size,λk hk=>Nz.block k (by omega) (by simp[Value.ownBlock])⟩⟩
 ·have hcm:cap<=9223372036854775807:=by
   obtain⟨_,⟨_,h1⟩,_⟩:=h;rcases h1 with⟨e,_⟩|⟨g',cap',cur,e,_,_,_,hm,_⟩;·simp at e
   ·simp at e;unfold maxLen at hm;omega
  obtain⟨len,hlen⟩:=aG l.length;have Jo:=hide hlen;rw[<-hlen]at HO hcl hl ⊢;clear hlen h;go_enter func152,ntmps152
  go_wp2_with (first
   | (at_builtin;refine bW (At:=lY) rfl (.tmp 23) (.tmp 24) 37 43 3 40 _ rfl underlying37 kL (by decide) (by decide) (by decide) n (.slice (some ⟨g,0,none⟩) len cap) _ rfl HO _ _ [d] rfl HS (by have:=Jo.out;simp only[iJ];omega) hn ?_;intro v6 w6 hown6 dI;have HO6:=hide hown6;have Nz:=hide dI;clear hown6 dI)
   | fail)
  all_goals go_ret;exact⟨_,rfl,HO6,⟨Nz.os,Nz.tape,Nz.output,Nz.size,λk hk=>Nz.block k (by omega) (by simp[Value.ownBlock];omega)⟩⟩
theorem FU(w:World)(n B i:Nat)(v:Value)(l:List Dg)(d:Dg)(h:bI lY w n 43 3 v l)(hi:i<=l.length)(hB:w.heap[B]?=some (.cells #[.int .i64 d.code,.string d.fn,.string d.name] 43 (0,0)))(hne:v.ownBlock≠some B)(hl:l.length<16777216)(hn:n<=w.heap.size):Calls prog 152 #[v,.int .i64 i,.slice (some ⟨B,0,none⟩) 1 1] w λe w'=>∃v',e=.returned v'/\bI lY w' n 43 3 v' (l.take i++([d]++l.drop i))/\Below n w w':=by
 by_cases he:i=l.length;·subst he;rw[gG,List.drop_length,bX];exact QC w n B v l d h hB hl hn
 ·have hlt:i<l.length:=by omega
  obtain⟨cs,⟨h0,h1⟩,h2,h3,h4,h5⟩:=h;have hone:∀u∈[Value.int .i64 d.code,.string d.fn,.string d.name],u.oneCell'=true:=lY.one (d:=d) rfl;rcases h1 with⟨_,e⟩|⟨g,cap,cur,rfl,hg,hh,hc,hm,hs,ht⟩;·omega
  ·have hgB:B≠g:=λe=>hne (by rw[e];rfl);have hs':cur.toList.length=cap*3:=by simpa using hs
   have hcell:∀u∈cur.toList.take (l.length*3),u.oneCell'=true:=λu hu=>by rw[ht]at hu;obtain⟨c,hc',hu'⟩:=List.mem_flatten.1 hu;exact(h3 c hc').2 u hu'
   have hh':w.heap[g]?=some (.cells cur.toList.toArray 43 (0,0)):=by rw[Array.toArray_toList];exact hh
   by_cases hr:l.length+1<=cap
   ·refine(KC w g B l.length cap i cur.toList _ _ _ hh' hB hgB hs' (by unfold maxLen at hm;omega) hlt hr hcell hone).mono ?_;rintro e w' ⟨rfl,hw,hb⟩;refine⟨_,rfl,FR hlt h2 h3 h4 ht rfl hone rfl hg hw hr hm ?_ (NH _ _ _ cap _ rfl hs' hlt hr),hb.below hg hn⟩;have e1:(((cur.toList.drop (i*3)).take ((l.length - i)*3))).length=(l.length - i)*3:=by rw[d9,qz];omega
    unfold FN;rw[length_splice _ _ _ (by rw[length_splice _ _ _ (by rw[e1];omega)];show i*3+3<=_;omega),length_splice _ _ _ (by rw[e1];omega)];exact hs'
   ·refine(NG w g B l.length cap i cur.toList _ _ _ hh' hB hs' (by omega) hlt hc (by omega) hcell hone).mono ?_;rintro e w' ⟨G,R,rfl,hG,Wx,hR,hRt,hw,hb⟩;refine⟨_,rfl,FR hlt h2 h3 h4 ht rfl hone rfl hn hw hG Wx ?_ (NI _ _ _ _ cap G _ rfl hs' hlt hc hG hR hRt),hb.mono hn⟩;have e1:(((cur.toList.drop (i*3)).take ((l.length - i)*3))).length=(l.length - i)*3:=by rw[d9,qz];omega
    have e2:(splice R (i*3) [Value.int .i64 d.code,.string d.fn,.string d.name]).length=G*3:=by rw[length_splice _ _ _ (by show i*3+3<=_;omega)];exact hR
    rw[length_splice _ _ _ (by rw[e1,e2];omega)];exact e2
def xL(w:World)(v:Value)(l:List Dg):Prop:=
 ∃(a:Option Addr) (b off cap:Nat),v=.slice a l.length cap/\(0<l.length->a=some ⟨b,off,none⟩)/\l.length<=9223372036854775807/\
  ∀i d,l[i]?=some d->w.cell? ⟨b,off+i*3,none⟩=some (.int .i64 d.code)/\w.cell? ⟨b,off+i*3+1,none⟩=some (.string d.fn)/\w.cell? ⟨b,off+i*3+2,none⟩=some (.string d.name)
theorem bI.dg{w:World}{n g cap:Nat}{l:List Dg}(h:bI lY w n 43 3 (.slice (some ⟨g,0,none⟩) l.length cap) l){i:Nat}{d:Dg}(hd:l[i]?=some d):w.cell? ⟨g,i*3,none⟩=some (.int .i64 d.code)/\w.cell? ⟨g,i*3+1,none⟩=some (.string d.fn)/\w.cell? ⟨g,i*3+2,none⟩=some (.string d.name):=by obtain⟨c,hc,h1,h2⟩:=h.cell hd;have h2':c=[.int .i64 d.code,.string d.fn,.string d.name]:=h2;subst h2';exact⟨h1 0 (by decide),h1 1 (by decide),h1 2 (by decide)⟩
theorem bI.dgs{w:World}{n:Nat}{v:Value}{l:List Dg}(h:bI lY w n 43 3 v l)(hl:l.length<=9223372036854775807):xL w v l:=by
 have h0:=h;rcases h.shape with⟨rfl,rfl⟩|⟨g,cap,rfl,_⟩;·exact⟨none,0,0,0,rfl,λh=>absurd h (by simp),by simp,λi d hd=>by simp at hd⟩
 ·refine⟨_,g,0,cap,rfl,λ_=>rfl,hl,λi d hd=>?_⟩;rw[fT];exact h0.dg hd
namespace aI
def mV(a b:Dg):Bool:=(a.code==b.code)&&(a.fn.toList==b.fn.toList)&&(a.name.toList==b.name.toList)
def ins:List Dg->Dg->List Dg
 | [],d=>[d]
 | x::r,d=>if dV x d then x::ins r d else if mV x d then x::r else d::x::r
def once(l:List Dg):List Dg:=l.foldl ins []
theorem ins_len(l:List Dg)(d:Dg):(ins l d).length<=l.length+1:=by
 induction l with
 | nil=>simp[ins]
 | cons x r ih=>
  unfold ins;split;·simp;omega
  ·split<;>simp
theorem ins_end{l:List Dg}{d:Dg}(h:∀x∈l,dV x d=true):ins l d=l++[d]:=by
 induction l with
 | nil=>rfl
 | cons x r ih =>unfold ins;rw[if_pos (h x (by simp)),ih (λy hy=>h y (by simp[hy]))];rfl
theorem Xx{l:List Dg}{d y:Dg}{i:Nat}(h:∀(j:Nat) x,j<i->l[j]?=some x->dV x d=true)(hy:l[i]?=some y)(hn:dV y d=false):ins l d=if mV y d then l else l.take i++([d]++l.drop i):=by
 induction l generalizing i with
 | nil=>simp at hy
 | cons x r ih=>
  cases i with
  | zero =>simp at hy;subst hy;unfold ins;rw[if_neg (by rw[hn];simp)];rfl
  | succ i =>unfold ins;rw[if_pos (h 0 x (by omega) (by simp)),ih (i:=i) (λj z hj hz=>h (j+1) z (by omega) (by simpa using hz)) (by simpa using hy)];split<;>simp
end aI
theorem fold_succ{l:List Dg}{j:Nat}{d:Dg}(h:l[j]?=some d):aI.once (l.take (j+1))=aI.ins (aI.once (l.take j)) d:=by unfold aI.once;rw[iY,h];simp
theorem NJ(l:List Dg):(aI.once l).length<=l.length:=by
 have h:∀(l acc:List Dg),(l.foldl aI.ins acc).length<=acc.length+l.length:=by
  intro l;induction l with
  | nil=>intro acc;simp
  | cons x r ih =>intro acc;have:=ih (aI.ins acc x);have:=ins_len acc x;simp only[pG,xJ];omega
 simpa[aI.once]using h l []
theorem bI.dg2{w:World}{n len c:Nat}{a:Option Addr}{l:List Dg}(h:bI lY w n 43 3 (.slice a len c) l)(hlen:len=l.length){i:Nat}{d:Dg}(hd:l[i]?=some d):∃g,a=some ⟨g,0,none⟩/\w.cell? ⟨g,i*3,none⟩=some (.int .i64 d.code)/\w.cell? ⟨g,i*3+1,none⟩=some (.string d.fn)/\w.cell? ⟨g,i*3+2,none⟩=some (.string d.name):=by
 subst hlen;have h0:=h;rcases h.shape with⟨_,rfl⟩|⟨g,cap,e,_⟩;·simp at hd
 ·injection e with e1 e2 e3;subst e1;exact⟨g,rfl,h0.dg hd⟩
end Go.Proofs.YtfnboapebijcpaaGreatDoor
