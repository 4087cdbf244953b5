import Derived.Test.YtiebmbnfedbdeaaGreatDoorTZBA
set_option maxHeartbeats 0
set_option maxRecDepth 99999
namespace Go.Proofs.YtiebmbnfedbdeaaGreatDoor
open bS Sv
open Go.Proofs.Tryz
open Go.RowKit
variable{v a t k n s f i N:Nat}{S S1:Nat->Nat}
def Ho(n:Nat)(S:Nat->Nat):Prop:=∀i,i<n->S i<1099511627776
theorem FR(c:v<40):2 ^ v<1099511627776:=by have b:2 ^ v<2 ^ 40:=Nat.pow_lt_pow_right bM c;exact b
theorem alg(b:a<1099511627776)(c:v<40):a ||| 2 ^ v<1099511627776:=Nat.or_lt_two_pow (n:=40) b<|FR c
theorem aff(d:v<40):IntKind.u64.wrap (2 ^ v)=((2 ^ v:Nat):Int):=by
 have c:=FR d;have b:(2:Int) ^ v=((2 ^ v:Nat):Int):=by simp
 rw[b];generalize 2 ^ v=q at c ⊢;simp[IntKind.wrap,IntKind.bits,IntKind.signed];omega
theorem or_bit(e:a<1099511627776)(c:v<40):bits .or .u64 (a:Int) ((2:Int) ^ v)=((a ||| 2 ^ v:Nat):Int):=by
 have d:=FR c;have b:(2:Int) ^ v=((2 ^ v:Nat):Int):=by simp
 rw[b];exact u64_or_nat a (2 ^ v) bC bC
theorem alh(a v j:Nat):(a ||| 2 ^ v).testBit j=(a.testBit j||decide (v=j)):=by rw[Nat.testBit_or,Nat.testBit_two_pow]
theorem afg{fr:List Int}(b:∀i j,(S1 i).testBit j=((S i).testBit j||(decide (i=t)&&(fr.take k).contains (j:Int))))(e:fr[k]?=some (v:Int)):∀i j,(X6 S1 t (S1 t ||| 2 ^ v) i).testBit j=((S i).testBit j||(decide (i=t)&&(fr.take<|k+1).contains (j:Int))):=by
 intro i j;have d:(fr.take<|k+1).contains (j:Int)=((fr.take k).contains (j:Int)||decide (v=j)):=by
  rw[gy,e,List.contains_eq_mem,List.contains_eq_mem,vG];simp;constructor
  ·rintro(b|b);·exact aO b
   ·exact aQ bC
  ·rintro(b|b);·exact aO b
   ·exact aQ bC
 unfold X6;by_cases c:i=t;·subst c;rw[aK rfl,alh,b,d];simp[Bool.or_assoc]
 ·rw[aI c,b];simp[c]
theorem abt(b:Ho n S)(d:t<n)(e:v<40):Ho n (X6 S t<|S t ||| 2 ^ v):=λi c=>by
 unfold X6;split;·exact alg (b t d) e
 ·exact b i c
theorem afh(w0 w:bI)(c:Cf)(V:Nat->Nat × Nat)(S:Nat->Nat)(ss:aJ)(G:Nat)(L:Nat->Nat)(Z:aL)(t:Nat)(fr:List Int)(x:Nat × Nat)(vf:aC)(hL:nC w0 c.vn c.vl ss G L Z)(h:jq w0 w c V S)(hV:yS ss.length c.n V)(ht:t<c.n)(hx:Sv.Ok ss.length x)(hfr:∀f∈fr,uf c.n f=true)(hn:c.n<=40)(hF:Ints w0 vf fr)(hS:Ho c.n S):aD 137 #[gK c.p,.agg #[O t,vf,O (x.1:Nat),O (x.2:Nat)]] w λe w'=>e=dz (.tuple #[])/\∃S',jq w0 w' c (Sv.up Z ss.length V t x) S'/\Ho c.n S'/\∀i j,(S' i).testBit j=((S i).testBit j||(decide (i=t)&&fr.contains (j:Int))):=by
 obtain⟨fa,fb,fo,fc,rfl,hf0,hfl,hfe⟩:=hF;obtain⟨len,hlen⟩:=aV fr.length;have HLn:=Y hlen;rw[<-hlen]at hf0 hfl ⊢;obtain⟨W,hW⟩:∃W,W=w.alloc (aY #[O t,X fa len fc,O (x.1:Nat),O (x.2:Nat)] 229):=⟨_,rfl⟩;have hB:bK w W:=by rw[hW];exact aH w _
 have bx:dR W w.heap.size (aY #[O t,X fa len fc,O (x.1:Nat),O (x.2:Nat)] 229):=by rw[hW];exact bF w _
 obtain⟨q0,q1,q2,q3⟩:=xX bx;obtain⟨Mc,eT,Az,uK,HFR,HS0⟩:=vC (NQ w0 W c V S ss G L Z t x hL (h.below hB) hV ht hx hn) bx hfe hf0 hfr hS;obtain⟨V',hV'⟩:∃V',V'=Sv.up Z ss.length V t x:=⟨_,rfl⟩;rw[<-hV']at Mc ⊢;have lG:J (w.heap.size≠c.lb):=Y (λe=>by obtain⟨cs,h1,_⟩:=h.lab;have:=aR h1;omega);have D8:J (w.heap.size≠c.sb):=Y (λe=>by obtain⟨cs,h1,_⟩:=h.src;have:=aR h1;omega);clear hB bx h hL hV hx hfr hS hfe hf0 hlen hV';obtain⟨p,lb,sb,n,vn,vl⟩:=c;simp only at Mc HFR HS0 ht hn lG D8 ⊢;go_enter func137,ntmps137;go_wp2_with fail;rw[<-hW];clear hW;refine Mc.mono ?_;rintro e w1 ⟨rfl,hh⟩;obtain⟨h1,hb1⟩:=hh.out;have HSY:=Y h1;have b1:=hb1.at lG eT;have HB1:=Y b1;replace q0:=(aj b1 0).trans rfl;replace q1:=(aj b1 1).trans rfl;clear h1 hb1 b1 hh q2 q3;go_wp2_with fail;clear q0 q1;go_loopw[15] (λi wx=>∃k:Nat,k<=len/\i=O k/\dR wx w.heap.size (aY #[O t,X fa len fc,O (x.1:Nat),O (x.2:Nat)] 229)/\∃S',jq w0 wx ⟨p,lb,sb,n,vn,vl⟩ V' S'/\Ho n S'/\∀i j,(S' i).testBit j=((S i).testBit j||(decide (i=t)&&(fr.take k).contains (j:Int)))) (λi _=>len - (intOf i).toNat);exact⟨0,bN _,rfl,HB1,S,HSY,HS0,λi j=>by simp⟩
 obtain⟨k,hk,rfl,hbx,S1,hsy,hsk,hbit⟩:=hrel;obtain⟨K5,ali,HBT,zH⟩:=lD hsy hsk hbit hbx;clear hbit hsk;by_cases hlt:k<len
 ·obtain⟨f,hf⟩:∃f,fr[k]?=some f:=⟨_,aZ (by rw[<-HLn];exact hlt)⟩;have HFK:=Y hf;obtain⟨-,hfv,anS⟩:=lU (HFR f (dG hf));obtain⟨v,hv⟩:=aV f.toNat;have g:=aG (Az k f hf) hsy.since;rw[<-hv]at hfv anS;subst anS;obtain rfl:=uK bC;obtain⟨c0,c1,c2,c3⟩:=hsy.cell;obtain⟨s0,z0⟩:=hsy.Nc (i:=t) ht;have q0:=aj hbx 0;simp only at c0 c1 c2 c3 s0 z0;have hti:(0:Int)<=(t:Int):=by omega
  have htn:(t:Int)<(n:Int):=by omega
  have HOR:=Y (or_bit (v:=v) (ali t ht) bC);have hsh:=aff (v:=v) bC;clear hsy hbx hf hv;replace q0:=bD q0;replace c3:=bD c3;replace s0:=bD s0;clear z0 c0 c1 c2;go_wp2_with fail;refine gq 12 dw dw ?_;dsimp only[List.take,List.drop];repeat(quiet_step (fail))
  refine wpQuiet_nil ?_;intro w6 hw';obtain⟨⟨nq,osq⟩,hw''⟩:=hw';have fD:=Y (show bK wr w6 by rw[hw''];exact bU wr nq osq);have xS:=Y (K5.out.below fD.out);obtain⟨m0,y0⟩:=xS.out.Nc (i:=t) ht;simp only at m0 y0;clear hw'' q0 c3 s0;go_wp2_with fail;rw[HOR.out];go_roundw;exact⟨k+1,by omega,by go_num,aX (bH zH.out fD.out) D8.out _,_,xS.out.akz ht _,abt ali.out ht bC,afg HBT.out HFK.out⟩;exact gV
 ·clear hsy hbx;go_wp2_with fail;go_end0;refine⟨rfl,S1,K5,ali,λi j=>?_⟩;rw[HBT i j,fQ (by rw[<-HLn];omega)]
theorem afi(d:s<1099511627776):(bits .and .u64 ((s:Int) / 2 ^ f) 1==1)=s.testBit f:=by
 have b:(s:Int) / 2 ^ f=((s / 2 ^ f:Nat):Int):=by simp
 have c:s / 2 ^ f<=s:=Nat.div_le_self _ _;rw[b,show(1:Int)=((1:Nat):Int)from rfl,u64_and_nat (s / 2 ^ f) 1 bC bM,Nat.and_one_is_mod,Nat.testBit_eq_decide_div_mod_eq,vG];simp;omega
theorem abu(w0 w:bI)(c:Cf)(V:Nat->Nat × Nat)(S:Nat->Nat)(ss:aJ)(G:Nat)(L:Nat->Nat)(Z:aL)(R:nC w0 c.vn c.vl ss G L Z)(h:jq w0 w c V S)(hV:yS ss.length c.n V)(hn:c.n<=40)(hS:Ho c.n S):aD 191 #[gK c.p] w λd w'=>∃r e,d=dz (.bool r)/\jq w0 w' c e S/\Sv.Rd Z ss.length c.n S V e r/\(r=false->Sv.Closed Z c.n S e):=by
 obtain⟨HJ,ac,I,HS⟩:=lD R.joins h hV hS;have Mc:=Y (λw1 C i a (Q:jq w0 w1 c C S) ag hi ha=>NQ w0 w1 c C S ss G L Z i a R Q ag hi ha hn);obtain⟨p,lb,sb,n,vn,vl⟩:=c;simp only at Mc I HS hn ⊢;obtain⟨o,q,u,y⟩:=ac.cell;simp only at o q u y;clear R h hV hS;go_enter func191,ntmps191;go_wp2_with fail;clear o q u y;go_loopw[3,12] (λrs i wx=>∃k:Nat,k<=n/\i=O k/\∃r e,rs=.bool r/\jq w0 wx ⟨p,lb,sb,n,vn,vl⟩ e S/\Sv.Rd Z ss.length n S V e r/\(r=false->∀t f,t<k->f<n->(S t).testBit f=true->Sv.le Z (e f) (e t)=true)) (λ_ i _=>n - (intOf i).toNat);exact⟨0,bN _,rfl,false,V,rfl,ac,Sv.Rd.refl HJ I,λ_ t f ht=>aM ht<|fU _⟩
 obtain⟨k,hk,rfl,r,C,rfl,l,E,D⟩:=hrel;obtain⟨CF,j,K5⟩:=fE E D l;obtain⟨o,q,u,y⟩:=l.cell;simp only at o q u y;clear E D l;by_cases H:k<n
 ·go_wp2_with fail;clear o q u y;go_loopw[3,20] (λrs i wx=>∃m:Nat,m<=n/\i=O m/\∃r e,rs=.bool r/\jq w0 wx ⟨p,lb,sb,n,vn,vl⟩ e S/\Sv.Rd Z ss.length n S V e r/\(r=false->(∀t f,t<k->f<n->(S t).testBit f=true->Sv.le Z (e f) (e t)=true)/\∀f,f<m->(S k).testBit f=true->Sv.le Z (e f) (e k)=true)) (λ_ i _=>n - (intOf i).toNat);exact⟨0,bN _,rfl,r,C,rfl,K5,CF,λd=>⟨j d,λf z=>aM z<|fU _⟩⟩
  obtain⟨m,hm,rfl,r,B,rfl,l,E,D⟩:=hrel;obtain⟨CF,j,af⟩:=fE E D l;clear E D;by_cases aa:m<n
  ·obtain⟨l0,l1,-,-⟩:=l.mJ (i:=m) aa;obtain⟨x,hx⟩:=aV<|B m;have K:=Y hx;simp only at l0 l1;rw[<-hx]at l0 l1;have F:=l.below<|aH wr<|aY #[O (x.1:Nat),O (x.2:Nat)] 33;have ad:=Y F;obtain⟨o,q,u,y⟩:=F.cell;obtain⟨s0,-⟩:=F.Nc (i:=k) H;simp only at o q u y s0;obtain⟨b,U⟩:=aV<|(S k).testBit m;have ab:=Y U;have ah:=afi (f:=m)<|HS k H;rw[<-U]at ah;clear l F hx U;cases b
   ·go_wp2;go_roundw;exact⟨m+1,by omega,by go_num,r,B,rfl,ad,CF,λd=>⟨(j d).1,λf z g=>by
     by_cases P:f=m;·subst P;rw[<-ab]at g;cases g
     ·exact(j d).2 f bC g⟩⟩
    exact gV
   ·go_wp2_with fail;refine(Mc _ B k x ad CF.ok H (by rw[K];exact CF.ok m aa)).mono ?_;rintro d w3 ⟨rfl,hh⟩;have ae:=Y hh.out.1;clear hh;cases W:Sv.le Z x (B k)
    ·go_wp2;go_roundw;exact⟨m+1,by omega,by go_num,true,_,rfl,ae,by have Q:=K.out;subst Q;exact CF.up HJ I H aa ab.symm W,(λd=>by cases d)⟩;exact gV
    ·go_wp2;go_roundw;exact⟨m+1,by omega,by go_num,r,B,rfl,by have:=ae.out;rwa[Qe W]at this,CF,λd=>⟨(j d).1,λf z g=>by
      by_cases P:f=m;·subst P;rw[<-K];exact W
      ·exact(j d).2 f bC g⟩⟩
     exact gV
  ·clear l;go_wp2;go_roundw;exact⟨k+1,by omega,by go_num,r,B,rfl,af,CF,λd t f ht z g=>by
    by_cases et:t=k;·subst et;exact(j d).2 f bC g
    ·exact(j d).1 t f bC z g⟩
   exact gV
 ·go_wp2;go_ret;exact⟨r,C,rfl,K5,CF,λd t f ht z g=>j d t f bC z g⟩
theorem Xp(w0 w:bI)(c:Cf)(V:Nat->Nat × Nat)(S:Nat->Nat)(ss:aJ)(G:Nat)(L:Nat->Nat)(Z:aL)(u:nC w0 c.vn c.vl ss G L Z)(m:jq w0 w c V S)(D:yS ss.length c.n V)(hn:c.n<=40)(C:Ho c.n S):aD 138 #[gK c.p] w λB w'=>∃V',B=dz (.tuple #[])/\jq w0 w' c V' S/\Y0 Z ss.length c.n S V V':=by
 obtain⟨o,W,j⟩:=fE u.joins m D;have Mc:=Y (λw1 l (h1:jq w0 w1 c l S) aa=>abu w0 w1 c l S ss G L Z u h1 aa hn C);clear u m D C;go_enter func138,ntmps138;go_wp2_with fail;go_loopg [] (Sv.left Z ss.length c.n V) (λg wx=>∃V',g=Sv.left Z ss.length c.n V'/\jq w0 wx c V' S/\yS ss.length c.n V'/\OY Z c.n V V'/\∀b,yS ss.length c.n b->Sv.Closed Z c.n S b->OY Z c.n V b->OY Z c.n V' b);exact⟨V,rfl,W,j,RQ o j,λ_ _ _ m=>m⟩
 obtain⟨l,rfl,P,I,F,H⟩:=hrel;obtain⟨K5,p,y,R⟩:=lD P I F H;clear P I F H;go_wp2_with fail;refine(Mc _ l K5 p).mono ?_;rintro B w2 ⟨r,q,rfl,Q,K,E⟩;obtain⟨z,d,U⟩:=fE Q K E;clear Q K E;cases r;·go_wp2_with fail;go_end0;exact⟨q,rfl,z,d.ok,FC o j p d.ok y d.ge,U cK,λb e h x=>d.least b e h<|R b e h x⟩
 ·go_wp2;go_roundg (Sv.left Z ss.length c.n q);case measure=>exact d.less rfl
  case rel=>exact⟨q,rfl,z,d.ok,FC o j p d.ok y d.ge,λb e h x=>d.least b e h<|R b e h x⟩
def Sv.list(n:Nat)(V:Nat->Nat × Nat):List (Int × Int):=(List.range n).map λi=>(((V i).1:Int),((V i).2:Int))
theorem Sv.Ew(n:Nat)(V:Nat->Nat × Nat):(Sv.list n V).length=n:=by simp[Sv.list]
theorem Sv.TR(V:Nat->Nat × Nat)(b:i<n):(Sv.list n V)[i]?=some (((V i).1:Int),((V i).2:Int)):=by simp[Sv.list,b]
theorem jq.las{w0 w:bI}{c:Cf}{V:Nat->Nat × Nat}(e:jq w0 w c V S)(j:c.n<=40):mM w (Tc c.lb c.n c.n) (Sv.list c.n V):=by
 refine⟨some<|aN c.lb 0,c.lb,0,c.n,by rw[Ew],λ_=>rfl,by rw[Ew];omega,λi x b=>?_⟩;have d:i<c.n:=by have:=(cO.1 b).1;rwa[Ew]at this
 rw[TR V d]at b;cases b;obtain⟨g,h,-,-⟩:=e.mJ d;rw[d9];exact⟨g,h⟩
theorem abv{α:Type}{l:List α}{x:α}(h:l[k]?=some x):l.take (k+1)=l.take k++[x]:=by rw[gy,h];rfl
theorem air{d:Int}{cs:List Co}(b:Kk N d cs=0):∃n:Nat,d=n/\n<=40/\cs.length<=1000/\∀c∈cs,Ms N n c=true:=by
 unfold Kk at b;by_cases e:d<0;·rw[aK e]at b;omega
 rw[aI e]at b;by_cases g:40<d;·rw[aK g]at b;omega
 rw[aI g]at b;by_cases h:1000<cs.length;·rw[aK h]at b;omega
 rw[aI h]at b;by_cases j:cs.all (Ms N d.toNat)=true;·exact⟨d.toNat,by omega,by omega,by omega,iB.1 j⟩
 ·rw[aI j]at b;omega
theorem afk(w:bI)(g e vc:aC)(ss:aJ)(G:Nat)(L:Nat->Nat)(Z:aL)(n:Nat)(cs:List Co)(h:nC w g e ss G L Z)(hC:NA w vc cs)(K:Kk ss.length n cs=0):aD 84 #[.agg #[g,e],O n,vc] w λl w'=>∃V j,l=dz (.tuple #[Tc j n n,O 0])/\mM w' (Tc j n n) (Sv.list n V)/\Bf Z ss.length n cs V/\bK w w':=by
 obtain⟨W,P⟩:=aV<|w.alloc<|aY #[g,e] 25;obtain⟨b0,r⟩:=YW w g e W P;obtain⟨HB,av,HL,HC,ay,GQ⟩:=vC r b0 h hC (Pn W g e ss G L Z (h.strs.below r) (h.Q5.below r) h.ok) K;obtain⟨n',a4,y,a2,ag⟩:=air K;obtain rfl:n=n':=by omega
 obtain⟨I,HJ,uK⟩:=fE ag h.joins<|Fed.nil (n:=n) h.meets (qF h.ok).pos;obtain⟨a,b,off,cap,rfl,h0,hl,al⟩:=hC;obtain⟨j5,ES⟩:=bV al h0;obtain⟨len,U⟩:∃n,n=cs.length:=⟨_,rfl⟩;have ad:=Y U;rw[<-U]at HC ES hl a2 ⊢;clear r b0 h K al h0 ag a4 U;go_enter func84,ntmps84;go_wp2_with fail;rw[<-P];refine ay.mono ?_;rintro l w1 ⟨rfl,Q⟩;obtain⟨B,C⟩:=bV (up HB Q)<|bH av Q;obtain⟨q0,q1⟩:=jv C;clear Q P;go_wp2_with fail;refine(agw w1 g e _ ss n cs (HL.strs.below B)<|HC.below B).mono ?_;rintro l z ⟨rfl,u⟩;rw[GQ];have q:=Y<|up B u;replace q0:=(aj (bH C u) 0).trans rfl;replace q1:=(aj (bH C u) 1).trans rfl;clear u;go_wp2_with fail;refine(apB z g e n (xR Z ss.length) y).mono ?_;rintro l w3 ⟨p,j,sb,rfl,o⟩;obtain⟨aA,ac⟩:=bV o<|HL.below q;clear o q0 q1;go_wp2_with fail;go_loopw[37] (λi wx=>∃k:Nat,k<=len/\i=O k/\∃V S,jq z wx ⟨p,j,sb,n,g,e⟩ V S/\Ho n S/\Fed Z ss.length n (cs.take k) V S) (λi _=>len - (intOf i).toNat);exact⟨0,bN _,rfl,_,_,aA,λi _=>by show(0:Nat)<1099511627776;omega,uK⟩
 obtain⟨k,hk,rfl,E,S1,o,aq,ae⟩:=hrel;obtain⟨D,WE,F⟩:=fE o aq ae;clear o aq ae;by_cases a3:k<len
 ·obtain⟨c,x⟩:∃c,cs[k]?=some c:=⟨_,aZ (by rw[<-ad];exact a3)⟩;have wV:=Y x;have R:=I c<|dG x;have ax:=Y R;obtain⟨ah,ak,ai⟩:=Dt R;obtain⟨-,aa,ht⟩:=lU ak;obtain⟨au,hm,am⟩:=wX ai;obtain⟨VR,HX⟩:=bV ah au;have m:=up q D.since;obtain⟨vf,ar,g0,g1,g2,g3⟩:=j5 k c x;have aE:=Y<|ar.below q;replace g0:=aG g0 m;replace g1:=aG g1 m;replace g2:=aG g2 m;replace g3:=aG g3 m;obtain⟨fa,fb,fo,fc,rfl,-⟩:=ar;obtain rfl:=ES bC;obtain⟨Ns,a5⟩:=bV (D.below<|aH wr<|aY #[O c.to,X fa c.fr.length fc,O c.mask,O c.level] 229) aa;have ab:=Y<|afh z (wr.alloc<|aY #[O c.to,X fa c.fr.length fc,O c.mask,O c.level] 229) ⟨p,j,sb,n,g,e⟩ E S1 ss G L Z c.to.toNat c.fr (c.mask.toNat,c.level.toNat) _ ac Ns F.ok aa HX VR y aE WE;rw[<-ht,<-hm,<-am]at ab;clear x R ah ak ai au m aa ht hm am;go_wp2_with fail;refine ab.mono ?_;rintro l w4 ⟨rfl,S2,h1,h2,h3⟩;obtain⟨az,a0,aw⟩:=fE h1 h2 h3;clear h1 h2 h3;go_wp2;go_roundw;exact⟨k+1,by omega,by go_num,_,S2,az,a0,by rw[abv wV];exact F.more HJ (λd hd=>I d<|N8 hd) ax aw⟩;exact gV
 ·have Az:J (Fed Z ss.length n cs E S1):=Y (by have:=F.out;rwa[fQ (by rw[<-ad];omega)]at this);go_wp2_with fail;refine(Xp z _ ⟨p,j,sb,n,g,e⟩ E S1 ss G L Z ac D Az.ok y WE).mono ?_;rintro l w5 ⟨V2,rfl,H,ao⟩;obtain⟨af,a1⟩:=bV H ao;obtain⟨-,-,c2,-⟩:=H.cell;simp only at c2;clear H ao;go_wp2;go_ret2;exact⟨V2,j,rfl,af.las y,Az.done HJ I a1,up q af.since⟩
