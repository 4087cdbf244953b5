import Derived.Test.YtageneidjnbedaaGreatDoorTZL2
import Derived.Test.YtageneidjnbedaaGreatDoorTZAO
import Derived.Test.YtageneidjnbedaaGreatDoorTZAM
import Derived.Test.YtageneidjnbedaaGreatDoorTZAN
set_option maxHeartbeats 0
set_option maxRecDepth 99999
namespace Go.Proofs.YtageneidjnbedaaGreatDoor
open bS
open Go.Proofs.Tryz
open Go.RowKit
variable{w W0 x:bI}{B j m off:Nat}{v1 v2 v3 v4 v:aC}{l1 l2 l3 l4 l:aJ}{o:Obj}
theorem av8(b:w.heap.size=B)(s:aS)(e:s.size<=maxLen):Strs (w.alloc<|aY #[A s] 9) (Tc B 1 1) [s]:=by
 subst b;exact⟨_,w.heap.size,0,1,rfl,λ_=>rfl,by simp,λt a=>by simp at a;subst a;exact e,λj d=>by
  have f:j<1:=d;obtain rfl:j=0:=by omega
  simp[go_sem]⟩
theorem awt(b:w.heap.size=B)(s t:aS)(f:s.size<=maxLen)(g:t.size<=maxLen):Strs (w.alloc<|aY #[A s,A t] 9) (Tc B 2 2) [s,t]:=by
 subst b;exact⟨_,w.heap.size,0,2,rfl,λ_=>rfl,by simp,λh a=>by simp at a;rcases a with rfl|rfl<;>assumption,λj d=>by
  have e:j<2:=d;obtain rfl|rfl:j=0\/j=1:=by omega
  all_goals simp[go_sem]⟩
theorem awl(d:w.heap.size=B)(s t a:aS)(g:s.size<=maxLen)(h:t.size<=maxLen)(i:a.size<=maxLen):Strs (w.alloc<|aY #[A s,A t,A a] 9) (Tc B 3 3) [s,t,a]:=by
 subst d;exact⟨_,w.heap.size,0,3,rfl,λ_=>rfl,by simp,λx b=>by simp at b;rcases b with rfl|rfl|rfl<;>assumption,λj e=>by
  have f:j<3:=e;obtain rfl|rfl|rfl:j=0\/j=1\/j=2:=by omega
  all_goals simp[go_sem]⟩
theorem ayD(d:w.heap.size=B)(s t a x:aS)(g:s.size<=maxLen)(h:t.size<=maxLen)(i:a.size<=maxLen)(k:x.size<=maxLen):Strs (w.alloc<|aY #[A s,A t,A a,A x] 9) (Tc B 4 4) [s,t,a,x]:=by
 subst d;exact⟨_,w.heap.size,0,4,rfl,λ_=>rfl,by simp,λy b=>by simp at b;rcases b with rfl|rfl|rfl|rfl<;>assumption,λj e=>by
  have f:j<4:=e;obtain rfl|rfl|rfl|rfl:j=0\/j=1\/j=2\/j=3:=by omega
  all_goals simp[go_sem]⟩
theorem awd(b:w.heap.size=B)(a:Strs w v1 l1):awo (w.alloc<|aY #[v1] 22) (Tc B 1 1) [l1]:=by
 subst b;exact⟨w.heap.size,0,1,rfl,by simp,λi l e=>by
  obtain⟨d,rfl⟩:=cO.1 e;have f:i<1:=d;obtain rfl:i=0:=by omega
  exact⟨v1,by simp[go_sem],a.below<|aH _ _⟩⟩
theorem ayq(d:w.heap.size=B)(a:Strs w v1 l1)(b:Strs w v2 l2):awo (w.alloc<|aY #[v1,v2] 22) (Tc B 2 2) [l1,l2]:=by
 subst d;exact⟨w.heap.size,0,2,rfl,by simp,λi l f=>by
  obtain⟨e,rfl⟩:=cO.1 f;have g:i<2:=e;obtain rfl|rfl:i=0\/i=1:=by omega
  ·exact⟨v1,by simp[go_sem],a.below<|aH _ _⟩
  ·exact⟨v2,by simp[go_sem],b.below<|aH _ _⟩⟩
theorem azw(e:w.heap.size=B)(a:Strs w v1 l1)(b:Strs w v2 l2)(d:Strs w v3 l3):awo (w.alloc<|aY #[v1,v2,v3] 22) (Tc B 3 3) [l1,l2,l3]:=by
 subst e;exact⟨w.heap.size,0,3,rfl,by simp,λi l g=>by
  obtain⟨f,rfl⟩:=cO.1 g;have h:i<3:=f;obtain rfl|rfl|rfl:i=0\/i=1\/i=2:=by omega
  ·exact⟨v1,by simp[go_sem],a.below<|aH _ _⟩
  ·exact⟨v2,by simp[go_sem],b.below<|aH _ _⟩
  ·exact⟨v3,by simp[go_sem],d.below<|aH _ _⟩⟩
theorem azx(f:w.heap.size=B)(a:Strs w v1 l1)(b:Strs w v2 l2)(d:Strs w v3 l3)(e:Strs w v4 l4):awo (w.alloc<|aY #[v1,v2,v3,v4] 22) (Tc B 4 4) [l1,l2,l3,l4]:=by
 subst f;exact⟨w.heap.size,0,4,rfl,by simp,λi l h=>by
  obtain⟨g,rfl⟩:=cO.1 h;have k:i<4:=g;obtain rfl|rfl|rfl|rfl:i=0\/i=1\/i=2\/i=3:=by omega
  ·exact⟨v1,by simp[go_sem],a.below<|aH _ _⟩
  ·exact⟨v2,by simp[go_sem],b.below<|aH _ _⟩
  ·exact⟨v3,by simp[go_sem],d.below<|aH _ _⟩
  ·exact⟨v4,by simp[go_sem],e.below<|aH _ _⟩⟩
theorem Strs.awT(h:Strs w v l):Strs (w.alloc o) v l:=h.below<|aH _ _
theorem Strs.awj(h:Strs w v l):Strs w.drew v l:=h.below (bQ _ _).drew
theorem avP(h:J (bK W0 x)):J (bK W0<|x.alloc o):=Y<|h.alloc h.size o
theorem avQ(h:J (bK W0 x)):J (bK W0 x.drew):=Y h.out.drew
theorem iQ{a b:aS}(h:a.data.toList=b.data.toList):a=b:=by cases a with|mk a=>cases b with|mk b=>congr 1;exact Array.toList_inj.1 h
theorem iN(a b:aS):(a++b).data.toList=a.data.toList++b.data.toList:=by rw[ByteArray.data_append,Array.toList_append]
theorem jk(l:aJ):(bS.brk l).data.toList=40::(Lib.join (l.map (·.data.toList)) [32]++[41]):=by unfold bS.brk bS.jn;rw[iN,iN];rfl
theorem ND{t:Ex->aS}(l:List Ex)(acc:aS):(l.foldl (Fq t) acc).data.toList=acc.data.toList++Lib.joinTail [32] ((l.map t).map (·.data.toList)):=by
 induction l generalizing acc with
 | nil=>simp[Lib.joinTail]
 | cons y l a =>rw[pz,a];unfold Fq;rw[iN,iN];simp[Lib.joinTail]
theorem ahC(x:Ex)(t:Ex->aS)(h:x.kind≠4):bS.brk (x.name::x.args.map t)=x.args.foldl (Fq t) (Fv x)++(⟨#[41]⟩:aS):=by apply iQ;rw[jk,iN,ND,fZ,Lib.join_cons];unfold Fv;rw[aI h,iN];simp
theorem aaO(x:Ex)(t:Ex->aS)(h:x.kind=4):bS.brk (⟨#[99,97,108,108]⟩::x.name::x.args.map t)=x.args.foldl (Fq t) (Fv x)++(⟨#[41]⟩:aS):=by apply iQ;rw[jk,iN,ND,fZ,Lib.join_cons];unfold Fv;rw[aK h,iN];simp[Lib.joinTail]
theorem map_take{α β:Type}{f:α->β}{l:List α}{y:α}(h:l[j]?=some y):(l.take<|j+1).map f=(l.take j).map f++[f y]:=by obtain⟨a,rfl⟩:=cO.1 h;rw[uW a,gX];rfl
theorem axy(m:Nat)(U:∀(w:bI) (E F G H:aC) (x:Ex),iH w m E F G H x->bS.jo m x=true->jF m x<=1365000->Tab w->aD 88 #[.agg #[E,F,G,H]] w λg w'=>g=dz (A<|zT m x)/\bK w w')(w:bI)(a:Option Addr)(b off cap:Nat)(args:List Ex)(P:0<args.length->a=some (aN b off))(hl:args.length<=4)(R:∀i y,args[i]?=some y->∃q r s t,bJ w b (off+i*4)=some q/\bJ w b (off+i*4+1)=some r/\bJ w b (off+i*4+2)=some s/\bJ w b (off+i*4+3)=some t/\iH w m q r s t y)(W:args.all (bS.jo m)=true)(hw:(args.map<|jF m).sum<=1365000)(ht:Tab w):aD 129 #[X a args.length cap] w λg w'=>∃v',g=dz v'/\Own w' w.heap.size v' (args.map<|zT m)/\bK w w':=by
 obtain⟨HI,j5,C,HT⟩:=lD U R P ht;have OH:J (∀(i:Nat) (y:Ex),args[i]?=some y->bS.jo m y=true/\jF m y<=1365000):=Y (λi y e=>⟨iB.1 W y<|dG e,by have:jF m y<=(args.map<|jF m).sum:=wW<|dG e;omega⟩);clear U R P ht W hw;obtain⟨len,u⟩:=aV args.length;have D:=Y u;rw[<-u]at hl C ⊢;clear u;go_enter func129,ntmps129;go_wp2;go_loopw[3,8] (λo i wr=>∃j:Nat,j<=len/\i=O j/\Own wr w.heap.size o ((args.take j).map (zT m))/\bK w wr) (λ_ i _=>len - (intOf i).toNat);exact⟨0,bN _,rfl,lJ _ _ _ _,bQ _ _⟩
 obtain⟨j,V,rfl,h,d⟩:=hrel;by_cases ae:j<len
 ·obtain⟨y,e⟩:∃y,args[j]?=some y:=⟨_,aZ (by rw[<-D];exact ae)⟩;obtain⟨q,r,s,t,K,L,M,N,k⟩:=j5 j y e;obtain rfl:=C bC;obtain⟨u0,u1⟩:=eY (aG K d)<|aG L d;have am:=aG M d;have YH:=aG N d;have ac:=Y<|k.below d;have ag:=av5 k;obtain⟨a',ak,rfl,rfl,rfl,rfl⟩:=k.shape;obtain⟨af,ai⟩:=OH j y e;have ah:(zT m y).size<=maxLen:=by unfold maxLen;omega
  obtain⟨ab,I,aa⟩:=fE (map_take (f:=zT m) e) d h;clear K L M N k e d h ag;go_wp2_with fail;refine(HI _ _ _ _ _ y (ac.below<|aH _ _) af ai<|(HT.below I).below (aH _ _)).mono ?_;rintro g w5 ⟨rfl,Q⟩;have p:=Z7 Q;have z:=Y<|up I p;have rM:J (Own w5 w.heap.size _ _):=Y<|fM aa p;clear Q p;generalize zT m y=ty at *;have ad:=z.size;have al:((args.take j).map (zT m)).length<=4:=by rw[dV,iA];omega
  go_wp2_with (first
   | (at_builtin;refine avT rfl _ _ rfl w.heap.size _ _ [ty] rfl (fM rM<|aH _ _) _ rfl (av8 rfl _ ah) (by simp only[iI];omega) (by simp;omega) ?_;intro v' w2 Z S)
   | fail)
  obtain⟨R2,n⟩:=bV ((z.alloc ad<|aY #[A ty] 9).grown S (by simp;omega) (λj V=>(rM.lt j V).1)) Z;clear S Z;go_roundw;exact⟨j+1,by omega,by go_num,by rw[ab];exact n,R2⟩;exact gV
 ·have g:args.take j=args:=fQ (by have:=D.out;omega);rw[g]at h;have n:=Y h;clear h;go_wp2;go_ret;exact⟨_,rfl,n,d⟩
theorem axQ{b:Nat}{args:List Ex}(h:∀i y,args[i]?=some y->∃a d e f,bJ w b (off+i*4)=some a/\bJ w b (off+i*4+1)=some d/\bJ w b (off+i*4+2)=some e/\bJ w b (off+i*4+3)=some f/\iH w m a d e f y)(t:(args.map<|jF m).sum<=1365000):∀s∈args.map (zT m),s.size<=maxLen:=by intro s k;obtain⟨y,n,rfl⟩:=iZ.1 k;obtain⟨i,g,rfl⟩:=gU.1 n;obtain⟨a,d,e,f,_,_,_,_,p⟩:=h i _<|aZ g;have q:=av5 p;have r:jF m args[i]<=(args.map<|jF m).sum:=wW<|kZ g;unfold maxLen;omega
theorem aww(m:Nat):∀(w:bI) (V Z c2 c3:aC) (x:Ex),iH w m V Z c2 c3 x->bS.jo m x=true->jF m x<=1365000->Tab w->aD 88 #[.agg #[V,Z,c2,c3]] w λe w'=>e=dz (A<|zT m x)/\bK w w':=by
 induction m with
 | zero=>intro w V Z c2 c3 x h;exact iU h
 | succ m ih=>
  intro w V Z c2 c3 x h ak hw S;have HI:=Y<|axy m ih;clear ih;have al:=av5 h;obtain⟨rfl,rfl,rfl,R,am,ai,a,b,off,cap,rfl,M,hl,C⟩:=h;rw[GY,dK]at ak;obtain⟨Q,N⟩:=ak;obtain⟨k,n,s,args⟩:=x;simp only at R am ai M hl C N ⊢;have U:(args.map<|jF m).sum<=1365000:=by simp only[jF]at hw;omega
  have D:=Y<|aH w<|aY #[O k,O n,A s,X a args.length cap] 80;have HT:=Y<|S.below D;have aa:=axQ C U;by_cases K:k=1;·subst K;go_enter func88,ntmps88;go_wp2_with fail;refine(ayS _ n ai HT).mono ?_;rintro e w1 ⟨rfl,ah⟩;have HB:=Y<|Z7 ah;clear ah;go_wp2;go_ret;exact⟨awg (by simp[zT]),HB⟩
  by_cases L:k=2;·subst L;go_enter func88,ntmps88;go_wp2;go_ret;exact⟨awg (by simp[zT]),aH _ _⟩
  have RH:J (zT (m+1) ⟨k,n,s,args⟩=args.foldl (Fq<|zT m) (Fv ⟨k,n,s,args⟩)++(⟨#[41]⟩:aS)):=Y (by simp only[zT];rw[aI K,aI L]);by_cases h3:k=3
  ·subst h3;have ad:args.length<=4:=by simp[BQ]at Q;omega
   have E:J (zT (m+1) ⟨3,n,s,args⟩=bS.brk (s::args.map (zT m))):=Y (by rw[RH];exact(ahC ⟨3,n,s,args⟩ (zT m) cK).symm);have P:(bS.brk [[s],args.map<|zT m].flatten).size<=16777216:=by
    have e:[[s],args.map<|zT m].flatten=s::args.map (zT m):=by simp
    rw[e,<-E];omega
   have F:J (∀W,J (Below (w.alloc<|aY #[O 3,O n,A s,X a args.length cap] 80).heap.size (w.alloc<|aY #[O 3,O n,A s,X a args.length cap] 80) W)->aD 129 #[X a args.length cap] W λe w'=>∃g p,e=dz (X g args.length p)/\Strs w' (X g args.length p) (args.map<|zT m)/\bK W w'):=λW hW=>by
    have q:=up D hW;refine(HI W a b off cap args M ad (λi y hy=>?_) N U<|S.below q).mono ?_;·obtain⟨e0,e1,e2,e3,g0,g1,g2,g3,ae⟩:=C i y hy;exact⟨e0,e1,e2,e3,aG g0 q,aG g1 q,aG g2 q,aG g3 q,ae.below q⟩
    ·rintro e w' ⟨v',rfl,ho,ac⟩;have z:=ho.strs aa (by rw[dV];omega);obtain⟨g,p,rfl,_⟩:=z.shape;rw[dV]at z ⊢;exact⟨g,p,rfl,z,ac⟩
   have q2:(w.alloc<|aY #[O 3,O n,A s,X a args.length cap] 80).cell? (aN w.heap.size 2)=some (A s):=by simp[go_sem]
   have ab:=Y P;have q3:=zS w (O 3) (O n) (A s) (X a args.length cap) 80;clear C M N aa hw U Q K L P al S;generalize args.length=len at *;go_enter func88,ntmps88;go_wp2_with fail;generalize (w.alloc<|aY #[O 3,O n,A s,X a len cap] 80)=W0 at *
   have HF:J (∀d,J (bK W0 d)->J (bK W0 d)/\bJ d w.heap.size 2=some (A s)/\bJ d w.heap.size 3=some (X a len cap)):=
    λd h=>⟨h,aG q2 h,aG q3 h⟩
   have r:J (bK W0 W0):=Y<|bQ _ _;clear q2 q3
   go_region_held3 (λd=>J (bK W0 d)/\bJ d w.heap.size 2=some (A s)/\bJ d w.heap.size 3=some (X a len cap))
    ((refine HF _ ?_;repeat(first|exact G|exact u|exact r|apply avQ|apply avP)))
    (first
     | (go_at_call 129;refine(F _<|avQ<|avP (o:=aY #[A s] 9) r).mono ?_;rintro e af ⟨g,p,rfl,t,f⟩;have u:=Y<|up (avQ<|avP (o:=aY #[A s] 9) r).out f;have I:=Y t;have HV:=Y<|(av8 (w:=W0) rfl s R).awj.below f;clear f t)
     | (go_at_call 129;refine(F _<|avQ r).mono ?_;rintro e af ⟨g,p,rfl,t,f⟩;have u:=Y<|up (avQ r).out f;have I:=Y t;clear f t)
     | (go_at_call 64;refine(avR _ _ [[s],args.map<|zT m] ?_ ab).mono ?_;(refine ayq cK ?_ ?_<;>repeat(first|exact HV|exact I|exact av8 cK s R|apply Strs.awj|apply Strs.awT));rintro e ag ⟨rfl,H⟩;have G:J (bK W0 ag):=Y (up (w:=W0) (gT<|by repeat(first|exact u|apply avQ|apply avP)) H);clear H))
   all_goals go_wp2;go_ret;exact⟨awg (by rw[E]),up D G⟩
  by_cases h4:k=4
  ·subst h4;have ad:args.length<=4:=by simp[BQ]at Q;omega
   have E:J (zT (m+1) ⟨4,n,s,args⟩=bS.brk (⟨#[99,97,108,108]⟩::s::args.map (zT m))):=Y (by rw[RH];exact(aaO ⟨4,n,s,args⟩ (zT m) rfl).symm);have P:(bS.brk [[⟨#[99,97,108,108]⟩,s],args.map<|zT m].flatten).size<=16777216:=by
    have e:[[⟨#[99,97,108,108]⟩,s],args.map<|zT m].flatten=⟨#[99,97,108,108]⟩::s::args.map (zT m):=by simp
    rw[e,<-E];omega
   have F:J (∀W,J (Below (w.alloc<|aY #[O 4,O n,A s,X a args.length cap] 80).heap.size (w.alloc<|aY #[O 4,O n,A s,X a args.length cap] 80) W)->aD 129 #[X a args.length cap] W λe w'=>∃g p,e=dz (X g args.length p)/\Strs w' (X g args.length p) (args.map<|zT m)/\bK W w'):=λW hW=>by
    have q:=up D hW;refine(HI W a b off cap args M ad (λi y hy=>?_) N U<|S.below q).mono ?_;·obtain⟨e0,e1,e2,e3,g0,g1,g2,g3,ae⟩:=C i y hy;exact⟨e0,e1,e2,e3,aG g0 q,aG g1 q,aG g2 q,aG g3 q,ae.below q⟩
    ·rintro e w' ⟨v',rfl,ho,ac⟩;have z:=ho.strs aa (by rw[dV];omega);obtain⟨g,p,rfl,_⟩:=z.shape;rw[dV]at z ⊢;exact⟨g,p,rfl,z,ac⟩
   have q2:(w.alloc<|aY #[O 4,O n,A s,X a args.length cap] 80).cell? (aN w.heap.size 2)=some (A s):=by simp[go_sem]
   have ab:=Y P;have q3:=zS w (O 4) (O n) (A s) (X a args.length cap) 80;clear C M N aa hw U Q K L h3 P al S;generalize args.length=len at *;go_enter func88,ntmps88;go_wp2_with fail;generalize (w.alloc<|aY #[O 4,O n,A s,X a len cap] 80)=W0 at *
   have HF:J (∀d,J (bK W0 d)->J (bK W0 d)/\bJ d w.heap.size 2=some (A s)/\bJ d w.heap.size 3=some (X a len cap)):=
    λd h=>⟨h,aG q2 h,aG q3 h⟩
   have r:J (bK W0 W0):=Y<|bQ _ _;clear q2 q3
   go_region_held3 (λd=>J (bK W0 d)/\bJ d w.heap.size 2=some (A s)/\bJ d w.heap.size 3=some (X a len cap))
    ((refine HF _ ?_;repeat(first|exact G|exact u|exact r|apply avQ|apply avP)))
    (first
     | (go_at_call 129;refine(F _<|avQ<|avP (o:=aY #[A ⟨#[99,97,108,108]⟩,A s] 9) r).mono ?_;rintro e af ⟨g,p,rfl,t,f⟩;have u:=Y<|up (avQ<|avP (o:=aY #[A ⟨#[99,97,108,108]⟩,A s] 9) r).out f;have I:=Y t;have HV:=Y<|(awt (w:=W0) rfl ⟨#[99,97,108,108]⟩ s bM R).awj.below f;clear f t)
     | (go_at_call 129;refine(F _<|avQ r).mono ?_;rintro e af ⟨g,p,rfl,t,f⟩;have u:=Y<|up (avQ r).out f;have I:=Y t;clear f t)
     | (go_at_call 64;refine(avR _ _ [[⟨#[99,97,108,108]⟩,s],args.map<|zT m] ?_ ab).mono ?_;(refine ayq cK ?_ ?_<;>repeat(first|exact HV|exact I|exact awt cK ⟨#[99,97,108,108]⟩ s bM R|apply Strs.awj|apply Strs.awT));rintro e ag ⟨rfl,H⟩;have G:J (bK W0 ag):=Y (up (w:=W0) (gT<|by repeat(first|exact u|apply avQ|apply avP)) H);clear H))
   all_goals go_wp2;go_ret;exact⟨awg (by rw[E]),up D G⟩
  exfalso;simp[BQ,K,L,h3,h4]at Q
open Go.Maps
