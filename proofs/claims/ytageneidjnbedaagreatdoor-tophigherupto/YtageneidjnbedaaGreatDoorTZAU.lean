import Derived.Test.YtageneidjnbedaaGreatDoorTZAS
import Derived.Test.YtageneidjnbedaaGreatDoorTZAQ
set_option maxHeartbeats 0
set_option maxRecDepth 99999
namespace Go.Proofs.YtageneidjnbedaaGreatDoor
open bS bO Rn
open Go.Proofs.Tryz
open Go.RowKit
namespace bO
end bO
namespace bS
def stX(m:Nat)(s:St):ByteArray:=stT (zT m) (bdT m) s ⟨#[]⟩
def Me:Nat->List St->List ByteArray
 | 0,_=>[]
 | m+1,l=>l.map (stX m)
end bS
variable{w:bI}{m:Nat}
theorem ahE(a:Ex->aS)(bt:List St->aS)(s:St)(acc:aS):stT a bt s acc=acc++stT a bt s ⟨#[]⟩:=by
 have b:∀x:aS,(⟨#[]⟩:aS)++x=x:=λx=>by apply iQ;rw[iN];rfl
 have d:∀x:aS,x++(⟨#[]⟩:aS)=x:=λx=>by apply iQ;rw[iN];simp
 unfold stT;simp only[b];split;·rfl
 ·split;·rfl
  ·split;·rfl
   ·split;·rfl
    ·rw[d]
theorem rQ(d:List UInt8)(a b:List (List UInt8)):Lib.joinTail d (a++b)=Lib.joinTail d a++Lib.joinTail d b:=by simp[Lib.joinTail]
theorem lW(l:aJ):(bS.jn l).data.toList=Lib.join (l.map (·.data.toList)) [32]:=by unfold bS.jn;rfl
theorem YX(l:aJ)(x:aS):bS.jn (l++[x])=(if 0<l.length then bS.jn l++(⟨#[32]⟩:aS)else bS.jn l)++x:=by
 cases l with
 | nil =>apply iQ;rw[aI cK,iN,lW,lW];simp[Lib.join_one,Lib.join_nil]
 | cons y l =>apply iQ;rw[aK cK,iN,iN,lW,lW,List.cons_append,fZ,fZ,Lib.join_cons,Lib.join_cons,gX,rQ];simp[Lib.joinTail]
theorem YZ(m:Nat)(l:List St):∀j,j<=l.length->bS.mK (zT m) (bdT m) l j=bS.jn ((l.take j).map (stX m))
 | 0,_=>by apply iQ;rw[lW];simp[bS.mK,Lib.join_nil]
 | j+1,hj=>by
  obtain⟨s,hs⟩:∃s,l[j]?=some s:=⟨_,aZ bC⟩;rw[Fz hs,ahE,map_take hs,YX,YZ m l j bC];have e:((l.take j).map (stX m)).length=j:=by rw[dV,iA];omega
  rw[e];rfl
theorem Pt(m:Nat)(l:List St):bdT m l=bS.jn (bS.Me m l):=by
 cases m with
 | zero=>apply iQ;rw[lW];simp[bdT,bS.Me,Lib.join_nil]
 | succ m =>simp only[bdT,bS.Me];rw[YZ m l l.length (bG _),jQ]
section
variable (m : Nat) (s : St)
theorem aee(h:s.kind=1):bS.brk [⟨#[115,101,116]⟩,s.name,zT m s.e]=stX m s:=by apply iQ;rw[jk];unfold stX stT;rw[aK h];simp[Lib.join_cons,Lib.joinTail]
theorem Wq(h:s.kind=4):bS.brk [⟨#[112,114,105,110,116]⟩,s.name,zT m s.e]=stX m s:=by apply iQ;rw[jk];unfold stX stT;rw[aI bC,aK h];simp[Lib.join_cons,Lib.joinTail]
theorem Ws(h:s.kind=3):bS.brk [⟨#[119,104,105,108,101]⟩,zT m s.e,bS.brk (bS.Me m s.a)]=stX m s:=by apply iQ;rw[jk];unfold stX stT;rw[aI bC,aI bC,aK h,Pt];simp[Lib.join_cons,Lib.joinTail,jk,lW]
theorem ahF(h:s.kind=2):bS.brk [⟨#[105,102]⟩,zT m s.e,bS.brk (bS.Me m s.a),bS.brk (bS.Me m s.b)]=stX m s:=by apply iQ;rw[jk];unfold stX stT;rw[aI bC,aI bC,aI bC,aK h,Pt,Pt];simp[Lib.join_cons,Lib.joinTail,jk,lW]
end
theorem ayr{v:aC}{l:List St}(h:fH w m v l)(a:fA m l<=1365000):(bS.brk<|bS.Me m l).size<=8190002:=by have:=awk h;rw[awp,<-Pt];omega
theorem awZ{a b d e va f:aC}{s:St}(h:VW w m a b d e va f s)(n:s.name.size+3+jF m s.e+fA m s.a+fA m s.b<=1365000):(stX m s).size<=8190011:=by have i:=(axO (zT m) (bdT m) s ⟨#[]⟩).2;obtain⟨j,k,l⟩:=lS (av5 h.2.2.1) (awk h.2.2.2.1)<|awk h.2.2.2.2;have g:(⟨#[]⟩:aS).size=0:=rfl;unfold stX;omega
theorem aw0(m:Nat)(hi:∀(w:bI) (v:aC) (l:List St),fH w m v l->bS.j6 m l=true->fA m l<=1365000->Tab w->aD 87 #[v] w λe w'=>∃a n c,e=dz (X a n c)/\Strs w' (X a n c) (bS.Me m l)/\bK w w')(w:bI)(e0 e1 e2 e3 va vb:aC)(s:St)(h:VW w m e0 e1 e2 e3 va vb s)(hok:bS.Vz m s=true)(hw:s.name.size+3+jF m s.e+fA m s.a+fA m s.b<=1365000)(ht:Tab w):aD 127 #[.agg #[O s.kind,A s.name,e0,e1,e2,e3,va,vb]] w λe w'=>e=dz (A (stX m s))/\bK w w':=by
 have HS:=Y h;obtain⟨hxs,hba,hbb,hxe⟩:=rY (awZ h hw) (ayr h.2.2.2.1 bC) (ayr h.2.2.2.2 bC) (av5 h.2.2.1);obtain⟨_,hnm,hx,hsa,hsb⟩:=h;obtain⟨ae,ce,rfl,rfl,rfl,rfl⟩:=hx.shape;obtain⟨a1,kP,rfl,hl1⟩:=hsa.shape;obtain⟨a2,cap2,rfl,hl2⟩:=hsb.shape;clear hx hsa hsb;have hok':(((stH s=true/\bS.jo m s.e=true)/\bS.j6 m s.a=true)/\bS.j6 m s.b=true):=by unfold bS.Vz at hok;simpa only [dK]using hok
 obtain⟨⟨⟨okh,oke⟩,oka⟩,okb⟩:=hok';have w1:jF m s.e<=1365000:=by omega
 have w2:fA m s.a<=1365000:=by omega
 have w3:fA m s.b<=1365000:=by omega
 have te:(zT m s.e).size<=maxLen:=by unfold maxLen;omega
 have ta:(bS.brk (bS.Me m s.a)).size<=maxLen:=by unfold maxLen;omega
 have tb:(bS.brk (bS.Me m s.b)).size<=maxLen:=by unfold maxLen;omega
 have ba:(bS.brk [bS.Me m s.a].flatten).size<=16777216:=by rw[av6];omega
 have bb:(bS.brk [bS.Me m s.b].flatten).size<=16777216:=by rw[av6];omega
 obtain⟨HBA,QZ⟩:=bV ba bb;have Zf:J (s.kind=1->bS.brk [[⟨#[115,101,116]⟩,s.name,zT m s.e]].flatten=stX m s):=Y (λh=>by rw[av6];exact aee m s h);have HKP:J (s.kind=4->bS.brk [[⟨#[112,114,105,110,116]⟩,s.name,zT m s.e]].flatten=stX m s):=Y (λh=>by rw[av6];exact Wq m s h);have HKW:J (s.kind=3->bS.brk [[⟨#[119,104,105,108,101]⟩,zT m s.e,bS.brk (bS.Me m s.a)]].flatten=stX m s):=Y (λh=>by rw[av6];exact Ws m s h);have HKI:J (s.kind=2->bS.brk [[⟨#[105,102]⟩,zT m s.e,bS.brk (bS.Me m s.a),bS.brk (bS.Me m s.b)]].flatten=stX m s):=Y (λh=>by rw[av6];exact ahF m s h);have hkind:s.kind=1\/s.kind=2\/s.kind=3\/s.kind=4:=by apply Classical.byContradiction;intro hn;rw[show stH s=false by unfold stH;rw[aI bC,aI bC,aI bC]]at okh;cases okh
 have HXS:=Y hxs;clear hok hw hba hbb hxe ba bb hxs okh;generalize s.e.args.length=le at *;generalize s.a.length=l1 at *;generalize s.b.length=l2 at *;have HB0:=Y (aH w (aY #[O s.kind,A s.name,O s.e.kind,O s.e.n,A s.e.name,X ae le ce,X a1 l1 kP,X a2 l2 cap2] 107));obtain⟨q0,q1,q6,q7⟩:=rY (aki w (O s.kind) (A s.name) (O s.e.kind) (O s.e.n) (A s.e.name) (X ae le ce) (X a1 l1 kP) (X a2 l2 cap2) 107) (az1 w (O s.kind) (A s.name) (O s.e.kind) (O s.e.n) (A s.e.name) (X ae le ce) (X a1 l1 kP) (X a2 l2 cap2) 107) (Jm w (O s.kind) (A s.name) (O s.e.kind) (O s.e.n) (A s.e.name) (X ae le ce) (X a1 l1 kP) (X a2 l2 cap2) 107) (Jo w (O s.kind) (A s.name) (O s.e.kind) (O s.e.n) (A s.e.name) (X ae le ce) (X a1 l1 kP) (X a2 l2 cap2) 107);go_enter func127,ntmps127;go_wp2_with fail;refine(aww m _ _ _ _ _ s.e (HS.below HB0).2.2.1 oke w1 (ht.below HB0)).mono ?_;rintro e W0 ⟨rfl,hb5⟩;replace q0:=aG q0 hb5;replace q1:=aG q1 hb5;replace q6:=aG q6 hb5;replace q7:=aG q7 hb5;have HN:=Y (up HB0 hb5);clear hb5
 have OJ:J (∀W,J (bK W0 W)->aD 87 #[X a1 l1 kP] W λe w'=>∃a n c,e=dz (X a n c)/\Strs w' (X a n c) (bS.Me m s.a)/\bK W w'):=
  λW hW=>hi W _ s.a (HS.below (up HN hW)).2.2.2.1 oka w2 (ht.below (up HN hW))
 have Ip:J (∀W,J (bK W0 W)->aD 87 #[X a2 l2 cap2] W λe w'=>∃a n c,e=dz (X a n c)/\Strs w' (X a n c) (bS.Me m s.b)/\bK W w'):=
  λW hW=>hi W _ s.b (HS.below (up HN hW)).2.2.2.2 okb w3 (ht.below (up HN hW))
 clear hi;generalize zT m s.e=tE at *;generalize htA:bS.Me m s.a=tA at *;generalize htB:bS.Me m s.b=tB at *;have Aw:J (bK W0 W0):=Y (bQ _ _);rcases hkind with hk|hk|hk|hk;·have hf:=Zf hk;rw[hk]at q0;clear q6 q7 hk;go_wp2_with fail;refine(avR _ _ [[⟨#[115,101,116]⟩,s.name,tE]] (awd cK (awl rfl _ _ _ bM hnm te)) (by rw[hf];have:=HXS.out;omega)).mono ?_;rintro e w6 ⟨rfl,hb6⟩;obtain⟨fD,HFF⟩:=bV (up HN (up (avP (avP Aw)).out hb6)) hf;clear hb6 hf;go_wp2;go_ret;exact⟨awg HFF,fD⟩
 ·have hf:=HKI hk;rw[hk]at q0;clear hk;have HBI:J ((bS.brk [[⟨#[105,102]⟩,tE,bS.brk tA,bS.brk tB]].flatten).size<=16777216):=Y (by rw[hf];have:=HXS.out;omega);have HFF:=Y hf
  have HF:J (∀wx,J (bK W0 wx)->J (bK W0 wx)/\bJ wx w.heap.size 6=some (X a1 l1 kP)/\bJ wx w.heap.size 7=some (X a2 l2 cap2)):=
   λwx h=>⟨h,aG q6 h,aG q7 h⟩
  clear hf q6 q7;generalize hbA:bS.brk tA=bA at *;generalize hbB:bS.brk tB=bB at *;rw[av6,hbA]at HBA;rw[av6,hbB]at QZ;have HTA:J (∀W v,awo W v [tA]->aD 64 #[v] W λe w'=>e=dz (A bA)/\bK W w'):=λW v h=>by have:=avR W v [tA] h (by rw[av6,hbA];exact HBA);rw[av6,hbA]at this;exact this
  have HTB:J (∀W v,awo W v [tB]->aD 64 #[v] W λe w'=>e=dz (A bB)/\bK W w'):=λW v h=>by have:=avR W v [tB] h (by rw[av6,hbB];exact QZ);rw[av6,hbB]at this;exact this
  clear hbA hbB htA htB;go_wp2_with fail
  go_region_held3 (λwx=>J (bK W0 wx)/\bJ wx w.heap.size 6=some (X a1 l1 kP)/\bJ wx w.heap.size 7=some (X a2 l2 cap2))
   ((refine HF _ ?_;repeat(first|exact azy|exact aw1|exact axz|exact Qg|exact VY|exact Aw|apply avQ|apply avP)))
   (first
    | (go_at_call_of 87 (a1);refine(OJ _ (by repeat(first|exact Aw|apply avQ))).mono ?_;rintro e w30 ⟨x1,n1,c1,rfl,awm,OD⟩;have VY:J (bK W0 w30):=Y (up (w:=W0) (gT (by repeat(first|exact Aw|apply avQ))) OD);have awP:=Y awm;clear OD awm)
    | (go_at_call_of 87 (a2);refine(Ip _ (by repeat(first|exact Qg|apply avQ))).mono ?_;rintro e w32 ⟨x2,n2,c2,rfl,ayY,axg⟩;have axz:J (bK W0 w32):=Y (up (w:=W0) (gT (by repeat(first|exact Qg|apply avQ))) axg);have ax7:=Y ayY;clear axg ayY)
    | (go_at_call 64;have hg:=aw1;clear hg;refine(avR _ _ [[⟨#[105,102]⟩,tE,bA,bB]] ?_ HBI).mono ?_;(refine awd cK ?_;repeat(first|exact ayD (w:=w33) cK _ _ _ _ bM te ta tb|apply Strs.awj));rintro e w34 ⟨rfl,ayZ⟩;have azy:J (bK W0 w34):=Y (up (w:=W0) (gT (by repeat(first|exact aw1|apply avQ|apply avP))) ayZ);clear ayZ)
    | (go_at_call 64;have hg:=ax7;clear hg;refine(HTB _ _ ?_).mono ?_;(refine awd cK ?_;repeat(first|exact ax7|apply Strs.awj));rintro e w33 ⟨rfl,axS⟩;have aw1:J (bK W0 w33):=Y (up (w:=W0) (gT (by repeat(first|exact axz|apply avQ|apply avP))) axS);clear axS)
    | (go_at_call 64;have hg:=awP;clear hg;refine(HTA _ _ ?_).mono ?_;(refine awd cK ?_;repeat(first|exact awP|apply Strs.awj));rintro e w31 ⟨rfl,SN⟩;have Qg:J (bK W0 w31):=Y (up (w:=W0) (gT (by repeat(first|exact VY|apply avQ|apply avP))) SN);clear SN))
  all_goals go_wp2;go_ret;exact⟨awg HFF,up HN azy⟩
 ·have hf:=HKW hk;rw[hk]at q0;clear hk q7;have HFF:=Y hf;have HBI:J ((bS.brk [[⟨#[119,104,105,108,101]⟩,tE,bS.brk tA]].flatten).size<=16777216):=Y (by rw[hf];have:=HXS.out;omega);clear hf;go_wp2_with fail;refine(OJ _ Aw).mono ?_;rintro e w30 ⟨x1,n1,c1,rfl,awm,OD⟩;obtain⟨VY,awP⟩:=bV OD awm;clear OD awm;go_wp2_with fail;refine(avR _ _ [tA] (awd rfl awP) HBA).mono ?_;rintro e w31 ⟨rfl,SN⟩;have Qg:=Y (up (avP VY).out SN);rw[av6];clear SN;go_wp2_with fail;refine(avR _ _ [[⟨#[119,104,105,108,101]⟩,tE,bS.brk tA]] (awd cK (awl rfl _ _ _ bM te ta)) HBI).mono ?_;rintro e w34 ⟨rfl,ayZ⟩;have azy:=Y (up (avP (avP Qg)).out ayZ);clear ayZ;go_wp2;go_ret;exact⟨awg HFF,up HN azy⟩
 ·have hf:=HKP hk;rw[hk]at q0;clear q6 q7 hk;go_wp2_with fail;refine(avR _ _ [[⟨#[112,114,105,110,116]⟩,s.name,tE]] (awd cK (awl rfl _ _ _ bM hnm te)) (by rw[hf];have:=HXS.out;omega)).mono ?_;rintro e w6 ⟨rfl,hb6⟩;obtain⟨fD,HFF⟩:=bV (up HN (up (avP (avP Aw)).out hb6)) hf;clear hb6 hf;go_wp2;go_ret;exact⟨awg HFF,fD⟩
theorem avX{α:Type}{f:α->Nat}:∀{l:List α},(∀y∈l,1<=f y)->l.length<=(l.map f).sum
 | [],_=>bG _
 | y::l,h=>by have d:=h y cK;have e:=avX (l:=l) (λb a=>h b<|by simp[a]);simp only[vN,fZ,jI];omega
theorem awL(m:Nat):∀(w:bI) (v:aC) (l:List St),fH w m v l->bS.j6 m l=true->fA m l<=1365000->Tab w->aD 87 #[v] w λr w'=>∃a n c,r=dz (X a n c)/\Strs w' (X a n c) (bS.Me m l)/\bK w w':=by
 induction m with
 | zero=>intro w v l h;exact iU h
 | succ m ih=>
  intro w v l h ac K ht;have HI:=Y<|aw0 m ih;clear ih;obtain⟨a,b,off,cap,rfl,ha,hl,G⟩:=h;have HT:=Y ht;have S:J (∀(i:Nat) (y:St),l[i]?=some y->bS.Vz m y=true/\y.name.size+3+jF m y.e+fA m y.a+fA m y.b<=1365000):=Y (λi y e=>⟨iB.1 (by rw[<-wL];exact ac) y (dG e),by have:y.name.size+3+jF m y.e+fA m y.a+fA m y.b<=(l.map λs:St=>s.name.size+3+jF m s.e+fA m s.a+fA m s.b).sum:=wW (f:=λs:St=>s.name.size+3+jF m s.e+fA m s.a+fA m s.b)<|dG e;simp only[fA]at K;omega⟩);have ao:l.length<=1365000:=by have:=avX (l:=l) (f:=λs:St=>s.name.size+3+jF m s.e+fA m s.a+fA m s.b) (λy _=>by omega);simp only[fA]at K;omega
  have ak:J (∀t∈bS.Me (m+1) l,t.size<=maxLen):=Y (λt ap=>by obtain⟨y,e,rfl⟩:=iZ.1 ap;obtain⟨i,hi,rfl⟩:=gU.1 e;obtain⟨L,M,B,C,D,E,va,N,_,_,_,_,_,_,_,_,q,k,p⟩:=G i _<|aZ hi;have h1:VW w m B C D E va N l[i]:=⟨L,M,q,k,p⟩;have h2:=awZ h1 (S i _<|aZ hi).2;unfold maxLen;omega);have R:J (bS.Me (m+1) l=l.map (stX m)):=rfl;obtain⟨j5,Q⟩:=bV G ha;clear G ha K ac ht;obtain⟨len,H⟩:=aV l.length;have u:=Y H;rw[<-H]at hl Q ao ⊢;clear H;go_enter func87,ntmps87;go_wp2;go_loopw[3,8] (λo i wr=>∃j:Nat,j<=len/\i=O j/\Own wr w.heap.size o ((l.take j).map (stX m))/\bK w wr) (λ_ i _=>len - (intOf i).toNat);exact⟨0,bN _,rfl,lJ _ _ _ _,bQ _ _⟩
  obtain⟨j,hj,rfl,g,d⟩:=hrel;by_cases am:j<len
  ·obtain⟨y,e⟩:∃y,l[j]?=some y:=⟨_,aZ (by rw[<-u];exact am)⟩;obtain⟨L,M,B,C,D,E,va,N,V,W,Z,g3,g4,g5,g6,g7,q,k,p⟩:=j5 j y e;obtain⟨aq,af⟩:=S j y e;have ai:=Y<|map_take (f:=stX m) e;obtain rfl:=Q bC;obtain⟨u0,u1⟩:=eY (aG V d)<|aG W d;have ay:=aG Z d;have YH:=aG g3 d;obtain⟨u4,u5,u6,u7⟩:=rY (aG g4 d) (aG g5 d) (aG g6 d)<|aG g7 d;have F:VW wr m B C D E va N y:=⟨L,M,q.below d,k.below d,p.below d⟩;have ar:(stX m y).size<=maxLen:=by have:=awZ F af;unfold maxLen;omega
   have ag:=Y F;obtain⟨ae,ce,rfl,rfl,rfl,rfl⟩:=q.shape;obtain⟨a1,kP,rfl,av⟩:=k.shape;obtain⟨a2,au,rfl,aw⟩:=p.shape;obtain⟨U,ah⟩:=bV d g;clear V W Z g3 g4 g5 g6 g7 q k p e d g F;go_wp2_with fail;refine(HI _ _ _ _ _ _ _ y (ag.below<|aH _ _) aq af<|(HT.below U).below (aH _ _)).mono ?_;rintro r w5 ⟨rfl,aa⟩;have z:=Z7 aa;have P:=Y<|up U z;have rM:J (Own w5 w.heap.size _ _):=Y<|fM ah z;clear aa z;generalize stX m y=ty at *;have al:=P.size;have ax:((l.take j).map (stX m)).length<=1365000:=by rw[dV,iA];omega
   go_wp2_with (first
    | (at_builtin;refine avT rfl _ _ rfl w.heap.size _ _ [ty] rfl (fM rM<|aH _ _) _ rfl (av8 rfl _ ar) (by simp only[iI];omega) (by simp;omega) ?_;intro v' w2 ad ab)
    | fail)
   obtain⟨R2,x⟩:=bV ((P.alloc al<|aY #[A ty] 9).grown ab (by simp;omega) (λj hj=>(rM.lt j hj).1)) ad;clear ab ad;go_roundw;exact⟨j+1,by omega,by go_num,by rw[ai];exact x,R2⟩;exact gV
  ·have r:l.take j=l:=fQ (by have:=u.out;omega);rw[r,<-R]at g;have I:=g.strs ak (by rw[R,dV,<-u];exact hl);obtain⟨a',c',rfl,_⟩:=I.shape;have x:=Y I;clear g I;generalize (bS.Me (m+1) l).length=nn at *;go_wp2;go_ret;exact⟨_,_,_,rfl,x,d⟩
theorem Pv(w:bI)(g len cap:Nat)(l:aJ)(h:ji w g l)(ab:len=l.length)(ak:len<=cap)(hl:len<=4398046511104):aD 162 #[Tc g len cap] w λV w'=>∃c',V=dz (Tc g (gP l).length c')/\ji w' g (gP l)/\But g w w':=by
 obtain⟨e,HR⟩:=bV ab h;clear ab h;by_cases u:len<2
 ·have M:J (gP l=l):=Y (by
   have ae:=e.out;match l,ae with
   | [],_=>rfl
   | [x],_=>rfl
   | x::y::r,h=>simp at h;omega)
  go_enter func162,ntmps162;go_wp2;go_ret;exact⟨_,by rw[M,<-e];rfl,by rw[M];exact HR,But.refl _ _⟩
 ·go_enter func162,ntmps162;go_wp2_with fail;go_loopw[3] (λi wr=>∃j:Nat,j+1<=len/\i=O ((j:Int)+1)/\(∀(q:Nat) x y,q<j->l[q]?=some y->l[q+1]?=some x->cB x y=false)/\ji wr g l/\But g w wr) (λi _=>len - (intOf i).toNat);exact⟨0,by omega,rfl,λq x y S=>aM S<|fU _,HR,But.refl _ _⟩
  obtain⟨j,hj,rfl,aa,f,z⟩:=hrel;obtain⟨W,sU,fT⟩:=fE aa f z;clear aa z;by_cases ap:j+1<len
  ·obtain⟨y,C⟩:∃y,l[j]?=some y:=⟨_,aZ (by rw[<-e];omega)⟩;obtain⟨x,B⟩:∃y,l[j+1]?=some y:=⟨_,aZ (by rw[<-e];omega)⟩;obtain⟨HX,HY⟩:=bV B C;obtain⟨P,U⟩:=eY (f.cell B)<|f.cell C;have ag:decide ((j:Int)+1<(len:Int))=true:=by simp;omega
   clear B C f;cases K:cB x y
   ·have I:(x.toList==y.toList)=false:=K;have MF:=Y K;clear K;go_wp2_with fail;go_quiet (fail);go_wp2;go_roundw;exact⟨j+1,by omega,by go_num,λq a b S p u=>by
     by_cases V:q=j;·subst V;rw[HY]at p;rw[HX]at u;cases p;cases u;exact MF
     ·exact W q a b bC p u,sU.drew,fT.drew _⟩
    exact gV
   ·have I:(x.toList==y.toList)=true:=K;have Vi:J (gP (l.take<|j+1+1)=l.take (j+1)):=Y (by
     rw[vS HY HX,K,aK rfl];have af:(l.take<|j+1).length=j+1:=by rw[iA];have:=e.out;omega
     have p:=Aa (l:=l.take<|j+1) (λq a b p u=>by have S:=(cO.1 u).1;rw[af]at S;rw[nM bC]at p u;exact W q a b bC p u) (j+1) bC;rwa[List.take_take,Nat.min_self]at p)
    clear K;go_wp2_with fail;go_quiet (fail);obtain⟨ad,Mv⟩:=bV (sU.out.drew (n:=nq))<|fT.out.drew nq;clear P U I;generalize wr.drewN nq=W1 at *;go_wp2_with fail;go_loopw[3,5] (λa b wx=>∃c t:Nat,a=O c/\b=O ((t:Int)+1)/\j+1+(t+1)<=len/\c=(gP<|l.take<|j+1+(t+1)).length/\c<=j+1+t/\ji wx g (gP (l.take<|j+1+(t+1))++l.drop c)/\But g w wx) (λ_ b _=>len - (intOf b).toNat);exact⟨j+1,0,by go_num,rfl,by omega,by
     rw[show j+1+(0+1)=j+1+1 from rfl,Vi,iA];have:=e.out;omega,bG _,by
     rw[show j+1+(0+1)=j+1+1 from rfl,Vi,pK];exact ad,Mv⟩
    obtain⟨c,t,rfl,rfl,aq,G,am,f,z⟩:=hrel;obtain⟨v,oD,Kh⟩:=fE G f z;by_cases ao:j+1+(t+1)<len
    ·obtain⟨R,C⟩:∃y,l[j+1+t]?=some y:=⟨_,aZ (by rw[<-e];omega)⟩;obtain⟨D,B⟩:∃y,l[j+1+(t+1)]?=some y:=⟨_,aZ (by rw[<-e];omega)⟩;obtain⟨z',hz⟩:∃y,l[c]?=some y:=⟨_,aZ (by rw[<-e];omega)⟩;obtain⟨P,U,m0⟩:=lS (f.cell (i:=j+1+(t+1)) (d:=D) (by rw[Ab G bC];exact B)) (f.cell (i:=j+1+t) (d:=R) (by rw[Ab G bC];exact C)) (f.cell (i:=c) (d:=z') (by rw[Ab G bC];exact hz));obtain⟨F,H,-,-⟩:=f;have Z:=aF H c;have L:J (gP (l.take<|j+1+(t+1)+1)=if cB D R then gP (l.take<|j+1+(t+1))else gP (l.take<|j+1+(t+1))++[D]):=Y<|vS (j:=j+1+t) C B;have ah:decide ((t:Int)+1<((len - (j+1):Nat):Int))=true:=by simp;omega
     clear B C hz H G z;cases E:cB D R
     ·have I:(D.toList==R.toList)=false:=E;rw[E,aI cK]at L;clear E;go_wp2_with fail;go_quiet (fail);have N:J (ji (wr.drewN nq) g _):=Y<|oD.out.drew (n:=nq);have Q:=Y<|Kh.out.drew nq;replace P:(wr.drewN nq).cell? _=_:=P;replace m0:(wr.drewN nq).cell? _=_:=m0;replace Z:(wr.drewN nq).frozen? _=_:=Z;clear U I;generalize wr.drewN nq=W2 at *;go_wp2;go_roundw;exact⟨c+1,t+1,by go_num,by go_num,by omega,by
       rw[show j+1+(t+1+1)=j+1+(t+1)+1 by omega,L,bg,<-v];rfl,by omega,by
       rw[show j+1+(t+1+1)=j+1+(t+1)+1 by omega,L,<-SF v (by rw[<-e];omega)];exact N.set (by rw[bg,Bo,<-v,<-e];omega) D,Q.set (aO rfl) _⟩
      exact gV
     ·have I:(D.toList==R.toList)=true:=E;rw[E,aK rfl]at L;clear E;go_wp2_with fail;go_quiet (fail);have N:J (ji (wr.drewN nq) g _):=Y<|oD.out.drew (n:=nq);have Q:=Y<|Kh.out.drew nq;clear P m0 Z U I;generalize wr.drewN nq=W2 at *;go_wp2;go_roundw;exact⟨c,t+1,rfl,by go_num,by omega,by
       rw[show j+1+(t+1+1)=j+1+(t+1)+1 by omega,L];exact v,by omega,by
       rw[show j+1+(t+1+1)=j+1+(t+1)+1 by omega,L];exact N,Q⟩
      exact gV
    ·have DU:J (l.take (j+1+(t+1))=l):=Y (fQ (by rw[<-e];omega));rw[DU]at oD v f;have ac:=f;obtain⟨F,H,ai,-⟩:=f;rw[bg,Bo,<-v,<-e]at ai;have al:=λty=>apG (c:=cap - c) H (show 0<len - c by omega) (show c+(len - c)<=F.size by omega) ty;have YR:=Y (λzs m=>ji.clear (zs:=zs) (k:=c) ac H (by rw[bg,<-v];omega) m);have ah:decide ((t:Int)+1<((len - (j+1):Nat):Int))=false:=by simp;omega
     have I4:J ((gP l++l.drop c).take c=gP l):=Y (by rw[v,List.take_left]);rw[I4]at YR;generalize (Builtin.zeroCells (A ⟨#[]⟩).cells<|len - c).toList=zs at *;obtain⟨Q,N⟩:=bV (But.row (cs:=(F.toList.take (c)++zs++F.toList.drop (c+zs.length)).toArray) z)<|YR zs<|c+zs.length;generalize wr.setRow g (F.toList.take (c)++zs++F.toList.drop (c+zs.length)).toArray=W2 at *;clear ac H G z;go_wp2;go_ret;exact⟨_,by rw[<-v];rfl,N,Q⟩
  ·have M:J (gP l=l):=Y (by have p:=Aa (l:=l) (λq a b p u=>W q a b (by have:=(cO.1 u).1;have:=e.out;omega) p u) l.length (bG _);rwa[jQ]at p);have ag:decide ((j:Int)+1<(len:Int))=false:=by simp;omega
   clear f;go_wp2;go_ret;exact⟨_,by rw[M,<-e];rfl,by rw[M];exact sU,fT⟩
theorem Bp(w:bI):aD 162 #[aU] w λe w'=>e=dz (aU)/\w'=w:=by go_enter func162,ntmps162;go_wp2;go_ret;exact⟨rfl,rfl⟩
