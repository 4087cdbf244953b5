import Derived.Test.YtiebmbnfedbdeaaGreatDoorTZL2
import Derived.Test.YtiebmbnfedbdeaaGreatDoorTZAO
import Derived.Test.YtiebmbnfedbdeaaGreatDoorTZAM
import Derived.Test.YtiebmbnfedbdeaaGreatDoorTZAN
set_option maxHeartbeats 0
set_option maxRecDepth 99999
namespace Go.Proofs.YtiebmbnfedbdeaaGreatDoor
open bS Rn
open Go.Proofs.Tryz
open Go.RowKit
variable{b j k cl n f i:Nat}{o ob:Option Nat}{w w' w7:bI}{nm:List (aS × aS)}
theorem iQ{a b:aS}(h:a.data.toList=b.data.toList):a=b:=by cases a with|mk a=>cases b with|mk b=>congr 1;exact Array.toList_inj.1 h
theorem iN(a b:aS):(a++b).data.toList=a.data.toList++b.data.toList:=by rw[ByteArray.data_append,Array.toList_append]
theorem jk(l:aJ):(bS.brk l).data.toList=40::(Lib.join (l.map (·.data.toList)) [32]++[41]):=by unfold bS.brk bS.jn;rw[iN,iN];rfl
theorem ND{t:Ex->aS}(l:List Ex)(acc:aS):(l.foldl (Fq t) acc).data.toList=acc.data.toList++Lib.joinTail [32] ((l.map t).map (·.data.toList)):=by
 induction l generalizing acc with
 | nil=>simp[Lib.joinTail]
 | cons y l a =>rw[pz,a];unfold Fq;rw[iN,iN];simp[Lib.joinTail]
theorem ahC(x:Ex)(t:Ex->aS)(h:x.kind≠4):bS.brk (x.name::x.args.map t)=x.args.foldl (Fq t) (Fv x)++(⟨#[41]⟩:aS):=by apply iQ;rw[jk,iN,ND,fZ,Lib.join_cons];unfold Fv;rw[aI h,iN];simp
theorem aaO(x:Ex)(t:Ex->aS)(h:x.kind=4):bS.brk (⟨#[99,97,108,108]⟩::x.name::x.args.map t)=x.args.foldl (Fq t) (Fv x)++(⟨#[41]⟩:aS):=by apply iQ;rw[jk,iN,ND,fZ,Lib.join_cons];unfold Fv;rw[aK h,iN];simp[Lib.joinTail]
theorem map_take{α β:Type}{f:α->β}{l:List α}{y:α}(a:l[j]?=some y):(l.take<|j+1).map f=(l.take j).map f++[f y]:=by obtain⟨c,rfl⟩:=cO.1 a;rw[uW c,gX];rfl
open Go.Maps
structure lu where
 n:Nat
 p:Nat
 vl:Value
 vv:Value
 mp:Nat
 e:Nat
 bs:List Nat
def FT(w:bI)(b:Nat)(x:aS × aS)(v:Vr):Prop:=w.heap[b]?=some (.cells #[.string x.1,.string x.2,.int .i64 v.val,.bool v.rd,.bool v.st] 142 (0,0))
structure iL(w:World)(c:lu)(nm:List (ByteArray × ByteArray))(s:gM):Prop where
 base:c.n<=c.p
 qY:∃vp,w.heap[c.p]?=some (.cells #[c.vl,c.vv,.map (some c.mp),.int .i64 s.fuel,vp] 131 (0,0))/\dA QX w c.n 48 2 vp s.pr
 uj:c.bs.length=nm.length
 lens:s.vs.length=nm.length
 var:∀(i b:Nat) (x:ByteArray × ByteArray) (v:Vr),c.bs[i]?=some b->nm[i]?=some x->s.vs[i]?=some v->FT w b x v
 bsn:∀b∈c.bs,c.n<=b
 val:∀v∈s.vs,mq v.val
 nodup:c.bs.Nodup
 map:YM w c.mp c.e nm c.bs
 mpn:c.n<=c.mp
 room:s.pr.length+s.fuel<=16777215
 OE:∀d∈s.pr,d.1.size<=8
structure Kp(c:lu)(o:Option Nat)(w w':World):Prop where
 below:Below c.n w w'
 block:∀k ob,w.heap[k]?=some ob->k≠c.p->k∉c.bs->some k≠o->(∀cs fz,ob≠.cells cs 48 fz)->w'.heap[k]?=some ob
theorem Kp.refl(c:lu)(o:Option Nat)(w:bI):Kp c o w w:=⟨bQ _ _,λ_ _ h _ _ _ _=>h⟩
theorem Kp.trans{c:lu}{a b d:bI}(e:Kp c o a b)(k:Kp c o b d):Kp c o a d:=
 ⟨e.below.trans k.below,λi ob p g h l m=>k.block i ob (e.block i ob p g h l m) g h l m⟩
theorem Kp.more{c:lu}(a:Kp c none w w'):Kp c o w w':=⟨a.below,λk ob h d e _ g=>a.block k ob h d e cK g⟩
theorem Kp.of_below{c:lu}(a:bK w w')(e:c.n<=w.heap.size):Kp c o w w':=
 ⟨a.mono e,λk ob d _ _ _ _=>by rw[a.block k (aR d)];exact d⟩
theorem Kp.drewN{c:lu}(h:Kp c o w w')(n:Nat):Kp c o w (w'.drewN n):=⟨jJ h.below n,h.block⟩
theorem Kp.fresh{c:lu}(d:Kp c (some b) w w')(m:w.heap.size<=b):Kp c none w w':=
 ⟨d.below,λk ob e g h _ l=>d.block k ob e g h (λa=>by injection a with a;have:=aR e;omega) l⟩
theorem Kp.cells{c:lu}{s:gM}(p:Kp c o w w')(g:iL w c nm s){cs:Array aC}{t:TypeId}{h:Nat × Nat}(a:w.heap[k]?=some (.cells cs t h))(y:t≠48)(q:t≠131)(r:t≠142)(v:some k≠o):w'.heap[k]?=some (.cells cs t h):=by
 refine p.block k _ a (λd=>?_) (λd=>?_) v (λB C d=>by injection d with _ d;exact y d);·obtain⟨D,x,_⟩:=g.qY;rw[d,x]at a;injection a with a;injection a with _ a;exact q a.symm
 ·obtain⟨i,l,u⟩:=gU.1 d;have m:i<nm.length:=by rw[<-g.uj];exact l
  have z:i<s.vs.length:=by rw[g.lens];exact m
  have e:=g.var i k _ _ (by rw[<-u];exact aZ l) (aZ m) (aZ z);rw[FT,a]at e;injection e with e;injection e with _ e;exact r e
theorem Kp.map{c:lu}{s:gM}(p:Kp c o w w')(d:iL w c nm s){g:Array MapEntry}(e:w.heap[k]?=some (.map g cl))(r:some k≠o):w'.heap[k]?=some (.map g cl):=by
 refine p.block k _ e (λa=>?_) (λa=>?_) r (λv x a=>by cases a);·obtain⟨y,t,_⟩:=d.qY;rw[a,t]at e;cases e
 ·obtain⟨i,l,q⟩:=gU.1 a;have m:i<nm.length:=by rw[<-d.uj];exact l
  have u:i<s.vs.length:=by rw[d.lens];exact m
  have h:=d.var i k _ _ (by rw[<-q];exact aZ l) (aZ m) (aZ u);rw[FT,e]at h;cases h
theorem nS.keep{c:lu}{s:gM}{o:Rn.Own}(a:nS w b n o)(g:Kp c ob w w')(h:iL w c nm s)(e:some b≠ob):nS w' b n o:=by obtain⟨l,cl,d⟩:=a.isMap;exact a.same (by rw[g.map h d e,d])
def Pq(w:bI)(c:lu)(q a f o:Nat):Prop:=c.n<=q/\w.heap[q]?=some (.cells #[.pointer (some ⟨c.p,0,none⟩),.int .i64 a,.int .i64 f,.map (some o)] 137 (0,0))
theorem Pq.keep{c:lu}{s:gM}{q a o:Nat}{r:Rn.Own}(e:Pq w c q a f o)(l:Kp c ob w w')(m:iL w c nm s)(p:ob=none\/ob=some b)(g:nS w b n r):Pq w' c q a f o:=by
 refine⟨e.1,l.cells m e.2 bM bM bM ?_⟩;rcases p with rfl|rfl;·simp
 ·intro d;injection d with d;obtain⟨t,cl,h⟩:=g.isMap;have:=e.2;rw[d,h]at this;cases this
theorem iL.below{c:lu}{s:gM}(a:iL w c nm s)(e:bK w w'):iL w' c nm s:=by
 have d:∀{k:Nat} {ob:Obj},w.heap[k]?=some ob->w'.heap[k]?=some ob:=λh=>by rw[e.block _ (aR h)];exact h
 obtain⟨t,l,m⟩:=a.qY;obtain⟨u,cl,g⟩:=a.map.isMap;exact⟨a.base,⟨t,d l,m.below e⟩,a.uj,a.lens,λi b x v p q r=>d<|a.var i b x v p q r,a.bsn,a.val,a.nodup,a.map.same (by rw[d g,g]),a.mpn,a.room,a.OE⟩
theorem iL.drewN{c:lu}{s:gM}(h:iL w c nm s)(n:Nat):iL (w.drewN n) c nm s:=h.below<|wR<|bQ _ _
theorem iL.pne{c:lu}{s:gM}(d:iL w c nm s):c.p∉c.bs:=λh=>by
 obtain⟨i,e,l⟩:=gU.1 h;have g:i<nm.length:=by rw[<-d.uj];exact e
 have p:i<s.vs.length:=by rw[d.lens];exact g
 have a:=d.var i c.p _ _ (by rw[<-l];exact aZ e) (aZ g) (aZ p);obtain⟨q,m,_⟩:=d.qY;rw[FT,m]at a;injection a with a;injection a with _ a;exact aM a bM
theorem iL.cell{c:lu}{s:gM}(e:iL w c nm s):∃d,w.cell? (aN c.p 0)=some c.vl/\w.cell? (aN c.p 2)=some (.map<|some c.mp)/\w.cell? (aN c.p 3)=some (O s.fuel)/\w.cell? (aN c.p 4)=some d/\w.frozen? (aN c.p 3)=false/\w.frozen? (aN c.p 4)=false:=by obtain⟨d,a,_⟩:=e.qY;exact⟨d,(aj a 0).trans rfl,(aj a 2).trans rfl,(aj a 3).trans rfl,(aj a 4).trans rfl,aF a 3,aF a 4⟩
theorem Kp.ap8{c:lu}{s:gM}(d:iL w c nm s)(i:Nat)(v:aC):Kp c o w (w.setCell (aN c.p i) v):=
 ⟨(bQ _ _).setCell d.base v,λ_ _ e a _ _ _=>aX e a v⟩
theorem iL.ahD{c:lu}{s:gM}(a:iL w c nm s)(y:f<=s.fuel):iL (w.setCell (aN c.p 3)<|O f) c nm { s with fuel:=f }:=by
 obtain⟨t,g,h⟩:=a.qY;obtain⟨u,cl,d⟩:=a.map.isMap;have p:c.mp≠c.p:=λe=>by rw[e,g]at d;cases d
 refine⟨a.base,⟨t,(aP g 3 _).trans rfl,h.set (h.apart g bM) _⟩,a.uj,a.lens,λi b x v l q r=>aX (a.var i b x v l q r) (λe=>a.pne (by have m:b=c.p:=e;rw[<-m];exact dG l)) _,a.bsn,a.val,a.nodup,a.map.same (by rw[aX d p _,d]),a.mpn,?_,a.OE⟩;have:=a.room;show s.pr.length+f<=16777215;omega
theorem YT{α:Type}(l:List α)(i j:Nat)(g:α->α):(l.modify i g)[j]?=if i=j then l[j]?.map g else l[j]?:=by rw[List.getElem?_modify];by_cases e:i=j<;>simp[e]
theorem iL.Tq{c:lu}{s:gM}(a:iL w c nm s){x:aS × aS}{v':Vr}(h:c.bs[i]?=some b)(B:nm[i]?=some x)(g:Vr->Vr){v:Vr}(t:s.vs[i]?=some v)(hg:g v=v')(H:mq v'.val)(D:FT w' b x v')(r:∀k ob,w.heap[k]?=some ob->k≠b->w'.heap[k]?=some ob)(N:∀{q:aC} {l:List (aS × Int)},dA QX w c.n 48 2 q l->dA QX w' c.n 48 2 q l):iL w' c nm { s with vs:=s.vs.modify i g }:=by
 obtain⟨q,E,F⟩:=a.qY;obtain⟨R,cl,m⟩:=a.map.isMap;have L:=a.var i b x v h B t;have G:c.p≠b:=λe=>a.pne (by rw[e];exact dG h);have I:c.mp≠b:=λe=>by rw[e,L]at m;cases m
 refine⟨a.base,⟨q,r _ _ E G,N F⟩,a.uj,by rw[List.length_modify];exact a.lens,λj z Q u p y d=>?_,a.bsn,λu P=>?_,a.nodup,a.map.same (by rw[r _ _ m I,m]),a.mpn,a.room,a.OE⟩
 ·rw[show({ s with vs:=s.vs.modify i g }:gM).vs=s.vs.modify i g from rfl,YT]at d;by_cases e:i=j;·subst e;rw[h]at p;rw[B]at y;cases p;cases y;rw[aK rfl,t]at d;simp at d;rw[hg]at d;rw[<-d];exact D
  ·rw[aI e]at d;have K:z≠b:=λC=>by subst C;exact e<|(List.getElem?_inj (cO.1 h).1 a.nodup).1 (h.trans p.symm)
   exact r _ _ (a.var j z Q u p y d) K
 ·obtain⟨j,d⟩:=YU.1 P;rw[show({ s with vs:=s.vs.modify i g }:gM).vs=s.vs.modify i g from rfl,YT]at d;by_cases e:i=j;·subst e;rw[aK rfl,t]at d;simp at d;rw[<-d,hg];exact H
  ·rw[aI e]at d;exact a.val u<|dG d
theorem qm{α:Type}{At:List aC->α->Prop}{af:Array Oper}{o:Oper}{a:Act}{K:Act->bI->Prop}{F:Exit->Act->bI->Prop}{E:Prop}(S:o.guard=none)(s x:Operand)(t m k p:Nat)(q:aC)(Z:o.op=.call { callee:=.builtin .append,args:=#[s,x],argTypes:=#[t,t] })(ht:prog.underlying t=some (.slice m))(V:(prog.info? m).map (λi=>(i.zero,i.size,i.bytes))=some (some q,k,p))(ae:q.cells.size=k)(W:0<k)(Q:p<=1024)(n:Nat)(v:aC)(l:List α)(hs:a.eval s=v)(aa:dA At w n m k v l)(B:Nat)(c:List aC)(y:α)(hx:a.eval x=Tc B 1 1)(R:∀(j:Nat) u,c[j]?=some u->bJ w B j=some u)(z:c.length=k)(r:∀u∈c,u.oneCell'=true)(N:At c y)(hl:l.length<=16777216)(P:n<=w.heap.size)(H:∀g cap w',dA At w' n m k (Tc g (l.length+1) cap) (l++[y])->w.grownBy w' v.ownBlock->K (a.put o.dst<|Tc g (l.length+1) cap) w'):if Region.wanted o (yielded af a.tmps)=true then Oper.wp prog o a w K F else E:=by
 obtain⟨iS,G,ab,ac,ad⟩:=info_parts V;obtain⟨cs,hr,D,k2,k3,_⟩:=aa;refine step_append_lies w S s x t Z n m iS q k p ht G ab ac ad ae W v l.length cs.flatten hs hr (aN B 0) 1 1 c hx (by rw[z,uS]) (λj u h=>by rw[Addr.add_lit,d9];exact R j u h) r bM (by unfold maxLen;omega) (bE (yE (show l.length+1<=16777217 by omega) Q) bM) P w.heap.size rfl ?_;intro g cap w' I L h3 _;refine H g cap w' ⟨cs++[c],?_,by simp[D],λd e=>?_,λi d u e h=>?_,λm=>by simp at m⟩ L;·rw[Da,bg];simpa using I
 ·rcases bX.1 e with e|e;·exact k2 d e
  ·simp at e;subst e;exact⟨z,r⟩
 ·by_cases U:i<l.length;·rw[jX bC]at e;rw[jX U]at h;exact k3 i d u e h
  ·rw[kL bC]at e;rw[kL bC]at h;have C:i - l.length=0:=by have:=(cO.1 h).1;simp at this;omega
   rw[D,C]at e;rw[C]at h;simp at e h;subst e h;exact N
theorem iL.push{c:lu}{s:gM}{r q:aC}{d:aS × Int}{ob:Obj}(e:iL w c nm s)(E:dR w c.p (aY #[c.vl,c.vv,.map<|some c.mp,O s.fuel,r] 131))(F:dA QX w c.n 48 2 r s.pr)(D:dA QX w7 c.n 48 2 q (s.pr++[d]))(hg:(w.alloc ob).grownBy w7 r.ownBlock)(R:s.pr.length+1+s.fuel<=16777215)(C:c.n<=w.heap.size)(N:d.1.size<=8):dR w7 c.p (aY #[c.vl,c.vv,.map<|some c.mp,O s.fuel,r] 131)/\iL (w7.setCell (aN c.p 4) q) c nm { s with pr:=s.pr++[d] }/\Kp c none w (w7.setCell (aN c.p 4) q)/\(∀{k:Nat} {cs:Array aC} {t:TypeId} {g:Nat × Nat},dR w k (.cells cs t g)->t≠48->dR w7 k (.cells cs t g)):=by
 have y:∀{k:Nat} {ob':Obj},w.heap[k]?=some ob'->(∀cs g,ob'≠.cells cs 48 g)->w7.heap[k]?=some ob':=λ{k ob'} h B=>by rw[hg.block k (by have:=aR h;have:=(aH w ob).size;omega) (λa=>by obtain⟨Z,m⟩:=F.typ a.symm;rw[h]at m;injection m with m;exact B _ _ m)];exact bT h ob
 have u:∀{k:Nat} {cs:Array aC} {t:TypeId} {g:Nat × Nat},dR w k (.cells cs t g)->t≠48->dR w7 k (.cells cs t g):=λh B=>y h (λW aa a=>by injection a with _ a;exact B a);have z:=u E bM;obtain⟨es,cl,p⟩:=e.map.isMap;have P:=y p (λ_ _ a=>by cases a);have Q:c.mp≠c.p:=λa=>by rw[a,E]at p;cases p
 refine⟨z,⟨e.base,⟨q,(aP z 4 _).trans rfl,D.set (D.apart z bM) _⟩,e.uj,e.lens,λi b x v G S U=>aX (u (e.var i b x v G S U) bM) (λa=>e.pne (by have H:b=c.p:=a;rw[<-H];exact dG G)) _,e.bsn,e.val,e.nodup,e.map.same (by rw[aX P Q _,p]),e.mpn,?_,λd' L=>by
  rcases bX.1 L with l|l;·exact e.OE d' l
  ·rw[dh]at l;subst l;exact N⟩,?_,u⟩
 ·show(s.pr++[d]).length+s.fuel<=16777215;rw[bg,iI];exact R
 ·refine⟨?_,λk ob' h I _ _ K=>aX (y h K) I _⟩;have V:Below c.n w w7:=((aH w ob).mono C).grown hg (bE C (aH w ob).size) (λk a=>(F.lt k a).1);exact V.setCell e.base _
theorem DW(w:bI)(c:lu)(nm:List (aS × aS))(s:gM)(a:iL w c nm s):aD 150 #[gK c.p] w λx w'=>x=dz (O<|Nt s)/\J (iL w' c nm (fq s)/\Kp c none w w'):=by
 have h:=Y a;have y:=a.room;obtain⟨K,C,D,v,E,F,G⟩:=a.cell;obtain⟨l,d⟩:=aV s.fuel;rw[<-d]at v;obtain⟨z,g⟩:=aV<|Nt s;have m:=Y g;rw[<-g];by_cases p:l=0;·have q:=kU (s:=s) bC;have e:=Y q;subst p;clear d g q a;go_enter func150,ntmps150;go_wp2;go_ret;exact⟨bZ (by rw[m,e.2.1]),Y ⟨by rw[e.2.2];exact h,Kp.refl _ _ _⟩⟩
 ·obtain⟨k,rfl⟩:∃k,l=k+1:=⟨l - 1,by omega⟩;have e:=Y<|qE (s:=s) bC;have H:k+1<=16777215:=by omega
  have I:(((k+1:Nat):Int)==0)=false:=by rw[beq_eq_false_iff_ne];omega
  have u:=Y<|h.ahD (f:=k) bC;have r:J (fq s={ s with fuel:=k }):=Y (by unfold fq;rw[<-d];rfl);have t:=Y<|Kp.ap8 (o:=none) h 3<|O (k:Int);clear d y p g a;go_enter func150,ntmps150;go_wp2;go_ret;exact⟨bZ (by rw[m,e.2]),Y ⟨by rw[r];exact u,t⟩⟩
theorem aaP(w:bI)(b:Bool):aD 155 #[.bool b] w λe w'=>e=dz (O<|Rn.tr b)/\w'=w:=by
 cases b <;>
 ·go_enter func155,ntmps155;go_wp2;go_ret;exact⟨rfl,rfl⟩
theorem aaQ(w:bI)(op:aS)(a b:Int):aD 101 #[A op,O a,O b] w λg w'=>g=dz (O<|Rn.ap op a b)/\w'=w:=by
 obtain⟨R,c⟩:=aV<|Rn.ap op a b;rw[<-c];unfold Rn.ap at c;have l:=Y (λb=>aaP w b);cases d:(op.toList==[43])
 ·cases e:(op.toList==[45])
  ·cases h:(op.toList==[42])
   ·cases m:(op.toList==[60]);·rw[d,e,h,m,aI cK,aI cK,aI cK,aI cK]at c;subst c;go_enter func101,ntmps101;go_wp2_with fail;refine(l _).mono ?_;rintro g w1 ⟨rfl,rfl⟩;go_wp2;go_ret;exact⟨rfl,rfl⟩
    ·rw[d,e,h,m,aI cK,aI cK,aI cK,aK rfl]at c;subst c;go_enter func101,ntmps101;go_wp2_with fail;refine(l _).mono ?_;rintro g w1 ⟨rfl,rfl⟩;go_wp2;go_ret;exact⟨rfl,rfl⟩
   ·rw[d,e,h,aI cK,aI cK,aK rfl]at c;subst c;go_enter func101,ntmps101;go_wp2;go_ret;exact⟨rfl,rfl⟩
  ·rw[d,e,aI cK,aK rfl]at c;subst c;go_enter func101,ntmps101;go_wp2;go_ret;exact⟨rfl,rfl⟩
 ·rw[d,aK rfl]at c;subst c;go_enter func101,ntmps101;go_wp2;go_ret;exact⟨rfl,rfl⟩
