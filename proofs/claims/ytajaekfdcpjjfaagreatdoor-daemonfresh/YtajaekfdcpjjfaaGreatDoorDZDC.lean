import Derived.Test.YtajaekfdcpjjfaaGreatDoorDZDB
import Derived.Test.YtajaekfdcpjjfaaGreatDoorDZBW
set_option maxHeartbeats 0
set_option maxRecDepth 99999
namespace Go.Proofs.YtajaekfdcpjjfaaGreatDoor
open Ck Da bO Rd Rn Sm
open Go.Proofs.Tryz
open Go.RowKit Go.Maps Go.WideMaps
variable{w0 w W w':bI}{m B k b n:Nat}{v r0 r1 z:aC}{l l':List Mo}{t s:aS}{T o:aS->Option aC}
theorem om.mks(h:om w0 w m v l)(f:Sub w0 W)(d:Sub w W)(r:l.length<=9223372036854775807):xQ W m v l:=by obtain⟨a,b,off,cap,g,j,_,p⟩:=h;refine⟨a,b,off,cap,g,j,r,λi y x=>?_⟩;obtain⟨c,F,e,D,E,C,rfl,u,q⟩:=p i y x;exact⟨D,E,C,d _ _<|e 0 _ rfl,d _ _<|e 1 _ rfl,d _ _<|e 2 _ rfl,d _ _<|e 3 _ rfl,u.sub f,q.sub f⟩
theorem ave{t:TypeId}(d:dR W B (.cells #[r0,r1] t (0,0)))(a c:aC):((W.setCell (aN B 0) a).setCell (aN B 1) c).heap[B]?=some (.cells #[a,c] t (0,0)):=(aP (aP d 0 a) 1 c).trans rfl
theorem aut(P:Nat->Bool)(w:bI)(b:Nat)(ss:aJ)(G:Nat)(L:Nat->Nat)(Z:aL)(l:List Mo)(s:aS)(c:dO P w b ss G L Z l)(ht:Tab w)(hn:s.size<=maxLen):aD 21 #[gK b,A s] w λe w'=>∃U vd,e=dz (.tuple #[.agg #[U,vd],O (Ck.an ⟨8196,ss,G,L,Z,l⟩ s).2.2])/\J (xO w' U (Ck.an ⟨8196,ss,G,L,Z,l⟩ s).1/\jg w' vd (Ck.an ⟨8196,ss,G,L,Z,l⟩ s).2.1/\bK w w'):=by
 obtain⟨⟨vn,vl,vm,ag,ah,ai,ak⟩,al,ax,h6,av⟩:=c;have h:=C9 P w;have V:=Y (λM (hb:bK w M)=>agF 8196 M vn vl vm ss G L Z l s (Ck.uni ss l) ((ah.sub h).below hb) ((ai.sub h).below hb) ((ak.mks h h<|bE h6 bM).below hb) al (ht.below hb) hn Ik);have aa:=Y (λM v (c:eZ Ht M 0 35 6 v (Ck.an ⟨8196,ss,G,L,Z,l⟩ s).1)=>amB c);obtain⟨Zk,hA⟩:=aV<|Ck.an ⟨8196,ss,G,L,Z,l⟩ s;rw[<-hA]at V aa ⊢;obtain⟨S,D,E⟩:=Zk;obtain⟨q,b0,o0,y,rfl,-⟩:=ah;obtain⟨r,b1,o1,C,_,_,_,_,rfl,-⟩:=ai;obtain⟨u,b2,o2,c2,rfl,-⟩:=ak;generalize ss.length=F at *;generalize l.length=I at *;have ao:=Y ag;clear ag h al ax h6 av ht hn hA;obtain⟨iO,ae⟩:=sO w<|aY #[aU,aU] 64;have ad:=Y<|bH ao iO;go_enter func21,ntmps21;go_upto_region 1 with fail;generalize w.alloc (aY #[aU,aU] 64)=W at *;obtain⟨R,Q⟩:=aV w.heap.size;have af:=Y Q;rw[<-Q]at ae ⊢;clear Q;have j:J (∀x:bI,dR x b (aY #[X q F y,X r G C,X u I c2] 114)->bJ x b 0=some (X q F y)/\bJ x b 1=some (X r G C)/\bJ x b 2=some (X u I c2)):=Y (λx g=>⟨(aj g 0).trans rfl,(aj g 1).trans rfl,(aj g 2).trans rfl⟩);refine dx [some false,some false,some false,some true,some false,some false,some false,some true,some false,none,none,none,none,none] 12 (λx=>bJ x b 0=some (X q F y)/\bJ x b 1=some (X r G C)/\bJ x b 2=some (X u I c2)) 5 dw dw (λ_ _ d _ _ c=>(by cases d<;>exact c)) (j _ ad) ?_;dsimp only[gB];repeat(first|(refine fO (v:=?_) dH ?_ ?_;rotate_left 1;(focus(intro w;go_simp;try(with_reducible rfl)));simp only[Act.put,dS,dY,eX])|(refine fP (v:=?_) dH ?_ ?_;rotate_left 1;(focus(intro w ar;obtain⟨q0,q1,q2⟩:=ar;go_simp;try(with_reducible rfl)));simp only[Act.put,dS,dY,eX]))
 refine dW ?_;have ab:=Y<|up iO ((bQ W.heap.size W).drew:bK W W.drew);have ap:J (W.drew.heap[R]?=some (aY #[aU,aU] 64)):=ae;have aq:J (W.drew.heap[b]?=some (aY #[X q F y,X r G C,X u I c2] 114)):=ad;generalize W.drew=x0 at *;refine aT (i:=9) dw dH (λK a=>?_);go_simp;go_at_call 39;refine(V _ ab).mono ?_;rintro e x1 ⟨U,vd,rfl,Ki⟩;obtain⟨ac,am,f,N⟩:=lD Ki.out (up ab Ki.2.2) (bH ap Ki.2.2)<|bH aq Ki.2.2;obtain⟨sa,sc,aw⟩:=Ki.1.form;obtain⟨da,db,d0,dc,au,-⟩:=Ki.2.1;subst aw au;generalize S.length=sn at *;generalize D.length=dn at *;clear Ki;dsimp only;refine a _ _ (λ_=>j _ N) ?_;clear a K;obtain⟨y0,y1,z0,z1⟩:=rY ((aj f 0).trans (rfl:_=some (aU))) ((aj f 1).trans (rfl:_=some (aU))) (aF f 0) (aF f 1);refine gG (i:=10) (k:=11) dw dH dH (λK a=>?_) (λK a=>?_);all_goals go_simp;refine a _ _ (λ_=>j _ N) ?_;clear a K
 all_goals(first|refine aT (i:=11) (by decide +kernel) dH (λK a=>?_)|refine aT (i:=10) (by decide +kernel) dH (λK a=>?_));go_simp;refine a _ _ (λ_=>j _ N) ?_;clear a K;refine aT (i:=12) dw dH (λK a=>?_);go_simp;refine a _ _ (λc=>aM (c.symm.trans dw) iJ) ?_;clear a K;refine aT (i:=13) dw dH (λK a=>?_);go_simp;refine a _ _ (λc=>aM (c.symm.trans dw) iJ) ?_;clear a K;refine dP dw ?_ _;go_wp2_with fail;have h:=ave f (X sa sn sc)<|X da dn dc;obtain⟨f0,f1⟩:=jv h;exact cZ (v:=.tuple #[.agg #[X sa sn sc,X da dn dc],O E]) (by simp[results,results21,go_sem,f0,f1]) rfl ⟨_,_,rfl,Y ⟨aa _ _<|qK ac.1 (ags f _ _) bM bM bM,agt ac.2.1 f _ _,(am.setCell (p:=(aN R 0)) (Nat.le_of_eq af.symm) _).setCell (p:=(aN R 1)) (Nat.le_of_eq af.symm) _⟩⟩
structure Cl where
 kind:Int
 text:ByteArray
def auY(w:bI)(v:Value)(l:List Cl):Prop:=
 ∃(a:Option Addr) (b off cap:Nat),v=.slice a l.length cap/\(0<l.length->a=some ⟨b,off,none⟩)/\l.length<=9223372036854775807/\
  ∀(i:Nat) s,l[i]?=some s->s.text.size<=maxLen/\w.cell? ⟨b,off+i*2,none⟩=some (.int .i64 s.kind)/\w.cell? ⟨b,off+i*2+1,none⟩=some (.string s.text)
namespace Da
theorem at0:Ck.an ⟨8196,nH,2,λ_=>2,qg,[Rd.s1]⟩ ⟨#[109]⟩=([Sm.y1],[],0):=
 (au1 (x:=Rd.s1) rfl dw).trans asD
def Told(T:aS->Option Value)(l:List Mo):Prop:=∀x∈l,∃t:aS,T x.name=some (.string t)/\prE t=0/\prX t=x/\t.size<=maxLen
def auE(o:aS->Option Value)(s:aS):aS->Option Value:=λt=>if cB t s then none else o t
theorem at1(a:s≠t):cB s t=false:=by
 cases c:cB s t with
 | true=>exact aM (dM.1 c) a
 | false=>rfl
theorem Told.put(a:Told T l)(c:prE t=0)(g:t.size<=maxLen)(f:∀y,y∈l'↔y=prX t\/(y∈l/\y.name≠(prX t).name)):Told (oQ T (prX t).name<|A t) l':=λx h=>by
 rcases(f x).1 h with rfl|⟨d,e⟩;·exact⟨t,by unfold oQ;rw[aK (dM.2 rfl)],c,rfl,g⟩
 ·obtain⟨p,i,j⟩:=a x d;exact⟨p,by unfold oQ;rw[aI (by rw[at1 e];decide)];exact i,j⟩
theorem Told.del(a:Told T l)(e:∀y,y∈l'↔y∈l/\y.name≠s):Told (auE T s) l':=λx f=>by obtain⟨c,d⟩:=(e x).1 f;obtain⟨i,g,h⟩:=a x c;exact⟨i,by unfold auE;rw[aI (by rw[at1 d];decide)];exact g,h⟩
theorem auR{x:Mo}(c:Up l)(h:Up l')(d:l[k]?=some x)(g:∀y,y∈l'↔y=x\/(y∈l.take k/\y.name≠x.name)):l'=l.take (k+1):=by
 refine aub h (List.Pairwise.sublist (List.take_sublist _ _) c) λy=>?_;rw[g y,gy,d,kI,bX,dh];constructor
 ·rintro(a|⟨a,_⟩);·exact aQ a
  ·exact aO a
 ·rintro(a|a);·refine aQ ⟨a,λe=>?_⟩;obtain⟨j,f,i⟩:=fB.1 a;have:=c.get i d f;rw[e]at this;exact lt_irrefl _ this
  ·exact aO a
end Da
theorem qo.drop{g:Array Oper}{rest:List Oper}{op:Oper}{a:Act}{e:Exit->Act->bI->Prop}(hg:op.guard=none)(m x:Operand)(t f:TypeId)(C:op.op=Op.call { callee:=Callee.builtin Builtin.delete,args:=#[m,x],argTypes:=#[t,9] })(d:prog.underlying t=some (.map 9 f))(y:a.eval m=.map (some b))(i:qo w b n z o)(D:s.size<=maxLen)(E:a.eval x=A s)(u:∀w',qo w' b n z (auE o s)->w.mapTurned w' b->wpList prog g e rest (a.put op.dst<|.tuple #[]) w'):wpList prog g e (op::rest) a w:=by
 obtain⟨h,j,p⟩:=i;refine wpList_delete_own w hg m x t 9 C f uY d sW b n h y j _ _ E (keyOf_string_mk underlying9 D) λw' q r=>u w' ⟨_,q,λt d=>?_⟩ r;cases c:cB t s with
 | true =>have:=key_eq c;subst this;rw[has_del_same,atKey_del_same];simp[auE,c]
 | false =>rw[has_del_other (yV c),atKey_del_other<|yV c];simpa[auE,c]using p t d
theorem at5{P c:Nat->Bool}(e:bK w w')(g:∀k,k<w.heap.size->P k=true->c k=true):Sub (only P w) (only c w'):=λa v h=>by obtain⟨f,d⟩:=bR.1 h;exact bR.2 ⟨g _ (eH _ _ d) f,aG d e⟩
open Go.ChangeShapes Go.WideShapes Go.ChangeAt Go.Deep Go.Joins
section
variable {H : Type} {enc : TypeId × Value → H} {W : World}
theorem auS:prog.cellsOf 69=2:=by kernel_rfl
theorem aun{α:Type}{l:List α}(h:l.length=2):∃a b,l=[a,b]:=by
 match l,h with
 | [a,b],_=>exact⟨a,b,rfl⟩
theorem auF{x:Nat}{v:aC}{d:DataW H}{p:List MemPlace}(Q:Value.okWide prog W .any x 55 v)(h:DataW.Trod enc prog W 0 (λ_=>true) true 55 v d p):∃l,auY W v l:=by
 obtain⟨u,V,c,rfl⟩:=okWide_slice underlying55 Q;obtain⟨C,e⟩:=h;have G:DataW.trod enc prog W 0 (λ_=>true) true C 55 [X u V c]=some (d,p):=e;obtain⟨a,b,off,len,cap,D,R,E,K,hD,Dj,F⟩:=kD underlying55 auS bM G;have y:∀i,i<len->∃s:Cl,s.text.size<=maxLen/\bJ W b (off+i*2)=some (O s.kind)/\bJ W b (off+i*2+1)=some (A s.text):=by intro i I;obtain⟨n0,cs,d',ad,ac,L,r,Z,Yq⟩:=F i I;obtain⟨xs,n,aa,hx,ab,S,e⟩:=DataW.trod_struct underlying69 Z;obtain⟨c,c1,rfl⟩:=aun L;obtain⟨y0,y1,rfl⟩:=aun (by simpa using S);have f:DataW.trod enc prog W 0 (λ_=>true) true n 3 (([c,c1].drop 0).take (prog.cellsOf 3))=some y0:=e 0 _ rfl;rw[yH]at f;simp only[List.drop,List.take]at f;have f1:DataW.trod enc prog W 0 (λ_=>true) true n 9 (([c,c1].drop 1).take (prog.cellsOf 9))=some y1:=e 1 _ rfl;rw[nZ]at f1;simp only[List.drop,List.take]at f1;obtain⟨U,j,_,w0⟩:=DataW.trod_int underlying3 f;obtain⟨s1,q,_,P⟩:=DataW.trod_string underlying9 f1;simp at j q;subst j q;exact⟨⟨U,s1⟩,P,r 0 bM,r 1 bM⟩
 obtain⟨l,g,M⟩:=jO len y;exact⟨l,a,b,off,cap,R.trans (by rw[g]),by rw[g];exact E,by rw[g];exact K,λi s N=>M i s N⟩
end
