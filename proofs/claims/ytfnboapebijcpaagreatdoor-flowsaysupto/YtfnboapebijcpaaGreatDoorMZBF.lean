/- What goes where, plain: how long what is noted is. -/
import Derived.Test.YtfnboapebijcpaaGreatDoorMZBE
set_option maxHeartbeats 16000000
set_option maxRecDepth 100000
namespace Go.Proofs.YtfnboapebijcpaaGreatDoor
open Fl bC aI Rn
open Go.Proofs.Tryz
open Go.RowKit
namespace Fl
theorem dU{α:Type}{f g:α->Nat}:∀{l:List α},(∀x∈l,f x<=g x)->(l.map f).sum<=(l.map g).sum
 | [],_=>bM _
 | x::l,h=>by have h0:=h x (by simp);have h1:=dU (l:=l) λy hy=>h y (by simp[hy]);simp only[dN,jE];omega
theorem wW{α:Type}{g:α->Nat}:∀{l:List α} {x:α},x∈l->g x<=(l.map g).sum
 | y::l,x,h=>by
  simp only[dN,jE];rcases eY.1 h with rfl|h;·omega
  ·have:=wW (g:=g) h;omega
theorem dZ{α β:Type}(f:α->List β)(l:List α):(l.flatMap f).length=(l.map λx=>(f x).length).sum:=by
 induction l with
 | nil=>rfl
 | cons x l ih=>simp[List.flatMap_cons,ih]
theorem jw{α:Type}(k:Nat)(f:α->Nat):∀l:List α,(l.map λx=>k*f x).sum=k*(l.map f).sum
 | []=>rfl
 | x::l=>by simp only[dN,jE,jw k f l,Nat.mul_add]
section
variable (c : Env)
theorem E9(s:ByteArray):(c.BI s).length<=1:=by unfold Env.BI;split<;>simp
theorem mM:∀(m:Nat) (x:Ex),(c.fQ m x).length<=eu m x
 | 0,_=>by simp[Env.fQ]
 | m+1,x=>by
  simp only[Env.fQ,eu,aP,dZ];have h1:=dU (l:=x.args) λy _=>mM m y;have h2:=E9 c x.name;split;·omega
  ·simp only[r9];omega
theorem Bc:∀(m:Nat) (l:List St),(c.kR m l).length<=bK m l
 | 0,_=>by simp[Env.kR]
 | m+1,l=>by
  simp only[Env.kR,bK,dZ];refine bS (dU (g:=λs:St=>s.name.size+3+eu m s.e+bK m s.a+bK m s.b) λs _=>?_) (bP _);have h1:=mM c m s.e;have h2:=Bc m s.a;have h3:=Bc m s.b;have h4:(c.jZ s).length<=1:=by
   unfold Env.jZ;split;·exact E9 c _
   ·simp
  simp only[aP];omega
theorem Mv:∀(m:Nat) (x:Ex),(cls m x).length<=eu m x
 | 0,_=>by simp[cls]
 | m+1,x=>by simp only[cls,eu,aP,dZ];have h1:=dU (l:=x.args) λy _=>Mv m y;split<;>simp only[r9,iJ]<;>omega
theorem Ig:∀(m:Nat) (l:List St),(jv m l).length<=bK m l
 | 0,_=>by simp[jv]
 | m+1,l=>by simp only[jv,bK,dZ];refine bS (dU (g:=λs:St=>s.name.size+3+eu m s.e+bK m s.a+bK m s.b) λs _=>?_) (bP _);have h1:=Mv m s.e;have h2:=Ig m s.a;have h3:=Ig m s.b;simp only[aP];omega
theorem Bd:∀(m:Nat) (l:List St),c.sJ m l<=bK m l
 | 0,_=>by simp[Env.sJ]
 | m+1,l=>by
  simp only[Env.sJ,bK];refine bS (dU (g:=λs:St=>s.name.size+3+eu m s.e+bK m s.a+bK m s.b) λs _=>?_) (bP _);have h2:=Bd m s.a;have h3:=Bd m s.b;have h4:c.uD s<=1:=by
   unfold Env.uD;split;·exact E9 c _
   ·omega
  omega
theorem Mw{K:Nat}(hK:1<=K)(hs:∀s,(c.bO s).dF.length<=K):∀(m:Nat) (x:Ex),(c.yL m x).length<=K*eu m x
 | 0,_=>by simp[Env.yL]
 | m+1,x=>by
  simp only[Env.yL,eu,aP,dZ];have h1:=dU (l:=x.args) λy _=>Mw hK hs m y;rw[jw]at h1;have h2:(if x.kind=2 then c.CO ⟨#[114,58]⟩ x.name else if x.kind=4 then (c.bO x.name).dF else []).length<=K:=by
   split;·refine bS ?_ hK;unfold Env.CO;split<;>simp
   ·split;·exact hs _
    ·simp
  have h3:K*(x.name.size+4+(x.args.map (eu m)).sum)=K*(x.name.size+4)+K*(x.args.map (eu m)).sum:=Nat.mul_add _ _ _;have h4:K*1<=K*(x.name.size+4):=Mx _ (by omega);omega
theorem MB{K:Nat}(hK:1<=K)(hs:∀s,(c.bO s).dF.length<=K):∀(m:Nat) (l:List St),(c.Na m l).length<=K*bK m l
 | 0,_=>by simp[Env.Na]
 | m+1,l=>by
  simp only[Env.Na,bK,dZ];refine bS (dU (g:=λs:St=>K*(s.name.size+3+eu m s.e+bK m s.a+bK m s.b)) λs _=>?_) (by rw[jw];exact Mx _ (bP _));have h1:=Mw c hK hs m s.e;have h2:=MB hK hs m s.a;have h3:=MB hK hs m s.b;have h4:(c.nA s).length<=1:=by
   unfold Env.nA;split;·unfold Env.CO;split<;>simp
   ·split<;>simp
  have h5:K*(s.name.size+3+eu m s.e+bK m s.a+bK m s.b)=K*(s.name.size+3)+K*eu m s.e+K*bK m s.a+K*bK m s.b:=by rw[Nat.mul_add,Nat.mul_add,Nat.mul_add]
  have h6:K*1<=K*(s.name.size+3):=Mx _ (by omega);simp only[aP];omega
theorem oP:∀(m:Nat) (x:Ex) (pc:Hg),c.qc m x->(c.iX m x pc).length<=2*eu m x
 | 0,_,_,h=>False.elim h
 | m+1,x,pc,h=>by
  simp only[Env.iX,eu,aP,dZ];have h1:=dU (l:=x.args) λy hy=>oP m y pc (h.2.2.2 y hy);rw[jw]at h1;split;·rename_i h4;have h5:=(h.2.2.1 h4).1;simp only[Env.ER,aP,cB,qE,iJ];omega
  ·simp only[r9];omega
theorem Bf:∀(m:Nat) (l:List St) (pc:Hg),c.uE m l->(c.wQ m l pc).length<=2*bK m l
 | 0,_,_,h=>False.elim h
 | m+1,l,pc,h=>by
  simp only[Env.wQ,bK,dZ];refine bS (dU (g:=λs:St=>2*(s.name.size+3+eu m s.e+bK m s.a+bK m s.b)) λs hs=>?_) (by rw[jw];omega);obtain⟨_,he,_,_,ha,hb⟩:=h s hs;have h1:=oP c m s.e (c.at m pc s) he;have h2:=Bf m s.a (c.here m pc s) ha;have h3:=Bf m s.b (c.here m pc s) hb;have h4:(c.jC s (c.here m pc s)).length<=1:=by
   unfold Env.jC;split;·unfold Env.WK;split<;>simp
   ·split<;>simp
  simp only[aP];omega
theorem MC:∀(m:Nat) (l:List St) (pc:Hg),(c.uP m l pc).length=c.sJ m l
 | 0,_,_=>by simp[Env.uP,Env.sJ]
 | m+1,l,pc=>by
  simp only[Env.uP,Env.sJ,dZ];congr 1;refine KE λs _=>?_;simp only[aP,MC m];congr 2;unfold Env.qb Env.uD Env.WL Env.BI;split;·split<;>rfl
  ·rfl
end
theorem aak{m:Nat}{x:Mo}{f:Fu}(h:f∈x.aR):f.params.length+bK m f.body+eu m f.result+2<=uM m x:=by have h1:=wW (g:=λs:Fu=>s.name.size+2+gY s.params+bK m s.body+eu m s.result) h;have h2:=pR f.params;unfold uM p8;omega
end Fl
open Go.Maps Go.WideMaps
theorem Dj:∀m,NsOk m:=by
 intro m;induction m with
 | zero=>intro w0 w q nl dn kc bG sets ve E nm k a1 a2 a3 a4 a5 a6 n1 n2 n3 n4 n5 n6 c1 c2 c3 c4 c5 c6 T v l hN hT hX;exact False.elim hX
 | succ m ih=>exact A9 m ih
def sw(w:World)(B:Nat)(v:Value)(l:List ByteArray):Prop:=(l=[]/\v=.slice none 0 0)\/∃g cap,v=.slice (some ⟨g,0,none⟩) l.length cap/\B<=g/\lF w g l
theorem sw.below{w w':World}{B:Nat}{v:Value}{l:List ByteArray}(h:sw w B v l)(hb:Below w.heap.size w w'):sw w' B v l:=by
 rcases h with h|⟨g,cap,h1,h2,h3⟩;·exact Or.inl h
 ·exact Or.inr ⟨g,cap,h1,h2,h3.below hb⟩
theorem sw.form{w:World}{B:Nat}{v:Value}{l:List ByteArray}(h:sw w B v l):∃a c,v=.slice a l.length c:=by
 rcases h with⟨rfl,rfl⟩|⟨g,cap,rfl,_⟩;·exact⟨_,_,rfl⟩
 ·exact⟨_,_,rfl⟩
theorem Own.efRow{w:World}{B:Nat}{v:Value}{l:List ByteArray}(h:Own w B v l):(l=[]/\v=.slice none 0 0)\/∃g cap,v=.slice (some ⟨g,0,none⟩) l.length cap/\l.length<=cap/\B<=g/\lF w g l:=by
 obtain⟨h0,h1⟩:=h;rcases h1 with⟨rfl,h1⟩|⟨g,cap,cur,rfl,hg,hh,hc,_,hs,ht⟩;·exact Or.inl ⟨qp.1 h1,rfl⟩
 ·refine Or.inr ⟨g,cap,rfl,hc,hg,cur,hh,by omega,λi d hd=>?_⟩;have h2:(cur.toList.take (l.length*1))[i]?=some (.string d):=by rw[ht,rF,hd];rfl
  have hi:=(dG.1 hd).1;rw[qD (by omega)]at h2;simpa using h2
structure Sq(w0 w:World)(q:Sp)(nl:List ByteArray)(dn:ByteArray->Option Value)(kc:Nat)(bG:Value)(sets:Nat)(ve:Value)(E:List ByteArray):Prop where
 blk:w.heap[q.p]?=some (.cells #[q.vn,q.vl,.int .i64 q.c.low,.string q.c.md,.map (some q.ml),bG,.map (some q.mn),.map (some q.mc),.int .i64 sets,ve] 299 (0,0))
 new:w0.heap.size<=q.p/\w0.heap.size<=q.ml/\w0.heap.size<=q.mn/\w0.heap.size<=q.mc
 levels:oG w q.ml 1048576 (λs=>(q.c.kX s).map λn:Nat=>(n:Int))
 numbers:oG w q.mn nl.length (λs=>(Fl.idx nl s).map λn:Nat=>(n:Int))
 called:xu w q.mc kc sc0 dn
 bO:∀s v,dn s=some v->xw w0 v (q.c.bO s)
 nodup:nl.Nodup
 names:Own w w0.heap.size bG nl
 fM:sw w w0.heap.size ve E
 base:Below w0.heap.size w0 w
theorem gX.sorted{w0 w w1:World}{q:Sp}{nl:List ByteArray}{dn:ByteArray->Option Value}{kc:Nat}{bG:Value}{sets:Nat}{ve v':Value}{E F:List ByteArray}(h:gX w0 w q nl dn kc bG sets ve E)(hef:sw w1 w0.heap.size v' F)(hb:(∃g,ve.ownBlock=some g/\But g w w1)\/(ve.ownBlock=none/\w1=w)):w1.heap[q.p]?=some (.cells #[q.vn,q.vl,.int .i64 q.c.low,.string q.c.md,.map (some q.ml),bG,.map (some q.mn),.map (some q.mc),.int .i64 sets,ve] 299 (0,0))/\Sq w0 (w1.setCell ⟨q.p,9,none⟩ v') q nl dn kc bG sets v' F/\Kx w0.heap.size AB w (w1.setCell ⟨q.p,9,none⟩ v'):=by
 have hblk:∀(p:Nat) o,w.heap[p]?=some o->ve.ownBlock≠some p->w1.heap[p]?=some o:=λp o hp hq=>by
  rcases hb with⟨g,hg,hb⟩|⟨_,rfl⟩;·exact hb.at (λe=>hq (by rw[hg,e])) hp
  ·exact hp
 have hkx:Kx w0.heap.size AB w w1:=by
  rcases hb with⟨g,hg,hb⟩|⟨_,rfl⟩
  ·refine⟨hb.os,hb.tape,hb.output,hb.size,λk o ho hc=>hb.at (λe=>?_) ho⟩;subst e;obtain⟨cur,hcur⟩:=h.fM.typ k hg;rw[ho]at hcur;cases hcur;rcases hc with hc|hc;·have:=(h.fM.lt k hg).1;omega
   ·exact absurd (show true=false from hc) (by decide)
  ·exact Kx.refl _
 have hne:∀(p:Nat) cs t,w.heap[p]?=some (.cells cs t (0,0))->(t≠9\/ve.ownBlock≠some p)->w1.heap[p]?=some (.cells cs t (0,0)):=λp cs t hp ht=>hblk p _ hp (λe=>by
  rcases ht with ht|ht;·obtain⟨cur,hc⟩:=h.fM.typ p e;rw[hp]at hc;simp at hc;exact ht hc.2
  ·exact ht e)
 have hmp:∀(p:Nat) es cl,w.heap[p]?=some (.map es cl)->w1.heap[p]?=some (.map es cl):=λp es cl hp=>hblk p _ hp (λe=>by obtain⟨cur,hc⟩:=h.fM.typ p e;rw[hp]at hc;cases hc);have hb1:=hne q.p _ _ h.blk (Or.inl (by decide));have hst:∀(p:Nat) o,w1.heap[p]?=some o->p≠q.p->(w1.setCell ⟨q.p,9,none⟩ v').heap[p]?=some o:=λp o hp hq=>aV hp hq v';have LP:∀(p:Nat) es cl,w.heap[p]?=some (.map es cl)->(w1.setCell ⟨q.p,9,none⟩ v').heap[p]?=w.heap[p]?:=λp es cl hp=>by rw[hp];refine hst p _ (hmp p es cl hp) (λe=>?_);subst e;rw[h.blk]at hp;cases hp
 have hstr:∀(p:Nat) cs,w1.heap[p]?=some (.cells cs 9 (0,0))->(w1.setCell ⟨q.p,9,none⟩ v').heap[p]?=some (.cells cs 9 (0,0)):=λp cs hp=>hst p _ hp (λe=>by subst e;rw[hb1]at hp;simp at hp);have rW:Kx w0.heap.size AB w1 (w1.setCell ⟨q.p,9,none⟩ v'):=Kx.set hb1 rfl h.new.1 9 _;obtain⟨e1,c1,m1⟩:=h.levels.isMap;obtain⟨e2,c2,m2⟩:=h.numbers.isMap;obtain⟨e3,c3,m3⟩:=h.called.isMap;refine⟨hb1,⟨aQ hb1 9 _,h.new,h.levels.same (LP _ _ _ m1),h.numbers.same (LP _ _ _ m2),h.called.same (LP _ _ _ m3),h.bO,h.nodup,?_,?_,?_⟩,hkx.trans rW⟩
 ·exact h.names.keep (λj cur hv hj=>hstr j cur (hne j _ _ hj (by
   rcases h.apart with ha|ha;·rw[ha]at hv;cases hv
   ·right;rw[<-hv];exact Ne.symm ha)))
 ·rcases hef with hef|⟨g,cap,hv,hg,cur,hc,hr⟩;·exact Or.inl hef
  ·exact Or.inr ⟨g,cap,hv,hg,cur,hstr g cur hc,hr⟩
 ·exact h.base.trans ((hkx.trans rW).below h.base.size)
theorem ZU(m:Nat)(w0 w:World)(q:Sp)(nl:List ByteArray)(dn:ByteArray->Option Value)(kc:Nat)(bG:Value)(sets:Nat)(ve:Value)(E:List ByteArray)(nm:ByteArray)(k:Int)(a1 a2 a3 a4 a5 a6:Option Addr)(n1 n2 n3 n4 n5 n6 c1 c2 c3 c4 c5 c6:Nat)(T:ByteArray->Prop)(f:Fu)(ap:Option Addr)(np cp:Nat)(vb e0 e1 e2 e3:Value)(hN:gX w0 w q nl dn kc bG sets ve E)(hT:Zu w0 q #[.string nm,.slice a1 n1 c1,.slice a2 n2 c2,.slice a3 n3 c3,.int .i64 k,.slice a4 n4 c4,.slice a5 n5 c5,.slice a6 n6 c6] T)(hB:dW w0 m vb f.body)(hR:gq w0 m e0 e1 e2 e3 f.result)(hO:q.c.uE m f.body)(hX:q.c.qc m f.result)(hC:∀s∈jv m f.body++Fl.cls m f.result,T s)(hmd:q.c.md.size<=8)(hln:nl.length+(q.c.kR m f.body++q.c.fQ m f.result).length<=1048576)(hlE:E.length+(q.c.Na m f.body++q.c.yL m f.result).length<=4398046511103)(hlk:kc+(jv m f.body++Fl.cls m f.result).length<=16777216)(hls:sets+q.c.sJ m f.body<=16777216):Calls prog 188 #[.pointer (some ⟨q.p,0,none⟩),.agg #[.string f.name,.slice ap np cp,vb,e0,e1,e2,e3],.agg #[.string nm,.slice a1 n1 c1,.slice a2 n2 c2,.slice a3 n3 c3,.int .i64 k,.slice a4 n4 c4,.slice a5 n5 c5,.slice a6 n6 c6]] w λe w'=>e=.returned (.tuple #[])/\Hid (∃xD UA EB ve' E',Sq w0 w' q (Fl.adds nl (q.c.kR m f.body++q.c.fQ m f.result)) xD UA EB (sets+q.c.sJ m f.body) ve' (gK (jY E'))/\UA<=kc+(jv m f.body++Fl.cls m f.result).length/\Called dn xD (jv m f.body++Fl.cls m f.result)/\CZ E E' (q.c.Na m f.body++q.c.yL m f.result)/\Kx w0.heap.size AB w w'):=by
 rw[aP]at hln hlE hlk;obtain⟨ab,cb,rfl,-⟩:=hB.shape;obtain⟨ar,cr,rfl,rfl,rfl,rfl⟩:=hR.shape;obtain⟨W,hW,k0,k1,hsz,hBW⟩:=yN w (.cells #[.string f.name,.slice ap np cp,.slice ab f.body.length cb,.int .i64 f.result.kind,.int .i64 f.result.n,.string f.result.name,.slice ar f.result.args.length cr] 132) (.cells #[.string nm,.slice a1 n1 c1,.slice a2 n2 c2,.slice a3 n3 c3,.int .i64 k,.slice a4 n4 c4,.slice a5 n5 c5,.slice a6 n6 c6] 296);have HCM:=hide (Dj m w0 W q nl dn kc bG sets ve E nm k a1 a2 a3 a4 a5 a6 n1 n2 n3 n4 n5 n6 c1 c2 c3 c4 c5 c6 T _ f.body (hN.below hBW) hT hB hO (λs hs=>hC s (cK.2 (Or.inl hs))) hmd (by omega) (by omega) (by omega) (by omega));have bR:Hid (∀w1 oO Eb ZV Ka E1,gX w0 w1 q (Fl.adds nl (q.c.kR m f.body)) oO Eb ZV (sets+q.c.sJ m f.body) Ka E1->Eb<=kc+(jv m f.body).length->E1.length<=E.length+(q.c.Na m f.body).length->_):=hide λw1 oO Eb ZV Ka E1 h1 h2 h3=>A8 m w0 w1 q (Fl.adds nl (q.c.kR m f.body)) oO Eb ZV (sets+q.c.sJ m f.body) Ka E1 nm k a1 a2 a3 a4 a5 a6 n1 n2 n3 n4 n5 n6 c1 c2 c3 c4 c5 c6 T f.result _ _ _ _ h1 hT hR hX (λs hs=>hC s (cK.2 (Or.inr hs))) hmd (by have:=bN (q.c.kR m f.body) nl;omega) (by omega) (by omega);have kK:=hide hlE;have gB:=hide k0;have iC:=hide k1;have eO:=hide hBW;have x2:=(aj k0 2).trans rfl;have y0:=(aj k1 0).trans rfl;have y1:=(aj k1 1).trans rfl;have y2:=(aj k1 2).trans rfl;have y3:=(aj k1 3).trans rfl;have y4:=(aj k1 4).trans rfl;have y5:=(aj k1 5).trans rfl;have y6:=(aj k1 6).trans rfl;have y7:=(aj k1 7).trans rfl;clear hN hT hB hR hO hX hC hmd hln hlE hlk hls hBW hsz k0 k1;subst hW;go_enter func188,ntmps188;go_wp2_with fail;refine HCM.mono ?_;rintro e w1 ⟨rfl,OJ⟩;obtain⟨oO,Eb,ZV,Ka,E1,hn1,hk1,hc1,he1,RY,-,-⟩:=OJ.out;have HCX:=hide (bR w1 oO Eb ZV Ka E1 hn1 hk1 he1.2);have HM:=hide (λ(w2:World) (hx:eH w0 w1 w2 q (Fl.adds nl (q.c.kR m f.body)) oO Eb (sets+q.c.sJ m f.body) (sets+q.c.sJ m f.body) E1 (q.c.fQ m f.result) (Fl.cls m f.result) (q.c.yL m f.result))=>eH.more (sets:=sets) (nl:=nl) (N:=q.c.kR m f.body) rfl hk1 hc1 he1 ((Kx.of_below eO).trans RY) hx);have K0:=RY.at gB rfl;have K1:=RY.at iC rfl;clear x2 y0 y1 y2 y3 y4 y5 y6 y7;have x3:=(aj K0 3).trans rfl;have x4:=(aj K0 4).trans rfl;have x5:=(aj K0 5).trans rfl;have x6:=(aj K0 6).trans rfl;have y0:=(aj K1 0).trans rfl;have y1:=(aj K1 1).trans rfl;have y2:=(aj K1 2).trans rfl;have y3:=(aj K1 3).trans rfl;have y4:=(aj K1 4).trans rfl;have y5:=(aj K1 5).trans rfl;have y6:=(aj K1 6).trans rfl;have y7:=(aj K1 7).trans rfl;clear OJ hn1 hk1 hc1 he1 RY K0 K1 HCM bR gB iC;go_wp2_with fail;refine HCX.mono ?_;rintro e w2 ⟨rfl,hh2⟩;obtain⟨cal2,kc2,vnm2,ve2,E2,hn2,hk2,hc2,he2,rW,-,-⟩:=HM w2 hh2;have Am:=hide hn2;have HR2:=hide (And.intro hk2 (And.intro hc2 (And.intro he2 rW)));have hl2:E2.length<=4398046511104:=by have:=he2.2;rw[aP]at this;have:=kK.out;omega
 clear hh2 HCX HM x3 x4 x5 x6 y0 y1 y2 y3 y4 y5 y6 y7 hk2 hc2 he2 rW;have s9:=(aj hn2.blk 9).trans rfl;rcases hn2.fM.efRow with⟨hE0,hv0⟩|⟨g,cap,hv0,hcap,hg,hrow⟩;·subst hv0;have hfin:=hn2.sorted (v':=.slice none 0 0) (F:=[]) (Or.inl ⟨rfl,rfl⟩) (Or.inr ⟨rfl,rfl⟩);obtain⟨hb1,hnt,hkx⟩:=hfin;have HNT:=hide hnt;have HKX:=hide hkx;have HE0:=hide hE0;have f9:=aD hn2.blk 9;have HS:=hide (Hq w2 none 0);have HC:=hide (IV w2);clear hn2 hnt hkx hb1 hE0;go_wp2_with fail;refine HS.mono ?_;rintro e w3 ⟨rfl,rfl⟩;go_wp2_with fail;refine HC.mono ?_;rintro e w4 ⟨rfl,rfl⟩;go_wp2_with fail;go_end0;exact⟨rfl,hide ⟨_,_,_,_,E2,by rw[HE0,show gK (jY [])=[] by simp[jY,gK]];exact HNT,HR2.1,HR2.2.1,HR2.2.2.1,HR2.2.2.2.trans HKX⟩⟩
 ·subst hv0;have HS:=hide (Hw w2 g E2.length cap E2 hrow rfl hl2);have HG:=hide hg;have Qi:=hide hcap;have hgq:q.p≠g:=λe=>by obtain⟨cur,hc,_⟩:=hrow;rw[<-e,hn2.blk]at hc;simp at hc
  have HB2:=hide hn2.blk;obtain⟨nn,hnn⟩:=aG E2.length;have Zk:=hide hnn;rw[<-hnn]at HS HB2 s9 Qi hl2;clear hn2 hrow hg hcap hnn;go_wp2_with fail;refine HS.mono ?_;rintro e w3 ⟨rfl,hr3,hb3⟩;have HB3:=hide (hb3.at hgq HB2);have HBT:=hide hb3;have HC:=hide (IZ w3 g nn cap (jY E2) hr3 (by rw[Gz];exact Zk) Qi hl2);clear s9 hr3 hb3 HS HB2;have s9:=(aj HB3 9).trans rfl;go_wp2_with fail;refine HC.mono ?_;rintro e w4 ⟨cc,rfl,hr4,hb4⟩;obtain⟨hb1,hnt,hkx⟩:=Am.sorted (w1:=w4) (v':=.slice (some ⟨g,0,none⟩) (gK (jY E2)).length cc) (F:=gK (jY E2)) (Or.inr ⟨g,cc,rfl,HG,hr4⟩) (Or.inl ⟨g,rfl,HBT.trans hb4⟩);have HNT:=hide hnt;have HKX:=hide hkx;have f9:=aD hb1 9;have s8:=(aj hb1 9).trans rfl;clear hnt hkx hr4 hb4 s9 HC HB3 hb1;obtain⟨fl,hfl⟩:=aG ((gK (jY E2)).length);rw[<-hfl]at HNT HKX ⊢;clear hfl;go_wp2_with fail;go_end0;exact⟨rfl,hide ⟨_,_,_,_,E2,HNT,HR2.1,HR2.2.1,HR2.2.2.1,HR2.2.2.2.trans HKX⟩⟩
theorem eZ{n B:Nat}{w W:World}(h:Below n w W)(hB:n<=B)(a b c d e f g:Value):Below n w (((((((W.setCell ⟨B,0,none⟩ a).setCell ⟨B,1,none⟩ b).setCell ⟨B,2,none⟩ c).setCell ⟨B,3,none⟩ d).setCell ⟨B,4,none⟩ e).setCell ⟨B,5,none⟩ f).setCell ⟨B,6,none⟩ g):=
 ((((((h.setCell hB _).setCell hB _).setCell hB _).setCell hB _).setCell hB _).setCell hB _).setCell hB _
namespace Fl
theorem eff_ext{A B:List ByteArray}(h:∀t,t∈A↔t∈B):gK (jY A)=gK (jY B):=
 zm (Ib _ (Bb A)) (Ib _ (Bb B)) λt=>by rw[vQ,vR,vQ,vR,h]
def BM(ss:List ByteArray)(G:Nat)(L:Nat->Nat)(Z:Nat->Nat->Bool)(m:Nat)(x:Mo)(k:Int)(known:List Mo)(aW:List (List Sc))(own:List Sc):Int:=
 if y8 (dD ss G L Z) m x known≠0 then y8 (dD ss G L Z) m x known
 else if aI.once (BJ ss x known m)≠[]then 5
 else if k<0\/k>=x.aR.length\/fH ss.length known aW=false\/jH ss.length (x.aR.take k.toNat) own=false then 1 else 0
end Fl
structure kF(w:World)(m:Nat)(vn vl vi vv vf vk vs vo:Value)(ss:List ByteArray)(G:Nat)(L:Nat->Nat)(Z:Nat->Nat->Bool)(x:Mo)(known:List Mo)(aW:List (List Sc))(own:List Sc):Prop where
 strs:Strs w vn ss
 WG:Qb w vl G L Z
 mo:jK w m (.agg #[.string x.name,vi,vv,vf]) x
 cap:DX w vi vf
 kn:kV w m vk known
 sc:vT w vs aW
 ow:uq w vo own
 small:uM m x<=1048576
 smalls:∀y∈known,uM m y<=1048576
 tab:Tab w
 fM:∀l∈aW,∀y∈l,y.dF.length<=1048576
 ZW:∀y∈own,y.dF.length<=1048576
section
variable {w w' : World} {m : Nat} {vn vl vi vv vf vk vs vo : Value} {ss : List ByteArray} {G : Nat} {L : Nat → Nat} {Z : Nat → Nat → Bool} {x : Mo} {known : List Mo} {aW : List (List Sc)} {own : List Sc}
theorem kF.below(h:kF w m vn vl vi vv vf vk vs vo ss G L Z x known aW own)(hb:Below w.heap.size w w'):kF w' m vn vl vi vv vf vk vs vo ss G L Z x known aW own:=
 ⟨h.strs.below hb,h.WG.below hb,h.mo.below hb,h.cap.below hb,h.kn.below hb,h.sc.below hb,h.ow.below hb,h.small,h.smalls,h.tab.below hb,h.fM,h.ZW⟩
theorem kF.check(h:kF w m vn vl vi vv vf vk vs vo ss G L Z x known aW own):Calls prog 15 #[.agg #[vn,vl],.agg #[.string x.name,vi,vv,vf],vk] w λe w'=>∃u,e=.returned (.tuple #[u,.int .i64 (y8 (dD ss G L Z) m x known)])/\xL w' u (JR (y8 (dD ss G L Z) m x known) ss x known m)/\Below w.heap.size w w':=by
 have Pt:x.imports.length<=1048576/\x.vars.length<=1048576/\x.aR.length<=1048576:=by have a1:=pR x.imports;have a2:=Md x.vars;have a3:=AX m x.aR;have hw:=h.small;unfold uM at hw;omega
 exact Rs m w vn vl vi vv vf vk ss x known _ h.strs h.mo h.kn h.cap (λwx hb=>Ic m wx vn vl vi vv vf vk ss G L Z x known (h.strs.below hb) (h.WG.below hb) (h.mo.below hb) (h.kn.below hb) h.small h.smalls (h.tab.below hb)) Pt.2.1 Pt.2.2 Pt.1 (Uz ss known h.mo h.small)
theorem kF.forms(h:kF w m vn vl vi vv vf vk vs vo ss G L Z x known aW own):(∃a c,vn=.slice a ss.length c)/\(∃a n c,vl=.slice a n c)/\(∃a n c,vi=.slice a n c)/\(∃a n c,vv=.slice a n c)/\(∃a c,vf=.slice a x.aR.length c/\x.aR.length<=c)/\(∃a n c,vk=.slice a n c)/\(∃a n c,vs=.slice a n c)/\(∃a n c,vo=.slice a n c):=by obtain⟨h1,h2,h3⟩:=h.mo.split;obtain⟨a0,_,_,c0,e0,_⟩:=h.strs;obtain⟨a1,_,_,c1,_,_,_,_,e1,_⟩:=h.WG;obtain⟨a2,_,_,c2,e2,_⟩:=h1;obtain⟨a3,_,_,c3,e3,_⟩:=h2;obtain⟨a4,_,_,c4,e4,_⟩:=h3;obtain⟨a5,_,_,c5,e5,_⟩:=h.kn;obtain⟨a6,_,_,c6,e6,_⟩:=h.sc;obtain⟨a7,_,_,c7,e7,_⟩:=h.ow;exact⟨⟨_,_,e0⟩,⟨_,_,_,e1⟩,⟨_,_,_,e2⟩,⟨_,_,_,e3⟩,⟨_,_,e4,h.cap.fus _ _ _ e4⟩,⟨_,_,_,e5⟩,⟨_,_,_,e6⟩,⟨_,_,_,e7⟩⟩
end
theorem Pv(m:Nat)(w:World)(vn vl vi vv vf vk vs vo:Value)(ss:List ByteArray)(G:Nat)(L:Nat->Nat)(Z:Nat->Nat->Bool)(x:Mo)(known:List Mo)(aW:List (List Sc))(own:List Sc)(k mn mc:Int)(hP:kF w m vn vl vi vv vf vk vs vo ss G L Z x known aW own)(hE:y8 (dD ss G L Z) m x known≠0):Calls prog 98 #[.agg #[vn,vl],.agg #[.string x.name,vi,vv,vf],.int .i64 k,vk,vs,vo,.int .i64 mn,.int .i64 mc] w λe w'=>e=.returned (.tuple #[.agg #[.slice none 0 0,.slice none 0 0,.slice none 0 0,.slice none 0 0,.int .i64 0,.int .i64 0,.slice none 0 0],.int .i64 (y8 (dD ss G L Z) m x known)])/\Below w.heap.size w w':=by obtain⟨⟨a0,c0,e0⟩,⟨a1,n1,c1,e1⟩,⟨a2,n2,c2,e2⟩,⟨a3,n3,c3,e3⟩,⟨a4,c4,e4,hcap⟩,⟨a5,n5,c5,e5⟩,⟨a6,n6,c6,e6⟩,⟨a7,n7,c7,e7⟩⟩:=hP.forms;obtain⟨n0,hn0⟩:=aG ss.length;obtain⟨n4,rz⟩:=aG x.aR.length;have BN:=hide hn0;have ME:=hide rz;rw[<-hn0]at e0;rw[<-rz]at e4 hcap;clear hn0 rz;subst e0 e1 e2 e3 e4 e5 e6 e7;have HP:=hide hP;obtain⟨W,hW,k0,k1,k2,hsz,hBW⟩:=Rl w (.cells #[.slice a0 n0 c0,.slice a1 n1 c1] 34) (.cells #[.string x.name,.slice a2 n2 c2,.slice a3 n3 c3,.slice a4 n4 c4] 26) (.cells #[.slice none 0 0,.slice none 0 0,.slice none 0 0,.slice none 0 0,.int .i64 0,.int .i64 0,.slice none 0 0] 74);have gB:=hide k0;have iC:=hide k1;have zu:=hide k2;have eO:=hide hBW;have x0:=(aj k0 0).trans rfl;have x1:=(aj k0 1).trans rfl;have y0:=(aj k1 0).trans rfl;have y1:=(aj k1 1).trans rfl;have y2:=(aj k1 2).trans rfl;have y3:=(aj k1 3).trans rfl;have qM:=hide ((hP.below hBW).check);clear k0 k1 k2 hsz hBW hP;rw[hW]at x0 x1 y0 y1 y2 y3;obtain⟨E,ZX⟩:=aG (y8 (dD ss G L Z) m x known);rw[<-ZX]at qM hE ⊢;have hz:=xI hE;clear ZX hE;go_enter func98,ntmps98;go_wp2_with fail;rw[<-hW];clear hW x0 x1 y0 y1 y2 y3;refine qM.mono ?_;rintro e w1 ⟨u,rfl,hu,hb1⟩;have HR1:=hide (aN zu hb1);have HB1:=hide (up eO hb1);clear hu hb1;have r0:=(aj HR1 0).trans rfl;have r1:=(aj HR1 1).trans rfl;have r2:=(aj HR1 2).trans rfl;have r3:=(aj HR1 3).trans rfl;have r4:=(aj HR1 4).trans rfl;have r5:=(aj HR1 5).trans rfl;have r6:=(aj HR1 6).trans rfl;have z0:=aD HR1 0;have z1:=aD HR1 1;have z2:=aD HR1 2;have z3:=aD HR1 3;have z4:=aD HR1 4;have z5:=aD HR1 5;have z6:=aD HR1 6;go_wp2_with fail;have hs:=yS HR1 (.slice none 0 0) (.slice none 0 0) (.slice none 0 0) (.slice none 0 0) (.int .i64 0) (.int .i64 0) (.slice none 0 0);have f0:=(aj hs 0).trans rfl;have f1:=(aj hs 1).trans rfl;have f2:=(aj hs 2).trans rfl;have f3:=(aj hs 3).trans rfl;have f4:=(aj hs 4).trans rfl;have f5:=(aj hs 5).trans rfl;have f6:=(aj hs 6).trans rfl;refine bodyPost_ret (v:=.tuple #[.agg #[.slice none 0 0,.slice none 0 0,.slice none 0 0,.slice none 0 0,.int .i64 0,.int .i64 0,.slice none 0 0],.int .i64 (E)]) (by simp[results,results98,go_sem,f0,f1,f2,f3,f4,f5,f6]) rfl ⟨rfl,?_⟩;exact eZ HB1 (bS (bP _) (bP _)) _ _ _ _ _ _ _
theorem Pw(m:Nat)(w:World)(vn vl vi vv vf vk vs vo:Value)(ss:List ByteArray)(G:Nat)(L:Nat->Nat)(Z:Nat->Nat->Bool)(x:Mo)(known:List Mo)(aW:List (List Sc))(own:List Sc)(k mn mc:Int)(hP:kF w m vn vl vi vv vf vk vs vo ss G L Z x known aW own)(hE:y8 (dD ss G L Z) m x known=0)(hD:aI.once (BJ ss x known m)≠[]):Calls prog 98 #[.agg #[vn,vl],.agg #[.string x.name,vi,vv,vf],.int .i64 k,vk,vs,vo,.int .i64 mn,.int .i64 mc] w λe w'=>e=.returned (.tuple #[.agg #[.slice none 0 0,.slice none 0 0,.slice none 0 0,.slice none 0 0,.int .i64 0,.int .i64 0,.slice none 0 0],.int .i64 5])/\Below w.heap.size w w':=by
 obtain⟨⟨a0,c0,e0⟩,⟨a1,n1,c1,e1⟩,⟨a2,n2,c2,e2⟩,⟨a3,n3,c3,e3⟩,⟨a4,c4,e4,hcap⟩,⟨a5,n5,c5,e5⟩,⟨a6,n6,c6,e6⟩,⟨a7,n7,c7,e7⟩⟩:=hP.forms;obtain⟨n0,hn0⟩:=aG ss.length;obtain⟨n4,rz⟩:=aG x.aR.length;have BN:=hide hn0;have ME:=hide rz;rw[<-hn0]at e0;rw[<-rz]at e4 hcap;clear hn0 rz;subst e0 e1 e2 e3 e4 e5 e6 e7;have HP:=hide hP;obtain⟨W,hW,k0,k1,k2,hsz,hBW⟩:=Rl w (.cells #[.slice a0 n0 c0,.slice a1 n1 c1] 34) (.cells #[.string x.name,.slice a2 n2 c2,.slice a3 n3 c3,.slice a4 n4 c4] 26) (.cells #[.slice none 0 0,.slice none 0 0,.slice none 0 0,.slice none 0 0,.int .i64 0,.int .i64 0,.slice none 0 0] 74);have gB:=hide k0;have iC:=hide k1;have zu:=hide k2;have eO:=hide hBW;have x0:=(aj k0 0).trans rfl;have x1:=(aj k0 1).trans rfl;have y0:=(aj k1 0).trans rfl;have y1:=(aj k1 1).trans rfl;have y2:=(aj k1 2).trans rfl;have y3:=(aj k1 3).trans rfl;have qM:=hide ((hP.below hBW).check);clear k0 k1 k2 hsz hBW hP;rw[hW]at x0 x1 y0 y1 y2 y3;rw[hE]at qM;have HD:Hid (0<(JR 0 ss x known m).length):=hide (by unfold JR;rw[if_pos rfl];exact Fw.2 hD);clear hE hD;go_enter func98,ntmps98;go_wp2_with fail;rw[<-hW];clear hW x0 x1 y0 y1 y2 y3;refine qM.mono ?_;rintro e w1 ⟨u,rfl,hu,hb1⟩;have HR1:=hide (aN zu hb1);have HB1:=hide (up eO hb1);obtain⟨ua,ub,uo,uc,rfl,-⟩:=hu;obtain⟨nd,hnd⟩:=aG ((JR 0 ss x known m).length);have hpos:0<nd:=by rw[hnd];exact HD
 rw[<-hnd];clear hnd hb1;have r0:=(aj HR1 0).trans rfl;have r1:=(aj HR1 1).trans rfl;have r2:=(aj HR1 2).trans rfl;have r3:=(aj HR1 3).trans rfl;have r4:=(aj HR1 4).trans rfl;have r5:=(aj HR1 5).trans rfl;have r6:=(aj HR1 6).trans rfl;have z0:=aD HR1 0;have z1:=aD HR1 1;have z2:=aD HR1 2;have z3:=aD HR1 3;have z4:=aD HR1 4;have z5:=aD HR1 5;have z6:=aD HR1 6;go_wp2_with fail;have hs:=yS HR1 (.slice none 0 0) (.slice none 0 0) (.slice none 0 0) (.slice none 0 0) (.int .i64 0) (.int .i64 0) (.slice none 0 0);have f0:=(aj hs 0).trans rfl;have f1:=(aj hs 1).trans rfl;have f2:=(aj hs 2).trans rfl;have f3:=(aj hs 3).trans rfl;have f4:=(aj hs 4).trans rfl;have f5:=(aj hs 5).trans rfl;have f6:=(aj hs 6).trans rfl;refine bodyPost_ret (v:=.tuple #[.agg #[.slice none 0 0,.slice none 0 0,.slice none 0 0,.slice none 0 0,.int .i64 0,.int .i64 0,.slice none 0 0],.int .i64 (5)]) (by simp[results,results98,go_sem,f0,f1,f2,f3,f4,f5,f6]) rfl ⟨rfl,?_⟩;exact eZ HB1 (bS (bP _) (bP _)) _ _ _ _ _ _ _
theorem mP.ZY{w:World}{m:Nat}{a:Option Addr}{n c k:Nat}{l:List Fu}(h:mP w m (.slice a n c) l)(hk:k<=l.length):mP w m (.slice a k c) (l.take k):=by
 obtain⟨a',b,off,cap,e,h0,hl,h1⟩:=h;injection e with e0 e1 e2;subst e0 e2;have hlen:(l.take k).length=k:=by rw[d9];omega
 refine⟨a,b,off,c,by rw[hlen],λhp=>h0 (by rw[hlen]at hp;omega),by rw[hlen];omega,λi s hs=>h1 i s ?_⟩;have hi:=(dG.1 hs).1;rw[hlen]at hi;rw[qD hi]at hs;exact hs
theorem Px(m:Nat)(w:World)(vn vl vi vv vf vk vs vo:Value)(ss:List ByteArray)(G:Nat)(L:Nat->Nat)(Z:Nat->Nat->Bool)(x:Mo)(known:List Mo)(aW:List (List Sc))(own:List Sc)(k mn mc:Int)(hP:kF w m vn vl vi vv vf vk vs vo ss G L Z x known aW own)(hE:y8 (dD ss G L Z) m x known=0)(hD:aI.once (BJ ss x known m)=[])(hk:k<0):Calls prog 98 #[.agg #[vn,vl],.agg #[.string x.name,vi,vv,vf],.int .i64 k,vk,vs,vo,.int .i64 mn,.int .i64 mc] w λe w'=>e=.returned (.tuple #[.agg #[.slice none 0 0,.slice none 0 0,.slice none 0 0,.slice none 0 0,.int .i64 0,.int .i64 0,.slice none 0 0],.int .i64 1])/\Below w.heap.size w w':=by
 obtain⟨⟨a0,c0,e0⟩,⟨a1,n1,c1,e1⟩,⟨a2,n2,c2,e2⟩,⟨a3,n3,c3,e3⟩,⟨a4,c4,e4,hcap⟩,⟨a5,n5,c5,e5⟩,⟨a6,n6,c6,e6⟩,⟨a7,n7,c7,e7⟩⟩:=hP.forms;obtain⟨n0,hn0⟩:=aG ss.length;obtain⟨n4,rz⟩:=aG x.aR.length;have BN:=hide hn0;have ME:=hide rz;rw[<-hn0]at e0;rw[<-rz]at e4 hcap;clear hn0 rz;subst e0 e1 e2 e3 e4 e5 e6 e7;have HP:=hide hP;obtain⟨W,hW,k0,k1,k2,hsz,hBW⟩:=Rl w (.cells #[.slice a0 n0 c0,.slice a1 n1 c1] 34) (.cells #[.string x.name,.slice a2 n2 c2,.slice a3 n3 c3,.slice a4 n4 c4] 26) (.cells #[.slice none 0 0,.slice none 0 0,.slice none 0 0,.slice none 0 0,.int .i64 0,.int .i64 0,.slice none 0 0] 74);have gB:=hide k0;have iC:=hide k1;have zu:=hide k2;have eO:=hide hBW;have x0:=(aj k0 0).trans rfl;have x1:=(aj k0 1).trans rfl;have y0:=(aj k1 0).trans rfl;have y1:=(aj k1 1).trans rfl;have y2:=(aj k1 2).trans rfl;have y3:=(aj k1 3).trans rfl;have qM:=hide ((hP.below hBW).check);clear k0 k1 k2 hsz hBW hP;rw[hW]at x0 x1 y0 y1 y2 y3;rw[hE]at qM;have HD:Hid ((JR 0 ss x known m).length=0):=hide (by unfold JR;rw[if_pos rfl,hD];rfl);have hk1:decide (k<0)=true:=decide_eq_true hk;clear hE hD;go_enter func98,ntmps98;go_wp2_with fail;rw[<-hW];clear hW x0 x1 y0 y1 y2 y3;refine qM.mono ?_;rintro e w1 ⟨u,rfl,hu,hb1⟩;have xG:=hide (aN gB hb1);have j3:=hide (aN iC hb1);have HR1:=hide (aN zu hb1);have HB1:=hide (up eO hb1);obtain⟨ua,ub,uo,uc,rfl,-⟩:=hu;rw[HD];have x0:=aM ((aj xG 0).trans rfl);have x1:=aM ((aj xG 1).trans rfl);have y3:=aM ((aj j3 3).trans rfl);clear hb1;go_wp2_with fail;refine aO (by kernel_rfl) (by kernel_rfl) ?_;repeat(with_reducible(refine wpQuiet_step (λKQ eG=>?_));go_simp;first|(with_reducible(refine eG _ ?_);clear eG KQ)|(rw[if_neg (by simp[undef])];with_reducible(refine eG _ ?_);clear eG KQ)|(apply Exists.intro;refine⟨λ_=>?_,eG _ ?_⟩;(fail);clear eG KQ))
 with_reducible(refine wpQuiet_nil ?_)
 intro w2 hw';obtain⟨⟨nq,osq⟩,hw''⟩:=hw';have hb2:Below w1.heap.size w1 w2:=by rw[hw''];exact aS w1 nq osq
 have HB2:=hide (up HB1 hb2);have HR2:=hide (aN HR1 hb2);clear hw'' hb2 x0 x1 y3;have r0:=(aj HR2 0).trans rfl;have r1:=(aj HR2 1).trans rfl;have r2:=(aj HR2 2).trans rfl;have r3:=(aj HR2 3).trans rfl;have r4:=(aj HR2 4).trans rfl;have r5:=(aj HR2 5).trans rfl;have r6:=(aj HR2 6).trans rfl;have z0:=aD HR2 0;have z1:=aD HR2 1;have z2:=aD HR2 2;have z3:=aD HR2 3;have z4:=aD HR2 4;have z5:=aD HR2 5;have z6:=aD HR2 6;go_wp2_with fail;have hs:=yS HR2 (.slice none 0 0) (.slice none 0 0) (.slice none 0 0) (.slice none 0 0) (.int .i64 0) (.int .i64 0) (.slice none 0 0);have f0:=(aj hs 0).trans rfl;have f1:=(aj hs 1).trans rfl;have f2:=(aj hs 2).trans rfl;have f3:=(aj hs 3).trans rfl;have f4:=(aj hs 4).trans rfl;have f5:=(aj hs 5).trans rfl;have f6:=(aj hs 6).trans rfl;refine bodyPost_ret (v:=.tuple #[.agg #[.slice none 0 0,.slice none 0 0,.slice none 0 0,.slice none 0 0,.int .i64 0,.int .i64 0,.slice none 0 0],.int .i64 (1)]) (by simp[results,results98,go_sem,f0,f1,f2,f3,f4,f5,f6]) rfl ⟨rfl,?_⟩;exact eZ HB2 (bS (bP _) (bP _)) _ _ _ _ _ _ _
theorem Py(m:Nat)(w:World)(vn vl vi vv vf vk vs vo:Value)(ss:List ByteArray)(G:Nat)(L:Nat->Nat)(Z:Nat->Nat->Bool)(x:Mo)(known:List Mo)(aW:List (List Sc))(own:List Sc)(k mn mc:Int)(hP:kF w m vn vl vi vv vf vk vs vo ss G L Z x known aW own)(hE:y8 (dD ss G L Z) m x known=0)(hD:aI.once (BJ ss x known m)=[])(hk0:¬k<0)(hk:k>=x.aR.length):Calls prog 98 #[.agg #[vn,vl],.agg #[.string x.name,vi,vv,vf],.int .i64 k,vk,vs,vo,.int .i64 mn,.int .i64 mc] w λe w'=>e=.returned (.tuple #[.agg #[.slice none 0 0,.slice none 0 0,.slice none 0 0,.slice none 0 0,.int .i64 0,.int .i64 0,.slice none 0 0],.int .i64 1])/\Below w.heap.size w w':=by
 obtain⟨⟨a0,c0,e0⟩,⟨a1,n1,c1,e1⟩,⟨a2,n2,c2,e2⟩,⟨a3,n3,c3,e3⟩,⟨a4,c4,e4,hcap⟩,⟨a5,n5,c5,e5⟩,⟨a6,n6,c6,e6⟩,⟨a7,n7,c7,e7⟩⟩:=hP.forms;obtain⟨n0,hn0⟩:=aG ss.length;obtain⟨n4,rz⟩:=aG x.aR.length;have BN:=hide hn0;have ME:=hide rz;rw[<-hn0]at e0;rw[<-rz]at e4 hcap;clear hn0 rz;subst e0 e1 e2 e3 e4 e5 e6 e7;have HP:=hide hP;obtain⟨W,hW,k0,k1,k2,hsz,hBW⟩:=Rl w (.cells #[.slice a0 n0 c0,.slice a1 n1 c1] 34) (.cells #[.string x.name,.slice a2 n2 c2,.slice a3 n3 c3,.slice a4 n4 c4] 26) (.cells #[.slice none 0 0,.slice none 0 0,.slice none 0 0,.slice none 0 0,.int .i64 0,.int .i64 0,.slice none 0 0] 74);have gB:=hide k0;have iC:=hide k1;have zu:=hide k2;have eO:=hide hBW;have x0:=(aj k0 0).trans rfl;have x1:=(aj k0 1).trans rfl;have y0:=(aj k1 0).trans rfl;have y1:=(aj k1 1).trans rfl;have y2:=(aj k1 2).trans rfl;have y3:=(aj k1 3).trans rfl;have qM:=hide ((hP.below hBW).check);clear k0 k1 k2 hsz hBW hP;rw[hW]at x0 x1 y0 y1 y2 y3;rw[hE]at qM;have HD:Hid ((JR 0 ss x known m).length=0):=hide (by unfold JR;rw[if_pos rfl,hD];rfl);rw[<-ME]at hk;have hk1:decide (k>=(n4:Int))=true:=decide_eq_true hk;clear hE hD;go_enter func98,ntmps98;go_wp2_with fail;rw[<-hW];clear hW x0 x1 y0 y1 y2 y3;refine qM.mono ?_;rintro e w1 ⟨u,rfl,hu,hb1⟩;have xG:=hide (aN gB hb1);have j3:=hide (aN iC hb1);have HR1:=hide (aN zu hb1);have HB1:=hide (up eO hb1);obtain⟨ua,ub,uo,uc,rfl,-⟩:=hu;rw[HD];have x0:=aM ((aj xG 0).trans rfl);have x1:=aM ((aj xG 1).trans rfl);have y3:=aM ((aj j3 3).trans rfl);clear hb1;go_wp2_with fail;refine aO (by kernel_rfl) (by kernel_rfl) ?_;repeat(with_reducible(refine wpQuiet_step (λKQ eG=>?_));go_simp;first|(with_reducible(refine eG _ ?_);clear eG KQ)|(rw[if_neg (by simp[undef])];with_reducible(refine eG _ ?_);clear eG KQ)|(apply Exists.intro;refine⟨λ_=>?_,eG _ ?_⟩;(fail);clear eG KQ))
 with_reducible(refine wpQuiet_nil ?_)
 intro w2 hw';obtain⟨⟨nq,osq⟩,hw''⟩:=hw';have hb2:Below w1.heap.size w1 w2:=by rw[hw''];exact aS w1 nq osq
 have HB2:=hide (up HB1 hb2);have HR2:=hide (aN HR1 hb2);clear hw'' hb2 x0 x1 y3;have r0:=(aj HR2 0).trans rfl;have r1:=(aj HR2 1).trans rfl;have r2:=(aj HR2 2).trans rfl;have r3:=(aj HR2 3).trans rfl;have r4:=(aj HR2 4).trans rfl;have r5:=(aj HR2 5).trans rfl;have r6:=(aj HR2 6).trans rfl;have z0:=aD HR2 0;have z1:=aD HR2 1;have z2:=aD HR2 2;have z3:=aD HR2 3;have z4:=aD HR2 4;have z5:=aD HR2 5;have z6:=aD HR2 6;go_wp2_with fail;have hs:=yS HR2 (.slice none 0 0) (.slice none 0 0) (.slice none 0 0) (.slice none 0 0) (.int .i64 0) (.int .i64 0) (.slice none 0 0);have f0:=(aj hs 0).trans rfl;have f1:=(aj hs 1).trans rfl;have f2:=(aj hs 2).trans rfl;have f3:=(aj hs 3).trans rfl;have f4:=(aj hs 4).trans rfl;have f5:=(aj hs 5).trans rfl;have f6:=(aj hs 6).trans rfl;refine bodyPost_ret (v:=.tuple #[.agg #[.slice none 0 0,.slice none 0 0,.slice none 0 0,.slice none 0 0,.int .i64 0,.int .i64 0,.slice none 0 0],.int .i64 (1)]) (by simp[results,results98,go_sem,f0,f1,f2,f3,f4,f5,f6]) rfl ⟨rfl,?_⟩;exact eZ HB2 (bS (bP _) (bP _)) _ _ _ _ _ _ _
theorem Pz(m:Nat)(w:World)(vn vl vi vv vf vk vs vo:Value)(ss:List ByteArray)(G:Nat)(L:Nat->Nat)(Z:Nat->Nat->Bool)(x:Mo)(known:List Mo)(aW:List (List Sc))(own:List Sc)(k mn mc:Int)(hP:kF w m vn vl vi vv vf vk vs vo ss G L Z x known aW own)(hE:y8 (dD ss G L Z) m x known=0)(hD:aI.once (BJ ss x known m)=[])(kn:Nat)(hkk:k=kn)(hkn:kn<x.aR.length)(hf:Fl.fH ss.length known aW=false):Calls prog 98 #[.agg #[vn,vl],.agg #[.string x.name,vi,vv,vf],.int .i64 k,vk,vs,vo,.int .i64 mn,.int .i64 mc] w λe w'=>e=.returned (.tuple #[.agg #[.slice none 0 0,.slice none 0 0,.slice none 0 0,.slice none 0 0,.int .i64 0,.int .i64 0,.slice none 0 0],.int .i64 1])/\Below w.heap.size w w':=by
 obtain⟨⟨a0,c0,e0⟩,⟨a1,n1,c1,e1⟩,⟨a2,n2,c2,e2⟩,⟨a3,n3,c3,e3⟩,⟨a4,c4,e4,hcap⟩,⟨a5,n5,c5,e5⟩,⟨a6,n6,c6,e6⟩,⟨a7,n7,c7,e7⟩⟩:=hP.forms;obtain⟨n0,hn0⟩:∃n,n=ss.length:=⟨_,rfl⟩;obtain⟨n4,rz⟩:∃n,n=x.aR.length:=⟨_,rfl⟩;have BN:=hide hn0;have ME:=hide rz;rw[<-hn0]at e0;rw[<-rz]at e4 hcap;clear hn0 rz;subst e0 e1 e2 e3 e4 e5 e6 e7;have HP:=hide hP;obtain⟨W,hW,k0,k1,k2,hsz,hBW⟩:=Rl w (.cells #[.slice a0 n0 c0,.slice a1 n1 c1] 34) (.cells #[.string x.name,.slice a2 n2 c2,.slice a3 n3 c3,.slice a4 n4 c4] 26) (.cells #[.slice none 0 0,.slice none 0 0,.slice none 0 0,.slice none 0 0,.int .i64 0,.int .i64 0,.slice none 0 0] 74);have gB:=hide k0;have iC:=hide k1;have zu:=hide k2;have eO:=hide hBW;have x0:=(aj k0 0).trans rfl;have x1:=(aj k0 1).trans rfl;have y0:=(aj k1 0).trans rfl;have y1:=(aj k1 1).trans rfl;have y2:=(aj k1 2).trans rfl;have y3:=(aj k1 3).trans rfl;have qM:=hide ((hP.below hBW).check);clear k0 k1 k2 hsz hBW hP;rw[hW]at x0 x1 y0 y1 y2 y3;rw[hE]at qM;have HD:Hid ((JR 0 ss x known m).length=0):=hide (by unfold JR;rw[if_pos rfl,hD];rfl);subst hkk;have HKL:=hide (Nat.le_of_lt hkn);have hkn':kn<n4:=by rw[ME.out];exact hkn
 have hkc:kn<=c4:=by omega
 clear hkn;have HF:=hide hf;clear hf;clear hE hD;go_enter func98,ntmps98;go_wp2_with fail;rw[<-hW];clear hW x0 x1 y0 y1 y2 y3;refine qM.out.mono ?_;rintro e w1 ⟨u,rfl,hu,hb1⟩;have xG:=hide (aN gB.out hb1);have j3:=hide (aN iC.out hb1);have HR1:=hide (aN zu.out hb1);have HB1:=hide (up eO.out hb1);obtain⟨ua,ub,uo,uc,rfl,-⟩:=hu;rw[HD.out];have x0:=aM ((aj xG.out 0).trans rfl);have x1:=aM ((aj xG.out 1).trans rfl);have y3:=aM ((aj j3.out 3).trans rfl);clear hb1;have Sr:=hide (λq os=>yZ m (gn w1 q os) a0 (.slice a1 n1 c1) n0 c0 (.slice a5 n5 c5) (.slice a6 n6 c6) known aW (HP.out.kn.below (up HB1.out (aS w1 q os))) (HP.out.sc.below (up HB1.out (aS w1 q os))));rw[BN.out]at Sr;rw[HF.out]at Sr;rw[<-BN.out]at Sr;go_wp2_with fail;refine aO (by kernel_rfl) (by kernel_rfl) ?_;repeat(with_reducible(refine wpQuiet_step (λKQ eG=>?_));go_simp;first|(with_reducible(refine eG _ ?_);clear eG KQ)|(rw[if_neg (by simp[undef])];with_reducible(refine eG _ ?_);clear eG KQ)|(apply Exists.intro;refine⟨λ_=>?_,eG _ ?_⟩;((exact Calls.fJ (Sr.out _ _)));clear eG KQ))
 with_reducible(refine wpQuiet_nil ?_)
 intro w2 hw';obtain⟨⟨nq,osq⟩,hw''⟩:=hw';have hb2:Below w1.heap.size w1 w2:=by rw[hw''];exact aS w1 nq osq
 have HB2:=hide (up HB1.out hb2);have HR2:=hide (aN HR1.out hb2);clear hw'' hb2 x0 x1 y3;have r0:=(aj HR2.out 0).trans rfl;have r1:=(aj HR2.out 1).trans rfl;have r2:=(aj HR2.out 2).trans rfl;have r3:=(aj HR2.out 3).trans rfl;have r4:=(aj HR2.out 4).trans rfl;have r5:=(aj HR2.out 5).trans rfl;have r6:=(aj HR2.out 6).trans rfl;have z0:=aD HR2.out 0;have z1:=aD HR2.out 1;have z2:=aD HR2.out 2;have z3:=aD HR2.out 3;have z4:=aD HR2.out 4;have z5:=aD HR2.out 5;have z6:=aD HR2.out 6;go_wp2_with fail;have hs:=yS HR2.out (.slice none 0 0) (.slice none 0 0) (.slice none 0 0) (.slice none 0 0) (.int .i64 0) (.int .i64 0) (.slice none 0 0);have f0:=(aj hs 0).trans rfl;have f1:=(aj hs 1).trans rfl;have f2:=(aj hs 2).trans rfl;have f3:=(aj hs 3).trans rfl;have f4:=(aj hs 4).trans rfl;have f5:=(aj hs 5).trans rfl;have f6:=(aj hs 6).trans rfl;refine bodyPost_ret (v:=.tuple #[.agg #[.slice none 0 0,.slice none 0 0,.slice none 0 0,.slice none 0 0,.int .i64 0,.int .i64 0,.slice none 0 0],.int .i64 (1)]) (by simp[results,results98,go_sem,f0,f1,f2,f3,f4,f5,f6]) rfl ⟨rfl,?_⟩;exact eZ HB2.out (Nat.le_trans (Nat.le_succ _) (Nat.le_succ _)) _ _ _ _ _ _ _
theorem PE(m:Nat)(w:World)(vn vl vi vv vf vk vs vo:Value)(ss:List ByteArray)(G:Nat)(L:Nat->Nat)(Z:Nat->Nat->Bool)(x:Mo)(known:List Mo)(aW:List (List Sc))(own:List Sc)(k mn mc:Int)(hP:kF w m vn vl vi vv vf vk vs vo ss G L Z x known aW own)(hE:y8 (dD ss G L Z) m x known=0)(hD:aI.once (BJ ss x known m)=[])(kn:Nat)(hkk:k=kn)(hkn:kn<x.aR.length)(hf:Fl.fH ss.length known aW=true)(ho:jH ss.length (x.aR.take kn) own=false):Calls prog 98 #[.agg #[vn,vl],.agg #[.string x.name,vi,vv,vf],.int .i64 k,vk,vs,vo,.int .i64 mn,.int .i64 mc] w λe w'=>e=.returned (.tuple #[.agg #[.slice none 0 0,.slice none 0 0,.slice none 0 0,.slice none 0 0,.int .i64 0,.int .i64 0,.slice none 0 0],.int .i64 1])/\Below w.heap.size w w':=by
 obtain⟨⟨a0,c0,e0⟩,⟨a1,n1,c1,e1⟩,⟨a2,n2,c2,e2⟩,⟨a3,n3,c3,e3⟩,⟨a4,c4,e4,hcap⟩,⟨a5,n5,c5,e5⟩,⟨a6,n6,c6,e6⟩,⟨a7,n7,c7,e7⟩⟩:=hP.forms;obtain⟨n0,hn0⟩:∃n,n=ss.length:=⟨_,rfl⟩;obtain⟨n4,rz⟩:∃n,n=x.aR.length:=⟨_,rfl⟩;have BN:=hide hn0;have ME:=hide rz;rw[<-hn0]at e0;rw[<-rz]at e4 hcap;clear hn0 rz;subst e0 e1 e2 e3 e4 e5 e6 e7;have HP:=hide hP;obtain⟨W,hW,k0,k1,k2,hsz,hBW⟩:=Rl w (.cells #[.slice a0 n0 c0,.slice a1 n1 c1] 34) (.cells #[.string x.name,.slice a2 n2 c2,.slice a3 n3 c3,.slice a4 n4 c4] 26) (.cells #[.slice none 0 0,.slice none 0 0,.slice none 0 0,.slice none 0 0,.int .i64 0,.int .i64 0,.slice none 0 0] 74);have gB:=hide k0;have iC:=hide k1;have zu:=hide k2;have eO:=hide hBW;have x0:=(aj k0 0).trans rfl;have x1:=(aj k0 1).trans rfl;have y0:=(aj k1 0).trans rfl;have y1:=(aj k1 1).trans rfl;have y2:=(aj k1 2).trans rfl;have y3:=(aj k1 3).trans rfl;have qM:=hide ((hP.below hBW).check);clear k0 k1 k2 hsz hBW hP;rw[hW]at x0 x1 y0 y1 y2 y3;rw[hE]at qM;have HD:Hid ((JR 0 ss x known m).length=0):=hide (by unfold JR;rw[if_pos rfl,hD];rfl);subst hkk;have HKL:=hide (Nat.le_of_lt hkn);have hkn':kn<n4:=by rw[ME.out];exact hkn
 have hkc:kn<=c4:=by omega
 clear hkn;have HF:=hide hf;have HO:=hide ho;clear hf ho;clear hE hD;go_enter func98,ntmps98;go_wp2_with fail;rw[<-hW];clear hW x0 x1 y0 y1 y2 y3;refine qM.out.mono ?_;rintro e w1 ⟨u,rfl,hu,hb1⟩;have xG:=hide (aN gB.out hb1);have j3:=hide (aN iC.out hb1);have HR1:=hide (aN zu.out hb1);have HB1:=hide (up eO.out hb1);obtain⟨ua,ub,uo,uc,rfl,-⟩:=hu;rw[HD.out];have x0:=aM ((aj xG.out 0).trans rfl);have x1:=aM ((aj xG.out 1).trans rfl);have y3:=aM ((aj j3.out 3).trans rfl);clear hb1;have Sr:=hide (λq os=>yZ m (gn w1 q os) a0 (.slice a1 n1 c1) n0 c0 (.slice a5 n5 c5) (.slice a6 n6 c6) known aW (HP.out.kn.below (up HB1.out (aS w1 q os))) (HP.out.sc.below (up HB1.out (aS w1 q os))));rw[BN.out]at Sr;rw[HF.out]at Sr;rw[<-BN.out]at Sr;have V7:=hide (λq os=>Mk m (gn w1 q os) a0 (.slice a1 n1 c1) n0 c0 (.slice a4 kn c4) (.slice a7 n7 c7) (x.aR.take kn) own ((HP.out.mo.split.2.2.ZY HKL.out).below (up HB1.out (aS w1 q os))) (HP.out.ow.below (up HB1.out (aS w1 q os))));rw[BN.out]at V7;rw[HO.out]at V7;rw[<-BN.out]at V7;go_wp2_with fail;refine aO (by kernel_rfl) (by kernel_rfl) ?_;repeat(with_reducible(refine wpQuiet_step (λKQ eG=>?_));go_simp;first|(with_reducible(refine eG _ ?_);clear eG KQ)|(rw[if_neg (by simp[undef])];with_reducible(refine eG _ ?_);clear eG KQ)|(apply Exists.intro;refine⟨λ_=>?_,eG _ ?_⟩;(first|(exact Calls.fJ (Sr.out _ _))|(exact Calls.fJ (V7.out _ _)));clear eG KQ))
 with_reducible(refine wpQuiet_nil ?_)
 intro w2 hw';obtain⟨⟨nq,osq⟩,hw''⟩:=hw';have hb2:Below w1.heap.size w1 w2:=by rw[hw''];exact aS w1 nq osq
 have HB2:=hide (up HB1.out hb2);have HR2:=hide (aN HR1.out hb2);clear hw'' hb2 x0 x1 y3;have r0:=(aj HR2.out 0).trans rfl;have r1:=(aj HR2.out 1).trans rfl;have r2:=(aj HR2.out 2).trans rfl;have r3:=(aj HR2.out 3).trans rfl;have r4:=(aj HR2.out 4).trans rfl;have r5:=(aj HR2.out 5).trans rfl;have r6:=(aj HR2.out 6).trans rfl;have z0:=aD HR2.out 0;have z1:=aD HR2.out 1;have z2:=aD HR2.out 2;have z3:=aD HR2.out 3;have z4:=aD HR2.out 4;have z5:=aD HR2.out 5;have z6:=aD HR2.out 6;go_wp2_with fail;have hs:=yS HR2.out (.slice none 0 0) (.slice none 0 0) (.slice none 0 0) (.slice none 0 0) (.int .i64 0) (.int .i64 0) (.slice none 0 0);have f0:=(aj hs 0).trans rfl;have f1:=(aj hs 1).trans rfl;have f2:=(aj hs 2).trans rfl;have f3:=(aj hs 3).trans rfl;have f4:=(aj hs 4).trans rfl;have f5:=(aj hs 5).trans rfl;have f6:=(aj hs 6).trans rfl;refine bodyPost_ret (v:=.tuple #[.agg #[.slice none 0 0,.slice none 0 0,.slice none 0 0,.slice none 0 0,.int .i64 0,.int .i64 0,.slice none 0 0],.int .i64 (1)]) (by simp[results,results98,go_sem,f0,f1,f2,f3,f4,f5,f6]) rfl ⟨rfl,?_⟩;exact eZ HB2.out (Nat.le_trans (Nat.le_succ _) (Nat.le_succ _)) _ _ _ _ _ _ _
namespace bC
variable {Z : Nat → Nat → Bool} {n : Nat}
theorem Ih(h:Joins Z n){a b:Nat}(ha:a<n)(hb:b<n):nX Z n a b=(l9 Z n a b:Nat):=by obtain⟨c,hc⟩:=h.has a b ha hb;unfold nX l9;rw[hc];rfl
theorem Ii(k:Joins (tr Z) n)(hn:0<n){x:Nat}(hx:x<n)(h:∀d,d<n->Z x d=true):x=sQ Z n:=by obtain⟨h1,h2⟩:=Nv k hn;exact k.anti x (sQ Z n) hx h1 (h2 x hx) (h _ h1)
theorem Kj(k:Joins (tr Z) n){x a m:Nat}(hx:x<n)(ha:a<n)(h:∀d,d<m->Z x d=true)(hma:m=a):l9 (tr Z) n x a<n/\∀d,d<m+1->Z (l9 (tr Z) n x a) d=true:=by
 have p:=k.spec hx ha;refine⟨p.lt,λd hd=>?_⟩;by_cases e:d=a;·subst e;exact p.right
 ·exact k.trans d x _ (by omega) hx p.lt (h d (by omega)) p.left
end bC
theorem V8(w:World)(ad:Option Addr)(vl:Value)(n cap:Nat)(Z:Nat->Nat->Bool)(hG:mO w vl n Z)(hn0:0<n)(hn:n<=6)(hJ:bC.Joins Z n)(hM:bC.Joins (bC.tr Z) n):Calls prog 91 #[.agg #[.slice ad n cap,vl]] w λe w'=>e=.returned (.tuple #[.int .i64 (sQ Z n:Nat),.int .i64 (sQ (bC.tr Z) n:Nat)])/\Below w.heap.size w w':=by
 have HG:=hide (hG.below (aB w (.cells #[.slice ad n cap,vl] 34)));have HJ:=hide hJ;have HM:=hide hM;have q0:=zJ w (.slice ad n cap) vl 34;have Q1:=hide (mQ w (.slice ad n cap) vl 34);have HB0:=hide (aB w (.cells #[.slice ad n cap,vl] 34));clear hG hJ hM;go_enter func91,ntmps91;go_wp2;generalize w.alloc (.cells #[.slice ad n cap,vl] 34)=W0 at *;obtain⟨gb,go,gc,RB,RO,C,hvl,g1,g2⟩:=HG.out;have p1:=Q1.out;rw[hvl]at p1;have Qf:=hide g1;have HG2:=hide g2;clear g1 g2 hvl;go_loop [4,5,6] (λx y i=>∃lo hi k:Nat,lo<n/\hi<n/\k<=n/\x=.int .i64 lo/\y=.int .i64 hi/\i=.int .i64 k) (λ_ _ i=>n - (intOf i).toNat);case atStart=>exact⟨0,0,0,hn0,hn0,bJ _,rfl,rfl,rfl⟩
 case round=>
  obtain⟨lo,hi,k,hlo,hhi,hk,rfl,rfl,rfl⟩:=hrel;by_cases hlt:k<n
  ·have r1:=Qf k hlt;have r2:=Qf hi hhi;have c1:=HG2 k lo hlt hlo;have c2:=HG2 hi k hhi hlt;cases z1:Z k lo;all_goals cases z2:Z hi k
   all_goals
    rw[z1]at c1;rw[z2]at c2;clear z1 z2;go_wp2;go_round;case rel=>first|exact⟨lo,hi,k+1,hlo,hhi,by omega,rfl,rfl,by go_num⟩|exact⟨lo,k,k+1,hlo,hlt,by omega,rfl,rfl,by go_num⟩|exact⟨k,hi,k+1,hlt,hhi,by omega,rfl,rfl,by go_num⟩|exact⟨k,k,k+1,hlt,hlt,by omega,rfl,rfl,by go_num⟩
    case measure=>simp[intOf];omega
  ·clear p1 Qf HG2;go_wp2;go_loopw[4,5,7] (λx y i wr=>∃lo hi k:Nat,lo<n/\hi<n/\k<=n/\x=.int .i64 lo/\y=.int .i64 hi/\i=.int .i64 k/\(0<k->(∀d,d<n->Z lo d=true)/\∀d,d<n->bC.tr Z hi d=true)/\Below W0.heap.size W0 wr) (λ_ _ i _=>n - (intOf i).toNat);case atStart=>exact⟨lo,hi,0,hlo,hhi,bJ _,rfl,rfl,rfl,λh=>absurd h (Nat.lt_irrefl _),aX _ _⟩
   case round=>
    obtain⟨lo,hi,k,hlo,hhi,hk,rfl,rfl,rfl,hall,hnx⟩:=hrel;have HA:=hide hall;clear hall;have t0:=aA q0 hnx;by_cases hlt:k<n
    ·have bR:=hide hnx;clear hnx;go_wp2;clear t0;go_loopw[4,5,8] (λx y i wi=>∃lo hi m:Nat,lo<n/\hi<n/\m<=n/\x=.int .i64 lo/\y=.int .i64 hi/\i=.int .i64 m/\(∀d,d<m->Z lo d=true)/\(∀d,d<m->bC.tr Z hi d=true)/\Below W0.heap.size W0 wi) (λ_ _ i _=>n - (intOf i).toNat);case atStart=>exact⟨lo,hi,0,hlo,hhi,bJ _,rfl,rfl,rfl,λd hd=>absurd hd (dY _),λd hd=>absurd hd (dY _),bR⟩
     case round=>
      obtain⟨lo,hi,m,hlo,hhi,hm,rfl,rfl,rfl,hall,hall2,hnx⟩:=hrel;have HL:=hide hall;have HH:=hide hall2;clear hall hall2 bR;have t0:=aA q0 hnx;have bR:=hide hnx;clear hnx;by_cases hmn:m<n
      ·have HF:Hid (∀wx,Hid (Below W0.heap.size W0 wx)->Hid (Below W0.heap.size W0 wx)/\wx.cell? ⟨w.heap.size,0,none⟩=some (.slice ad n cap)/\wx.cell? ⟨w.heap.size,1,none⟩=some vl):=
        λwx h=>⟨h,aA q0 h,aA Q1 h⟩
       have E1:=hide (Ih HM hlo hmn);have E2:=hide (Ih HJ hhi hmn);have S1:=hide (Kj HM hlo hmn HL rfl);have S2:=hide (Kj (Z:=bC.tr Z) HJ hhi hmn HH rfl);obtain⟨lo2,hlo2⟩:=aG (l9 (bC.tr Z) n lo m);obtain⟨hi2,hhi2⟩:=aG (l9 Z n hi m);rw[<-hlo2]at E1 S1;rw[tr_tr,<-hhi2]at S2;rw[<-hhi2]at E2;clear hlo2 hhi2 q0;go_wp2_with fail
       go_region_held3 (λwx=>Hid (Below W0.heap.size W0 wx)/\wx.cell? ⟨w.heap.size,0,none⟩=some (.slice ad n cap)/\wx.cell? ⟨w.heap.size,1,none⟩=some vl)
        (first|exact HF _ Ab|exact HF _ qP|exact HF _ (hide bR.drew))
        (first
         | (go_at_call 107;refine(JY _ ad vl n cap lo m Z ?_ hn hlo hmn).mono ?_;(exact HG.below bR.drew);rintro e w30 ⟨rfl,Ac⟩;have qP:=hide (up bR.drew Ac);clear Ac;rw[E1])
         | (go_at_call 121;refine(wU _ ad vl n cap hi m Z ?_ hn hhi hmn).mono ?_;(exact HG.below qP);rintro e w31 ⟨rfl,Ad⟩;have Ab:=hide (up qP Ad);clear Ad;rw[E2]))
       all_goals
        go_wp2;go_roundw;case rel=>exact⟨lo2,hi2,m+1,S1.1,S2.1,by omega,rfl,rfl,by go_num,S1.2,S2.2,Ab⟩
        case measure=>simp[intOf];omega
      ·go_wp2;go_roundw;case rel=>exact⟨lo,hi,k+1,hlo,hhi,by omega,rfl,rfl,by go_num,λ_=>⟨λd hd=>HL d (by omega),λd hd=>HH d (by omega)⟩,bR⟩
       case measure=>simp[intOf];omega
    ·go_wp2;go_ret2;obtain⟨a1,a2⟩:=HA (by omega);exact⟨Xf (by rw[<-Ii HM hn0 hlo a1]) (by rw[<-Ii (Z:=bC.tr Z) HJ hn0 hhi a2]),up HB0 hnx⟩
theorem both16:∀a:Fin 16,∀b:Fin 16,((a:Nat):Int)+((b:Nat):Int) - bits .and .i64 ((a:Nat):Int) ((b:Nat):Int)=(((a:Nat)||| (b:Nat):Nat):Int)/\0<=bits .and .i64 ((a:Nat):Int) ((b:Nat):Int)/\bits .and .i64 ((a:Nat):Int) ((b:Nat):Int)<=15:=by decide +kernel
theorem Z0(w:World)(vn vl:Value)(ss:List ByteArray)(G:Nat)(L:Nat->Nat)(Z:Nat->Nat->Bool)(x y:Nat × Nat)(hL:rO w vn vl ss G L Z)(hx:Sv.Ok ss.length x)(hy:Sv.Ok ss.length y):Calls prog 106 #[.agg #[vn,vl],.agg #[.int .i64 (x.1:Nat),.int .i64 (x.2:Nat)],.agg #[.int .i64 (y.1:Nat),.int .i64 (y.2:Nat)]] w λe w'=>e=.returned (.agg #[.int .i64 ((Sv.join Z ss.length x y).1:Nat),.int .i64 ((Sv.join Z ss.length x y).2:Nat)])/\Below w.heap.size w w':=by
 obtain⟨W,hW⟩:=aG ((K4 w vn vl x y).alloc (.cells #[.int .i64 0,.int .i64 0] 72));obtain⟨b0,b1,b2,bs⟩:=box3_at w vn vl x y;have b3:=aJ (K4 w vn vl x y) (.cells #[.int .i64 0,.int .i64 0] 72);have c0:=gU b0 (.cells #[.int .i64 0,.int .i64 0] 72);have c1:=gU b1 (.cells #[.int .i64 0,.int .i64 0] 72);have c2:=gU b2 (.cells #[.int .i64 0,.int .i64 0] 72);rw[bs,<-hW]at b3;rw[<-hW]at c0 c1 c2;have hB:Below w.heap.size w W:=by rw[hW];exact up (QW w vn vl x y) (aB _ _)
 have HL:=hide (hL.below hB);have eO:=hide hB;obtain⟨ho,ha0,ha15⟩:=both16 ⟨x.1,hx.1⟩ ⟨y.1,hy.1⟩;simp only at ho ha0 ha15;have HJI:=hide (Ih hL.joins hx.2 hy.2);obtain⟨ad,bl,off,cap,WO,-⟩:=hL.strs;subst WO;have HJ:=hide (λk os=>wU (gn W k os) ad vl ss.length cap x.2 y.2 Z ((HL.below (aS W k os)).grid) HL.six hx.2 hy.2);rw[HJI]at HJ;have HE:Hid (Sv.join Z ss.length x y=(x.1 ||| y.1,l9 Z ss.length x.2 y.2)):=rfl;obtain⟨J,hJ⟩:=aG (Sv.join Z ss.length x y);rw[<-hJ]at HE ⊢;have HB3:=hide b3;have q0:=aM ((aj c0 0).trans rfl);have q1:=aM ((aj c0 1).trans rfl);have q2:=aM ((aj c1 0).trans rfl);have q3:=aM ((aj c1 1).trans rfl);have q4:=aM ((aj c2 0).trans rfl);have q5:=aM ((aj c2 1).trans rfl);have hx1:(x.1:Int)<=15:=by have:=hx.1;omega
 have hy1:(y.1:Int)<=15:=by have:=hy.1;omega
 simp only[K4]at hW;clear b0 b1 b2 bs b3 c0 c1 c2 hB hL hx hy hJ;go_enter func106,ntmps106;go_wp2_with fail;rw[<-hW];clear hW;refine eF 18 (by kernel_rfl) (by kernel_rfl) ?_;dsimp only[List.take,List.drop];repeat(quiet_step ((exact Calls.fJ (HJ _ _))))
 refine wpQuiet_nil ?_;intro w6 hw';obtain⟨⟨nq,osq⟩,hw''⟩:=hw';have hb6:Below W.heap.size W w6:=by rw[hw''];exact aS W nq osq
 have HB:=hide (up eO hb6);have HR:=hide (aN HB3 hb6);have r0:=(aj HR 0).trans rfl;have r1:=(aj HR 1).trans rfl;have z0:=aD HR 0;have z1:=aD HR 1;clear hw'' hb6 q0 q1 q2 q3 q4 q5;go_wp2_with fail;rw[ho];have hs:=set2 HR (.int .i64 ((x.1 ||| y.1:Nat):Int)) (.int .i64 (l9 Z ss.length x.2 y.2:Nat));have f0:=(aj hs 0).trans rfl;have f1:=(aj hs 1).trans rfl;obtain rfl:=HE.out;refine bodyPost_ret (v:=.agg #[.int .i64 ((x.1 ||| y.1:Nat):Int),.int .i64 (l9 Z ss.length x.2 y.2:Nat)]) (by simp[results,results106,go_sem,f0,f1]) rfl ⟨rfl,?_⟩;exact(HB.setCell (by show w.heap.size<=w.heap.size+1+1+1;omega) _).setCell (by show w.heap.size<=w.heap.size+1+1+1;omega) _
end Go.Proofs.YtfnboapebijcpaaGreatDoor
