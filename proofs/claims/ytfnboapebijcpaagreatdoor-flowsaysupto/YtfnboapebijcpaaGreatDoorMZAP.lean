/- Walks over the library: slices.Compact of diagnostics. -/
import Derived.Test.YtfnboapebijcpaaGreatDoorMZAL
import Derived.Test.YtfnboapebijcpaaGreatDoorMZAN
set_option maxHeartbeats 16000000
set_option maxRecDepth 100000
namespace Go.Proofs.YtfnboapebijcpaaGreatDoor
open aI
open Go.Proofs.Tryz
open Go.RowKit
theorem Vv{w:World}{g k n c:Nat}{cur:Array Value}(hc:w.heap[g]?=some (.cells cur 43 (0,0)))(hn:0<n)(hs:k*3+n*3<=cur.size)(ty:TypeId):(Builtin.clear_ #[37] ty #[.slice (some ⟨g,k*3,none⟩) n c]).run prog w=.ok (.tuple #[]) (w.setRow g (cur.toList.take (k*3)++(Builtin.zeroCells (Value.agg #[.int .i64 0,.string ⟨#[]⟩,.string ⟨#[]⟩]).cells n).toList++cur.toList.drop (k*3+(Builtin.zeroCells (Value.agg #[.int .i64 0,.string ⟨#[]⟩,.string ⟨#[]⟩]).cells n).toList.length)).toArray):=by
 have hz:(Builtin.zeroCells (Value.agg #[.int .i64 0,.string ⟨#[]⟩,.string ⟨#[]⟩]).cells n).toList.length=n*3:=by simp[Builtin.zeroCells,Value.cells]
 have h1:∀v∈(Builtin.zeroCells (Value.agg #[.int .i64 0,.string ⟨#[]⟩,.string ⟨#[]⟩]).cells n).toList,v.oneCell'=true:=by
  intro v hv;simp[Builtin.zeroCells,Value.cells]at hv;obtain⟨a,ha,rfl⟩:=hv;have hm:a % 3=0\/a % 3=1\/a % 3=2:=by omega
  rcases hm with hm|hm|hm<;>simp[hm]<;>rfl
 have hst:=run_storeCells_at prog g (k*3) 43 (Builtin.zeroCells (Value.agg #[.int .i64 0,.string ⟨#[]⟩,.string ⟨#[]⟩]).cells n).toList 0 cur w hc (by rw[hz];omega) h1;obtain⟨m,rfl⟩:∃m,n=m+1:=⟨n - 1,by omega⟩;simp only[tN]at hst;simp[Builtin.clear_,run_underlying underlying37,hst]
theorem lM.clear{w:World}{g k:Nat}{l:List Dg}{zs:List Value}{cur:Array Value}(h:lM w g l)(hc:w.heap[g]?=some (.cells cur 43 (0,0)))(hk:k<=l.length)(m:Nat):lM (w.setRow g (cur.toList.take (k*3)++zs++cur.toList.drop m).toArray) g (l.take k):=by
 obtain⟨cur',hc',hs,hel⟩:=h;rw[hc]at hc';simp at hc';subst hc';have hkl:(l.take k).length=k:=by rw[d9];omega
 refine⟨_,setRow_heap w g cur _ 43 (0,0) hc,?_,λi d hd=>?_⟩;·rw[hkl];simp;omega
 ·have hik:i<k:=by have:=(dG.1 hd).1;omega
  rw[qD hik]at hd;obtain⟨a0,a1,a2⟩:=hel i d hd;have key:∀j v,j<k*3->cur[j]?=some v->((cur.toList.take (k*3)++zs++cur.toList.drop m).toArray)[j]?=some v:=λj v hj hv=>by rw[List.getElem?_toArray,bE,rE (by simp;omega),qD hj];simpa using hv
  exact⟨key _ _ (by omega) a0,key _ _ (by omega) a1,key _ _ (by omega) a2⟩
theorem OL{l:List Dg}(h:∀(j:Nat) x y,l[j]?=some y->l[j+1]?=some x->mV x y=false):∀j,j<=l.length->zF (l.take j)=l.take j:=by
 intro j;induction j with
 | zero=>intro _;rfl
 | succ j ih=>
  intro hj;cases j with
  | zero =>have hx:l[0]?=some l[0]:=aU (by omega);rw[Gu hx];simp[zF,nW,iY,hx]
  | succ j =>have hy:l[j]?=some l[j]:=aU (by omega);have hx:l[j+1]?=some l[j+1]:=aU (by omega);rw[Gv hy hx,h j _ _ hy hx,ih (by omega)];rw[iY (i:=j+1),hx];simp
theorem iF{n k:Nat}{w w1:World}(h:Below n w w1):Below n w (w1.drewN k):=⟨h.os,h.tape,h.output,h.size,h.block⟩
theorem yM{n:Nat}{w w1:World}{a:Addr}(h:Below n w w1)(ha:n<=a.block)(v:Value):Below n w (w1.setCell a v):=
 ⟨h.os,h.tape,h.output,by simp only[World.setCell,vw];exact h.size,λk hk=>by rw[qm _ _ _ _ (by omega)];exact h.block k hk⟩
theorem Ri{n g:Nat}{w w1:World}{cs:Array Value}(h:Below n w w1)(hg:n<=g):Below n w (w1.setRow g cs):=
 ⟨h.os,h.tape,h.output,by rw[setRow_size];exact h.size,λk hk=>by rw[setRow_other _ _ _ _ (by omega)];exact h.block k hk⟩
theorem Rj{l:List Dg}{c K:Nat}{C:List Dg}(hc:c=C.length)(hK:c<=K):(C++l.drop c)[K]?=l[K]?:=by subst hc;rw[uf hK,yh];congr 1;omega
theorem row_set{l:List Dg}{c:Nat}{C:List Dg}(hc:c=C.length)(hl:c<l.length)(x:Dg):(C++l.drop c).set c x=(C++[x])++l.drop (c+1):=by subst hc;rw[List.set_append_right _ _ (bM _),CF,JM hl,dJ];simp
theorem Lj(w:World)(n g len cap:Nat)(l:List Dg)(h:lM w g l)(hlen:len=l.length)(hcap:len<=cap)(hn:n<=g)(hl:len<=16777216):Calls prog 165 #[.slice (some ⟨g,0,none⟩) len cap] w λe w'=>∃c',e=.returned (.slice (some ⟨g,0,none⟩) (zF l).length c')/\lM w' g (zF l)/\Below n w w':=by
 have HL:=hide hlen;have HR:=hide h;clear hlen h;by_cases h2:len<2
 ·have HE:Hid (zF l=l):=hide (by
   have hl':=HL.out;match l,hl' with
   | [],_=>rfl
   | [x],_=>rfl
   | x::y::r,h=>simp at h;omega)
  go_enter func165,ntmps165;go_wp2_with fail;go_ret;exact⟨_,by rw[HE,<-HL];rfl,by rw[HE];exact HR,aX _ _⟩
 ·go_enter func165,ntmps165;go_wp2_with fail;go_loopw[3] (λi wr=>∃j:Nat,j+1<=len/\i=.int .i64 ((j:Int)+1)/\(∀(q:Nat) x y,q<j->l[q]?=some y->l[q+1]?=some x->mV x y=false)/\lM wr g l/\Below n w wr) (λi _=>len - (intOf i).toNat);case atStart=>exact⟨0,by omega,rfl,λq x y hq=>absurd hq (dY _),HR,aX _ _⟩
  case round=>
   obtain⟨j,hj,rfl,hall,hrow,hnx⟩:=hrel;have cO:=hide hall;have xq:=hide hrow;have bR:=hide hnx;clear hall hnx;by_cases hjl:j+1<len
   ·obtain⟨y,hy⟩:∃y,l[j]?=some y:=⟨_,aU (by rw[<-HL];omega)⟩;obtain⟨x,hx⟩:∃y,l[j+1]?=some y:=⟨_,aU (by rw[<-HL];omega)⟩;obtain⟨p0,p1,p2⟩:=hrow.cell hx;obtain⟨k0,k1,k2⟩:=hrow.cell hy;have HX:=hide hx;have HY:=hide hy;have heq:∀w,Sem.run prog (Op.equalIn 10000 43 (.agg #[.int .i64 x.code,.string x.fn,.string x.name]) (.agg #[.int .i64 y.code,.string y.fn,.string y.name])) w=.ok (mV x y) w:=KH x y;have hgd:∀op a b w,Sem.run prog (eqGuard op 43 a b (.agg #[.int .i64 x.code,.string x.fn,.string x.name]) (.agg #[.int .i64 y.code,.string y.fn,.string y.name])) w=.ok () w:=λop a b w=>F3 op a b x y w;have hlt:decide ((j:Int)+1<(len:Int))=true:=by simp;omega
    clear hx hy hrow;cases hsm:mV x y
    ·rw[hsm]at heq;have XO:=hide hsm;clear hsm;go_wp2_with fail;go_quiet (fail);go_wp2_with fail;go_roundw;case rel=>exact⟨j+1,by omega,by go_num,λq a b hq h1 h2=>by
      by_cases e:q=j;·subst e;rw[HY]at h1;rw[HX]at h2;cases h1;cases h2;exact XO
      ·exact cO q a b (by omega) h1 h2,xq.drew,iF bR⟩
     case measure=>simp[intOf];omega
    ·rw[hsm]at heq;have TP:Hid (zF (l.take (j+1+1))=l.take (j+1)):=hide (by
      rw[Gv HY HX,hsm,if_pos rfl];have hll:(l.take (j+1)).length=j+1:=by rw[d9];have:=HL.out;omega
      have h1:=OL (l:=l.take (j+1)) (λq a b h1 h2=>by have hq:=(dG.1 h2).1;rw[hll]at hq;rw[qD (by omega)]at h1 h2;exact cO q a b (by omega) h1 h2) (j+1) (by omega);rwa[yj,Nat.min_self]at h1)
     clear hsm;go_wp2_with fail;go_quiet (fail);have HR1:=hide (xq.drew (n:=nq));have uO:=hide (iF (k:=nq) bR);clear p0 p1 p2 k0 k1 k2 heq hgd;generalize wr.drewN nq=W1 at *;go_wp2_with fail;go_loopw[3,5] (λa b wx=>∃c t:Nat,a=.int .i64 c/\b=.int .i64 ((t:Int)+1)/\j+1+(t+1)<=len/\c=(zF (l.take (j+1+(t+1)))).length/\c<=j+1+t/\lM wx g (zF (l.take (j+1+(t+1)))++l.drop c)/\Below n w wx) (λ_ b _=>len - (intOf b).toNat);case atStart=>exact⟨j+1,0,by go_num,rfl,by omega,by
      rw[show j+1+(0+1)=j+1+1 from rfl,TP,d9];have:=HL.out;omega,bM _,by
      rw[show j+1+(0+1)=j+1+1 from rfl,TP,kW];exact HR1,uO⟩
     case round=>
      obtain⟨c,t,rfl,rfl,htl,hcc,hct,hrow,hnx⟩:=hrel;have mE:=hide hcc;have kD:=hide hrow;have lD:=hide hnx;by_cases hend:j+1+(t+1)<len
      ·obtain⟨y',hy⟩:∃y,l[j+1+t]?=some y:=⟨_,aU (by rw[<-HL];omega)⟩;obtain⟨x',hx⟩:∃y,l[j+1+(t+1)]?=some y:=⟨_,aU (by rw[<-HL];omega)⟩;obtain⟨z',hz⟩:∃y,l[c]?=some y:=⟨_,aU (by rw[<-HL];omega)⟩;obtain⟨p0,p1,p2⟩:=hrow.cell (i:=j+1+(t+1)) (d:=x') (by rw[Rj hcc (by omega)];exact hx);obtain⟨k0,k1,k2⟩:=hrow.cell (i:=j+1+t) (d:=y') (by rw[Rj hcc (by omega)];exact hy);obtain⟨m0,m1,m2⟩:=hrow.cell (i:=c) (d:=z') (by rw[Rj hcc (by omega)];exact hz);rw[Nat.add_mul (j+1) (t+1)]at p0 p1 p2;rw[Nat.add_mul (j+1) t]at k0 k1 k2;obtain⟨cur,hcur,-,-⟩:=hrow;have f0:=aD hcur (c*3);have f1:=aD hcur (c*3+1);have f2:=aD hcur (c*3+2);have pF:Hid (zF (l.take (j+1+(t+1)+1))=if mV x' y' then zF (l.take (j+1+(t+1)))else zF (l.take (j+1+(t+1)))++[x']):=hide (Gv (j:=j+1+t) hy hx);have heq:∀w,Sem.run prog (Op.equalIn 10000 43 (.agg #[.int .i64 x'.code,.string x'.fn,.string x'.name]) (.agg #[.int .i64 y'.code,.string y'.fn,.string y'.name])) w=.ok (mV x' y') w:=KH x' y';have hgd:∀op a b w,Sem.run prog (eqGuard op 43 a b (.agg #[.int .i64 x'.code,.string x'.fn,.string x'.name]) (.agg #[.int .i64 y'.code,.string y'.fn,.string y'.name])) w=.ok () w:=λop a b w=>F3 op a b x' y' w;have hlt2:decide ((t:Int)+1<((len - (j+1):Nat):Int))=true:=by simp;omega
       clear hx hy hz hcur hcc hnx;cases rQ:mV x' y'
       ·rw[rQ]at heq;rw[rQ,if_neg (by simp)]at pF;clear rQ;go_wp2_with fail;go_quiet (fail);have HR2:Hid (lM (wr.drewN nq) g _):=hide (kD.drew (n:=nq));have Am:=hide (iF (k:=nq) lD);replace p0:(wr.drewN nq).cell? _=_:=p0;replace p1:(wr.drewN nq).cell? _=_:=p1;replace p2:(wr.drewN nq).cell? _=_:=p2;replace m0:(wr.drewN nq).cell? _=_:=m0;replace m1:(wr.drewN nq).cell? _=_:=m1;replace m2:(wr.drewN nq).cell? _=_:=m2;replace f0:(wr.drewN nq).frozen? _=_:=f0;replace f1:(wr.drewN nq).frozen? _=_:=f1;replace f2:(wr.drewN nq).frozen? _=_:=f2;clear k0 k1 k2 heq hgd kD lD;generalize wr.drewN nq=W2 at *;go_wp2_with fail;go_roundw;case rel=>exact⟨c+1,t+1,by go_num,by go_num,by omega,by
         rw[show j+1+(t+1+1)=j+1+(t+1)+1 by omega,pF,aP,<-mE];rfl,by omega,by
         rw[show j+1+(t+1+1)=j+1+(t+1)+1 by omega,pF,<-row_set mE (by rw[<-HL];omega)];exact HR2.set (by rw[aP,qz,<-mE,<-HL];omega) x',yM (yM (yM Am hn _) hn _) hn _⟩
        case measure=>simp[intOf];omega
       ·rw[rQ]at heq;rw[rQ,if_pos rfl]at pF;clear rQ;go_wp2_with fail;go_quiet (fail);have HR2:Hid (lM (wr.drewN nq) g _):=hide (kD.drew (n:=nq));have Am:=hide (iF (k:=nq) lD);clear p0 p1 p2 m0 m1 m2 f0 f1 f2 k0 k1 k2 heq hgd kD lD;generalize wr.drewN nq=W2 at *;go_wp2_with fail;go_roundw;case rel=>exact⟨c,t+1,rfl,by go_num,by omega,by
         rw[show j+1+(t+1+1)=j+1+(t+1)+1 by omega,pF];exact mE,by omega,by
         rw[show j+1+(t+1+1)=j+1+(t+1)+1 by omega,pF];exact HR2,Am⟩
        case measure=>simp[intOf];omega
      ·have Q9:Hid (l.take (j+1+(t+1))=l):=hide (eP (by rw[<-HL];omega));rw[Q9]at kD mE hrow;have hrow':=hrow;obtain⟨cur,hcur,hsz,-⟩:=hrow;rw[aP,qz,<-mE,<-HL]at hsz;have hcl:=λty=>Vv (c:=cap - c) hcur (show 0<len - c by omega) (show c*3+(len - c)*3<=cur.size by omega) ty;have D6:=hide (λzs m=>lM.clear (zs:=zs) (k:=c) hrow' hcur (by rw[aP,<-mE];omega) m);have hlt2:decide ((t:Int)+1<((len - (j+1):Nat):Int))=false:=by simp;omega
       have OD:Hid ((zF l++l.drop c).take c=zF l):=hide (by rw[mE,List.take_left]);rw[OD]at D6;generalize (Builtin.zeroCells (Value.agg #[.int .i64 0,.string ⟨#[]⟩,.string ⟨#[]⟩]).cells (len - c)).toList=zs at *;have Am:=hide (Ri (g:=g) (cs:=(cur.toList.take (c*3)++zs++cur.toList.drop (c*3+zs.length)).toArray) hnx hn);have HR2:=hide (D6 zs (c*3+zs.length));generalize wr.setRow g (cur.toList.take (c*3)++zs++cur.toList.drop (c*3+zs.length)).toArray=W2 at *;clear hrow' hcur hcc hnx D6;go_wp2_with fail;go_ret;exact⟨_,by rw[<-mE];rfl,HR2,Am⟩
   ·have HE:Hid (zF l=l):=hide (by have h1:=OL (l:=l) (λq a b h1 h2=>cO q a b (by have:=(dG.1 h2).1;have:=HL.out;omega) h1 h2) l.length (bM _);rwa[gG]at h1);have hlt:decide ((j:Int)+1<(len:Int))=false:=by simp;omega
    clear hrow;go_wp2_with fail;go_ret;exact⟨_,by rw[HE,<-HL];rfl,by rw[HE];exact xq,bR⟩
open Go.Maps
end Go.Proofs.YtfnboapebijcpaaGreatDoor
