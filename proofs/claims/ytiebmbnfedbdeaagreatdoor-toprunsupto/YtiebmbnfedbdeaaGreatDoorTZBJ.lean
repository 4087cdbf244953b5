import Derived.Test.YtiebmbnfedbdeaaGreatDoorTZBF
import Derived.Test.YtiebmbnfedbdeaaGreatDoorTZBI
set_option maxHeartbeats 0
set_option maxRecDepth 99999
namespace Go.Proofs.YtiebmbnfedbdeaaGreatDoor
open Fl bS bO Rn Sv
open Go.Proofs.Tryz
open Go.RowKit Go.Maps Go.WideMaps
variable{w0 w w8 w1 W w':bI}{q:Sp}{nl E ss ps l Zk:aJ}{fC:aS->Option aC}{kc sets m n k i N j G B c n':Nat}{eU ve v vb:aC}{vs:List Va}{f:Fu}{x:Mo}{s fn call:aS}{known ms:List Mo}{ys bL:List (List Sc)}{own:List Sc}{Z:aL}
def Sp.Jf(q:Sp)(nQ:ByteArray->Option Nat):Sp:={ q with c:={ q.c with nQ:=nQ } }
theorem jr.ais{nQ:aS->Option Nat}(a:jr w0 w q nl fC kc eU sets ve E)(hg:w.grownBy w8 (some q.ml))(z:nS w8 q.ml 1048576 (λs=>(nQ s).map λn:Nat=>(n:Int))):jr w0 w8 (q.Jf nQ) nl fC kc eU sets ve E/\Kx w0.heap.size Eh w w8:=by
 obtain⟨D,C,g⟩:=a.levels.isMap;have r:Kx w0.heap.size Eh w w8:=Kx.grown hg λk b=>by injection b with b;subst b;exact⟨a.new.2.1,λo u=>by rw[g]at u;cases u;rfl⟩
 have d:∀(p:Nat) cs t,w.heap[p]?=some (.cells cs t (0,0))->w8.heap[p]?=some (.cells cs t (0,0)):=λp cs t h=>by
  rw[hg.block p (aR h) (λb=>?_)];·exact h
  ·injection b with b;subst b;rw[h]at g;cases g
 exact⟨⟨d _ _ _ a.blk,a.new,z,a.numbers.kept hg (by have:=a.maps.1;simp;exact λb=>this b.symm),a.called.kept hg (by have:=a.maps.2.1;simp;exact λb=>this b.symm),a.eF,a.Bq,a.nodup,a.names.keep λj y _ e=>d _ _ _ e,a.mg.keep λj y _ e=>d _ _ _ e,a.apart,a.maps,a.base.trans<|r.below a.base.size⟩,r⟩
namespace Fl
def tJ(ss:List ByteArray)(ps:List ByteArray)(vs:List Va):ByteArray->Option Nat:=λs=>
 if has ps s then none else (vs.reverse.find? λv=>cB v.name s).map λv=>(dU ss v.level).toNat
theorem Hq{v:Va}(a:has ps v.name=true):tJ ss ps (vs++[v])=tJ ss ps vs:=by
 funext s;unfold tJ;cases d:has ps s with
 | true=>rfl
 | false=>
  rw[List.reverse_append,List.reverse_singleton,List.singleton_append,List.find?_cons];cases b:cB v.name s with
  | false=>rfl
  | true =>rw[dM]at b;rw[b,d]at a;cases a
theorem afm{v:Va}(d:has ps v.name=false)(e:0<=dU ss v.level):(λs=>(tJ ss ps (vs++[v]) s).map λn:Nat=>(n:Int))=Rn.put (λs=>(tJ ss ps vs s).map λn:Nat=>(n:Int)) v.name (dU ss v.level):=by
 funext s;unfold Rn.put tJ;rw[List.reverse_append,List.reverse_singleton,List.singleton_append,List.find?_cons];cases a:cB v.name s with
 | false =>rw[show cB s v.name=false by rw[<-Bool.not_eq_true]at a ⊢;rw[dM]at a ⊢;exact λb=>a b.symm];rfl
 | true =>rw[dM]at a;subst a;rw[show cB v.name v.name=true from dM.2 rfl,d];simp;omega
end Fl
theorem jr.Xq(a:jr w0 w q nl fC kc eU sets ve E)(b:nC w0 q.vn q.vl q.ss q.G q.L q.c.Z)(d:q.c.N=q.ss.length)(e:kc<=16777216)(g:nl.length<=1048576):D7 w q nl fC eU sets ve:=
 ⟨a.blk,b.below a.base,d,a.levels,a.numbers,a.called.mono e,λs v h=>(a.eF s v h).below a.base,a.nodup,g⟩
theorem nS.empty{w:World}{b n:Nat}(h:nS w b n (λ_=>none)):nS w b 0 (λ_=>none):=by
 obtain⟨D,⟨es,cl,hb,F,hs,hD⟩,h2⟩:=h;have he:es.size=0:=by
  by_cases h0:es.size=0;·exact h0
  ·exfalso;have hx:es[0]∈es.toList:=by simp
   obtain⟨y,hy⟩:=F.reads _ hx;have hk:=Go.WideElems.rd_key hy;rw[keyOf_string underlying9]at hk;unfold mapKey at hk;rw[underlying9]at hk;cases hkey:es[0].key with
   | string t=>
    rw[hkey]at hk;simp only at hk;split at hk
    ·rename_i ht;have h3:=(h2 t ht).1;have h4:Maps.has D (.string t.data.toList)=true:=by
      rw[hD,Maps.has_eq,RY];refine⟨y,mem_sorted.2 ?_,?_⟩;·rw[<-Go.WideElems.rg_of hy];exact List.mem_map_of_mem hx
      ·rw[<-CG hk];exact WideAt.sameKey_self trivial
     rw[h4]at h3;cases h3
    ·cases hk
   | _=>rw[hkey]at hk;simp at hk
 exact⟨D,⟨es,cl,hb,F,by omega,hD⟩,h2⟩
theorem TS(w:bI)(B:Nat):Own w B (aU) []:=lJ _ _ _ _
theorem afW(ss:aJ)(t:aS)(a:Strs w v ss):mq (dU ss t):=by
 obtain⟨_,_,_,_,_,_,b,_⟩:=a;unfold dU;split;·next i a=>have:=(bS.find_spec a).1;unfold mq;omega
 ·unfold mq;omega
def N9(B:Nat)(vn vl:Value)(ss:List ByteArray)(G:Nat)(L:Nat->Nat)(Z:Nat->Nat->Bool)(md:ByteArray)(nQ:ByteArray->Option Nat)(eF:ByteArray->Sc):Sp:=
 ⟨B+1+1+1,vn,vl,ss,G,L,⟨Z,ss.length,xR Z ss.length,md,nQ,λs=>dU ss s,eF⟩,B,B+1,B+1+1⟩
theorem afn(e:bK w w1)(vn vl:aC)(ss:aJ)(G:Nat)(L:Nat->Nat)(Z:aL)(md:aS)(eF:aS->Sc)(a:W=(((w1.alloc<|.map #[] 0).alloc (.map #[] 0)).alloc (.map #[] 0)).alloc (aY #[vn,vl,O (xR Z ss.length:Nat),A md,.map<|some w1.heap.size,aU,.map<|some<|w1.heap.size+1,.map<|some<|w1.heap.size+1+1,O 0,aU] 178)):jr w W (N9 w1.heap.size vn vl ss G L Z md (λ_=>none) eF) [] (λ_=>none) 0 (aU) 0 (aU) []/\bK w1 W:=by
 have s1:(w1.alloc<|.map #[] 0).heap.size=w1.heap.size+1:=oh _ _;have s2:((w1.alloc<|.map #[] 0).alloc (.map #[] 0)).heap.size=w1.heap.size+1+1:=by rw[oh,s1]
 have s3:(((w1.alloc<|.map #[] 0).alloc (.map #[] 0)).alloc (.map #[] 0)).heap.size=w1.heap.size+1+1+1:=by rw[oh,s2]
 obtain⟨m1,o,p⟩:=lS (nS.new w1) (nS.new<|w1.alloc<|.map #[] 0)<|qo.new ((w1.alloc<|.map #[] 0).alloc (.map #[] 0)) sc0;rw[s1]at o;rw[s2]at p;have d:=bF (((w1.alloc<|.map #[] 0).alloc (.map #[] 0)).alloc (.map #[] 0))<|aY #[vn,vl,O (xR Z ss.length:Nat),A md,.map<|some w1.heap.size,aU,.map<|some<|w1.heap.size+1,.map<|some<|w1.heap.size+1+1,O 0,aU] 178;rw[s3,<-a]at d;have h:Below (w1.alloc<|.map #[] 0).heap.size (w1.alloc<|.map #[] 0) W:=by rw[a];exact up (up (aH _ _)<|aH _ _)<|aH _ _
 have z:Below ((w1.alloc<|.map #[] 0).alloc (.map #[] 0)).heap.size ((w1.alloc<|.map #[] 0).alloc (.map #[] 0)) W:=by rw[a];exact up (aH _ _)<|aH _ _
 have C:Below (((w1.alloc<|.map #[] 0).alloc (.map #[] 0)).alloc (.map #[] 0)).heap.size (((w1.alloc<|.map #[] 0).alloc (.map #[] 0)).alloc (.map #[] 0)) W:=by rw[a];exact aH _ _
 have g:bK w1 W:=up (aH _ _) h;have y:=e.size;have r:nS W w1.heap.size 1048576 (λ_=>none):=(m1.below h).mono (bN _);have t:nS W (w1.heap.size+1) 0 (λs=>(Fl.idx [] s).map λn:Nat=>(n:Int)):=o.below z;have u:qo W (w1.heap.size+1+1) 0 sc0 (λ_=>none):=p.below C;refine⟨⟨d,⟨by show _<=w1.heap.size+1+1+1;omega,y,by show _<=w1.heap.size+1;omega,by show _<=w1.heap.size+1+1;omega⟩,r,t,u,λs v b=>by simp at b,λs b=>by simp at b,List.nodup_nil,?_,?_,aO rfl,⟨by show w1.heap.size≠w1.heap.size+1;omega,by show w1.heap.size≠w1.heap.size+1+1;omega,by show w1.heap.size+1≠w1.heap.size+1+1;omega⟩,up e g⟩,g⟩;·exact TS _ _
 ·exact TS _ _
theorem aok(w:bI)(vn vl vi vv vf vp:aC)(ss:aJ)(G:Nat)(L:Nat->Nat)(Z:aL)(x:Mo)(ps:aJ)(eF:aS->Sc)(y:nC w vn vl ss G L Z)(hV:xG w vv x.vars)(hP:Strs w vp ps)(hi:∃a n c,vi=X a n c)(hf:∃a n c,vf=X a n c)(be:ps.Nodup)(bc:ps.length<=1048576)(b5:x.vars.length<=1048575)(a8:∀v∈x.vars,0<=dU ss v.level):aD 81 #[.agg #[vn,vl],.agg #[A x.name,vi,vv,vf],vp] w λd w'=>∃B,d=dz (gK<|B+1+1+1)/\J (∃eU,jr w w' (N9 B vn vl ss G L Z x.name (Fl.tJ ss ps x.vars) eF) ps (λ_=>none) 0 eU 0 (aU) []):=by
 obtain⟨ai,ni,ci,rfl⟩:=hi;obtain⟨af,nf,cf,rfl⟩:=hf;obtain⟨HL,xM,bm⟩:=fE y be a8;have HE:=Y (λwx (hb:bK w wx)=>Pn wx vn vl ss G L Z (y.strs.below hb) (y.Q5.below hb) y.ok);obtain⟨av,bv,ov,cv,rfl,a0,bw,a3⟩:=hV;obtain⟨ap,bp,op,cp,rfl,aE,bx,bf,a2⟩:=hP;obtain⟨ao,bi,Vn,ar,br⟩:=uh a0 a3 aE a2 bf;obtain⟨nv,CU⟩:=aV x.vars.length;have R8:=Y CU;rw[<-CU]at bw b5 ao ⊢;obtain⟨np,ak⟩:=aV ps.length;have Ee:=Y ak;rw[<-ak]at bx bc Vn ar ⊢;obtain⟨W,hW,k0,k1,b3,ae⟩:=AL w (aY #[vn,vl] 25)<|aY #[A x.name,X ai ni ci,X av nv cv,X af nf cf] 59;obtain⟨x0,x1⟩:=jv k0;obtain⟨lH,jG,iO,HC⟩:=lD k0 k1 ae<|HE W ae;have ax:J (∃a n c,vn=X a n c):=Y (by obtain⟨a,b,o,c,rfl,-⟩:=y.strs;exact⟨_,_,_,rfl⟩);have Ah:J (∃a n c,vl=X a n c):=Y (by obtain⟨a,b,o,c,Zk,RB,RO,C,rfl,-⟩:=y.Q5;exact⟨_,_,_,rfl⟩);obtain⟨an,U,P,Vo⟩:=ax.out;obtain⟨I,nl,K,bS⟩:=Ah.out;clear k0 k1 b3 ae y be a8 a0 a3 aE a2 bf CU ak ax Ah HE;subst Vo bS;rw[hW]at x0 x1;go_enter func81,ntmps81;go_wp2_with fail;rw[<-hW];clear hW x0 x1;refine HC.mono ?_;rintro d w1 ⟨rfl,ab⟩;have aq:=Y<|up iO ab;obtain⟨K0,K1⟩:=eY (bH lH ab)<|bH jG ab;obtain⟨x0,x1⟩:=jv K0;have y0:=aj K1 0;have mh:=Y K1;have b2:=@run_makeMap prog;clear K0 K1 HC ab lH jG iO;obtain⟨W2,ag⟩:∃W,W=(((w1.alloc<|.map #[] 0).alloc (.map #[] 0)).alloc (.map #[] 0)).alloc (aY #[X an U P,X I nl K,O (xR Z ss.length:Nat),A x.name,.map<|some w1.heap.size,aU,.map<|some<|w1.heap.size+1,.map<|some<|w1.heap.size+1+1,O 0,aU] 178):=⟨_,rfl⟩;obtain⟨D,a1⟩:=afn aq (X an U P) (X I nl K) ss G L Z x.name eF ag;have zD:J (W2.heap[w.heap.size+1]?=some (aY #[A x.name,X ai ni ci,X av nv cv,X af nf cf] 59)):=Y<|bH mh a1;obtain⟨B,hB⟩:=aV w1.heap.size;rw[<-hB]at D;have bo:=Y D;obtain⟨M,hM⟩:=aV<|w.heap.size+1;rw[<-hM]at zD;clear a1 D mh aq;go_wp2_with fail;rw[<-ag,<-hB,<-hM];clear ag hB hM b2 x0 x1 y0;go_loopw[34] (λi wx=>∃j:Nat,j<=np/\i=O j/\J (∃eU,jr w wx (N9 B (X an U P) (X I nl K) ss G L Z x.name (λ_=>none) eF) (ps.take j) (λ_=>none) 0 eU 0 (aU) []/\dR wx M (aY #[A x.name,X ai ni ci,X av nv cv,X af nf cf] 59))) (λi _=>np - (intOf i).toNat);exact⟨0,bN _,rfl,Y ⟨_,bo,zD⟩⟩
 obtain⟨j,hj,rfl,u⟩:=hrel;obtain⟨eU,D,a9⟩:=u.out;obtain⟨H,aA⟩:=bV D a9;clear D a9 u;by_cases a5:j<np
 ·have h:=ar j a5;obtain rfl:=Vn bC;have a6:j<ps.length:=by rw[<-Ee];exact a5
  obtain⟨s,R⟩:∃s,ps[j]?=some s:=⟨_,aZ a6⟩;rw[xK,R,gD]at h;replace h:=aG h H.base;have ba:s∉ps.take j:=λhm=>by
   obtain⟨i,hi,d⟩:=gU.1 hm;rw[iA]at hi;have g:ps[i]?=some s:=by rw[List.getElem_take]at d;rw[aZ bC,d]
   have:=DZ xM g R;omega
  have aw:=Y<|KJ w wr _ (ps.take j) _ _ _ _ _ _ s H ba (br s<|dG R) (by rw[iA];omega);have bs:J (ps.take (j+1)=ps.take j++[s]):=Y (by rw[gy,R,kI]);clear R ba a6;go_wp2_with fail;refine aw.mono ?_;rintro d w3 ⟨rfl,bb⟩;obtain⟨bY,az,a7⟩:=bb.out;obtain⟨b0,b1⟩:=bV az<|a7.at aA rfl;clear az a7 bb h aw;go_wp2;go_roundw;exact⟨j+1,by omega,by go_num,Y ⟨bY,by rw[bs];exact b0,b1⟩⟩;exact gV
 ·obtain rfl:j=np:=by omega
  have bz:J (jr w wr ((N9 B (X an U P) (X I nl K) ss G L Z x.name (λ_=>none) eF).Jf (Fl.tJ ss ps<|x.vars.take 0)) ps (λ_=>none) 0 eU 0 (aU) []):=Y (by
   have g:=H.out;rw[Ee,jQ]at g;have d:Fl.tJ ss ps (x.vars.take 0)=λ_=>none:=by funext s;unfold Fl.tJ;split<;>rfl
   rw[d];exact g)
  have bA:J (nS wr B 0 (λs=>(Fl.tJ ss ps (x.vars.take 0) s).map λn:Nat=>(n:Int))):=Y (by
   have g:nS wr B 1048576 (λ_=>none):=H.levels;have d:(λs=>(Fl.tJ ss ps (x.vars.take 0) s).map λn:Nat=>(n:Int))=λ_=>none:=by funext s;unfold Fl.tJ;split<;>rfl
   rw[d];exact g.empty)
  have m2:=aj aA 2;obtain⟨wo,rfl⟩:=aV wr;go_wp2_with fail;clear m2 H;go_loopw[45] (λi wx=>∃t:Nat,t<=nv/\i=O t/\J (jr w wx ((N9 B (X an U P) (X I nl K) ss G L Z x.name (λ_=>none) eF).Jf (Fl.tJ ss ps<|x.vars.take t)) ps (λ_=>none) 0 eU 0 (aU) [])/\J (nS wx B t (λs=>(Fl.tJ ss ps (x.vars.take t) s).map λn:Nat=>(n:Int)))) (λi _=>nv - (intOf i).toNat);exact⟨0,bN _,rfl,bz,bA⟩
  obtain⟨t,ht,rfl,u,bq⟩:=hrel;by_cases b4:t<nv
  ·obtain⟨v,hv⟩:∃v,x.vars[t]?=some v:=⟨_,aZ (by rw[<-R8];exact b4)⟩;obtain⟨bh,b6,h,g1⟩:=bi t v hv;obtain rfl:=ao bC;have ad:J (x.vars.take (t+1)=x.vars.take t++[v]):=Y (by rw[gy,hv,kI]);obtain⟨bu,ay⟩:=bV (bm v<|dG hv) bh;replace h:=aG h u.base;replace g1:=aG g1 u.base;obtain⟨W5,aa⟩:=aV<|wr.alloc<|aY #[A v.name,A v.level] 85;have ah:bK wr W5:=by rw[aa];exact aH _ _
   have Xb:J (dR W5 wr.heap.size<|aY #[A v.name,A v.level] 85):=Y (by rw[aa];exact bF _ _);obtain⟨Y4,rM⟩:=bV (u.below ah)<|bq.below ah;clear hv bh b6 ah;obtain⟨wi,rfl⟩:=aV wr;go_wp2_with fail;rw[<-aa];clear aa h g1;have v0:=bD<|(aj Xb 0).trans rfl;have c6:bJ W5 (B+1+1+1) 6=some (.map<|some<|B+1):=Y4.cells.2.2.2.2.2.2.1;replace c6:=bD c6;have LK:∀k e,(Instr.lookup 117 (.map<|some<|B+1) (A v.name) true).run prog (gn W5 k e)=.ok (.tuple #[O (((Fl.idx ps v.name).map λn:Nat=>(n:Int)).getD 0),.bool ((Fl.idx ps v.name).map λn:Nat=>(n:Int)).isSome]) (gn W5 k e):=λk e=>(Y4.below<|bU W5 k e).numbers.sS (s:=v.name) ay;cases z:Fl.has ps v.name with
   | true=>
    have V:=Y z;obtain⟨ix,Q⟩:=Fl.xk<|Fl.uN.1 z;simp only[Q,kV,gD,nD]at LK;clear z Q;refine bW dw dw ?_;repeat(quiet_step (fail))
    refine wpQuiet_nil ?_;intro w6 S;obtain⟨⟨nq,am⟩,r⟩:=S;have p:bK W5 w6:=by rw[r];exact bU W5 nq am
    obtain⟨F,pQ⟩:=bV (Y4.below p)<|rM.below p;clear r v0 c6 LK p;go_wp2;go_roundw;exact⟨t+1,by omega,by go_num,Y (by rw[ad,Hq V];exact F),Y (by rw[ad,Hq V];exact pQ.mono bC)⟩;exact gV
   | false=>
    have V:=Y z;have Q:=DY<|ahG.1 z;simp only[Q,Ca,lK,nE]at LK;clear z Q;refine bW dw dw ?_;repeat(quiet_step (fail))
    refine wpQuiet_nil ?_;intro w6 S;obtain⟨⟨nq,am⟩,r⟩:=S;have p:bK W5 w6:=by rw[r];exact bU W5 nq am
    obtain⟨F,pQ,au⟩:=fE (Y4.below p) (rM.below p)<|bH Xb p;clear r v0 c6 LK p;obtain⟨v0,v1⟩:=eY (bD<|(aj au 0).trans rfl) (bD<|(aj au 1).trans rfl);have c4:bJ w6 (B+1+1+1) 4=some (.map<|some B):=F.cells.2.2.2.2.1;replace c4:=bD c4;have jP:J (∀k e,aD 128 #[gK (B+1+1+1),A v.level] (gn w6 k e) λd w'=>d=dz (O<|dU ss v.level)/\Below (gn w6 k e).heap.size (gn w6 k e) w'):=Y (λk e=>KD (gn w6 k e) _ ps _ eU _ _ v.level<|(F.below<|bU w6 k e).Xq HL rfl bC (by rw[<-Ee];exact bc));go_wp2_with fail;refine gq 10 dw dw ?_;dsimp only[List.take,List.drop];repeat(quiet_step ((exact Calls.oZ<|jP.out _ _)))
    refine wpQuiet_nil ?_;intro w7 S;obtain⟨⟨b7,bB⟩,r⟩:=S;have ug:bK w6 w7:=by rw[r];exact bU w6 b7 bB
    obtain⟨bj,MU⟩:=bV (F.below ug)<|pQ.below ug;clear r v0 v1 c4 jP ug;obtain⟨w8,L8,ac,a4⟩:=MU.put (s:=v.name) (v:=dU ss v.level) (by unfold maxLen;omega) ay (afW _ _ HL.strs);rw[<-afm V bu,<-ad]at ac;obtain⟨bk,TU⟩:=bV ((bj.ais a4<|ac.mono bC).1) ac;have l9:J ((Instr.mapUpdate 117 (.map<|some B) (A v.name)<|O<|dU ss v.level).run prog w7=.ok () w8):=Y L8;clear ac a4 L8;have L8:=l9.out;go_wp2;go_roundw;exact⟨t+1,by omega,by go_num,bk,TU⟩;exact gV
  ·obtain rfl:t=nv:=by omega
   go_wp2;go_ret;refine⟨B,rfl,Y ⟨eU,?_⟩⟩;have g:=u.out;rw[R8,jQ]at g;exact g
namespace bO
theorem yO{α:Type}{f g:α->Nat}:∀{l:List α},(∀x∈l,f x<=g x)->(l.map f).sum<=(l.map g).sum
 | [],_=>bG _
 | x::l,a=>by have d:=a x cK;have e:=yO (l:=l) (λy b=>a y<|by simp[b]);simp only[fZ,jI];omega
theorem jC{α β:Type}{f:α->List β}{g:α->Nat}{l:List α}(h:∀x∈l,(f x).length<=g x):(l.flatMap f).length<=(l.map g).sum:=by rw[List.length_flatMap];exact yO h
theorem abw:∀(m:Nat) (x:Ex),(calls m x).length<=jF m x
 | 0,_=>bG _
 | m+1,x=>by
  have a:=jC (f:=calls m) (g:=jF m) (l:=x.args) (λy _=>abw m y);simp only[calls,jF,bg];have b:(if x.kind=4 then [x]else []).length<=1:=by split<;>simp
  omega
theorem agr:∀(m:Nat) (x:Ex),(fK m x).length<=jF m x
 | 0,_=>bG _
 | m+1,x=>by
  have a:=jC (f:=fK m) (g:=jF m) (l:=x.args) (λy _=>agr m y);simp only[fK,jF,bg];have b:(if x.kind=4 then [x]else []).length<=1:=by split<;>simp
  omega
theorem Ey{α β:Type}(f:α->List β)(g:β->Nat):∀(l:List α),((l.flatMap f).map g).sum=(l.map λs=>((f s).map g).sum).sum
 | []=>rfl
 | s::l=>by simp only[JO,gX,tH,fZ,jI,Ey f g l]
theorem Qq(M:Nat):∀{m:Nat} {v:aC} {l:List St},fH w m v l->m<=M->((all m l).map λs=>1+jF M s.e).sum<=fA m l
 | 0,_,_,d,_=>iU d
 | m+1,v,l,d,F=>by
  obtain⟨a,b,off,cap,_,_,_,o⟩:=d;have h:∀s∈l,((within (all m) s).map λs=>1+jF M s.e).sum<=s.name.size+3+jF m s.e+fA m s.a+fA m s.b:=λs e=>by obtain⟨i,t,rfl⟩:=gU.1 e;obtain⟨_,_,y,z,C,D,P,vb,_,_,_,_,_,_,_,_,u,p,r⟩:=o i _<|aZ t;obtain⟨H,I,K⟩:=lS (Qq M p bC) (Qq M r bC)<|sJ u M bC;unfold within;simp only[gX,fZ,jV,tH,jI,ru];omega
  have e:=yO h;have g:((all (m+1) l).map λs=>1+jF M s.e).sum=(l.map λs=>((within (all m) s).map λs=>1+jF M s.e).sum).sum:=Ey _ _ _;rw[g];simp only[fA];omega
theorem I7{α:Type}{f:α->Nat}:∀(l:List α),(∀x,1<=f x)->l.length<=(l.map f).sum
 | [],_=>bG _
 | x::l,a=>by have b:=a x;have d:=I7 l a;simp only[fZ,jI,vN];omega
theorem ajO{l:List St}{β:Type}{f:St->List β}(a:fH w m v l)(b:∀s,(f s).length<=1+jF m s.e):((all m l).flatMap f).length<=fA m l:=
 bE (jC λs _=>b s) (Qq m a<|bG _)
theorem aa5{α β:Type}{f:α->List β}{l:List α}(a:∀x,(f x).length<=1):(l.flatMap f).length<=l.length:=by
 induction l with
 | nil=>exact bG _
 | cons x l b =>have:=a x;simp only[JO,bg,vN];omega
theorem afp{α:Type}{l:List α}{f:Nat->α->List Dg}{g:α->Nat}(h:∀i x,l[i]?=some x->(f i x).length<=g x):(upto (atD l f) l.length).length<=(l.map g).sum:=by
 have key:∀n,n<=l.length->(upto (atD l f) n).length<=((l.take n).map g).sum:=by
  intro n;induction n with
  | zero=>intro _;simp[Np]
  | succ n ih =>intro hn;obtain⟨h0,h1⟩:=eY (ih bC) (h n _ (aZ (show n<l.length by omega)));rw[jK,bg,sQ (aZ (show n<l.length by omega)),gy,aZ (show n<l.length by omega)];simp only[gX,tH,kI,fZ,jV,jI,ru];omega
 have:=key l.length (bG _);rwa[jQ]at this
theorem afq{α:Type}{l:List α}{f:Nat->α->List Dg}(c:Nat)(a:∀i x,l[i]?=some x->(f i x).length<=c)(n:Nat):(upto (atD l f) n).length<=n*c:=by
 induction n with
 | zero=>simp[Np]
 | succ n d=>
  rw[jK,bg,rZ];have:(atD l f n).length<=c:=by
   unfold atD;split;·rename_i x b;exact a n x b
   ·simp
  omega
theorem I8(fn:aS)(l:List aS):(GX fn l).length<=l.length:=by have:=afq (l:=l) (f:=λi s=>if ER (l.take i) s=true then [(⟨2,fn,s⟩:Dg)]else []) 1 (λi x _=>by split<;>simp) l.length;unfold GX;omega
theorem ait(x:Mo)(known:List Mo)(k:Nat)(fn:aS)(y:Ex):(clE x known k fn y).length<=1:=by unfold clE;split<;>simp
theorem zL(l:aJ):l.length<=nJ l:=by have:=I7 (f:=λs:ByteArray=>s.size+1) l (λx=>by omega);unfold nJ;omega
theorem Zq(l:List Va):l.length<=VE l:=by have:=I7 (f:=λs:Va=>s.name.size+s.level.size+3) l (λx=>by omega);unfold VE;omega
theorem I9(m:Nat)(l:List Fu):l.length<=BK m l:=by have:=I7 (f:=λs:Fu=>s.name.size+2+nJ s.params+fA m s.body+jF m s.result) l (λx=>by omega);unfold BK;omega
theorem TY{l:List Fu}(d:mE w m v l)(h:f∈l):∃vb,fH w m vb f.body:=by obtain⟨a,b,off,cap,_,_,_,e⟩:=d;obtain⟨i,o,rfl⟩:=gU.1 h;obtain⟨_,y,vb,p,r,t,u,_,_,_,_,_,_,_,_,g,_⟩:=e i _<|aZ o;exact⟨vb,g⟩
theorem alm(a:fH w m vb f.body):(mZ m f).length<=fA m f.body+jF m f.result:=by have b:=ajO (f:=λs=>fK m s.e) a (λs=>by have:=agr m s.e;omega);have d:=agr m f.result;unfold mZ;rw[bg];omega
theorem aiu(names:aJ)(known:List Mo)(h:jl w m v x)(hw:xH m x<=1048576):(D9 names x known m).length<=16777216:=by
 obtain⟨vi,vv,vf,rfl,_,hI,hV,hF⟩:=h;obtain⟨a1,a2,a3⟩:=lS (zL x.imports) (Zq x.vars) (I9 m x.bq);have b1:(imD x known).length<=x.imports.length*1:=afq 1 (λi s _=>by split<;>simp) _;obtain⟨b2,b3,b4⟩:=lS (I8 ⟨#[]⟩ x.imports) (I8 ⟨#[]⟩ (x.vars.map (·.name))) (I8 ⟨#[]⟩ (x.bq.map (·.name)));rw[dV]at b3 b4;have b5:(x.bq.flatMap λf=>GX f.name f.params).length<=BK m x.bq:=by refine bE (jC (g:=λs:Fu=>s.name.size+2+nJ s.params+fA m s.body+jF m s.result) (λf _=>?_)) (dN _);have:=I8 f.name f.params;have:=zL f.params;omega
 have b6:(x.vars.flatMap λv=>nQ names ⟨#[]⟩ v.level).length<=x.vars.length:=aa5 λv=>adD _ _ _;have b7:(x.bq.flatMap λf=>(all m f.body).flatMap (Av names f.name)).length<=BK m x.bq:=by refine bE (jC (g:=λs:Fu=>s.name.size+2+nJ s.params+fA m s.body+jF m s.result) (λf hf=>?_)) (dN _);obtain⟨vb,hb⟩:=TY hF hf;have:=ajO (f:=Av names f.name) hb (λs=>by have:=adu names f.name s;omega);omega
 have b8:(clD x known m).length<=BK m x.bq:=by refine bE (afp (g:=λs:Fu=>s.name.size+2+nJ s.params+fA m s.body+jF m s.result) (λk f hf=>?_)) (dN _);obtain⟨vb,hb⟩:=TY hF (dG hf);have h1:=alm hb;have h2:((mZ m f).flatMap (clE x known k f.name)).length<=(mZ m f).length:=aa5 λy=>ait _ _ _ _ _;omega
 unfold xH at hw;unfold D9 twD lvD;simp only[uE,DT,bg,gL];omega
end bO
namespace Fl
theorem wD:0<=dU l s↔s∈l:=by
 unfold dU;constructor
 ·intro b;split at b;·rename_i i a;obtain⟨d,e⟩:=bS.find_spec a;unfold Ov at e;have g:s=l.getD i ByteArray.empty:=dM.1 e;rw[g,List.getD,aZ d];exact kZ d
  ·omega
 ·intro b;obtain⟨i,a,rfl⟩:=gU.1 b;split;·omega
  ·rename_i h;have:=Gv.1 h i<|jE.2 a;exact aM (dM.2 (by rw[List.getD,aZ a];rfl)) this
theorem T9(l:aJ)(s:aS):dU l s<l.length\/l=[]:=by
 rcases vR l s with b|⟨i,b,d⟩
 ·by_cases a:l=[];·exact aQ a
  ·left;have:=vO.2 a;omega
 ·left;omega
theorem K6{g:Nat->List Dg}(a:bO.upto g n=[]):∀i,i<n->g i=[]:=λi e=>by refine List.eq_nil_iff_forall_not_mem.2 λd b=>?_;have:d∈bO.upto g n:=adx.2 ⟨i,e,b⟩;rw[a]at this;cases this
theorem Gc(e:GX fn l=[]):l.Nodup:=by
 rw[List.Nodup,Px];intro i j h b o d;have a:=K6 e j b;rw[sQ (aZ b)]at a;have g:bO.ER (l.take j) l[j]=true:=by unfold bO.ER;rw[iy,wD,<-d];refine gU.2 ⟨i,by rw[iA];omega,?_⟩;rw[List.getElem_take]
 rw[aK g]at a;cases a
structure pX(ss:List ByteArray)(x:Mo)(known:List Mo)(m:Nat):Prop where
 vars:(x.vars.map (·.name)).Nodup
 vI:∀f∈x.bq,f.params.Nodup
 Ig:∀v∈x.vars,0<=dU ss v.level
 prints:∀f∈x.bq,∀s∈bO.all m f.body,s.kind=4->0<=dU ss s.name
 calls:∀(k:Nat) f,x.bq[k]?=some f->∀y∈mZ m f,bO.code x known k y.name y.args.length=0
theorem zM{α β:Type}{f:α->List β}{l:List α}(a:l.flatMap f=[]){x:α}(b:x∈l):f x=[]:=by rw[List.flatMap_eq_nil_iff]at a;exact a x b
theorem Qr(a:bO.once (D9 ss x known m)=[]):pX ss x known m:=by
 have g:D9 ss x known m=[]:=List.eq_nil_iff_forall_not_mem.2 λd r=>by have:=(Dh _ d).2 r;rw[a]at this;cases this
 unfold D9 at g;simp only[uE,DT,gL,MZ]at g;obtain⟨_,h,e,p⟩:=g;unfold twD at h;simp only[uE,DT,gL,MZ]at h;obtain⟨⟨_,C,_⟩,u⟩:=h;unfold lvD at e;rw[MZ]at e;refine⟨Gc C,λf b=>Gc<|zM u b,λv D=>?_,λf b s z t=>?_,λk f b y F=>?_⟩
 ·have:=zM e.1 D;unfold bO.nQ at this;split at this;·rename_i a;exact iP a
  ·cases this
 ·have:=zM (zM e.2 b) z;unfold Av bO.nQ at this;rw[aK t]at this;split at this;·rename_i a;exact iP a
  ·cases this
 ·have o:=K6 p k (cO.1 b).1;rw[sQ b]at o;have:=zM o F;unfold clE at this;split at this;·rename_i a;exact a
  ·cases this
theorem p9:∀(m k:Nat) (x y:Ex),m<=k->y∈fK m x->y∈fK k x
 | 0,_,_,_,_,a=>by simp[fK]at a
 | m+1,0,_,_,d,_=>by omega
 | m+1,k+1,x,y,d,a=>by
  simp only[fK,bX,gZ]at a ⊢;rcases a with a|⟨b,e,a⟩;·exact aO a
  ·exact aQ ⟨b,e,p9 m k b y bC a⟩
theorem Zr:∀(m k:Nat) (l:List St) (s:St),m<=k->s∈bO.all m l->s∈bO.all k l
 | 0,_,_,_,_,a=>by simp[bO.all]at a
 | m+1,0,_,_,b,_=>by omega
 | m+1,k+1,l,s,b,a=>by
  simp only[bO.all,bO.within,bX,gZ,dh]at a ⊢;obtain⟨t,d,a⟩:=a;refine⟨t,d,?_⟩;rcases a with(a|a)|a;·exact aO<|aO a
  ·exact aO<|aQ<|Zr m k _ s bC a
  ·exact aQ<|Zr m k _ s bC a
theorem Gd:∀(m:Nat) (x:Ex) (s:aS),s∈cls m x->∃y∈fK m x,y.name=s
 | 0,_,_,a=>by simp[cls]at a
 | m+1,x,s,a=>by
  simp only[cls,bX,gZ]at a;rcases a with a|⟨b,h,a⟩
  ·split at a;·rename_i e;simp only[dh]at a;exact⟨x,by simp[fK,e],a.symm⟩
   ·cases a
  ·obtain⟨y,g,d⟩:=Gd m b s a;exact⟨y,by simp only[fK,bX,gZ];exact aQ ⟨b,h,g⟩,d⟩
theorem CK:∀(m:Nat) (l:List St) (s:aS),s∈nR m l->∃t∈bO.all m l,∃y∈fK m t.e,y.name=s
 | 0,_,_,a=>by simp[nR]at a
 | m+1,l,s,a=>by
  simp only[nR,bX,gZ]at a;obtain⟨t,h,a⟩:=a;have g:∀u,u=t\/u∈bO.all m t.a\/u∈bO.all m t.b->u∈bO.all (m+1) l:=λu d=>by
   simp only[bO.all,bO.within,bX,gZ,dh];refine⟨t,h,?_⟩;rcases d with a|a|a;·exact aO<|aO a
   ·exact aO<|aQ a
   ·exact aQ a
  rcases a with(a|a)|a;·obtain⟨y,e,b⟩:=Gd m _ s a;exact⟨t,g t<|aO rfl,y,p9 m (m+1) _ _ (dN _) e,b⟩
  ·obtain⟨u,d,y,e,b⟩:=CK m _ s a;exact⟨u,g u<|aQ<|aO d,y,p9 m (m+1) _ _ (dN _) e,b⟩
  ·obtain⟨u,d,y,e,b⟩:=CK m _ s a;exact⟨u,g u<|aQ<|aQ d,y,p9 m (m+1) _ _ (dN _) e,b⟩
theorem abx(a:s∈nR m f.body++cls m f.result):∃y∈mZ m f,y.name=s:=by
 unfold mZ;rcases bX.1 a with a|a;·obtain⟨t,e,y,d,b⟩:=CK m _ s a;exact⟨y,bX.2<|aO<|gZ.2 ⟨t,e,d⟩,b⟩
 ·obtain⟨y,d,b⟩:=Gd m _ s a;exact⟨y,bX.2<|aQ d,b⟩
def Gf:Sc:=⟨⟨#[]⟩,0,0,[],0,[]⟩
def qH(x:Mo)(k:Nat)(known:List Mo)(bL:List (List Sc))(own:List Sc)(call:ByteArray):Sc:=
 if (fF x k call known).2.2=false then Gf else if (fF x k call known).1<0 then own.getD (fF x k call known).2.1.toNat Gf else (bL.getD (fF x k call known).1.toNat []).getD (fF x k call known).2.1.toNat Gf
theorem Ua(b:fF x k call known=(-1,(i:Int),true)):i<k:=by
 cases e:lI call with
 | none=>
  have h:fF x k call known=bO.tV (-1) x.bq call k:=by simp[fF,e]
  rw[h]at b;unfold bO.tV at b;cases o:vP x.bq call k with
  | none=>rw[o]at b;simp at b
  | some j =>rw[o]at b;simp only[pO,true_and,and_true]at b;have:=(Dy o).1;omega
 | some d=>
  exfalso;rcases vR x.imports (bS.preS call)with g|⟨i',g,_⟩
  ·have h:fF x k call known=(0,0,false):=by simp[fF,e,g]
   rw[h]at b;simp at b
  ·cases p:dQ known (x.imports.getD i' ByteArray.empty)with
   | none=>rw[Dn e g p]at b;simp at b
   | some a =>obtain⟨y,r,_⟩:=bO.rJ p;rw[Dp e g p r]at b;unfold bO.tV at b;split at b<;>simp at b<;>omega
theorem PW{y:Sc}(d:scB N y=true)(o:y.bounds.length=n):Wt N y n:=by unfold scB at d;simp only[dK]at d;obtain⟨g,⟨a,e⟩,_⟩:=d;unfold Au at a;unfold Iu at e;simp only[dK,iy]at a e;refine⟨o,λb h=>?_,⟨a.1.1.1,a.1.1.2⟩,⟨a.1.2,a.2⟩,e⟩;have:=iB.1 g b h;unfold Iu at this;simpa using this
theorem Zt{fs:List Fu}{ys:List Sc}(a:vg N fs ys=true){g:Fu}(hg:fs[j]?=some g):∃y,ys[j]?=some y/\y.bounds.length=g.params.length/\scB N y=true:=by
 unfold vg at a;simp only[dK,iy]at a;have o:=(cO.1 hg).1;have d:j<ys.length:=by omega
 refine⟨ys[j],aZ d,?_⟩;have e:(g,ys[j])∈List.zip fs ys:=by refine gU.2 ⟨j,by rw[He];omega,?_⟩;rw[List.getElem_zip];obtain⟨h,b⟩:=cO.1 hg;rw[b]
 have:=iB.1 a.2 _ e;unfold F4 at this;simpa using this
theorem afs(a:jw N ms ys=true){g:Mo}(hg:ms[j]?=some g):∃y,ys[j]?=some y/\vg N g.bq y=true:=by
 unfold jw at a;simp only[dK,iy]at a;have o:=(cO.1 hg).1;have d:j<ys.length:=by omega
 refine⟨ys[j],aZ d,?_⟩;have e:(g,ys[j])∈List.zip ms ys:=by refine gU.2 ⟨j,by rw[He];omega,?_⟩;rw[List.getElem_zip];obtain⟨h,b⟩:=cO.1 hg;rw[b]
 exact iB.1 a.2 _ e
theorem Xr(H:jw N known bL=true)(I:vg N (x.bq.take k) own=true)(b:bO.code x known k call n=0):Zj x k known bL own call (qH x k known bL own call)/\Wt N (qH x k known bL own call) n:=by
 have K:(fF x k call known).2.2=true:=by
  unfold bO.code at b;cases z:(fF x k call known).2.2 with
  | true=>rfl
  | false=>rw[z]at b;simp at b
 rcases FE K with⟨i,f,d,e⟩|⟨a,y,j,f,d,u,e⟩
 ·have F:=Ua d;have C:(x.bq.take k)[i]?=some f:=by rw[nM F];exact e
  obtain⟨s,g,o,r⟩:=Zt I C;have h:qH x k known bL own call=s:=by unfold qH;rw[d];simp[List.getD,g]
  rw[h];have p:f.params.length=n:=by unfold bO.code VQ at b;rw[d]at b;simp[e]at b;exact b
  exact⟨aO ⟨by rw[d];show(-1:Int)<0;omega,i,by rw[d],g⟩,PW r<|o.trans p⟩
 ·obtain⟨l,t,D⟩:=afs H u;obtain⟨s,g,o,r⟩:=Zt D e;have h:qH x k known bL own call=s:=by
   unfold qH;rw[d];have:¬((a:Int)<0):=by omega
   simp[List.getD,t,g,this]
  rw[h];have p:f.params.length=n:=by
   unfold bO.code VQ at b;rw[d]at b;have:¬((a:Int)=-1):=by omega
   simp[u,e,this]at b;exact b
  exact⟨aQ ⟨a,j,l,by rw[d],by rw[d],t,g⟩,PW r<|o.trans p⟩
theorem tK(h:dZ s.data.toList=true):s.size<=8:=by unfold dZ at h;simp only[dK,iy]at h;have:=h.1.2;rwa[iG]at this
theorem CO(h:s.toList.isEmpty=true):s.size=0:=by rw[A8,List.isEmpty_iff]at h;rw[<-iG,h];rfl
theorem akb(a:yB s=true):s.size<=17:=by
 unfold yB at a;simp only[dK,GK]at a;have b:=tK a.1;unfold bS.preS at b;unfold uR at a;cases e:lI s with
 | none=>rw[e]at b;simpa using bE b bM
 | some i=>
  rw[e]at a b;have h:=am0 e;rcases a.2 with d|d;·simp at d
  ·have g:=tK d;simp at b g;omega
theorem Ja(c:Env):∀(m:Nat) (x:Ex),jo m x=true->(∀y∈fK m x,Wt c.N (c.eF y.name) y.args.length)->c.xZ m x
 | 0,_,a,_=>by simp[jo]at a
 | m+1,x,a,u=>by
  have C:∀y∈x.args,∀e∈fK m y,Wt c.N (c.eF e.name) e.args.length:=λy b e F=>u e (by simp only[fK,bX,gZ];exact aQ ⟨y,b,F⟩);simp only[jo]at a;by_cases p:x.kind=1;·rw[aK p]at a;simp only[dK,beq_iff_eq]at a;have o:=CO a.1.2;have h:x.args=[]:=qp.1 a.2;exact⟨by omega,λd=>by omega,λd=>by omega,λy b=>by rw[h]at b;cases b⟩
  ·rw[aI p]at a;by_cases r:x.kind=2;·rw[aK r]at a;simp only[dK,beq_iff_eq]at a;have o:=tK a.1.2;have h:x.args=[]:=qp.1 a.2;exact⟨by omega,λd=>by omega,λd=>by omega,λy b=>by rw[h]at b;cases b⟩
   ·rw[aI r]at a;by_cases t:x.kind=3
    ·rw[aK t]at a;simp only[dK,beq_iff_eq]at a;have o:x.name.size<=17:=by
      have z:=a.1.1.2;by_cases D:x.name.size=1;·omega
      ·rw[OC D]at z;cases z
     exact⟨o,λ_=>a.1.2,λd=>by omega,λy b=>Ja c m y (iB.1 a.2 y b)<|C y b⟩
    ·rw[aI t]at a;by_cases g:x.kind=4;·rw[aK g]at a;simp only[dK,beq_iff_eq,iy]at a;exact⟨akb a.1.1.2,λd=>by omega,λ_=>⟨a.1.2,u x<|by simp[fK,g]⟩,λy b=>Ja c m y (iB.1 a.2 y b)<|C y b⟩
     ·rw[aI g]at a;cases a
theorem Qs(c:Env):∀(m:Nat) (l:List St),j6 m l=true->(∀s∈bO.all m l,(∀y∈fK m s.e,Wt c.N (c.eF y.name) y.args.length)/\(s.kind=4->0<=c.pl s.name))->c.yg m l
 | 0,_,b,_=>by simp[j6]at b
 | m+1,l,b,o=>by
  intro s p;rw[wL]at b;have g:=iB.1 b s p;unfold Vz at g;simp only[dK]at g;obtain⟨⟨⟨a,z⟩,r⟩,t⟩:=g;have h:∀u,u=s\/u∈bO.all m s.a\/u∈bO.all m s.b->u∈bO.all (m+1) l:=λu d=>by
   simp only[bO.all,bO.within,bX,gZ,dh];refine⟨s,p,?_⟩;rcases d with b|b|b;·exact aO<|aO b
   ·exact aO<|aQ b
   ·exact aQ b
  have e:∀u,(u=s\/u∈bO.all m s.a\/u∈bO.all m s.b)->(∀y∈fK m u.e,Wt c.N (c.eF y.name) y.args.length)/\(u.kind=4->0<=c.pl u.name):=λu d =>⟨λy D=>(o u<|h u d).1 y (p9 m (m+1) _ _ (dN _) D),(o u<|h u d).2⟩;unfold stH at a;refine⟨?_,Ja c m s.e z (e s<|aO rfl).1,λC=>?_,(e s<|aO rfl).2,Qs c m s.a r λu d=>e u<|aQ<|aO d,Qs c m s.b t λu d=>e u<|aQ<|aQ d⟩
  ·split at a;·simp only[dK]at a;exact tK a.1.1
   ·split at a;·have:=CO a;omega
    ·split at a;·simp only[dK]at a;have:=CO a.1;omega
     ·cases a
  ·rw[aK C]at a;simp only[dK,beq_iff_eq]at a;exact⟨qp.1 a.2,qp.1 a.1.2⟩
theorem K7{c:Env}:∀(m:Nat) (x:Ex),c.xZ m x->∀s∈cls m x,s.size<=17
 | 0,_,b,_,_=>iU b
 | m+1,x,b,s,a=>by
  simp only[cls,bX,gZ]at a;rcases a with a|⟨y,d,a⟩
  ·split at a;·rw[dh]at a;subst a;exact b.1
   ·cases a
  ·exact K7 m y (b.2.2.2 y d) s a
theorem Gg{c:Env}:∀(m:Nat) (l:List St),c.yg m l->∀s∈nR m l,s.size<=17
 | 0,_,b,_,_=>iU b
 | m+1,l,b,s,a=>by
  simp only[nR,bX,gZ]at a;obtain⟨t,h,a⟩:=a;obtain⟨_,g,_,_,d,e⟩:=b t h;rcases a with(a|a)|a;·exact K7 m _ g s a
  ·exact Gg m _ d s a
  ·exact Gg m _ e s a
def gH(ss:List ByteArray)(Z:Nat->Nat->Bool)(x:Mo)(k:Nat)(known:List Mo)(bL:List (List Sc))(own:List Sc)(f:Fu):Env:=
 ⟨Z,ss.length,xR Z ss.length,x.name,tJ ss f.params x.vars,λs=>dU ss s,qH x k known bL own⟩
theorem aiw(d:0<ss.length)(e:∀v∈vs,0<=dU ss v.level)(a:tJ ss ps vs s=some n):n<ss.length:=by
 unfold tJ at a;split at a;·cases a
 ·obtain⟨v,h,rfl⟩:=yF.1 a;have g:=List.mem_reverse.1<|Gw h;have o:=e v g;rcases T9 ss v.level with b|b;·omega
  ·rw[b]at d;simp at d
theorem Ub{L:Nat->Nat}(d:dD ss G L Z=0)(e:pX ss x known m)(k:Nat)(bL:List (List Sc))(own:List Sc)(f:Fu):(gH ss Z x k known bL own f).Ok:=by have a:=qF d;have b:=Jq a.order;exact⟨(Db (sD b.turn a.meets) a.pos).1,λs n g=>aiw a.pos e.Ig g,sD b a.joins,a.six⟩
structure aq3(c:Env)(x:Mo)(k:Nat)(known:List Mo)(bL:List (List Sc))(own:List Sc)(m:Nat)(f:Fu):Prop where
 st:c.yg m f.body
 ex:c.xZ m f.result
 means:∀s∈nR m f.body++cls m f.result,s.size<=17/\Zj x k known bL own s (c.eF s)
theorem Zu(o:pX ss x known m)(C:oO m x=0)(r:x.bq[k]?=some f)(g:jw ss.length known bL=true)(h:vg ss.length (x.bq.take k) own=true):aq3 (gH ss Z x k known bL own f) x k known bL own m f:=by
 have t:=dG r;obtain⟨D,F⟩:=akT C f t;have e:=o.calls k f r;have u:(gH ss Z x k known bL own f).yg m f.body:=Qs _ m f.body D λs a=>⟨λy b=>(Xr g h<|e y<|bX.2<|aO<|gZ.2 ⟨s,a,b⟩).2,λz=>o.prints f t s a z⟩;have p:(gH ss Z x k known bL own f).xZ m f.result:=Ja _ m f.result F λy b=>(Xr g h<|e y<|bX.2<|aQ b).2;refine⟨u,p,λs a=>?_⟩;obtain⟨y,b,rfl⟩:=abx a;refine⟨?_,(Xr g h<|e y b).1⟩;rcases bX.1 a with d|d;·exact Gg m f.body u _ d
 ·exact K7 m f.result p _ d
end Fl
namespace Fl
theorem jT{α:Type}{f g:α->Nat}:∀{l:List α},(∀x∈l,f x<=g x)->(l.map f).sum<=(l.map g).sum
 | [],_=>bG _
 | x::l,a=>by have d:=a x cK;have e:=jT (l:=l) λy b=>a y (by simp[b]);simp only[fZ,jI];omega
theorem amJ{α:Type}{g:α->Nat}:∀{l:List α} {x:α},x∈l->g x<=(l.map g).sum
 | y::l,x,h=>by
  simp only[fZ,jI];rcases fV.1 h with rfl|h;·omega
  ·have:=amJ (g:=g) h;omega
theorem jC{α β:Type}(f:α->List β)(l:List α):(l.flatMap f).length=(l.map λx=>(f x).length).sum:=by
 induction l with
 | nil=>rfl
 | cons x l a=>simp[List.flatMap_cons,a]
theorem zN{α:Type}(k:Nat)(f:α->Nat):∀l:List α,(l.map λx=>k*f x).sum=k*(l.map f).sum
 | []=>rfl
 | x::l=>by simp only[fZ,jI,zN k f l,Nat.mul_add]
section
variable (c : Env)
theorem Qt(s:aS):(c.MH s).length<=1:=by unfold Env.MH;split<;>simp
theorem Qu:∀(m:Nat) (x:Ex),(c.oM m x).length<=jF m x
 | 0,_=>by simp[Env.oM]
 | m+1,x=>by
  simp only[Env.oM,jF,bg,jC];obtain⟨a,b⟩:=eY (jT (l:=x.args) λy _=>Qu m y)<|Qt c x.name;split;·omega
  ·simp only[Ef];omega
theorem Qv:∀(m:Nat) (l:List St),(c.yx m l).length<=fA m l
 | 0,_=>by simp[Env.yx]
 | m+1,l=>by
  simp only[Env.yx,fA,jC];refine bE (jT (g:=λs:St=>s.name.size+3+jF m s.e+fA m s.a+fA m s.b) λs _=>?_)<|dN _;obtain⟨a,b,d⟩:=lS (Qu c m s.e) (Qv m s.a)<|Qv m s.b;have e:(c.G8 s).length<=1:=by
   unfold Env.G8;split;·exact Qt c _
   ·simp
  simp only[bg];omega
theorem Qw:∀(m:Nat) (x:Ex),(cls m x).length<=jF m x
 | 0,_=>by simp[cls]
 | m+1,x=>by simp only[cls,jF,bg,jC];have a:=jT (l:=x.args) λy _=>Qw m y;split<;>simp only[Ef,iI]<;>omega
theorem La:∀(m:Nat) (l:List St),(nR m l).length<=fA m l
 | 0,_=>by simp[nR]
 | m+1,l=>by simp only[nR,fA,jC];refine bE (jT (g:=λs:St=>s.name.size+3+jF m s.e+fA m s.a+fA m s.b) λs _=>?_)<|dN _;obtain⟨a,b,d⟩:=lS (Qw m s.e) (La m s.a)<|La m s.b;simp only[bg];omega
theorem Qx:∀(m:Nat) (l:List St),c.vY m l<=fA m l
 | 0,_=>by simp[Env.vY]
 | m+1,l=>by
  simp only[Env.vY,fA];refine bE (jT (g:=λs:St=>s.name.size+3+jF m s.e+fA m s.a+fA m s.b) λs _=>?_)<|dN _;obtain⟨a,b⟩:=eY (Qx m s.a)<|Qx m s.b;have d:c.xY s<=1:=by
   unfold Env.xY;split;·exact Qt c _
   ·omega
  omega
theorem Qy{K:Nat}(a:1<=K)(b:∀s,(c.eF s).gY.length<=K):∀(m:Nat) (x:Ex),(c.AA m x).length<=K*jF m x
 | 0,_=>by simp[Env.AA]
 | m+1,x=>by
  simp only[Env.AA,jF,bg,jC];have d:=jT (l:=x.args) λy _=>Qy a b m y;rw[zN]at d;have e:(if x.kind=2 then c.Q8 ⟨#[114,58]⟩ x.name else if x.kind=4 then (c.eF x.name).gY else []).length<=K:=by
   split;·refine bE ?_ a;unfold Env.Q8;split<;>simp
   ·split;·exact b _
    ·simp
  have g:K*(x.name.size+4+(x.args.map<|jF m).sum)=K*(x.name.size+4)+K*(x.args.map<|jF m).sum:=Nat.mul_add _ _ _;have h:K*1<=K*(x.name.size+4):=Nat.mul_le_mul_left _ bC;omega
theorem Qz{K:Nat}(a:1<=K)(b:∀s,(c.eF s).gY.length<=K):∀(m:Nat) (l:List St),(c.Pz m l).length<=K*fA m l
 | 0,_=>by simp[Env.Pz]
 | m+1,l=>by
  simp only[Env.Pz,fA,jC];refine bE (jT (g:=λs:St=>K*(s.name.size+3+jF m s.e+fA m s.a+fA m s.b)) λs _=>?_) (by rw[zN];exact Nat.mul_le_mul_left _<|dN _);obtain⟨d,e,h⟩:=lS (Qy c a b m s.e) (Qz a b m s.a)<|Qz a b m s.b;have o:(c.Py s).length<=1:=by
   unfold Env.Py;split;·unfold Env.Q8;split<;>simp
   ·split<;>simp
  have p:K*(s.name.size+3+jF m s.e+fA m s.a+fA m s.b)=K*(s.name.size+3)+K*jF m s.e+K*fA m s.a+K*fA m s.b:=by rw[Nat.mul_add,Nat.mul_add,Nat.mul_add]
  have r:K*1<=K*(s.name.size+3):=Nat.mul_le_mul_left _ bC;simp only[bg];omega
theorem Jb:∀(m:Nat) (x:Ex) (pc:Hg),c.xZ m x->(c.zi m x pc).length<=2*jF m x
 | 0,_,_,a=>iU a
 | m+1,x,pc,a=>by
  simp only[Env.zi,jF,bg,jC];have b:=jT (l:=x.args) λy e=>Jb m y pc<|a.2.2.2 y e;rw[zN]at b;split;·rename_i d;have g:=(a.2.2.1 d).1;simp only[Env.skA,bg,dV,uJ,iI];omega
  ·simp only[Ef];omega
theorem Jc:∀(m:Nat) (l:List St) (pc:Hg),c.yg m l->(c.Il m l pc).length<=2*fA m l
 | 0,_,_,a=>iU a
 | m+1,l,pc,a=>by
  simp only[Env.Il,fA,jC];refine bE (jT (g:=λs:St=>2*(s.name.size+3+jF m s.e+fA m s.a+fA m s.b)) λs h=>?_) (by rw[zN];omega);obtain⟨_,e,_,_,b,d⟩:=a s h;obtain⟨o,p,r⟩:=lS (Jb c m s.e (c.at m pc s) e) (Jc m s.a (c.here m pc s) b)<|Jc m s.b (c.here m pc s) d;have t:(c.Vl s<|c.here m pc s).length<=1:=by
   unfold Env.Vl;split;·unfold Env.skN;split<;>simp
   ·split<;>simp
  simp only[bg];omega
theorem Xu:∀(m:Nat) (l:List St) (pc:Hg),(c.Kn m l pc).length=c.vY m l
 | 0,_,_=>by simp[Env.Kn,Env.vY]
 | m+1,l,pc=>by
  simp only[Env.Kn,Env.vY,jC];congr 1;refine Na λs _=>?_;simp only[bg,Xu m];congr 2;unfold Env.cn1 Env.xY Env.cnN Env.MH;split;·split<;>rfl
  ·rfl
end
theorem afu(a:f∈x.bq):f.params.length+fA m f.body+jF m f.result+2<=xH m x:=by have b:=amJ (g:=λs:Fu=>s.name.size+2+nJ s.params+fA m s.body+jF m s.result) a;have d:=zL f.params;unfold xH BK;omega
end Fl
theorem kJ(o:Below n w W)(e:n<=B)(a b c d h f g:aC):Below n w (((((((W.setCell (aN B 0) a).setCell (aN B 1) b).setCell (aN B 2) c).setCell (aN B 3) d).setCell (aN B 4) h).setCell (aN B 5) f).setCell (aN B 6) g):=
 ((((((o.setCell e _).setCell e _).setCell e _).setCell e _).setCell e _).setCell e _).setCell e _
namespace Fl
theorem aix{B:aJ}(h:∀t,t∈Zk↔t∈B):gP (jZ Zk)=gP (jZ B):=
 KW (KV _<|Et Zk) (KV _<|Et B) λt=>by rw[yY,vT,yY,vT,h]
def QA(ss:List ByteArray)(G:Nat)(L:Nat->Nat)(Z:Nat->Nat->Bool)(m:Nat)(x:Mo)(k:Int)(known:List Mo)(bL:List (List Sc))(own:List Sc):Int:=
 if AO (dD ss G L Z) m x known≠0 then AO (dD ss G L Z) m x known
 else if bO.once (D9 ss x known m)≠[]then 5
 else if k<0\/k>=x.bq.length\/jw ss.length known bL=false\/vg ss.length (x.bq.take k.toNat) own=false then 1 else 0
end Fl
structure mQ(w:World)(m:Nat)(vn vl vi vv vf vk vs vo:Value)(ss:List ByteArray)(G:Nat)(L:Nat->Nat)(Z:Nat->Nat->Bool)(x:Mo)(known:List Mo)(bL:List (List Sc))(own:List Sc):Prop where
 strs:Strs w vn ss
 Q5:EX w vl G L Z
 mo:jl w m (.agg #[.string x.name,vi,vv,vf]) x
 cap:Bg w vi vf
 kn:jN w m vk known
 sc:BZ w vs bL
 ow:xO w vo own
 small:xH m x<=1048576
 smalls:∀y∈known,xH m y<=1048576
 tab:Tab w
 mg:∀l∈bL,∀y∈l,y.gY.length<=1048576
 Rp:∀y∈own,y.gY.length<=1048576
section
variable {w w' : World} {m : Nat} {vn vl vi vv vf vk vs vo : Value} {ss : List ByteArray} {G : Nat} {L : Nat → Nat} {Z : Nat → Nat → Bool} {x : Mo} {known : List Mo} {bL : List (List Sc)} {own : List Sc}
theorem mQ.below(a:mQ w m vn vl vi vv vf vk vs vo ss G L Z x known bL own)(b:bK w w'):mQ w' m vn vl vi vv vf vk vs vo ss G L Z x known bL own:=
 ⟨a.strs.below b,a.Q5.below b,a.mo.below b,a.cap.below b,a.kn.below b,a.sc.below b,a.ow.below b,a.small,a.smalls,a.tab.below b,a.mg,a.Rp⟩
theorem mQ.Oz(a:mQ w m vn vl vi vv vf vk vs vo ss G L Z x known bL own):aD 34 #[.agg #[vn,vl],.agg #[A x.name,vi,vv,vf],vk] w λe w'=>∃u,e=dz (.tuple #[u,O<|AO (dD ss G L Z) m x known])/\jg w' u (FX (AO (dD ss G L Z) m x known) ss x known m)/\(FX (AO (dD ss G L Z) m x known) ss x known m=[]->u=aU)/\bK w w':=by
 have d:x.imports.length<=1048576/\x.vars.length<=1048576/\x.bq.length<=1048576:=by have h:=zL x.imports;obtain⟨o,p,g⟩:=lS (Zq x.vars) (I9 m x.bq) a.small;unfold xH at g;omega
 exact ajA m w vn vl vi vv vf vk ss x known _ a.strs a.mo a.kn a.cap (λwx b=>afC m wx vn vl vi vv vf vk ss G L Z x known (a.strs.below b) (a.Q5.below b) (a.mo.below b) (a.kn.below b) a.small a.smalls<|a.tab.below b) d.2.1 d.2.2 d.1<|aiu ss known a.mo a.small
theorem mQ.check(b:mQ w m vn vl vi vv vf vk vs vo ss G L Z x known bL own):aD 34 #[.agg #[vn,vl],.agg #[A x.name,vi,vv,vf],vk] w λa w'=>∃u,a=dz (.tuple #[u,O<|AO (dD ss G L Z) m x known])/\jg w' u (FX (AO (dD ss G L Z) m x known) ss x known m)/\bK w w':=by refine b.Oz.mono ?_;rintro a w' ⟨u,rfl,d,_,e⟩;exact⟨u,rfl,d,e⟩
theorem mQ.forms(b:mQ w m vn vl vi vv vf vk vs vo ss G L Z x known bL own):(∃a c,vn=X a ss.length c)/\(∃a n c,vl=X a n c)/\(∃a n c,vi=X a n c)/\(∃a n c,vv=X a n c)/\(∃a c,vf=X a x.bq.length c/\x.bq.length<=c)/\(∃a n c,vk=X a n c)/\(∃a n c,vs=X a n c)/\(∃a n c,vo=X a n c):=by obtain⟨u,y,z⟩:=b.mo.split;obtain⟨C,_,_,R,e,_⟩:=b.strs;obtain⟨D,_,_,S,_,_,_,_,g,_⟩:=b.Q5;obtain⟨F,_,_,U,h,_⟩:=u;obtain⟨H,_,_,V,o,_⟩:=y;obtain⟨I,_,_,c4,d,_⟩:=z;obtain⟨K,_,_,c5,p,_⟩:=b.kn;obtain⟨P,_,_,c6,r,_⟩:=b.sc;obtain⟨Q,_,_,c7,t,_⟩:=b.ow;exact⟨⟨_,_,e⟩,⟨_,_,_,g⟩,⟨_,_,_,h⟩,⟨_,_,_,o⟩,⟨_,_,d,b.cap.fus _ _ _ d⟩,⟨_,_,_,p⟩,⟨_,_,_,r⟩,⟨_,_,_,t⟩⟩
end
theorem Uc(m:Nat)(w:bI)(vn vl vi vv vf vk vs vo:aC)(ss:aJ)(G:Nat)(L:Nat->Nat)(Z:aL)(x:Mo)(known:List Mo)(bL:List (List Sc))(own:List Sc)(k mn mc:Int)(b:mQ w m vn vl vi vv vf vk vs vo ss G L Z x known bL own)(e:AO (dD ss G L Z) m x known≠0):aD 35 #[.agg #[vn,vl],.agg #[A x.name,vi,vv,vf],O k,vk,vs,vo,O mn,O mc] w λy w'=>y=dz (.tuple #[.agg #[aU,aU,aU,aU,O 0,O 0,aU],O<|AO (dD ss G L Z) m x known])/\bK w w':=by obtain⟨⟨a0,c0,z⟩,⟨a1,n1,c1,e1⟩,⟨a2,n2,c2,e2⟩,⟨a3,n3,c3,e3⟩,⟨a4,c4,C,aa⟩,⟨a5,n5,c5,e5⟩,⟨a6,n6,c6,e6⟩,⟨a7,n7,c7,e7⟩⟩:=b.forms;obtain⟨n0,o⟩:=aV ss.length;obtain⟨n4,t⟩:=aV x.bq.length;obtain⟨II,vD⟩:=bV o t;rw[<-o]at z;rw[<-t]at C aa;clear o t;subst z e1 e2 e3 C e5 e6 e7;obtain⟨W,g,p,r,F,ab,d⟩:=al3 w (aY #[X a0 n0 c0,X a1 n1 c1] 25) (aY #[A x.name,X a2 n2 c2,X a3 n3 c3,X a4 n4 c4] 59)<|aY #[aU,aU,aU,aU,O 0,O 0,aU] 106;obtain⟨I,K⟩:=jv p;obtain⟨P,Q,R,S⟩:=xX r;obtain⟨lH,jG,V,iO,H⟩:=uh p r F d<|(b.below d).check;clear p r F ab d b;rw[g]at I K P Q R S;obtain⟨E,D⟩:=aV<|AO (dD ss G L Z) m x known;rw[<-D]at H e ⊢;have hz:=eO e;clear D e;go_enter func35,ntmps35;go_wp2_with fail;rw[<-g];clear g I K P Q R S;refine H.mono ?_;rintro y w1 ⟨u,rfl,hu,h⟩;obtain⟨a,U⟩:=bV (bH V h)<|up iO h;clear hu h;obtain⟨r0,r1,r2,r3,r4,r5,r6⟩:=Cg a;obtain⟨z0,z1,z2,z3,z4,z5,z6⟩:=Ng (aF a 0) (aF a 1) (aF a 2) (aF a 3) (aF a 4) (aF a 5)<|aF a 6;go_wp2_with fail;have hs:=MN a (aU) (aU) (aU) (aU) (O 0) (O 0)<|aU;obtain⟨f0,f1,f2,f3,f4,f5,f6⟩:=Cg hs;refine cZ (v:=.tuple #[.agg #[aU,aU,aU,aU,O 0,O 0,aU],O<|E]) (by simp[results,results35,go_sem,f0,f1,f2,f3,f4,f5,f6]) rfl ⟨rfl,?_⟩;exact kJ U (bE (dN _)<|dN _) _ _ _ _ _ _ _
theorem Ud(m:Nat)(w:bI)(vn vl vi vv vf vk vs vo:aC)(ss:aJ)(G:Nat)(L:Nat->Nat)(Z:aL)(x:Mo)(known:List Mo)(bL:List (List Sc))(own:List Sc)(k mn mc:Int)(b:mQ w m vn vl vi vv vf vk vs vo ss G L Z x known bL own)(F:AO (dD ss G L Z) m x known=0)(D:bO.once (D9 ss x known m)≠[]):aD 35 #[.agg #[vn,vl],.agg #[A x.name,vi,vv,vf],O k,vk,vs,vo,O mn,O mc] w λy w'=>y=dz (.tuple #[.agg #[aU,aU,aU,aU,O 0,O 0,aU],O 5])/\bK w w':=by
 obtain⟨⟨a0,c0,z⟩,⟨a1,n1,c1,e1⟩,⟨a2,n2,c2,e2⟩,⟨a3,n3,c3,e3⟩,⟨a4,c4,C,aa⟩,⟨a5,n5,c5,e5⟩,⟨a6,n6,c6,e6⟩,⟨a7,n7,c7,e7⟩⟩:=b.forms;obtain⟨n0,h⟩:=aV ss.length;obtain⟨n4,t⟩:=aV x.bq.length;obtain⟨II,vD⟩:=bV h t;rw[<-h]at z;rw[<-t]at C aa;clear h t;subst z e1 e2 e3 C e5 e6 e7;obtain⟨W,e,p,r,H,ab,d⟩:=al3 w (aY #[X a0 n0 c0,X a1 n1 c1] 25) (aY #[A x.name,X a2 n2 c2,X a3 n3 c3,X a4 n4 c4] 59)<|aY #[aU,aU,aU,aU,O 0,O 0,aU] 106;obtain⟨K,P⟩:=jv p;obtain⟨Q,R,S,U⟩:=xX r;obtain⟨lH,jG,IJ,iO,I⟩:=uh p r H d<|(b.below d).check;clear p r H ab d b;rw[e]at K P Q R S U;rw[F]at I;have HD:J (0<(FX 0 ss x known m).length):=Y (by unfold FX;rw[aK rfl];exact vO.2 D);clear F D;go_enter func35,ntmps35;go_wp2_with fail;rw[<-e];clear e K P Q R S U;refine I.mono ?_;rintro y w1 ⟨u,rfl,hu,g⟩;obtain⟨a,V⟩:=bV (bH IJ g)<|up iO g;obtain⟨ua,ub,uo,uc,rfl,-⟩:=hu;obtain⟨nd,o⟩:=aV<|(FX 0 ss x known m).length;have ac:0<nd:=by rw[o];exact HD
 rw[<-o];clear o g;obtain⟨r0,r1,r2,r3,r4,r5,r6⟩:=Cg a;obtain⟨z0,z1,z2,z3,z4,z5,z6⟩:=Ng (aF a 0) (aF a 1) (aF a 2) (aF a 3) (aF a 4) (aF a 5)<|aF a 6;go_wp2_with fail;have hs:=MN a (aU) (aU) (aU) (aU) (O 0) (O 0)<|aU;obtain⟨f0,f1,f2,f3,f4,f5,f6⟩:=Cg hs;refine cZ (v:=.tuple #[.agg #[aU,aU,aU,aU,O 0,O 0,aU],O<|5]) (by simp[results,results35,go_sem,f0,f1,f2,f3,f4,f5,f6]) rfl ⟨rfl,?_⟩;exact kJ V (bE (dN _)<|dN _) _ _ _ _ _ _ _
theorem mE.V6{a:Option Addr}{l:List Fu}(r:mE w m (X a n c) l)(D:k<=l.length):mE w m (X a k c) (l.take k):=by
 obtain⟨z,b,off,cap,h,t,F,u⟩:=r;injection h with o C p;subst o p;have d:(l.take k).length=k:=by rw[iA];omega
 refine⟨a,b,off,c,by rw[d],λy=>t (by rw[d]at y;omega),by rw[d];omega,λi s e=>u i s ?_⟩;have g:=(cO.1 e).1;rw[d]at g;rw[nM g]at e;exact e
theorem Ue(m:Nat)(w:bI)(vn vl vi vv vf vk vs vo:aC)(ss:aJ)(G:Nat)(L:Nat->Nat)(Z:aL)(x:Mo)(known:List Mo)(bL:List (List Sc))(own:List Sc)(k mn mc:Int)(e:mQ w m vn vl vi vv vf vk vs vo ss G L Z x known bL own)(Q:AO (dD ss G L Z) m x known=0)(P:bO.once (D9 ss x known m)=[])(hk:k<0):aD 35 #[.agg #[vn,vl],.agg #[A x.name,vi,vv,vf],O k,vk,vs,vo,O mn,O mc] w λH w'=>H=dz (.tuple #[.agg #[aU,aU,aU,aU,O 0,O 0,aU],O 1])/\bK w w':=by
 obtain⟨⟨a0,c0,I⟩,⟨a1,n1,c1,e1⟩,⟨a2,n2,c2,e2⟩,⟨a3,n3,c3,e3⟩,⟨a4,c4,K,ad⟩,⟨a5,n5,c5,e5⟩,⟨a6,n6,c6,e6⟩,⟨a7,n7,c7,e7⟩⟩:=e.forms;obtain⟨n0,z⟩:=aV ss.length;obtain⟨n4,F⟩:=aV x.bq.length;obtain⟨II,vD⟩:=bV z F;rw[<-z]at I;rw[<-F]at K ad;clear z F;subst I e1 e2 e3 K e5 e6 e7;obtain⟨W,t,C,D,S,ae,r⟩:=al3 w (aY #[X a0 n0 c0,X a1 n1 c1] 25) (aY #[A x.name,X a2 n2 c2,X a3 n3 c3,X a4 n4 c4] 59)<|aY #[aU,aU,aU,aU,O 0,O 0,aU] 106;obtain⟨g,h⟩:=jv C;obtain⟨y0,y1,y2,o⟩:=xX D;obtain⟨lH,jG,IJ,iO,V⟩:=uh C D S r<|(e.below r).check;clear C D S ae r e;rw[t]at g h y0 y1 y2 o;rw[Q]at V;have HD:J ((FX 0 ss x known m).length=0):=Y (by unfold FX;rw[aK rfl,P];rfl);have ah:decide (k<0)=true:=gW hk;clear Q P;go_enter func35,ntmps35;go_wp2_with fail;rw[<-t];clear t g h y0 y1 y2 o;refine V.mono ?_;rintro H w1 ⟨u,rfl,hu,d⟩;obtain⟨U,mh,ac,aa⟩:=lD (bH lH d) (bH jG d) (bH IJ d)<|up iO d;obtain⟨ua,ub,uo,uc,rfl,-⟩:=hu;rw[HD];obtain⟨g,h,o⟩:=lS (bD<|(aj U 0).trans rfl) (bD<|(aj U 1).trans rfl) (bD<|(aj mh 3).trans rfl);clear d;go_wp2_with fail;refine bW dw dw ?_;repeat(with_reducible(refine wpQuiet_step (λp b=>?_));go_simp;first|(with_reducible(refine b _ ?_);clear b p)|(rw[aI (by simp[undef])];with_reducible(refine b _ ?_);clear b p)|(apply Exists.intro;refine⟨λ_=>?_,b _ ?_⟩;(fail);clear b p))
 with_reducible(refine wpQuiet_nil ?_)
 intro w2 af;obtain⟨⟨nq,ag⟩,R⟩:=af;have y:bK w1 w2:=by rw[R];exact bU w1 nq ag
 obtain⟨ab,a⟩:=bV (up aa y)<|bH ac y;clear R y g h o;obtain⟨r0,r1,r2,r3,r4,r5,r6⟩:=Cg a;obtain⟨z0,z1,z2,z3,z4,z5,z6⟩:=Ng (aF a 0) (aF a 1) (aF a 2) (aF a 3) (aF a 4) (aF a 5)<|aF a 6;go_wp2_with fail;have hs:=MN a (aU) (aU) (aU) (aU) (O 0) (O 0)<|aU;obtain⟨f0,f1,f2,f3,f4,f5,f6⟩:=Cg hs;refine cZ (v:=.tuple #[.agg #[aU,aU,aU,aU,O 0,O 0,aU],O<|1]) (by simp[results,results35,go_sem,f0,f1,f2,f3,f4,f5,f6]) rfl ⟨rfl,?_⟩;exact kJ ab (bE (dN _)<|dN _) _ _ _ _ _ _ _
theorem Uf(m:Nat)(w:bI)(vn vl vi vv vf vk vs vo:aC)(ss:aJ)(G:Nat)(L:Nat->Nat)(Z:aL)(x:Mo)(known:List Mo)(bL:List (List Sc))(own:List Sc)(k mn mc:Int)(e:mQ w m vn vl vi vv vf vk vs vo ss G L Z x known bL own)(Q:AO (dD ss G L Z) m x known=0)(P:bO.once (D9 ss x known m)=[])(ah:¬k<0)(R:k>=x.bq.length):aD 35 #[.agg #[vn,vl],.agg #[A x.name,vi,vv,vf],O k,vk,vs,vo,O mn,O mc] w λH w'=>H=dz (.tuple #[.agg #[aU,aU,aU,aU,O 0,O 0,aU],O 1])/\bK w w':=by
 obtain⟨⟨a0,c0,I⟩,⟨a1,n1,c1,e1⟩,⟨a2,n2,c2,e2⟩,⟨a3,n3,c3,e3⟩,⟨a4,c4,K,ad⟩,⟨a5,n5,c5,e5⟩,⟨a6,n6,c6,e6⟩,⟨a7,n7,c7,e7⟩⟩:=e.forms;obtain⟨n0,z⟩:=aV ss.length;obtain⟨V,F⟩:=aV x.bq.length;obtain⟨II,vD⟩:=bV z F;rw[<-z]at I;rw[<-F]at K ad;clear z F;subst I e1 e2 e3 K e5 e6 e7;obtain⟨W,t,C,D,U,ae,r⟩:=al3 w (aY #[X a0 n0 c0,X a1 n1 c1] 25) (aY #[A x.name,X a2 n2 c2,X a3 n3 c3,X a4 V c4] 59)<|aY #[aU,aU,aU,aU,O 0,O 0,aU] 106;obtain⟨g,h⟩:=jv C;obtain⟨y0,y1,y2,o⟩:=xX D;obtain⟨lH,jG,IJ,iO,wV⟩:=uh C D U r<|(e.below r).check;clear C D U ae r e;rw[t]at g h y0 y1 y2 o;rw[Q]at wV;have HD:J ((FX 0 ss x known m).length=0):=Y (by unfold FX;rw[aK rfl,P];rfl);rw[<-vD]at R;have ai:decide (k>=(V:Int))=true:=gW R;clear Q P;go_enter func35,ntmps35;go_wp2_with fail;rw[<-t];clear t g h y0 y1 y2 o;refine wV.mono ?_;rintro H w1 ⟨u,rfl,hu,d⟩;obtain⟨oW,mh,ac,aa⟩:=lD (bH lH d) (bH jG d) (bH IJ d)<|up iO d;obtain⟨ua,ub,uo,uc,rfl,-⟩:=hu;rw[HD];obtain⟨g,h,o⟩:=lS (bD<|(aj oW 0).trans rfl) (bD<|(aj oW 1).trans rfl) (bD<|(aj mh 3).trans rfl);clear d;go_wp2_with fail;refine bW dw dw ?_;repeat(with_reducible(refine wpQuiet_step (λp b=>?_));go_simp;first|(with_reducible(refine b _ ?_);clear b p)|(rw[aI (by simp[undef])];with_reducible(refine b _ ?_);clear b p)|(apply Exists.intro;refine⟨λ_=>?_,b _ ?_⟩;(fail);clear b p))
 with_reducible(refine wpQuiet_nil ?_)
 intro w2 af;obtain⟨⟨nq,ag⟩,S⟩:=af;have y:bK w1 w2:=by rw[S];exact bU w1 nq ag
 obtain⟨ab,a⟩:=bV (up aa y)<|bH ac y;clear S y g h o;obtain⟨r0,r1,r2,r3,r4,r5,r6⟩:=Cg a;obtain⟨z0,z1,z2,z3,z4,z5,z6⟩:=Ng (aF a 0) (aF a 1) (aF a 2) (aF a 3) (aF a 4) (aF a 5)<|aF a 6;go_wp2_with fail;have hs:=MN a (aU) (aU) (aU) (aU) (O 0) (O 0)<|aU;obtain⟨f0,f1,f2,f3,f4,f5,f6⟩:=Cg hs;refine cZ (v:=.tuple #[.agg #[aU,aU,aU,aU,O 0,O 0,aU],O<|1]) (by simp[results,results35,go_sem,f0,f1,f2,f3,f4,f5,f6]) rfl ⟨rfl,?_⟩;exact kJ ab (bE (dN _)<|dN _) _ _ _ _ _ _ _
theorem Ug(m:Nat)(w:bI)(vn vl vi vv vf vk vs vo:aC)(ss:aJ)(G:Nat)(L:Nat->Nat)(Z:aL)(x:Mo)(known:List Mo)(bL:List (List Sc))(own:List Sc)(k mn mc:Int)(g:mQ w m vn vl vi vv vf vk vs vo ss G L Z x known bL own)(hE:AO (dD ss G L Z) m x known=0)(hD:bO.once (D9 ss x known m)=[])(h:Nat)(ae:k=h)(F:h<x.bq.length)(hf:Fl.jw ss.length known bL=false):aD 35 #[.agg #[vn,vl],.agg #[A x.name,vi,vv,vf],O k,vk,vs,vo,O mn,O mc] w λe w'=>e=dz (.tuple #[.agg #[aU,aU,aU,aU,O 0,O 0,aU],O 1])/\bK w w':=by
 obtain⟨⟨U,c0,e0⟩,⟨V,n1,c1,e1⟩,⟨a2,n2,c2,e2⟩,⟨a3,n3,c3,e3⟩,⟨a4,c4,e4,ad⟩,⟨a5,n5,c5,e5⟩,⟨a6,n6,c6,e6⟩,⟨a7,n7,c7,e7⟩⟩:=g.forms;obtain⟨n0,H⟩:∃n,n=ss.length:=⟨_,rfl⟩;obtain⟨n4,Q⟩:∃n,n=x.bq.length:=⟨_,rfl⟩;obtain⟨S,vD⟩:=bV H Q;rw[<-H]at e0;rw[<-Q]at e4 ad;clear H Q;subst e0 e1 e2 e3 e4 e5 e6 e7;have R:=Y g;obtain⟨W,C,I,K,k2,af,z⟩:=al3 w (aY #[X U n0 c0,X V n1 c1] 25) (aY #[A x.name,X a2 n2 c2,X a3 n3 c3,X a4 n4 c4] 59)<|aY #[aU,aU,aU,aU,O 0,O 0,aU] 106;obtain⟨o,p⟩:=jv I;obtain⟨y0,y1,y2,r⟩:=xX K;obtain⟨lH,jG,IJ,iO,wV⟩:=uh I K k2 z<|(g.below z).check;clear I K k2 af z g;rw[C]at o p y0 y1 y2 r;rw[hE]at wV;have HD:J ((FX 0 ss x known m).length=0):=Y (by unfold FX;rw[if_pos rfl,hD];rfl);subst ae;have al:h<n4:=by rw[vD.out];exact F
 have ak:h<=c4:=by omega
 clear F;have HF:=Y hf;clear hf;clear hE hD;go_enter func35,ntmps35;go_wp2_with fail;rw[<-C];clear C o p y0 y1 y2 r;refine wV.out.mono ?_;rintro e w1 ⟨u,rfl,hu,d⟩;obtain⟨oW,mh,ac,t⟩:=lD (bH lH.out d) (bH jG.out d) (bH IJ.out d)<|up iO.out d;obtain⟨ua,ub,uo,uc,rfl,-⟩:=hu;rw[HD.out];obtain⟨o,p,r⟩:=lS (bD<|(aj oW.out 0).trans rfl) (bD<|(aj oW.out 1).trans rfl) (bD<|(aj mh.out 3).trans rfl);clear d;have QB:=Y (λq P=>Cj m (gn w1 q P) U (X V n1 c1) n0 c0 (X a5 n5 c5) (X a6 n6 c6) known bL (R.out.kn.below<|up t.out<|bU w1 q P)<|R.out.sc.below<|up t.out<|bU w1 q P);rw[S.out]at QB;rw[HF.out]at QB;rw[<-S.out]at QB;go_wp2_with fail;refine bW dw dw ?_;repeat(with_reducible(refine wpQuiet_step (λy b=>?_));go_simp;first|(with_reducible(refine b _ ?_);clear b y)|(rw[if_neg (by simp[undef])];with_reducible(refine b _ ?_);clear b y)|(apply Exists.intro;refine⟨λ_=>?_,b _ ?_⟩;((exact Calls.oZ<|QB.out _ _));clear b y))
 with_reducible(refine wpQuiet_nil ?_)
 intro w2 ag;obtain⟨⟨nq,ah⟩,aa⟩:=ag;have D:bK w1 w2:=by rw[aa];exact bU w1 nq ah
 obtain⟨ab,a⟩:=bV (up t.out D)<|bH ac.out D;clear aa D o p r;obtain⟨r0,r1,r2,r3,r4,r5,r6⟩:=Cg a.out;obtain⟨z0,z1,z2,z3,z4,z5,z6⟩:=Ng (aF a.out 0) (aF a.out 1) (aF a.out 2) (aF a.out 3) (aF a.out 4) (aF a.out 5)<|aF a.out 6;go_wp2_with fail;have hs:=MN a.out (aU) (aU) (aU) (aU) (O 0) (O 0)<|aU;obtain⟨f0,f1,f2,f3,f4,f5,f6⟩:=Cg hs;refine bodyPost_ret (v:=.tuple #[.agg #[aU,aU,aU,aU,O 0,O 0,aU],O<|1]) (by simp[results,results35,go_sem,f0,f1,f2,f3,f4,f5,f6]) rfl ⟨rfl,?_⟩;exact kJ ab.out (Nat.le_trans (Nat.le_succ _)<|Nat.le_succ _) _ _ _ _ _ _ _
theorem Uh(m:Nat)(w:bI)(vn vl vi vv vf vk vs vo:aC)(ss:aJ)(G:Nat)(L:Nat->Nat)(Z:aL)(x:Mo)(known:List Mo)(bL:List (List Sc))(own:List Sc)(k mn mc:Int)(y:mQ w m vn vl vi vv vf vk vs vo ss G L Z x known bL own)(hE:AO (dD ss G L Z) m x known=0)(hD:bO.once (D9 ss x known m)=[])(b:Nat)(af:k=b)(U:b<x.bq.length)(hf:Fl.jw ss.length known bL=true)(ho:vg ss.length (x.bq.take b) own=false):aD 35 #[.agg #[vn,vl],.agg #[A x.name,vi,vv,vf],O k,vk,vs,vo,O mn,O mc] w λe w'=>e=dz (.tuple #[.agg #[aU,aU,aU,aU,O 0,O 0,aU],O 1])/\bK w w':=by
 obtain⟨⟨H,K,e0⟩,⟨I,n1,P,e1⟩,⟨a2,n2,c2,e2⟩,⟨a3,n3,c3,e3⟩,⟨a4,c4,e4,ae⟩,⟨a5,n5,c5,e5⟩,⟨a6,n6,c6,e6⟩,⟨a7,n7,c7,e7⟩⟩:=y.forms;obtain⟨n0,V⟩:∃n,n=ss.length:=⟨_,rfl⟩;obtain⟨n4,uV⟩:∃n,n=x.bq.length:=⟨_,rfl⟩;obtain⟨p,vD⟩:=bV V uV;rw[<-V]at e0;rw[<-uV]at e4 ae;clear V uV;subst e0 e1 e2 e3 e4 e5 e6 e7;have o:=Y y;obtain⟨W,R,k0,k1,k2,ag,Q⟩:=al3 w (aY #[X H n0 K,X I n1 P] 25) (aY #[A x.name,X a2 n2 c2,X a3 n3 c3,X a4 n4 c4] 59)<|aY #[aU,aU,aU,aU,O 0,O 0,aU] 106;obtain⟨z,C⟩:=jv k0;obtain⟨y0,y1,y2,D⟩:=xX k1;obtain⟨lH,jG,IJ,iO,wV⟩:=uh k0 k1 k2 Q<|(y.below Q).check;clear k0 k1 k2 ag Q y;rw[R]at z C y0 y1 y2 D;rw[hE]at wV;have HD:J ((FX 0 ss x known m).length=0):=Y (by unfold FX;rw[if_pos rfl,hD];rfl);subst af;have ac:=Y<|Nat.le_of_lt U;have al:b<n4:=by rw[vD.out];exact U
 have ak:b<=c4:=by omega
 clear U;obtain⟨HF,HO⟩:=bV hf ho;clear hf ho;clear hE hD;go_enter func35,ntmps35;go_wp2_with fail;rw[<-R];clear R z C y0 y1 y2 D;refine wV.out.mono ?_;rintro e w1 ⟨u,rfl,hu,h⟩;obtain⟨oW,mh,ad,g⟩:=lD (bH lH.out h) (bH jG.out h) (bH IJ.out h)<|up iO.out h;obtain⟨ua,ub,uo,uc,rfl,-⟩:=hu;rw[HD.out];obtain⟨z,C,D⟩:=lS (bD<|(aj oW.out 0).trans rfl) (bD<|(aj oW.out 1).trans rfl) (bD<|(aj mh.out 3).trans rfl);clear h;have t:=Y (λq d=>Cj m (gn w1 q d) H (X I n1 P) n0 K (X a5 n5 c5) (X a6 n6 c6) known bL (o.out.kn.below<|up g.out<|bU w1 q d)<|o.out.sc.below<|up g.out<|bU w1 q d);rw[p.out]at t;rw[HF.out]at t;rw[<-p.out]at t;have r:=Y (λq d=>P6 m (gn w1 q d) H (X I n1 P) n0 K (X a4 b c4) (X a7 n7 c7) (x.bq.take b) own ((o.out.mo.split.2.2.V6 ac.out).below (up g.out<|bU w1 q d))<|o.out.ow.below<|up g.out<|bU w1 q d);rw[p.out]at r;rw[HO.out]at r;rw[<-p.out]at r;go_wp2_with fail;refine bW dw dw ?_;repeat(with_reducible(refine wpQuiet_step (λF qb=>?_));go_simp;first|(with_reducible(refine qb _ ?_);clear qb F)|(rw[if_neg (by simp[undef])];with_reducible(refine qb _ ?_);clear qb F)|(apply Exists.intro;refine⟨λ_=>?_,qb _ ?_⟩;(first|(exact Calls.oZ<|t.out _ _)|(exact Calls.oZ<|r.out _ _));clear qb F))
 with_reducible(refine wpQuiet_nil ?_)
 intro w2 ah;obtain⟨⟨nq,ai⟩,aa⟩:=ah;have S:bK w1 w2:=by rw[aa];exact bU w1 nq ai
 obtain⟨ab,a⟩:=bV (up g.out S)<|bH ad.out S;clear aa S z C D;obtain⟨r0,r1,r2,r3,r4,r5,r6⟩:=Cg a.out;obtain⟨z0,z1,z2,z3,z4,z5,z6⟩:=Ng (aF a.out 0) (aF a.out 1) (aF a.out 2) (aF a.out 3) (aF a.out 4) (aF a.out 5)<|aF a.out 6;go_wp2_with fail;have hs:=MN a.out (aU) (aU) (aU) (aU) (O 0) (O 0)<|aU;obtain⟨f0,f1,f2,f3,f4,f5,f6⟩:=Cg hs;refine bodyPost_ret (v:=.tuple #[.agg #[aU,aU,aU,aU,O 0,O 0,aU],O<|1]) (by simp[results,results35,go_sem,f0,f1,f2,f3,f4,f5,f6]) rfl ⟨rfl,?_⟩;exact kJ ab.out (Nat.le_trans (Nat.le_succ _)<|Nat.le_succ _) _ _ _ _ _ _ _
structure yt(w:World)(n:Nat)(eU vc vs vf ve:Value)(P:Pb):Prop where
 names:Own w n eU P.names
 cons:eZ CoT w n 229 4 vc P.cons
 sinks:eZ SiC w n 183 6 vs P.sinks
 fr:dJ w vf P.fr
 gY:pJ w n ve P.gY
theorem Own.PX(e:Own w n v l)(o:n'<=n):Own w n' v l:=by
 obtain⟨h,a⟩:=e;refine⟨h,?_⟩;rcases a with a|⟨g,cap,b,d,hg,rest⟩;·exact aO a
 ·exact aQ ⟨g,cap,b,d,bE o hg,rest⟩
theorem pJ.PX(a:pJ w n v l)(d:n'<=n):pJ w n' v l:=by
 rcases a with a|⟨g,cap,b,hg,e⟩;·exact aO a
 ·exact aQ ⟨g,cap,b,bE d hg,e⟩
theorem yt.keep{o vs vf:aC}{P:Pb}(b:yt w n eU o vs vf ve P)(a:Kx B muP w w'):yt w' n eU o vs vf ve P:=by
 refine⟨b.names.keep λ_ _ _ e=>a.at e rfl,b.cons.keep (λ_ _ _ e=>a.at e rfl) λc y d=>d.mono λv l h=>a.cells (λ_ _=>rfl) h,b.sinks.keep (λ_ _ _ e=>a.at e rfl) λc y d=>d.mono λv l h=>a.cells (λ_ _=>rfl) h,a.cells (λ_ _=>rfl) b.fr,?_⟩;rcases b.gY with t|⟨g,cap,r,hg,p,d,u⟩;·exact aO t
 ·exact aQ ⟨g,cap,r,hg,p,a.at d rfl,u⟩
theorem aiz{z C D F H I K:aC}(o:dR W B (aY #[z,C,D,F,H,I,K] 106))(e:n<=B)(a b c d h f g:aC):Kx n muP W (((((((W.setCell (aN B 0) a).setCell (aN B 1) b).setCell (aN B 2) c).setCell (aN B 3) d).setCell (aN B 4) h).setCell (aN B 5) f).setCell (aN B 6) g):=by have p:=aP o 0 a;have r:=aP p 1 b;have t:=aP r 2 c;have u:=aP t 3 d;have y:=aP u 4 h;have P:=aP y 5 f;exact(Kx.set o rfl e 0 _).trans ((Kx.set p rfl e 1 _).trans ((Kx.set r rfl e 2 _).trans ((Kx.set t rfl e 3 _).trans ((Kx.set u rfl e 4 _).trans ((Kx.set y rfl e 5 _).trans (Kx.set P rfl e 6 _))))))
theorem Xf.Xq(a:Xf w0 w q nl fC kc eU sets ve E)(b:nC w0 q.vn q.vl q.ss q.G q.L q.c.Z)(d:q.c.N=q.ss.length)(e:kc<=16777216)(g:nl.length<=1048576):D7 w q nl fC eU sets ve:=
 ⟨a.blk,b.below a.base,d,a.levels,a.numbers,a.called.mono e,λs v h=>(a.eF s v h).below a.base,a.nodup,g⟩
theorem Xf.below(a:Xf w0 w q nl fC kc eU sets ve E)(b:bK w w'):Xf w0 w' q nl fC kc eU sets ve E:=
 ⟨bH a.blk b,a.new,a.levels.below b,a.numbers.below b,a.called.below b,a.eF,a.nodup,fM a.names b,a.mg.below b,up a.base b⟩
namespace Fl
def Lb(c:Env)(m:Nat)(f:Fu)(mn a:Int):Bool:=decide (((c.names m f).length:Int) > mn)||decide (((f.params.length+c.vY m f.body:Nat):Int) > a)
theorem aby(h:∀l∈bL,∀y∈l,y.gY.length<=1048576)(g:∀y∈own,y.gY.length<=1048576)(s:aS):(qH x k known bL own s).gY.length<=1048576:=by
 have d:∀(l:List Sc) (i:Nat),(∀y∈l,y.gY.length<=1048576)->(l.getD i Gf).gY.length<=1048576:=λl i e=>by
  rw[List.getD];cases a:l[i]? with
  | none=>simp[Gf]
  | some y=>exact e y<|dG a
 unfold qH;split;·simp[Gf]
 ·split;·exact d _ _ g
  ·refine d _ _ λy b=>?_;rw[List.getD]at b;cases a:bL[(fF x k s known).1.toNat]? with
   | none=>rw[a]at b;cases b
   | some l=>rw[a]at b;exact h l (dG a) y b
structure Lens(c:Env)(m:Nat)(f:Fu):Prop where
 names:f.params.length+(c.yx m f.body++c.oM m f.result).length<=1048576
 mg:(c.Pz m f.body++c.AA m f.result).length<=4398046511103
 cls:(nR m f.body++Fl.cls m f.result).length<=16777216
 sets:c.vY m f.body<=1048576
 sinks:((c.Il m f.body ([],c.low))++c.zi m f.result ([],c.low)).length<=16777216
 cons:f.params.length+(c.Kn m f.body ([],c.low)).length<=16777216
 all:f.params.length+c.vY m f.body<=1048576
theorem aiA{c:Env}(e:f∈x.bq)(z:xH m x<=1048576)(a:∀s,(c.eF s).gY.length<=1048576)(b:c.yg m f.body)(d:c.xZ m f.result):Lens c m f:=by have y:=afu (m:=m) e;obtain⟨g,h,o,p,r,t,u⟩:=Ng (Qv c m f.body) (Qu c m f.result) (Qz c bM a m f.body) (Qy c bM a m f.result) (La m f.body) (Qw m f.result)<|Qx c m f.body;obtain⟨s1,s2,C⟩:=lS (Jc c m f.body ([],c.low) b) (Jb c m f.result ([],c.low) d)<|Xu c m f.body ([],c.low);refine⟨by rw[bg];omega,by rw[bg];omega,by rw[bg];omega,by omega,by rw[bg];omega,by omega,by omega⟩
end Fl
theorem abz(m:Nat)(w:bI)(vn vl vi vv vf vk vs vo:aC)(ss:aJ)(G:Nat)(L:Nat->Nat)(Z:aL)(x:Mo)(known:List Mo)(bL:List (List Sc))(own:List Sc)(k mn mc:Int)(P:mQ w m vn vl vi vv vf vk vs vo ss G L Z x known bL own)(hE:AO (dD ss G L Z) m x known=0)(hD:bO.once (D9 ss x known m)=[])(d:Nat)(f:Fu)(dk:k=d)(aa:x.bq[d]?=some f)(hf:Fl.jw ss.length known bL=true)(ho:vg ss.length (x.bq.take d) own=true):aD 35 #[.agg #[vn,vl],.agg #[A x.name,vi,vv,vf],O k,vk,vs,vo,O mn,O mc] w λe w'=>J ((Fl.Lb (Fl.gH ss Z x d known bL own f) m f mn mc=true/\e=dz (.tuple #[.agg #[aU,aU,aU,aU,O 0,O 0,aU],O 2])/\bK w w')\/(Fl.Lb (Fl.gH ss Z x d known bL own f) m f mn mc=false/\∃eU vc vs vf ve,e=dz (.tuple #[.agg #[eU,vc,vs,vf,O 0,O ((Fl.gH ss Z x d known bL own f).jd m f).level,ve],O 0])/\yt w' w.heap.size eU vc vs vf ve ((Fl.gH ss Z x d known bL own f).jd m f)/\bK w w')):=by
 have ad:dD ss G L Z=0/\oO m x=0:=by
  unfold AO at hE;by_cases h0:dD ss G L Z=0
  ·rw[if_pos h0]at hE;by_cases g:oO m x=0;·exact⟨h0,g⟩
   ·rw[if_neg g]at hE;exact absurd hE g
  ·rw[if_neg h0]at hE;exact absurd hE h0
 have az:=Fl.Qr hD;obtain⟨am,bs,ay⟩:=lS (Fl.Zu (Z:=Z) az ad.2 aa hf ho) (Fl.Ub ad.1 az d bL own f)<|List.mem_of_getElem? aa;have bv:=aiA (c:=Fl.gH ss Z x d known bL own f) ay P.small (aby P.mg P.Rp) am.st am.ex;have cD:f.params.length<=4/\x.vars.length<=8/\x.imports.length<=8:=by
  have g:=ad.2;unfold oO at g;by_cases V:8<x.imports.length\/8<x.vars.length\/8<x.bq.length;·rw[if_pos V]at g;omega
  ·rw[if_neg V]at g;refine⟨?_,by omega,by omega⟩;by_cases h3:((kR x.name&&x.imports.all kR)&&x.vars.all Q6)=false;·rw[if_pos h3]at g;omega
   ·rw[if_neg h3]at g;by_cases h4:uZ m x.bq≠0;·rw[if_pos h4]at g;exact absurd g h4
    ·have h5:=uP (Classical.not_not.1 h4) f ay;unfold Q7 at h5;by_cases h6:4<f.params.length;·rw[if_pos h6]at h5;omega
     ·omega
 have cy:x.name.size<=8:=by
  have g:=ad.2;unfold oO at g;by_cases V:8<x.imports.length\/8<x.vars.length\/8<x.bq.length;·rw[if_pos V]at g;omega
  ·rw[if_neg V]at g;by_cases h3:((kR x.name&&x.imports.all kR)&&x.vars.all Q6)=false;·rw[if_pos h3]at g;omega
   ·have h4:((kR x.name&&x.imports.all kR)&&x.vars.all Q6)=true:=by
     cases h:((kR x.name&&x.imports.all kR)&&x.vars.all Q6)with
     | true=>rfl
     | false=>exact absurd h h3
    simp only[Bool.and_eq_true]at h4;exact tK h4.1.1
 obtain⟨c,hc⟩:∃c,c=Fl.gH ss Z x d known bL own f:=⟨_,rfl⟩;have uH:=Y hc;rw[<-hc]at am bs bv ⊢;obtain⟨MI,b2,K,av,Iy,b6⟩:=vC am bs bv cD cy az;obtain⟨cQ,cP⟩:=bV ad ay;have cA:x.bq.length<=1048576:=by have:=I9 m x.bq;have hw:=P.small;unfold xH at hw;omega
 have b4:J (d<=x.bq.length):=Y<|Nat.le_of_lt (List.getElem?_eq_some_iff.1 aa).1;have cd:=(List.getElem?_eq_some_iff.1 aa).1;obtain⟨fa,fb,fo,fc,df,cu,di,zF⟩:=P.mo.split.2.2;obtain⟨dj,vp,vb,dC,dE,dI,dO,g0,g1,g2,g3,g4,g5,g6,cG,QC,bB⟩:=zF d f aa;have cV:=cu bC;obtain⟨bi,bj,bf,du,cW,cX⟩:=vC cG QC bB aa hf ho;clear zF cu am bs bv cD cy az ad ay hf ho aa dj;obtain⟨⟨a0,c0,e0⟩,⟨a1,n1,c1,e1⟩,⟨a2,n2,c2,e2⟩,⟨a3,n3,c3,e3⟩,⟨a4,c4,e4,de⟩,⟨a5,n5,c5,e5⟩,⟨a6,n6,c6,e6⟩,⟨a7,n7,c7,e7⟩⟩:=P.forms;obtain⟨n0,bw⟩:∃n,n=ss.length:=⟨_,rfl⟩;obtain⟨n4,uV⟩:∃n,n=x.bq.length:=⟨_,rfl⟩;obtain⟨II,vD⟩:=bV bw uV;rw[<-bw]at e0;rw[<-uV]at e4 de;clear bw uV;subst e0 e1 e2 e3 e4 e5 e6 e7;have C:=Y P;obtain⟨W,hW,k0,k1,k2,bY,br⟩:=al3 w (aY #[X a0 n0 c0,X a1 n1 c1] 25) (aY #[A x.name,X a2 n2 c2,X a3 n3 c3,X a4 n4 c4] 59)<|aY #[aU,aU,aU,aU,O 0,O 0,aU] 106;obtain⟨x0,x1⟩:=jv k0;obtain⟨y0,y1,y2,R⟩:=xX k1;obtain⟨lH,jG,IJ,iO,wV⟩:=uh k0 k1 k2 br<|(P.below br).check;clear k0 k1 k2 bY br P;rw[hW]at x0 x1 y0 y1 y2 R;injection df with db dc dd;subst db cV;subst dk;have dX:d<n4:=by rw[vD.out];exact cd
 have dT:d<=c4:=by omega
 have uV:n4<=1048576:=by rw[vD.out];exact cA
 clear cd dc dd di cA hc;obtain⟨pa,pb,po,pc,rfl,-⟩:=cG;obtain⟨ba,bc,rfl⟩:=fH.kC QC;obtain⟨ra,rc,rfl,rfl,rfl,rfl⟩:=bB.shape;obtain⟨r,bz⟩:∃n,n=f.params.length:=⟨_,rfl⟩;obtain⟨nb,cz⟩:∃n,n=f.body.length:=⟨_,rfl⟩;obtain⟨nr,cC⟩:∃n,n=f.result.args.length:=⟨_,rfl⟩;have Ee:=Y bz;rw[<-bz]at g1 bi;rw[<-cz]at g2 bj;rw[<-cC]at g6 bf;rw[hE]at wV;have HD:J ((FX 0 ss x known m).length=0):=Y (by unfold FX;rw[if_pos rfl,hD];rfl);clear hE hD QC bB bz cz cC;go_enter func35,ntmps35;go_wp2_with fail;rw[<-hW];clear hW x0 x1 y0 y1 y2 R;refine wV.out.mono ?_;rintro e w1 ⟨u,rfl,hu,ai⟩;obtain⟨oW,mh,cR,ae⟩:=lD (bH lH.out ai) (bH jG.out ai) (bH IJ.out ai)<|up iO.out ai;obtain⟨ua,ub,uo,uc,rfl,-⟩:=hu;rw[HD.out];have QB:=Y (λq os=>Cj m (gn w1 q os) a0 (X a1 n1 c1) n0 c0 (X a5 n5 c5) (X a6 n6 c6) known bL (C.out.kn.below<|up ae.out<|bU w1 q os)<|C.out.sc.below<|up ae.out<|bU w1 q os);obtain⟨x0,x1,R⟩:=lS (bD<|(aj oW.out 0).trans rfl) (bD<|(aj oW.out 1).trans rfl) (bD<|(aj mh.out 3).trans rfl);rw[II.out]at QB;rw[cW.out]at QB;rw[<-II.out]at QB;have KZ:=Y (λq os=>P6 m (gn w1 q os) a0 (X a1 n1 c1) n0 c0 (X (some<|aN fb fo) d c4) (X a7 n7 c7) (x.bq.take d) own ((C.out.mo.split.2.2.V6 b4.out).below (up ae.out<|bU w1 q os))<|C.out.ow.below<|up ae.out<|bU w1 q os);rw[II.out]at KZ;rw[cX.out]at KZ;rw[<-II.out]at KZ;clear ai;go_wp2_with fail;refine bW dw dw ?_;repeat(with_reducible(refine wpQuiet_step (λo a=>?_));go_simp;first|(with_reducible(refine a _ ?_);clear a o)|(rw[if_neg (by simp[undef])];with_reducible(refine a _ ?_);clear a o)|(apply Exists.intro;refine⟨λ_=>?_,a _ ?_⟩;(first|(exact Calls.oZ<|QB.out _ _)|(exact Calls.oZ<|KZ.out _ _));clear a o))
 with_reducible(refine wpQuiet_nil ?_)
 intro w2 ab;obtain⟨⟨nq,dq⟩,D⟩:=ab;have ak:bK w1 w2:=by rw[D];exact bU w1 nq dq
 obtain⟨S,Ui,zD,cS⟩:=lD (up ae.out ak) (bH oW.out ak) (bH mh.out ak)<|bH cR.out ak;clear D ak x0 x1 R;replace g0:=aG g0 S.out;replace g1:=aG g1 S.out;replace g2:=aG g2 S.out;replace g3:=aG g3 S.out;replace g4:=aG g4 S.out;replace g5:=aG g5 S.out;replace g6:=aG g6 S.out;obtain⟨W3,ah⟩:∃W,W=w2.alloc (aY #[A f.name,X pa r pc,X ba nb bc,O f.result.kind,O f.result.n,A f.result.name,X ra nr rc] 102):=⟨_,rfl⟩;have al:bK w2 W3:=by rw[ah];exact aH _ _
 have p:=Y<|up S.out al;have ar:J (dR W3 w2.heap.size<|aY #[A f.name,X pa r pc,X ba nb bc,O f.result.kind,O f.result.n,A f.result.name,X ra nr rc] 102):=Y (by rw[ah];exact bF _ _);have m3:=aj zD.out 3;obtain⟨bb,ca,cT⟩:=fE (bH Ui.out al) (bH zD.out al)<|bH cS.out al;obtain⟨x0,x1⟩:=jv bb.out;obtain⟨y0,y1,y2,R⟩:=xX ca.out;obtain⟨-,I⟩:=jv ar.out;have IZ:J (nC W3 (X a0 n0 c0) (X a1 n1 c1) ss G L Z):=Y ⟨C.out.strs.below p.out,C.out.Q5.below p.out,cQ.out.1⟩;have D8:=Y<|aok W3 (X a0 n0 c0) (X a1 n1 c1) (X a2 n2 c2) (X a3 n3 c3) (X (some<|aN fb fo) n4 c4) (X pa r pc) ss G L Z x f.params (Fl.qH x d known bL own) IZ.out (C.out.mo.split.2.1.below p.out) (bi.out.below p.out) ⟨_,_,_,rfl⟩ ⟨_,_,_,rfl⟩ (b6.out.vI f cP.out) (by have:=av.out.1;omega) (by have:=av.out.2.1;omega) b6.out.Ig;clear al;rw[ah]at x0 x1 y0 y1 y2 R I;go_wp2_with fail;rw[<-ah];clear m3 x0 x1 y0 y1 y2 R I ah g0 g1 g2 g3 g4 g5 g6;obtain⟨FB,ct⟩:∃b,b=w2.heap.size:=⟨_,rfl⟩;rw[<-ct]at ar ⊢;clear ct;refine D8.out.mono ?_;rintro e w4 ⟨B,rfl,ce⟩;obtain⟨cY,bx⟩:=ce.out;obtain⟨q,hq⟩:∃q,q=N9 B (X a0 n0 c0) (X a1 n1 c1) ss G L Z x.name (Fl.tJ ss f.params x.vars) (Fl.qH x d known bL own):=⟨_,rfl⟩;have a9:J (q.p=B+1+1+1):=Y (by rw[hq];rfl);have Uj:J (q.c=c):=Y (by rw[hq,uH.out];rfl);have a8:J (nC W3 q.vn q.vl q.ss q.G q.L q.c.Z/\q.c.N=q.ss.length/\∀s,q.c.pl s=dU q.ss s):=Y (by rw[hq];exact⟨IZ.out,rfl,λ_=>rfl⟩);rw[<-hq]at bx;have au:=Y bx;clear hq bx ce;obtain⟨dv,cU,cM⟩:=fE (bH bb.out au.out.base) (bH ca.out au.out.base)<|bH ar.out au.out.base;obtain⟨y0,y1,y2,R⟩:=xX cU.out;obtain⟨p0,I,p2,p3,p4,p5,p6⟩:=Cg cM.out;have HT:J (KF W3 q #[A x.name,X a2 n2 c2,X a3 n3 c3,X (some<|aN fb fo) n4 c4,O d,X a5 n5 c5,X a6 n6 c6,X a7 n7 c7] (λs=>s∈nR m f.body++Fl.cls m f.result)):=Y (λwx s hb z=>by obtain⟨bY,dn⟩:=MI.out.means s z;rw[Uj.out];exact WY m W3 wx (X a2 n2 c2) (X a3 n3 c3) (X (some<|aN fb fo) n4 c4) (X a5 n5 c5) (X a6 n6 c6) (X a7 n7 c7) x known bL own d s (c.eF s) hb (C.out.mo.below p.out) (C.out.kn.below p.out) C.out.cap.fus b4.out (Nat.le_trans bY bM) (by have:=av.out.2.2;omega) (C.out.sc.below p.out) (C.out.ow.below p.out) dn);have b7:=Y<|ae2 m W3 w4 q f.params (λ_=>none) 0 cY 0 (aU) [] x.name (d:Int) a2 a3 (some<|aN fb fo) a5 a6 a7 n2 n3 n4 n5 n6 n7 c2 c3 c4 c5 c6 c7 (λs=>s∈nR m f.body++Fl.cls m f.result) f pa r pc (X ba nb bc) (O f.result.kind) (O f.result.n) (A f.result.name) (X ra nr rc) au.out HT.out (bj.out.below p.out) (bf.out.below p.out) (by rw[Uj.out];exact MI.out.st) (by rw[Uj.out];exact MI.out.ex) (λs z=>z) (by rw[Uj.out,uH.out];exact Iy.out) (by rw[Uj.out];exact K.out.names) (by rw[Uj.out];have:=K.out.mg;simpa using this) (by have:=K.out.cls;omega) (by rw[Uj.out];have:=K.out.sets;omega);rw[a9.out]at b7;go_wp2_with fail;clear y0 y1 y2 R p0 I p2 p3 p4 p5 p6;refine b7.out.mono ?_;rintro e w5 ⟨rfl,cf⟩;obtain⟨IB,d1,cg,cL,E5,ao,ch,cb,bh,-⟩:=cf.out;rw[Uj.out]at ao bh;rw[show Fl.adds f.params (c.yx m f.body++c.oM m f.result)=c.names m f from rfl,Nat.zero_add]at ao;have c8:J (gP (jZ E5)=(c.jd m f).gY):=Y (aix λt=>by rw[bh.1];simp[Fl.Env.gY]);rw[c8.out]at ao;obtain⟨U,cj,c9⟩:=fE ao cb ch;clear cf ao ch cb bh;obtain⟨dy,b3,oK,eD⟩:=lD (bH bb.out U.out.base) (bH ar.out U.out.base) (bH cT.out U.out.base)<|p.out.trans<|U.out.base.mono p.out.size;obtain⟨b0,b1,ag⟩:=U.out.names.NM;obtain⟨bp,bq,bk⟩:=U.out.mg.form;have ax:=U.out.blk;rw[a9.out,ag]at ax;obtain⟨s5,s8,I⟩:=lS (bD<|(aj ax 5).trans rfl) (bD<|(aj ax 8).trans rfl) (bD<|(aj b3.out 1).trans rfl);obtain⟨ac,bm⟩:∃n,n=(c.names m f).length:=⟨_,rfl⟩;obtain⟨Q,aw⟩:∃n,n=c.vY m f.body:=⟨_,rfl⟩;have aA:J (Fl.Lb c m f mn mc=(decide ((ac:Int) > mn)||decide (((r+Q:Nat):Int) > mc))):=Y (by rw[bm,aw,Ee.out];rfl);have d0:r+Q<=1048576:=by rw[aw,Ee.out];exact K.out.all
 rw[<-bm]at s5 ag;rw[<-aw]at s8;clear ax;clear aw bm;by_cases cw:mn<(ac:Int)
 ·have Fw:J (Fl.Lb c m f mn mc=true):=Y (by rw[aA.out];simp[cw]);go_wp2_with fail;refine bW dw dw ?_;repeat(with_reducible(refine wpQuiet_step (λo a=>?_));go_simp;first|(with_reducible(refine a _ ?_);clear a o)|(rw[if_neg (by simp[undef])];with_reducible(refine a _ ?_);clear a o)|(apply Exists.intro;refine⟨λ_=>?_,a _ ?_⟩;(fail);clear a o))
  with_reducible(refine wpQuiet_nil ?_)
  intro w6 ab;obtain⟨⟨aq,af⟩,D⟩:=ab;have y:bK w5 w6:=by rw[D];exact bU w5 aq af
  obtain⟨H,mI⟩:=bV (up eD.out y)<|bH oK.out y;clear D y s5 s8 I;obtain⟨r0,r1,r2,r3,r4,r5,r6⟩:=Cg mI.out;obtain⟨z0,z1,z2,z3,z4,z5,z6⟩:=Ng (aF mI.out 0) (aF mI.out 1) (aF mI.out 2) (aF mI.out 3) (aF mI.out 4) (aF mI.out 5)<|aF mI.out 6;go_wp2_with fail;have z:=MN mI.out (aU) (aU) (aU) (aU) (O 0) (O 0)<|aU;obtain⟨f0,f1,f2,f3,f4,f5,f6⟩:=Cg z;refine bodyPost_ret (v:=.tuple #[.agg #[aU,aU,aU,aU,O 0,O 0,aU],O<|2]) (by simp[results,results35,go_sem,f0,f1,f2,f3,f4,f5,f6]) rfl (Y<|Or.inl ⟨Fw.out,rfl,?_⟩);exact kJ H.out (Nat.le_trans (Nat.le_succ _)<|Nat.le_succ _) _ _ _ _ _ _ _
 ·by_cases cx:mc<((r+Q:Nat):Int)
  ·have Fw:J (Fl.Lb c m f mn mc=true):=Y (by rw[aA.out];simp only[gt_iff_lt,cx,decide_true,Bool.or_true]);have dl:mc<(r:Int)+(Q:Int):=by omega
   have dp:IntKind.i64.wrap ((r:Int)+(Q:Int))=(r:Int)+(Q:Int):=wrap_small bC bC;have dm:(ac:Int)<=mn:=by omega
   go_wp2_with fail;refine bW dw dw ?_;repeat(with_reducible(refine wpQuiet_step (λo a=>?_));go_simp;first|(with_reducible(refine a _ ?_);clear a o)|(rw[if_neg (by simp[undef])];with_reducible(refine a _ ?_);clear a o)|(apply Exists.intro;refine⟨λ_=>?_,a _ ?_⟩;(fail);clear a o))
   with_reducible(refine wpQuiet_nil ?_)
   intro w6 ab;obtain⟨⟨aq,af⟩,D⟩:=ab;have y:bK w5 w6:=by rw[D];exact bU w5 aq af
   obtain⟨H,mI⟩:=bV (up eD.out y)<|bH oK.out y;clear D y s5 s8 I;obtain⟨r0,r1,r2,r3,r4,r5,r6⟩:=Cg mI.out;obtain⟨z0,z1,z2,z3,z4,z5,z6⟩:=Ng (aF mI.out 0) (aF mI.out 1) (aF mI.out 2) (aF mI.out 3) (aF mI.out 4) (aF mI.out 5)<|aF mI.out 6;go_wp2_with fail;have z:=MN mI.out (aU) (aU) (aU) (aU) (O 0) (O 0)<|aU;obtain⟨f0,f1,f2,f3,f4,f5,f6⟩:=Cg z;refine bodyPost_ret (v:=.tuple #[.agg #[aU,aU,aU,aU,O 0,O 0,aU],O<|2]) (by simp[results,results35,go_sem,f0,f1,f2,f3,f4,f5,f6]) rfl (Y<|Or.inl ⟨Fw.out,rfl,?_⟩);exact kJ H.out (Nat.le_trans (Nat.le_succ _)<|Nat.le_succ _) _ _ _ _ _ _ _
  ·have Fw:J (Fl.Lb c m f mn mc=false):=Y (by rw[aA.out];simp only[gt_iff_lt,cw,cx,decide_false,Bool.or_false]);have dl:(r:Int)+(Q:Int)<=mc:=by omega
   have dp:IntKind.i64.wrap ((r:Int)+(Q:Int))=(r:Int)+(Q:Int):=wrap_small bC bC;have dm:(ac:Int)<=mn:=by omega
   go_wp2_with fail;refine bW dw dw ?_;repeat(with_reducible(refine wpQuiet_step (λo a=>?_));go_simp;first|(with_reducible(refine a _ ?_);clear a o)|(rw[if_neg (by simp[undef])];with_reducible(refine a _ ?_);clear a o)|(apply Exists.intro;refine⟨λ_=>?_,a _ ?_⟩;(fail);clear a o))
   with_reducible(refine wpQuiet_nil ?_)
   intro w6 ab;obtain⟨⟨aq,af⟩,D⟩:=ab;have y:bK w5 w6:=by rw[D];exact bU w5 aq af
   obtain⟨H,mI,bo,cN⟩:=lD (up eD.out y) (bH oK.out y) (U.out.below y)<|bH b3.out y;clear D y s5 s8 I;have bS:=bo.out.Xq a8.out.1 a8.out.2.1 (by have g:=c9.out;have V:=K.out.cls;omega) (by have g:=lN (c.yx m f.body++c.oM m f.result) f.params;have V:=K.out.names;exact Nat.le_trans g V);have bA:Es w6 q (c.names m f) IB cg (c.vY m f.body:Nat) cL m f (X ba nb bc) (O f.result.kind) (O f.result.n) (A f.result.name) (X ra nr rc):=by
    refine⟨⟨bS,by rw[Uj.out];exact b2.out,(bj.out.below H.out),by rw[Uj.out];exact MI.out.st,λv hv=>?_,λs z=>?_,a8.out.2.2⟩,⟨bS,by rw[Uj.out];exact b2.out,(bf.out.below H.out),by rw[Uj.out];exact MI.out.ex,λv hv=>?_,λs z=>?_⟩,av.out.1⟩;·rw[Uj.out]at hv;exact Fl.sV.2<|Or.inr<|List.mem_append.2<|Or.inl hv
    ·exact(cj.out s).2 (Or.inr<|List.mem_append.2<|Or.inl z)
    ·rw[Uj.out]at hv;exact Fl.sV.2<|Or.inr<|List.mem_append.2<|Or.inr hv
    ·exact(cj.out s).2 (Or.inr<|List.mem_append.2<|Or.inr z)
   rw[ag,bk]at bA;have aE:=Y<|Tv m w6 q (c.names m f) IB b0 ac b1 _ bp _ bq f (X pa r pc) (X ba nb bc) (O f.result.kind) (O f.result.n) (A f.result.name) (X ra nr rc) bA (bi.out.below H.out) (by rw[Uj.out];exact K.out.sinks) (by rw[Uj.out];exact K.out.cons);rw[a9.out,Uj.out]at aE;obtain⟨da,ck⟩:=bV ag bk;clear bA bS;obtain⟨cl,cc⟩:∃n,n=(c.jd m f).gY.length:=⟨_,rfl⟩;rw[<-cc]at aE ck;clear ag bk cc;obtain⟨p0,I,p2,p3,p4,p5,p6⟩:=Cg cN.out;go_wp2_with fail;clear p0 I p2 p3 p4 p5 p6;refine aE.out.mono ?_;rintro e w7 ⟨dr,dt,ds,rfl,cF⟩;obtain⟨be,Xv,bu,ug⟩:=cF.out;have cm:J (yt w7 w.heap.size cg dr dt ds cL<|c.jd m f):=Y ⟨fM (bo.out.names.PX p.out.size) ug,eZ.old be H.out.size,eZ.old Xv H.out.size,bu,(bo.out.mg.PX p.out.size).below ug⟩;obtain⟨F,kG⟩:=bV (bH mI.out ug)<|up H.out ug;obtain⟨b8,cp,rfl⟩:=be.form;obtain⟨co,cr,rfl⟩:=Xv.form;obtain⟨b9,cq,rfl⟩:=dJ.form bu;have b5:J ((c.jd m f).level=((c.hg m f.result).2:Nat)):=Y rfl;generalize ((List.range f.params.length).map (Fl.D5 c.low)++(c.Kn m f.body ([],c.low)).map (Fl.BX<|c.names m f)).length=cH at *;generalize ((c.Il m f.body ([],c.low)++c.zi m f.result ([],c.low)).map (Fl.oP<|c.names m f)).length=cJ at *;generalize (Fl.nums (c.names m f) (c.hg m f.result).1).length=cI at *;rw[da.out,ck.out]at cm;obtain⟨cv,cn⟩:∃n,n=(c.hg m f.result).2:=⟨_,rfl⟩;rw[<-cn]at b5 ⊢;clear cn be Xv bu ug cF;obtain⟨r0,r1,r2,r3,r4,r5,r6⟩:=Cg F.out;obtain⟨z0,z1,z2,z3,z4,z5,z6⟩:=Ng (aF F.out 0) (aF F.out 1) (aF F.out 2) (aF F.out 3) (aF F.out 4) (aF F.out 5)<|aF F.out 6;go_wp2_with fail;have z:=MN F.out (X b0 ac b1) (X b8 cH cp) (X co cJ cr) (X b9 cI cq) (O 0) (O cv)<|X bp cl bq;obtain⟨f0,f1,f2,f3,f4,f5,f6⟩:=Cg z;refine bodyPost_ret (v:=.tuple #[.agg #[X b0 ac b1,X b8 cH cp,X co cJ cr,X b9 cI cq,O 0,O cv,X bp cl bq],O 0]) (by simp[results,results35,go_sem,f0,f1,f2,f3,f4,f5,f6]) rfl (Y<|Or.inr ⟨Fw.out,_,_,_,_,_,by rw[b5.out],cm.out.keep<|aiz (n:=w.heap.size) F.out (Nat.le_trans (Nat.le_succ _)<|Nat.le_succ _) _ _ _ _ _ _ _,kJ kG.out (Nat.le_trans (Nat.le_succ _)<|Nat.le_succ _) _ _ _ _ _ _ _⟩)
