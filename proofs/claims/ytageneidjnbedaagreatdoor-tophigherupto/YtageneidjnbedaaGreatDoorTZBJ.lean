import Derived.Test.YtageneidjnbedaaGreatDoorTZBF
import Derived.Test.YtageneidjnbedaaGreatDoorTZBI
set_option maxHeartbeats 0
set_option maxRecDepth 99999
namespace Go.Proofs.YtageneidjnbedaaGreatDoor
open Fl bS bO Rn Sv
open Go.Proofs.Tryz
open Go.RowKit Go.Maps Go.WideMaps
variable{w0 w w8 w1 W w':bI}{q:Sp}{nl E ss ps l Zk:aJ}{fC:aS->Option aC}{kc sets m n k i N j G B c n':Nat}{eU ve v vb:aC}{vs:List Va}{f:Fu}{x:Mo}{s fn call:aS}{known ms:List Mo}{ys bL:List (List Sc)}{own:List Sc}{Z:aL}
def Sp.Jf(q:Sp)(nQ:ByteArray->Option Nat):Sp:={ q with c:={ q.c with nQ:=nQ } }
theorem jr.ais{nQ:aS->Option Nat}(h:jr w0 w q nl fC kc eU sets ve E)(hg:w.grownBy w8 (some q.ml))(z:nS w8 q.ml 1048576 (λs=>(nQ s).map λn:Nat=>(n:Int))):jr w0 w8 (q.Jf nQ) nl fC kc eU sets ve E/\Kx w0.heap.size Eh w w8:=by
 obtain⟨D,C,e⟩:=h.levels.isMap;have r:Kx w0.heap.size Eh w w8:=Kx.grown hg λk a=>by injection a with a;subst a;exact⟨h.new.2.1,λo u=>by rw[e]at u;cases u;rfl⟩
 have b:∀(p:Nat) cs t,w.heap[p]?=some (.cells cs t (0,0))->w8.heap[p]?=some (.cells cs t (0,0)):=λp cs t g=>by
  rw[hg.block p (aR g) (λa=>?_)];·exact g
  ·injection a with a;subst a;rw[g]at e;cases e
 exact⟨⟨b _ _ _ h.blk,h.new,z,h.numbers.kept hg (by have:=h.maps.1;simp;exact λa=>this a.symm),h.called.kept hg (by have:=h.maps.2.1;simp;exact λa=>this a.symm),h.eF,h.Bq,h.nodup,h.names.keep λj y _ d=>b _ _ _ d,h.mg.keep λj y _ d=>b _ _ _ d,h.apart,h.maps,h.base.trans<|r.below h.base.size⟩,r⟩
namespace Fl
def tJ(ss:List ByteArray)(ps:List ByteArray)(vs:List Va):ByteArray->Option Nat:=λs=>
 if has ps s then none else (vs.reverse.find? λv=>cB v.name s).map λv=>(dU ss v.level).toNat
theorem Hq{v:Va}(h:has ps v.name=true):tJ ss ps (vs++[v])=tJ ss ps vs:=by
 funext s;unfold tJ;cases b:has ps s with
 | true=>rfl
 | false=>
  rw[List.reverse_append,List.reverse_singleton,List.singleton_append,List.find?_cons];cases a:cB v.name s with
  | false=>rfl
  | true =>rw[dM]at a;rw[a,b]at h;cases h
theorem afm{v:Va}(h:has ps v.name=false)(d:0<=dU ss v.level):(λs=>(tJ ss ps (vs++[v]) s).map λn:Nat=>(n:Int))=Rn.put (λs=>(tJ ss ps vs s).map λn:Nat=>(n:Int)) v.name (dU ss v.level):=by
 funext s;unfold Rn.put tJ;rw[List.reverse_append,List.reverse_singleton,List.singleton_append,List.find?_cons];cases a:cB v.name s with
 | false =>rw[show cB s v.name=false by rw[<-Bool.not_eq_true]at a ⊢;rw[dM]at a ⊢;exact λb=>a b.symm];rfl
 | true =>rw[dM]at a;subst a;rw[show cB v.name v.name=true from dM.2 rfl,h];simp;omega
end Fl
theorem jr.Xq(h:jr w0 w q nl fC kc eU sets ve E)(a:nC w0 q.vn q.vl q.ss q.G q.L q.c.Z)(b:q.c.N=q.ss.length)(d:kc<=16777216)(e:nl.length<=1048576):D7 w q nl fC eU sets ve:=
 ⟨h.blk,a.below h.base,b,h.levels,h.numbers,h.called.mono d,λs v g=>(h.eF s v g).below h.base,h.nodup,e⟩
theorem nS.empty{w:World}{b n:Nat}(h:nS w b n (λ_=>none)):nS w b 0 (λ_=>none):=by
 obtain⟨D,⟨es,cl,hb,F,hs,hD⟩,h2⟩:=h;have he:es.size=0:=by
  by_cases h0:es.size=0;·exact h0
  ·exfalso;have hx:es[0]∈es.toList:=by simp
   obtain⟨y,hy⟩:=F.reads _ hx;have hk:=Go.WideElems.rd_key hy;rw[keyOf_string underlying9]at hk;unfold mapKey at hk;rw[underlying9]at hk;cases hkey:es[0].key with
   | string t=>
    rw[hkey]at hk;simp only at hk;split at hk
    ·rename_i ht;have h3:=(h2 t ht).1;have h4:Maps.has D (.string t.data.toList)=true:=by
      rw[hD,Maps.has_eq,RY];refine⟨y,mem_sorted.2 ?_,?_⟩;·rw[<-Go.WideElems.rg_of hy];exact List.mem_map_of_mem hx
      ·rw[<-Option.some.inj hk];exact WideAt.sameKey_self trivial
     rw[h4]at h3;cases h3
    ·cases hk
   | _=>rw[hkey]at hk;simp at hk
 exact⟨D,⟨es,cl,hb,F,by omega,hD⟩,h2⟩
theorem TS(w:bI)(B:Nat):Own w B (aU) []:=lJ _ _ _ _
theorem afW(ss:aJ)(t:aS)(h:Strs w v ss):mq (dU ss t):=by
 obtain⟨_,_,_,_,_,_,a,_⟩:=h;unfold dU;split;·next i h=>have:=(bS.find_spec h).1;unfold mq;omega
 ·unfold mq;omega
def N9(B:Nat)(vn vl:Value)(ss:List ByteArray)(G:Nat)(L:Nat->Nat)(Z:Nat->Nat->Bool)(md:ByteArray)(nQ:ByteArray->Option Nat)(eF:ByteArray->Sc):Sp:=
 ⟨B+1+1+1,vn,vl,ss,G,L,⟨Z,ss.length,xR Z ss.length,md,nQ,λs=>dU ss s,eF⟩,B,B+1,B+1+1⟩
theorem afn(d:bK w w1)(vn vl:aC)(ss:aJ)(G:Nat)(L:Nat->Nat)(Z:aL)(md:aS)(eF:aS->Sc)(a:W=(((w1.alloc<|.map #[] 0).alloc (.map #[] 0)).alloc (.map #[] 0)).alloc (aY #[vn,vl,O (xR Z ss.length:Nat),A md,.map<|some w1.heap.size,aU,.map<|some<|w1.heap.size+1,.map<|some<|w1.heap.size+1+1,O 0,aU] 184)):jr w W (N9 w1.heap.size vn vl ss G L Z md (λ_=>none) eF) [] (λ_=>none) 0 (aU) 0 (aU) []/\bK w1 W:=by
 have s1:(w1.alloc<|.map #[] 0).heap.size=w1.heap.size+1:=oh _ _;have s2:((w1.alloc<|.map #[] 0).alloc (.map #[] 0)).heap.size=w1.heap.size+1+1:=by rw[oh,s1]
 have s3:(((w1.alloc<|.map #[] 0).alloc (.map #[] 0)).alloc (.map #[] 0)).heap.size=w1.heap.size+1+1+1:=by rw[oh,s2]
 obtain⟨m1,p,r⟩:=lS (nS.new w1) (nS.new<|w1.alloc<|.map #[] 0)<|qo.new ((w1.alloc<|.map #[] 0).alloc (.map #[] 0)) sc0;rw[s1]at p;rw[s2]at r;have b:=bF (((w1.alloc<|.map #[] 0).alloc (.map #[] 0)).alloc (.map #[] 0))<|aY #[vn,vl,O (xR Z ss.length:Nat),A md,.map<|some w1.heap.size,aU,.map<|some<|w1.heap.size+1,.map<|some<|w1.heap.size+1+1,O 0,aU] 184;rw[s3,<-a]at b;have g:Below (w1.alloc<|.map #[] 0).heap.size (w1.alloc<|.map #[] 0) W:=by rw[a];exact up (up (aH _ _)<|aH _ _)<|aH _ _
 have C:Below ((w1.alloc<|.map #[] 0).alloc (.map #[] 0)).heap.size ((w1.alloc<|.map #[] 0).alloc (.map #[] 0)) W:=by rw[a];exact up (aH _ _)<|aH _ _
 have D:Below (((w1.alloc<|.map #[] 0).alloc (.map #[] 0)).alloc (.map #[] 0)).heap.size (((w1.alloc<|.map #[] 0).alloc (.map #[] 0)).alloc (.map #[] 0)) W:=by rw[a];exact aH _ _
 have e:bK w1 W:=up (aH _ _) g;have z:=d.size;have t:nS W w1.heap.size 1048576 (λ_=>none):=(m1.below g).mono (bN _);have u:nS W (w1.heap.size+1) 0 (λs=>(Fl.idx [] s).map λn:Nat=>(n:Int)):=p.below C;have y:qo W (w1.heap.size+1+1) 0 sc0 (λ_=>none):=r.below D;refine⟨⟨b,⟨by show _<=w1.heap.size+1+1+1;omega,z,by show _<=w1.heap.size+1;omega,by show _<=w1.heap.size+1+1;omega⟩,t,u,y,λs v h=>by simp at h,λs h=>by simp at h,List.nodup_nil,?_,?_,aO rfl,⟨by show w1.heap.size≠w1.heap.size+1;omega,by show w1.heap.size≠w1.heap.size+1+1;omega,by show w1.heap.size+1≠w1.heap.size+1+1;omega⟩,up d e⟩,e⟩;·exact TS _ _
 ·exact TS _ _
theorem aok(w:bI)(vn vl vi vv vf vp:aC)(ss:aJ)(G:Nat)(L:Nat->Nat)(Z:aL)(x:Mo)(ps:aJ)(eF:aS->Sc)(z:nC w vn vl ss G L Z)(hV:xG w vv x.vars)(hP:Strs w vp ps)(hi:∃a n c,vi=X a n c)(hf:∃a n c,vf=X a n c)(be:ps.Nodup)(bc:ps.length<=1048576)(b5:x.vars.length<=1048575)(a8:∀v∈x.vars,0<=dU ss v.level):aD 108 #[.agg #[vn,vl],.agg #[A x.name,vi,vv,vf],vp] w λd w'=>∃B,d=dz (gK<|B+1+1+1)/\J (∃eU,jr w w' (N9 B vn vl ss G L Z x.name (Fl.tJ ss ps x.vars) eF) ps (λ_=>none) 0 eU 0 (aU) []):=by
 obtain⟨ai,ni,ci,rfl⟩:=hi;obtain⟨af,nf,cf,rfl⟩:=hf;obtain⟨HL,xM,bm⟩:=fE z be a8;have HE:=Y (λu (hb:bK w u)=>Pn u vn vl ss G L Z (z.strs.below hb) (z.Q5.below hb) z.ok);obtain⟨av,bv,ov,cv,rfl,a0,bw,a3⟩:=hV;obtain⟨ap,bp,op,cp,rfl,aE,bx,bf,a2⟩:=hP;obtain⟨ao,bi,Vn,ar,br⟩:=uh a0 a3 aE a2 bf;obtain⟨nv,CU⟩:=aV x.vars.length;have R8:=Y CU;rw[<-CU]at bw b5 ao ⊢;obtain⟨np,ak⟩:=aV ps.length;have Ee:=Y ak;rw[<-ak]at bx bc Vn ar ⊢;obtain⟨W,hW,k0,k1,b3,ae⟩:=AL w (aY #[vn,vl] 25)<|aY #[A x.name,X ai ni ci,X av nv cv,X af nf cf] 47;obtain⟨x0,x1⟩:=jv k0;obtain⟨lH,jG,iO,HC⟩:=lD k0 k1 ae<|HE W ae;have ax:J (∃a n c,vn=X a n c):=Y (by obtain⟨a,b,o,c,rfl,-⟩:=z.strs;exact⟨_,_,_,rfl⟩);have Ah:J (∃a n c,vl=X a n c):=Y (by obtain⟨a,b,o,c,Zk,RB,RO,C,rfl,-⟩:=z.Q5;exact⟨_,_,_,rfl⟩);obtain⟨an,U,P,Vo⟩:=ax.out;obtain⟨K,nl,cl,bS⟩:=Ah.out;clear k0 k1 b3 ae z be a8 a0 a3 aE a2 bf CU ak ax Ah HE;subst Vo bS;rw[hW]at x0 x1;go_enter func108,ntmps108;go_wp2_with fail;rw[<-hW];clear hW x0 x1;refine HC.mono ?_;rintro d w1 ⟨rfl,ab⟩;have aq:=Y<|up iO ab;obtain⟨K0,K1⟩:=eY (bH lH ab)<|bH jG ab;obtain⟨x0,x1⟩:=jv K0;have y0:=aj K1 0;have mh:=Y K1;have b2:=@run_makeMap prog;clear K0 K1 HC ab lH jG iO;obtain⟨W2,ag⟩:∃W,W=(((w1.alloc<|.map #[] 0).alloc (.map #[] 0)).alloc (.map #[] 0)).alloc (aY #[X an U P,X K nl cl,O (xR Z ss.length:Nat),A x.name,.map<|some w1.heap.size,aU,.map<|some<|w1.heap.size+1,.map<|some<|w1.heap.size+1+1,O 0,aU] 184):=⟨_,rfl⟩;obtain⟨F,a1⟩:=afn aq (X an U P) (X K nl cl) ss G L Z x.name eF ag;have zD:J (W2.heap[w.heap.size+1]?=some (aY #[A x.name,X ai ni ci,X av nv cv,X af nf cf] 47)):=Y<|bH mh a1;obtain⟨B,hB⟩:=aV w1.heap.size;rw[<-hB]at F;have bo:=Y F;obtain⟨M,hM⟩:=aV<|w.heap.size+1;rw[<-hM]at zD;clear a1 F mh aq;go_wp2_with fail;rw[<-ag,<-hB,<-hM];clear ag hB hM b2 x0 x1 y0;go_loopw[34] (λi u=>∃j:Nat,j<=np/\i=O j/\J (∃eU,jr w u (N9 B (X an U P) (X K nl cl) ss G L Z x.name (λ_=>none) eF) (ps.take j) (λ_=>none) 0 eU 0 (aU) []/\dR u M (aY #[A x.name,X ai ni ci,X av nv cv,X af nf cf] 47))) (λi _=>np - (intOf i).toNat);exact⟨0,bN _,rfl,Y ⟨_,bo,zD⟩⟩
 obtain⟨j,hj,rfl,y⟩:=hrel;obtain⟨eU,F,a9⟩:=y.out;obtain⟨I,aA⟩:=bV F a9;clear F a9 y;by_cases a5:j<np
 ·have h:=ar j a5;obtain rfl:=Vn bC;have a6:j<ps.length:=by rw[<-Ee];exact a5
  obtain⟨s,R⟩:∃s,ps[j]?=some s:=⟨_,aZ a6⟩;rw[xK,R,gD]at h;replace h:=aG h I.base;have ba:s∉ps.take j:=λhm=>by
   obtain⟨i,hi,d⟩:=gU.1 hm;rw[iA]at hi;have g:ps[i]?=some s:=by rw[List.getElem_take]at d;rw[aZ bC,d]
   have:=DZ xM g R;omega
  have aw:=Y (KJ w wr _ (ps.take j) _ _ _ _ _ _ s I ba (br s<|dG R) (by rw[iA];omega));have bs:J (ps.take (j+1)=ps.take j++[s]):=Y (by rw[gy,R,kI]);clear R ba a6;go_wp2_with fail;refine aw.mono ?_;rintro d w3 ⟨rfl,bb⟩;obtain⟨bY,az,a7⟩:=bb.out;obtain⟨b0,b1⟩:=bV az<|a7.at aA rfl;clear az a7 bb h aw;go_wp2;go_roundw;exact⟨j+1,by omega,by go_num,Y ⟨bY,by rw[bs];exact b0,b1⟩⟩;exact gV
 ·obtain rfl:j=np:=by omega
  have bz:J (jr w wr ((N9 B (X an U P) (X K nl cl) ss G L Z x.name (λ_=>none) eF).Jf (Fl.tJ ss ps<|x.vars.take 0)) ps (λ_=>none) 0 eU 0 (aU) []):=Y (by
   have g:=I.out;rw[Ee,jQ]at g;have d:Fl.tJ ss ps (x.vars.take 0)=λ_=>none:=by funext s;unfold Fl.tJ;split<;>rfl
   rw[d];exact g)
  have bA:J (nS wr B 0 (λs=>(Fl.tJ ss ps (x.vars.take 0) s).map λn:Nat=>(n:Int))):=Y (by
   have g:nS wr B 1048576 (λ_=>none):=I.levels;have d:(λs=>(Fl.tJ ss ps (x.vars.take 0) s).map λn:Nat=>(n:Int))=λ_=>none:=by funext s;unfold Fl.tJ;split<;>rfl
   rw[d];exact g.empty)
  have m2:=aj aA 2;obtain⟨wo,rfl⟩:=aV wr;go_wp2_with fail;clear m2 I;go_loopw[45] (λi u=>∃t:Nat,t<=nv/\i=O t/\J (jr w u ((N9 B (X an U P) (X K nl cl) ss G L Z x.name (λ_=>none) eF).Jf (Fl.tJ ss ps<|x.vars.take t)) ps (λ_=>none) 0 eU 0 (aU) [])/\J (nS u B t (λs=>(Fl.tJ ss ps (x.vars.take t) s).map λn:Nat=>(n:Int)))) (λi _=>nv - (intOf i).toNat);exact⟨0,bN _,rfl,bz,bA⟩
  obtain⟨t,ht,rfl,y,bq⟩:=hrel;by_cases b4:t<nv
  ·obtain⟨v,hv⟩:∃v,x.vars[t]?=some v:=⟨_,aZ (by rw[<-R8];exact b4)⟩;obtain⟨bh,b6,h,g1⟩:=bi t v hv;obtain rfl:=ao bC;have ad:J (x.vars.take (t+1)=x.vars.take t++[v]):=Y (by rw[gy,hv,kI]);obtain⟨bu,ay⟩:=bV (bm v<|dG hv) bh;replace h:=aG h y.base;replace g1:=aG g1 y.base;obtain⟨W5,aa⟩:=aV<|wr.alloc<|aY #[A v.name,A v.level] 75;have ah:bK wr W5:=by rw[aa];exact aH _ _
   have Xb:J (dR W5 wr.heap.size<|aY #[A v.name,A v.level] 75):=Y (by rw[aa];exact bF _ _);obtain⟨Y4,rM⟩:=bV (y.below ah)<|bq.below ah;clear hv bh b6 ah;obtain⟨wi,rfl⟩:=aV wr;go_wp2_with fail;rw[<-aa];clear aa h g1;have v0:=bD<|(aj Xb 0).trans rfl;have c6:bJ W5 (B+1+1+1) 6=some (.map<|some<|B+1):=Y4.cells.2.2.2.2.2.2.1;replace c6:=bD c6;have LK:∀k e,(Instr.lookup 58 (.map<|some<|B+1) (A v.name) true).run prog (gn W5 k e)=.ok (.tuple #[O (((Fl.idx ps v.name).map λn:Nat=>(n:Int)).getD 0),.bool ((Fl.idx ps v.name).map λn:Nat=>(n:Int)).isSome]) (gn W5 k e):=λk e=>(Y4.below<|bU W5 k e).numbers.sS (s:=v.name) ay;cases D:Fl.has ps v.name with
   | true=>
    have V:=Y D;obtain⟨ix,Q⟩:=Fl.xk<|uN.1 D;simp only[Q,kV,gD,nD]at LK;clear D Q;refine bW dw dw ?_;repeat(quiet_step (fail))
    refine wpQuiet_nil ?_;intro w6 S;obtain⟨⟨nq,am⟩,r⟩:=S;have p:bK W5 w6:=by rw[r];exact bU W5 nq am
    obtain⟨H,pQ⟩:=bV (Y4.below p)<|rM.below p;clear r v0 c6 LK p;go_wp2;go_roundw;exact⟨t+1,by omega,by go_num,Y (by rw[ad,Hq V];exact H),Y (by rw[ad,Hq V];exact pQ.mono bC)⟩;exact gV
   | false=>
    have V:=Y D;have Q:=DY<|ahG.1 D;simp only[Q,Ca,lK,nE]at LK;clear D Q;refine bW dw dw ?_;repeat(quiet_step (fail))
    refine wpQuiet_nil ?_;intro w6 S;obtain⟨⟨nq,am⟩,r⟩:=S;have p:bK W5 w6:=by rw[r];exact bU W5 nq am
    obtain⟨H,pQ,au⟩:=fE (Y4.below p) (rM.below p)<|bH Xb p;clear r v0 c6 LK p;obtain⟨v0,v1⟩:=eY (bD<|(aj au 0).trans rfl) (bD<|(aj au 1).trans rfl);have c4:bJ w6 (B+1+1+1) 4=some (.map<|some B):=H.cells.2.2.2.2.1;replace c4:=bD c4;have jP:J (∀k e,aD 159 #[gK (B+1+1+1),A v.level] (gn w6 k e) λd w'=>d=dz (O<|dU ss v.level)/\Below (gn w6 k e).heap.size (gn w6 k e) w'):=Y (λk e=>KD (gn w6 k e) _ ps _ eU _ _ v.level<|(H.below<|bU w6 k e).Xq HL rfl bC (by rw[<-Ee];exact bc));go_wp2_with fail;refine gq 10 dw dw ?_;dsimp only[List.take,List.drop];repeat(quiet_step ((exact Calls.oZ<|jP.out _ _)))
    refine wpQuiet_nil ?_;intro w7 S;obtain⟨⟨b7,bB⟩,r⟩:=S;have ug:bK w6 w7:=by rw[r];exact bU w6 b7 bB
    obtain⟨bj,MU⟩:=bV (H.below ug)<|pQ.below ug;clear r v0 v1 c4 jP ug;obtain⟨w8,L8,ac,a4⟩:=MU.put (s:=v.name) (v:=dU ss v.level) (by unfold maxLen;omega) ay (afW _ _ HL.strs);rw[<-afm V bu,<-ad]at ac;obtain⟨bk,TU⟩:=bV ((bj.ais a4<|ac.mono bC).1) ac;have l9:J ((Instr.mapUpdate 58 (.map<|some B) (A v.name)<|O<|dU ss v.level).run prog w7=.ok () w8):=Y L8;clear ac a4 L8;have L8:=l9.out;go_wp2;go_roundw;exact⟨t+1,by omega,by go_num,bk,TU⟩;exact gV
  ·obtain rfl:t=nv:=by omega
   go_wp2;go_ret;refine⟨B,rfl,Y ⟨eU,?_⟩⟩;have g:=y.out;rw[R8,jQ]at g;exact g
namespace bO
theorem yO{α:Type}{f g:α->Nat}:∀{l:List α},(∀x∈l,f x<=g x)->(l.map f).sum<=(l.map g).sum
 | [],_=>bG _
 | x::l,h=>by have b:=h x cK;have d:=yO (l:=l) (λy a=>h y<|by simp[a]);simp only[fZ,jI];omega
theorem jC{α β:Type}{f:α->List β}{g:α->Nat}{l:List α}(h:∀x∈l,(f x).length<=g x):(l.flatMap f).length<=(l.map g).sum:=by rw[List.length_flatMap];exact yO h
theorem abw:∀(m:Nat) (x:Ex),(calls m x).length<=jF m x
 | 0,_=>bG _
 | m+1,x=>by
  have h:=jC (f:=calls m) (g:=jF m) (l:=x.args) (λy _=>abw m y);simp only[calls,jF,bg];have a:(if x.kind=4 then [x]else []).length<=1:=by split<;>simp
  omega
theorem agr:∀(m:Nat) (x:Ex),(fK m x).length<=jF m x
 | 0,_=>bG _
 | m+1,x=>by
  have h:=jC (f:=fK m) (g:=jF m) (l:=x.args) (λy _=>agr m y);simp only[fK,jF,bg];have a:(if x.kind=4 then [x]else []).length<=1:=by split<;>simp
  omega
theorem Ey{α β:Type}(f:α->List β)(g:β->Nat):∀(l:List α),((l.flatMap f).map g).sum=(l.map λs=>((f s).map g).sum).sum
 | []=>rfl
 | s::l=>by simp only[JO,gX,tH,fZ,jI,Ey f g l]
theorem Qq(d:Nat):∀{m:Nat} {v:aC} {l:List St},fH w m v l->m<=d->((all m l).map λs=>1+jF d s.e).sum<=fA m l
 | 0,_,_,h,_=>iU h
 | m+1,v,l,h,I=>by
  obtain⟨a,b,off,cap,_,_,_,r⟩:=h;have p:∀s∈l,((within (all m) s).map λs=>1+jF d s.e).sum<=s.name.size+3+jF m s.e+fA m s.a+fA m s.b:=λs e=>by obtain⟨i,y,rfl⟩:=gU.1 e;obtain⟨_,_,C,D,F,H,va,vb,_,_,_,_,_,_,_,_,z,t,u⟩:=r i _<|aZ y;obtain⟨K,M,P⟩:=lS (Qq d t bC) (Qq d u bC)<|sJ z d bC;unfold within;simp only[gX,fZ,jV,tH,jI,ru];omega
  have e:=yO p;have g:((all (m+1) l).map λs=>1+jF d s.e).sum=(l.map λs=>((within (all m) s).map λs=>1+jF d s.e).sum).sum:=Ey _ _ _;rw[g];simp only[fA];omega
theorem I7{α:Type}{f:α->Nat}:∀(l:List α),(∀x,1<=f x)->l.length<=(l.map f).sum
 | [],_=>bG _
 | x::l,h=>by have a:=h x;have b:=I7 l h;simp only[fZ,jI,vN];omega
theorem ajO{l:List St}{β:Type}{f:St->List β}(h:fH w m v l)(a:∀s,(f s).length<=1+jF m s.e):((all m l).flatMap f).length<=fA m l:=
 bE (jC λs _=>a s) (Qq m h<|bG _)
theorem aa5{α β:Type}{f:α->List β}{l:List α}(h:∀x,(f x).length<=1):(l.flatMap f).length<=l.length:=by
 induction l with
 | nil=>exact bG _
 | cons x l a =>have:=h x;simp only[JO,bg,vN];omega
theorem afp{α:Type}{l:List α}{f:Nat->α->List Dg}{g:α->Nat}(h:∀i x,l[i]?=some x->(f i x).length<=g x):(upto (atD l f) l.length).length<=(l.map g).sum:=by
 have key:∀n,n<=l.length->(upto (atD l f) n).length<=((l.take n).map g).sum:=by
  intro n;induction n with
  | zero=>intro _;simp[Np]
  | succ n ih =>intro hn;obtain⟨h0,h1⟩:=eY (ih bC) (h n _ (aZ (show n<l.length by omega)));rw[jK,bg,sQ (aZ (show n<l.length by omega)),gy,aZ (show n<l.length by omega)];simp only[gX,tH,kI,fZ,jV,jI,ru];omega
 have:=key l.length (bG _);rwa[jQ]at this
theorem afq{α:Type}{l:List α}{f:Nat->α->List Dg}(c:Nat)(h:∀i x,l[i]?=some x->(f i x).length<=c)(n:Nat):(upto (atD l f) n).length<=n*c:=by
 induction n with
 | zero=>simp[Np]
 | succ n b=>
  rw[jK,bg,rZ];have:(atD l f n).length<=c:=by
   unfold atD;split;·rename_i x a;exact h n x a
   ·simp
  omega
theorem I8(fn:aS)(l:List aS):(GX fn l).length<=l.length:=by have:=afq (l:=l) (f:=λi s=>if ER (l.take i) s=true then [(⟨2,fn,s⟩:Dg)]else []) 1 (λi x _=>by split<;>simp) l.length;unfold GX;omega
theorem ait(x:Mo)(known:List Mo)(k:Nat)(fn:aS)(y:Ex):(clE x known k fn y).length<=1:=by unfold clE;split<;>simp
theorem zL(l:aJ):l.length<=nJ l:=by have:=I7 (f:=λs:ByteArray=>s.size+1) l (λx=>by omega);unfold nJ;omega
theorem Zq(l:List Va):l.length<=VE l:=by have:=I7 (f:=λs:Va=>s.name.size+s.level.size+3) l (λx=>by omega);unfold VE;omega
theorem I9(m:Nat)(l:List Fu):l.length<=BK m l:=by have:=I7 (f:=λs:Fu=>s.name.size+2+nJ s.params+fA m s.body+jF m s.result) l (λx=>by omega);unfold BK;omega
theorem TY{l:List Fu}(h:mE w m v l)(g:f∈l):∃vb,fH w m vb f.body:=by obtain⟨a,b,off,cap,_,_,_,d⟩:=h;obtain⟨i,p,rfl⟩:=gU.1 g;obtain⟨_,z,vb,r,t,u,y,_,_,_,_,_,_,_,_,e,_⟩:=d i _<|aZ p;exact⟨vb,e⟩
theorem alm(h:fH w m vb f.body):(mZ m f).length<=fA m f.body+jF m f.result:=by have a:=ajO (f:=λs=>fK m s.e) h (λs=>by have:=agr m s.e;omega);have b:=agr m f.result;unfold mZ;rw[bg];omega
theorem aiu(names:aJ)(known:List Mo)(h:jl w m v x)(hw:xH m x<=1048576):(D9 names x known m).length<=16777216:=by
 obtain⟨vi,vv,vf,rfl,_,hI,hV,hF⟩:=h;obtain⟨a1,a2,a3⟩:=lS (zL x.imports) (Zq x.vars) (I9 m x.bq);have b1:(imD x known).length<=x.imports.length*1:=afq 1 (λi s _=>by split<;>simp) _;obtain⟨b2,b3,b4⟩:=lS (I8 ⟨#[]⟩ x.imports) (I8 ⟨#[]⟩ (x.vars.map (·.name))) (I8 ⟨#[]⟩ (x.bq.map (·.name)));rw[dV]at b3 b4;have b5:(x.bq.flatMap λf=>GX f.name f.params).length<=BK m x.bq:=by refine bE (jC (g:=λs:Fu=>s.name.size+2+nJ s.params+fA m s.body+jF m s.result) (λf _=>?_)) (dN _);have:=I8 f.name f.params;have:=zL f.params;omega
 have b6:(x.vars.flatMap λv=>nQ names ⟨#[]⟩ v.level).length<=x.vars.length:=aa5 λv=>adD _ _ _;have b7:(x.bq.flatMap λf=>(all m f.body).flatMap (Av names f.name)).length<=BK m x.bq:=by refine bE (jC (g:=λs:Fu=>s.name.size+2+nJ s.params+fA m s.body+jF m s.result) (λf hf=>?_)) (dN _);obtain⟨vb,hb⟩:=TY hF hf;have:=ajO (f:=Av names f.name) hb (λs=>by have:=adu names f.name s;omega);omega
 have b8:(clD x known m).length<=BK m x.bq:=by refine bE (afp (g:=λs:Fu=>s.name.size+2+nJ s.params+fA m s.body+jF m s.result) (λk f hf=>?_)) (dN _);obtain⟨vb,hb⟩:=TY hF (dG hf);have h1:=alm hb;have h2:((mZ m f).flatMap (clE x known k f.name)).length<=(mZ m f).length:=aa5 λy=>ait _ _ _ _ _;omega
 unfold xH at hw;unfold D9 twD lvD;simp only[uE,DT,bg,gL];omega
end bO
namespace Fl
theorem wD:0<=dU l s↔s∈l:=by
 unfold dU;constructor
 ·intro h;split at h;·rename_i i a;obtain⟨b,d⟩:=bS.find_spec a;unfold Ov at d;have e:s=l.getD i ByteArray.empty:=dM.1 d;rw[e,List.getD,aZ b];exact kZ b
  ·omega
 ·intro h;obtain⟨i,a,rfl⟩:=gU.1 h;split;·omega
  ·rename_i g;have:=Gv.1 g i<|jE.2 a;exact aM (dM.2 (by rw[List.getD,aZ a];rfl)) this
theorem T9(l:aJ)(s:aS):dU l s<l.length\/l=[]:=by
 rcases vR l s with a|⟨i,a,b⟩
 ·by_cases h:l=[];·exact aQ h
  ·left;have:=vO.2 h;omega
 ·left;omega
theorem K6{g:Nat->List Dg}(h:bO.upto g n=[]):∀i,i<n->g i=[]:=λi b=>by refine List.eq_nil_iff_forall_not_mem.2 λd a=>?_;have:d∈bO.upto g n:=adx.2 ⟨i,b,a⟩;rw[h]at this;cases this
theorem Gc(h:GX fn l=[]):l.Nodup:=by
 rw[List.Nodup,Px];intro i j g b p d;have a:=K6 h j b;rw[sQ (aZ b)]at a;have e:bO.ER (l.take j) l[j]=true:=by unfold bO.ER;rw[iy,wD,<-d];refine gU.2 ⟨i,by rw[iA];omega,?_⟩;rw[List.getElem_take]
 rw[aK e]at a;cases a
structure pX(ss:List ByteArray)(x:Mo)(known:List Mo)(m:Nat):Prop where
 vars:(x.vars.map (·.name)).Nodup
 vI:∀f∈x.bq,f.params.Nodup
 Ig:∀v∈x.vars,0<=dU ss v.level
 prints:∀f∈x.bq,∀s∈bO.all m f.body,s.kind=4->0<=dU ss s.name
 calls:∀(k:Nat) f,x.bq[k]?=some f->∀y∈mZ m f,bO.code x known k y.name y.args.length=0
theorem zM{α β:Type}{f:α->List β}{l:List α}(h:l.flatMap f=[]){x:α}(a:x∈l):f x=[]:=by rw[List.flatMap_eq_nil_iff]at h;exact h x a
theorem Qr(h:bO.once (D9 ss x known m)=[]):pX ss x known m:=by
 have e:D9 ss x known m=[]:=List.eq_nil_iff_forall_not_mem.2 λd t=>by have:=(Dh _ d).2 t;rw[h]at this;cases this
 unfold D9 at e;simp only[uE,DT,gL,MZ]at e;obtain⟨_,g,b,r⟩:=e;unfold twD at g;simp only[uE,DT,gL,MZ]at g;obtain⟨⟨_,D,_⟩,z⟩:=g;unfold lvD at b;rw[MZ]at b;refine⟨Gc D,λf a=>Gc<|zM z a,λv F=>?_,λf a s C u=>?_,λk f a y H=>?_⟩
 ·have:=zM b.1 F;unfold bO.nQ at this;split at this;·rename_i h;exact iP h
  ·cases this
 ·have:=zM (zM b.2 a) C;unfold Av bO.nQ at this;rw[aK u]at this;split at this;·rename_i h;exact iP h
  ·cases this
 ·have p:=K6 r k (cO.1 a).1;rw[sQ a]at p;have:=zM p H;unfold clE at this;split at this;·rename_i h;exact h
  ·cases this
theorem p9:∀(m k:Nat) (x y:Ex),m<=k->y∈fK m x->y∈fK k x
 | 0,_,_,_,_,h=>by simp[fK]at h
 | m+1,0,_,_,b,_=>by omega
 | m+1,k+1,x,y,b,h=>by
  simp only[fK,bX,gZ]at h ⊢;rcases h with h|⟨a,d,h⟩;·exact aO h
  ·exact aQ ⟨a,d,p9 m k a y bC h⟩
theorem Zr:∀(m k:Nat) (l:List St) (s:St),m<=k->s∈bO.all m l->s∈bO.all k l
 | 0,_,_,_,_,h=>by simp[bO.all]at h
 | m+1,0,_,_,a,_=>by omega
 | m+1,k+1,l,s,a,h=>by
  simp only[bO.all,bO.within,bX,gZ,dh]at h ⊢;obtain⟨t,b,h⟩:=h;refine⟨t,b,?_⟩;rcases h with(h|h)|h;·exact aO<|aO h
  ·exact aO<|aQ<|Zr m k _ s bC h
  ·exact aQ<|Zr m k _ s bC h
theorem Gd:∀(m:Nat) (x:Ex) (s:aS),s∈cls m x->∃y∈fK m x,y.name=s
 | 0,_,_,h=>by simp[cls]at h
 | m+1,x,s,h=>by
  simp only[cls,bX,gZ]at h;rcases h with h|⟨a,g,h⟩
  ·split at h;·rename_i d;simp only[dh]at h;exact⟨x,by simp[fK,d],h.symm⟩
   ·cases h
  ·obtain⟨y,e,b⟩:=Gd m a s h;exact⟨y,by simp only[fK,bX,gZ];exact aQ ⟨a,g,e⟩,b⟩
theorem CK:∀(m:Nat) (l:List St) (s:aS),s∈nR m l->∃t∈bO.all m l,∃y∈fK m t.e,y.name=s
 | 0,_,_,h=>by simp[nR]at h
 | m+1,l,s,h=>by
  simp only[nR,bX,gZ]at h;obtain⟨t,p,h⟩:=h;have g:∀a,a=t\/a∈bO.all m t.a\/a∈bO.all m t.b->a∈bO.all (m+1) l:=λa d=>by
   simp only[bO.all,bO.within,bX,gZ,dh];refine⟨t,p,?_⟩;rcases d with h|h|h;·exact aO<|aO h
   ·exact aO<|aQ h
   ·exact aQ h
  rcases h with(h|h)|h;·obtain⟨y,e,b⟩:=Gd m _ s h;exact⟨t,g t<|aO rfl,y,p9 m (m+1) _ _ (dN _) e,b⟩
  ·obtain⟨a,d,y,e,b⟩:=CK m _ s h;exact⟨a,g a<|aQ<|aO d,y,p9 m (m+1) _ _ (dN _) e,b⟩
  ·obtain⟨a,d,y,e,b⟩:=CK m _ s h;exact⟨a,g a<|aQ<|aQ d,y,p9 m (m+1) _ _ (dN _) e,b⟩
theorem abx(h:s∈nR m f.body++cls m f.result):∃y∈mZ m f,y.name=s:=by
 unfold mZ;rcases bX.1 h with h|h;·obtain⟨t,d,y,b,a⟩:=CK m _ s h;exact⟨y,bX.2<|aO<|gZ.2 ⟨t,d,b⟩,a⟩
 ·obtain⟨y,b,a⟩:=Gd m _ s h;exact⟨y,bX.2<|aQ b,a⟩
def Gf:Sc:=⟨⟨#[]⟩,0,0,[],0,[]⟩
def qH(x:Mo)(k:Nat)(known:List Mo)(bL:List (List Sc))(own:List Sc)(call:ByteArray):Sc:=
 if (fF x k call known).2.2=false then Gf else if (fF x k call known).1<0 then own.getD (fF x k call known).2.1.toNat Gf else (bL.getD (fF x k call known).1.toNat []).getD (fF x k call known).2.1.toNat Gf
theorem Ua(h:fF x k call known=(-1,(i:Int),true)):i<k:=by
 cases b:lI call with
 | none=>
  have g:fF x k call known=bO.tV (-1) x.bq call k:=by simp[fF,b]
  rw[g]at h;unfold bO.tV at h;cases p:vP x.bq call k with
  | none=>rw[p]at h;simp at h
  | some j =>rw[p]at h;simp only[pO,true_and,and_true]at h;have:=(Dy p).1;omega
 | some d=>
  exfalso;rcases vR x.imports (bS.preS call)with e|⟨i',e,_⟩
  ·have g:fF x k call known=(0,0,false):=by simp[fF,b,e]
   rw[g]at h;simp at h
  ·cases r:dQ known (x.imports.getD i' ByteArray.empty)with
   | none=>rw[Dn b e r]at h;simp at h
   | some a =>obtain⟨y,t,_⟩:=bO.rJ r;rw[Dp b e r t]at h;unfold bO.tV at h;split at h<;>simp at h<;>omega
theorem PW{y:Sc}(h:scB N y=true)(p:y.bounds.length=n):Wt N y n:=by unfold scB at h;simp only[dK]at h;obtain⟨e,⟨a,d⟩,_⟩:=h;unfold Au at a;unfold Iu at d;simp only[dK,iy]at a d;refine⟨p,λb g=>?_,⟨a.1.1.1,a.1.1.2⟩,⟨a.1.2,a.2⟩,d⟩;have:=iB.1 e b g;unfold Iu at this;simpa using this
theorem Zt{a:List Fu}{ys:List Sc}(h:vg N a ys=true){g:Fu}(hg:a[j]?=some g):∃y,ys[j]?=some y/\y.bounds.length=g.params.length/\scB N y=true:=by
 unfold vg at h;simp only[dK,iy]at h;have r:=(cO.1 hg).1;have d:j<ys.length:=by omega
 refine⟨ys[j],aZ d,?_⟩;have e:(g,ys[j])∈List.zip a ys:=by refine gU.2 ⟨j,by rw[He];omega,?_⟩;rw[List.getElem_zip];obtain⟨p,b⟩:=cO.1 hg;rw[b]
 have:=iB.1 h.2 _ e;unfold F4 at this;simpa using this
theorem afs(h:jw N ms ys=true){g:Mo}(hg:ms[j]?=some g):∃y,ys[j]?=some y/\vg N g.bq y=true:=by
 unfold jw at h;simp only[dK,iy]at h;have p:=(cO.1 hg).1;have b:j<ys.length:=by omega
 refine⟨ys[j],aZ b,?_⟩;have d:(g,ys[j])∈List.zip ms ys:=by refine gU.2 ⟨j,by rw[He];omega,?_⟩;rw[List.getElem_zip];obtain⟨e,a⟩:=cO.1 hg;rw[a]
 exact iB.1 h.2 _ d
theorem Xr(I:jw N known bL=true)(K:vg N (x.bq.take k) own=true)(b:bO.code x known k call n=0):Zj x k known bL own call (qH x k known bL own call)/\Wt N (qH x k known bL own call) n:=by
 have M:(fF x k call known).2.2=true:=by
  unfold bO.code at b;cases h:(fF x k call known).2.2 with
  | true=>rfl
  | false=>rw[h]at b;simp at b
 rcases FE M with⟨i,f,d,e⟩|⟨a,y,j,f,d,C,e⟩
 ·have H:=Ua d;have D:(x.bq.take k)[i]?=some f:=by rw[nM H];exact e
  obtain⟨s,g,r,u⟩:=Zt K D;have p:qH x k known bL own call=s:=by unfold qH;rw[d];simp[List.getD,g]
  rw[p];have t:f.params.length=n:=by unfold bO.code VQ at b;rw[d]at b;simp[e]at b;exact b
  exact⟨aO ⟨by rw[d];show(-1:Int)<0;omega,i,by rw[d],g⟩,PW u<|r.trans t⟩
 ·obtain⟨l,z,F⟩:=afs I C;obtain⟨s,g,r,u⟩:=Zt F e;have p:qH x k known bL own call=s:=by
   unfold qH;rw[d];have:¬((a:Int)<0):=by omega
   simp[List.getD,z,g,this]
  rw[p];have t:f.params.length=n:=by
   unfold bO.code VQ at b;rw[d]at b;have:¬((a:Int)=-1):=by omega
   simp[C,e,this]at b;exact b
  exact⟨aQ ⟨a,j,l,by rw[d],by rw[d],z,g⟩,PW u<|r.trans t⟩
theorem tK(h:bS.dZ s.data.toList=true):s.size<=8:=by unfold bS.dZ at h;simp only[dK,iy]at h;have:=h.1.2;rwa[iG]at this
theorem CO(h:s.toList.isEmpty=true):s.size=0:=by rw[A8,List.isEmpty_iff]at h;rw[<-iG,h];rfl
theorem akb(h:yB s=true):s.size<=17:=by
 unfold yB at h;simp only[dK,GK]at h;have a:=tK h.1;unfold bS.preS at a;unfold uR at h;cases d:lI s with
 | none=>rw[d]at a;simpa using bE a bM
 | some i=>
  rw[d]at h a;have g:=am0 d;rcases h.2 with b|b;·simp at b
  ·have e:=tK b;simp at a e;omega
theorem Ja(c:Env):∀(m:Nat) (x:Ex),bS.jo m x=true->(∀y∈fK m x,Wt c.N (c.eF y.name) y.args.length)->c.xZ m x
 | 0,_,h,_=>by simp[bS.jo]at h
 | m+1,x,h,z=>by
  have D:∀y∈x.args,∀d∈fK m y,Wt c.N (c.eF d.name) d.args.length:=λy a d H=>z d (by simp only[fK,bX,gZ];exact aQ ⟨y,a,H⟩);simp only[bS.jo]at h;by_cases r:x.kind=1;·rw[aK r]at h;simp only[dK,beq_iff_eq]at h;have p:=CO h.1.2;have g:x.args=[]:=qp.1 h.2;exact⟨by omega,λb=>by omega,λb=>by omega,λy a=>by rw[g]at a;cases a⟩
  ·rw[aI r]at h;by_cases t:x.kind=2;·rw[aK t]at h;simp only[dK,beq_iff_eq]at h;have p:=tK h.1.2;have g:x.args=[]:=qp.1 h.2;exact⟨by omega,λb=>by omega,λb=>by omega,λy a=>by rw[g]at a;cases a⟩
   ·rw[aI t]at h;by_cases u:x.kind=3
    ·rw[aK u]at h;simp only[dK,beq_iff_eq]at h;have p:x.name.size<=17:=by
      have C:=h.1.1.2;by_cases F:x.name.size=1;·omega
      ·rw[OC F]at C;cases C
     exact⟨p,λ_=>h.1.2,λb=>by omega,λy a=>Ja c m y (iB.1 h.2 y a)<|D y a⟩
    ·rw[aI u]at h;by_cases e:x.kind=4;·rw[aK e]at h;simp only[dK,beq_iff_eq,iy]at h;exact⟨akb h.1.1.2,λb=>by omega,λ_=>⟨h.1.2,z x<|by simp[fK,e]⟩,λy a=>Ja c m y (iB.1 h.2 y a)<|D y a⟩
     ·rw[aI e]at h;cases h
theorem Qs(c:Env):∀(m:Nat) (l:List St),bS.j6 m l=true->(∀s∈bO.all m l,(∀y∈fK m s.e,Wt c.N (c.eF y.name) y.args.length)/\(s.kind=4->0<=c.pl s.name))->c.yg m l
 | 0,_,h,_=>by simp[bS.j6]at h
 | m+1,l,h,r=>by
  intro s t;rw[wL]at h;have g:=iB.1 h s t;unfold bS.Vz at g;simp only[dK]at g;obtain⟨⟨⟨b,C⟩,u⟩,z⟩:=g;have p:∀a,a=s\/a∈bO.all m s.a\/a∈bO.all m s.b->a∈bO.all (m+1) l:=λa d=>by
   simp only[bO.all,bO.within,bX,gZ,dh];refine⟨s,t,?_⟩;rcases d with h|h|h;·exact aO<|aO h
   ·exact aO<|aQ h
   ·exact aQ h
  have e:∀a,(a=s\/a∈bO.all m s.a\/a∈bO.all m s.b)->(∀y∈fK m a.e,Wt c.N (c.eF y.name) y.args.length)/\(a.kind=4->0<=c.pl a.name):=λa d =>⟨λy F=>(r a<|p a d).1 y (p9 m (m+1) _ _ (dN _) F),(r a<|p a d).2⟩;unfold stH at b;refine⟨?_,Ja c m s.e C (e s<|aO rfl).1,λD=>?_,(e s<|aO rfl).2,Qs c m s.a u λa d=>e a<|aQ<|aO d,Qs c m s.b z λa d=>e a<|aQ<|aQ d⟩
  ·split at b;·simp only[dK]at b;exact tK b.1.1
   ·split at b;·have:=CO b;omega
    ·split at b;·simp only[dK]at b;have:=CO b.1;omega
     ·cases b
  ·rw[aK D]at b;simp only[dK,beq_iff_eq]at b;exact⟨qp.1 b.2,qp.1 b.1.2⟩
theorem K7{c:Env}:∀(m:Nat) (x:Ex),c.xZ m x->∀s∈cls m x,s.size<=17
 | 0,_,h,_,_=>iU h
 | m+1,x,h,s,a=>by
  simp only[cls,bX,gZ]at a;rcases a with a|⟨y,b,a⟩
  ·split at a;·rw[dh]at a;subst a;exact h.1
   ·cases a
  ·exact K7 m y (h.2.2.2 y b) s a
theorem Gg{c:Env}:∀(m:Nat) (l:List St),c.yg m l->∀s∈nR m l,s.size<=17
 | 0,_,h,_,_=>iU h
 | m+1,l,h,s,a=>by
  simp only[nR,bX,gZ]at a;obtain⟨t,g,a⟩:=a;obtain⟨_,e,_,_,b,d⟩:=h t g;rcases a with(a|a)|a;·exact K7 m _ e s a
  ·exact Gg m _ b s a
  ·exact Gg m _ d s a
def gH(ss:List ByteArray)(Z:Nat->Nat->Bool)(x:Mo)(k:Nat)(known:List Mo)(bL:List (List Sc))(own:List Sc)(f:Fu):Env:=
 ⟨Z,ss.length,xR Z ss.length,x.name,tJ ss f.params x.vars,λs=>dU ss s,qH x k known bL own⟩
theorem aiw(d:0<ss.length)(h:∀v∈vs,0<=dU ss v.level)(a:tJ ss ps vs s=some n):n<ss.length:=by
 unfold tJ at a;split at a;·cases a
 ·obtain⟨v,g,rfl⟩:=yF.1 a;have e:=List.mem_reverse.1<|Gw g;have p:=h v e;rcases T9 ss v.level with b|b;·omega
  ·rw[b]at d;simp at d
theorem Ub{L:Nat->Nat}(d:dD ss G L Z=0)(e:pX ss x known m)(k:Nat)(bL:List (List Sc))(own:List Sc)(f:Fu):(gH ss Z x k known bL own f).Ok:=by have a:=qF d;have b:=Jq a.order;exact⟨(Db (sD b.turn a.meets) a.pos).1,λs n g=>aiw a.pos e.Ig g,sD b a.joins,a.six⟩
structure aq3(c:Env)(x:Mo)(k:Nat)(known:List Mo)(bL:List (List Sc))(own:List Sc)(m:Nat)(f:Fu):Prop where
 st:c.yg m f.body
 ex:c.xZ m f.result
 means:∀s∈nR m f.body++cls m f.result,s.size<=17/\Zj x k known bL own s (c.eF s)
theorem Zu(p:pX ss x known m)(D:oO m x=0)(t:x.bq[k]?=some f)(e:jw ss.length known bL=true)(g:vg ss.length (x.bq.take k) own=true):aq3 (gH ss Z x k known bL own f) x k known bL own m f:=by
 have u:=dG t;obtain⟨F,H⟩:=akT D f u;have d:=p.calls k f t;have z:(gH ss Z x k known bL own f).yg m f.body:=Qs _ m f.body F λs a=>⟨λy b=>(Xr e g<|d y<|bX.2<|aO<|gZ.2 ⟨s,a,b⟩).2,λC=>p.prints f u s a C⟩;have r:(gH ss Z x k known bL own f).xZ m f.result:=Ja _ m f.result H λy b=>(Xr e g<|d y<|bX.2<|aQ b).2;refine⟨z,r,λs a=>?_⟩;obtain⟨y,b,rfl⟩:=abx a;refine⟨?_,(Xr e g<|d y b).1⟩;rcases bX.1 a with h|h;·exact Gg m f.body z _ h
 ·exact K7 m f.result r _ h
end Fl
namespace Fl
theorem jT{α:Type}{f g:α->Nat}:∀{l:List α},(∀x∈l,f x<=g x)->(l.map f).sum<=(l.map g).sum
 | [],_=>bG _
 | x::l,h=>by have b:=h x cK;have d:=jT (l:=l) λy a=>h y (by simp[a]);simp only[fZ,jI];omega
theorem amJ{α:Type}{g:α->Nat}:∀{l:List α} {x:α},x∈l->g x<=(l.map g).sum
 | y::l,x,h=>by
  simp only[fZ,jI];rcases fV.1 h with rfl|h;·omega
  ·have:=amJ (g:=g) h;omega
theorem jC{α β:Type}(f:α->List β)(l:List α):(l.flatMap f).length=(l.map λx=>(f x).length).sum:=by
 induction l with
 | nil=>rfl
 | cons x l a=>simp[List.flatMap_cons,a]
theorem zN{α:Type}(k:Nat)(f:α->Nat):∀l:List α,(l.map λx=>k*f x).sum=k*(l.map f).sum
 | []=>rfl
 | x::l=>by simp only[fZ,jI,zN k f l,Nat.mul_add]
section
variable (c : Env)
theorem Qt(s:aS):(c.MH s).length<=1:=by unfold Env.MH;split<;>simp
theorem Qu:∀(m:Nat) (x:Ex),(c.oM m x).length<=jF m x
 | 0,_=>by simp[Env.oM]
 | m+1,x=>by
  simp only[Env.oM,jF,bg,jC];obtain⟨a,b⟩:=eY (jT (l:=x.args) λy _=>Qu m y)<|Qt c x.name;split;·omega
  ·simp only[Ef];omega
theorem Qv:∀(m:Nat) (l:List St),(c.yx m l).length<=fA m l
 | 0,_=>by simp[Env.yx]
 | m+1,l=>by
  simp only[Env.yx,fA,jC];refine bE (jT (g:=λs:St=>s.name.size+3+jF m s.e+fA m s.a+fA m s.b) λs _=>?_)<|dN _;obtain⟨a,b,d⟩:=lS (Qu c m s.e) (Qv m s.a)<|Qv m s.b;have e:(c.G8 s).length<=1:=by
   unfold Env.G8;split;·exact Qt c _
   ·simp
  simp only[bg];omega
theorem Qw:∀(m:Nat) (x:Ex),(cls m x).length<=jF m x
 | 0,_=>by simp[cls]
 | m+1,x=>by simp only[cls,jF,bg,jC];have a:=jT (l:=x.args) λy _=>Qw m y;split<;>simp only[Ef,iI]<;>omega
theorem La:∀(m:Nat) (l:List St),(nR m l).length<=fA m l
 | 0,_=>by simp[nR]
 | m+1,l=>by simp only[nR,fA,jC];refine bE (jT (g:=λs:St=>s.name.size+3+jF m s.e+fA m s.a+fA m s.b) λs _=>?_)<|dN _;obtain⟨a,b,d⟩:=lS (Qw m s.e) (La m s.a)<|La m s.b;simp only[bg];omega
theorem Qx:∀(m:Nat) (l:List St),c.vY m l<=fA m l
 | 0,_=>by simp[Env.vY]
 | m+1,l=>by
  simp only[Env.vY,fA];refine bE (jT (g:=λs:St=>s.name.size+3+jF m s.e+fA m s.a+fA m s.b) λs _=>?_)<|dN _;obtain⟨a,b⟩:=eY (Qx m s.a)<|Qx m s.b;have d:c.xY s<=1:=by
   unfold Env.xY;split;·exact Qt c _
   ·omega
  omega
theorem Qy{K:Nat}(a:1<=K)(b:∀s,(c.eF s).gY.length<=K):∀(m:Nat) (x:Ex),(c.AA m x).length<=K*jF m x
 | 0,_=>by simp[Env.AA]
 | m+1,x=>by
  simp only[Env.AA,jF,bg,jC];have d:=jT (l:=x.args) λy _=>Qy a b m y;rw[zN]at d;have e:(if x.kind=2 then c.Q8 ⟨#[114,58]⟩ x.name else if x.kind=4 then (c.eF x.name).gY else []).length<=K:=by
   split;·refine bE ?_ a;unfold Env.Q8;split<;>simp
   ·split;·exact b _
    ·simp
  have g:K*(x.name.size+4+(x.args.map<|jF m).sum)=K*(x.name.size+4)+K*(x.args.map<|jF m).sum:=Nat.mul_add _ _ _;have h:K*1<=K*(x.name.size+4):=Nat.mul_le_mul_left _ bC;omega
theorem Qz{K:Nat}(a:1<=K)(b:∀s,(c.eF s).gY.length<=K):∀(m:Nat) (l:List St),(c.Pz m l).length<=K*fA m l
 | 0,_=>by simp[Env.Pz]
 | m+1,l=>by
  simp only[Env.Pz,fA,jC];refine bE (jT (g:=λs:St=>K*(s.name.size+3+jF m s.e+fA m s.a+fA m s.b)) λs _=>?_) (by rw[zN];exact Nat.mul_le_mul_left _<|dN _);obtain⟨d,e,h⟩:=lS (Qy c a b m s.e) (Qz a b m s.a)<|Qz a b m s.b;have p:(c.Py s).length<=1:=by
   unfold Env.Py;split;·unfold Env.Q8;split<;>simp
   ·split<;>simp
  have r:K*(s.name.size+3+jF m s.e+fA m s.a+fA m s.b)=K*(s.name.size+3)+K*jF m s.e+K*fA m s.a+K*fA m s.b:=by rw[Nat.mul_add,Nat.mul_add,Nat.mul_add]
  have t:K*1<=K*(s.name.size+3):=Nat.mul_le_mul_left _ bC;simp only[bg];omega
theorem Jb:∀(m:Nat) (x:Ex) (pc:Hg),c.xZ m x->(c.zi m x pc).length<=2*jF m x
 | 0,_,_,h=>iU h
 | m+1,x,pc,h=>by
  simp only[Env.zi,jF,bg,jC];have a:=jT (l:=x.args) λy d=>Jb m y pc<|h.2.2.2 y d;rw[zN]at a;split;·rename_i b;have e:=(h.2.2.1 b).1;simp only[Env.skA,bg,dV,uJ,iI];omega
  ·simp only[Ef];omega
theorem Jc:∀(m:Nat) (l:List St) (pc:Hg),c.yg m l->(c.Il m l pc).length<=2*fA m l
 | 0,_,_,h=>iU h
 | m+1,l,pc,h=>by
  simp only[Env.Il,fA,jC];refine bE (jT (g:=λs:St=>2*(s.name.size+3+jF m s.e+fA m s.a+fA m s.b)) λs e=>?_) (by rw[zN];omega);obtain⟨_,d,_,_,a,b⟩:=h s e;obtain⟨p,r,t⟩:=lS (Jb c m s.e (c.at m pc s) d) (Jc m s.a (c.here m pc s) a)<|Jc m s.b (c.here m pc s) b;have u:(c.Vl s<|c.here m pc s).length<=1:=by
   unfold Env.Vl;split;·unfold Env.skN;split<;>simp
   ·split<;>simp
  simp only[bg];omega
theorem Xu:∀(m:Nat) (l:List St) (pc:Hg),(c.Kn m l pc).length=c.vY m l
 | 0,_,_=>by simp[Env.Kn,Env.vY]
 | m+1,l,pc=>by
  simp only[Env.Kn,Env.vY,jC];congr 1;refine Na λs _=>?_;simp only[bg,Xu m];congr 2;unfold Env.cn1 Env.xY Env.cnN Env.MH;split;·split<;>rfl
  ·rfl
end
theorem afu(h:f∈x.bq):f.params.length+fA m f.body+jF m f.result+2<=xH m x:=by have a:=amJ (g:=λs:Fu=>s.name.size+2+nJ s.params+fA m s.body+jF m s.result) h;have b:=zL f.params;unfold xH BK;omega
end Fl
theorem kJ(h:Below n w W)(e:n<=B)(a b c d p f g:aC):Below n w (((((((W.setCell (aN B 0) a).setCell (aN B 1) b).setCell (aN B 2) c).setCell (aN B 3) d).setCell (aN B 4) p).setCell (aN B 5) f).setCell (aN B 6) g):=
 ((((((h.setCell e _).setCell e _).setCell e _).setCell e _).setCell e _).setCell e _).setCell e _
namespace Fl
theorem aix{B:aJ}(h:∀t,t∈Zk↔t∈B):gP (jZ Zk)=gP (jZ B):=
 KW (KV _<|Et Zk) (KV _<|Et B) λt=>by rw[yY,vT,yY,vT,h]
def QA(ss:List ByteArray)(G:Nat)(L:Nat->Nat)(Z:Nat->Nat->Bool)(m:Nat)(x:Mo)(k:Int)(known:List Mo)(bL:List (List Sc))(own:List Sc):Int:=
 if AO (dD ss G L Z) m x known≠0 then AO (dD ss G L Z) m x known
 else if bO.once (D9 ss x known m)≠[]then 5
 else if k<0\/k>=x.bq.length\/jw ss.length known bL=false\/vg ss.length (x.bq.take k.toNat) own=false then 1 else 0
end Fl
structure mQ(w:World)(m:Nat)(vn vl vi vv vf vk vs vo:Value)(ss:List ByteArray)(G:Nat)(L:Nat->Nat)(Z:Nat->Nat->Bool)(x:Mo)(known:List Mo)(bL:List (List Sc))(own:List Sc):Prop where
 strs:Strs w vn ss
 Q5:EX w vl G L Z
 mo:jl w m (.agg #[.string x.name,vi,vv,vf]) x
 cap:Bg w vi vf
 kn:jN w m vk known
 sc:BZ w vs bL
 ow:xO w vo own
 small:xH m x<=1048576
 smalls:∀y∈known,xH m y<=1048576
 tab:Tab w
 mg:∀l∈bL,∀y∈l,y.gY.length<=1048576
 Rp:∀y∈own,y.gY.length<=1048576
section
variable {w w' : World} {m : Nat} {vn vl vi vv vf vk vs vo : Value} {ss : List ByteArray} {G : Nat} {L : Nat → Nat} {Z : Nat → Nat → Bool} {x : Mo} {known : List Mo} {bL : List (List Sc)} {own : List Sc}
theorem mQ.below(h:mQ w m vn vl vi vv vf vk vs vo ss G L Z x known bL own)(a:bK w w'):mQ w' m vn vl vi vv vf vk vs vo ss G L Z x known bL own:=
 ⟨h.strs.below a,h.Q5.below a,h.mo.below a,h.cap.below a,h.kn.below a,h.sc.below a,h.ow.below a,h.small,h.smalls,h.tab.below a,h.mg,h.Rp⟩
theorem mQ.Oz(h:mQ w m vn vl vi vv vf vk vs vo ss G L Z x known bL own):aD 76 #[.agg #[vn,vl],.agg #[A x.name,vi,vv,vf],vk] w λe w'=>∃d,e=dz (.tuple #[d,O<|AO (dD ss G L Z) m x known])/\jg w' d (FX (AO (dD ss G L Z) m x known) ss x known m)/\(FX (AO (dD ss G L Z) m x known) ss x known m=[]->d=aU)/\bK w w':=by
 have b:x.imports.length<=1048576/\x.vars.length<=1048576/\x.bq.length<=1048576:=by have r:=zL x.imports;obtain⟨t,u,g⟩:=lS (Zq x.vars) (I9 m x.bq) h.small;unfold xH at g;omega
 exact ajA m w vn vl vi vv vf vk ss x known _ h.strs h.mo h.kn h.cap (λp a=>afC m p vn vl vi vv vf vk ss G L Z x known (h.strs.below a) (h.Q5.below a) (h.mo.below a) (h.kn.below a) h.small h.smalls<|h.tab.below a) b.2.1 b.2.2 b.1<|aiu ss known h.mo h.small
theorem mQ.check(h:mQ w m vn vl vi vv vf vk vs vo ss G L Z x known bL own):aD 76 #[.agg #[vn,vl],.agg #[A x.name,vi,vv,vf],vk] w λb w'=>∃a,b=dz (.tuple #[a,O<|AO (dD ss G L Z) m x known])/\jg w' a (FX (AO (dD ss G L Z) m x known) ss x known m)/\bK w w':=by refine h.Oz.mono ?_;rintro b w' ⟨a,rfl,d,_,e⟩;exact⟨a,rfl,d,e⟩
theorem mQ.forms(h:mQ w m vn vl vi vv vf vk vs vo ss G L Z x known bL own):(∃a c,vn=X a ss.length c)/\(∃a n c,vl=X a n c)/\(∃a n c,vi=X a n c)/\(∃a n c,vv=X a n c)/\(∃a c,vf=X a x.bq.length c/\x.bq.length<=c)/\(∃a n c,vk=X a n c)/\(∃a n c,vs=X a n c)/\(∃a n c,vo=X a n c):=by obtain⟨y,z,C⟩:=h.mo.split;obtain⟨D,_,_,R,d,_⟩:=h.strs;obtain⟨F,_,_,S,_,_,_,_,e,_⟩:=h.Q5;obtain⟨H,_,_,U,g,_⟩:=y;obtain⟨I,_,_,V,p,_⟩:=z;obtain⟨K,_,_,c4,b,_⟩:=C;obtain⟨M,_,_,c5,r,_⟩:=h.kn;obtain⟨P,_,_,c6,t,_⟩:=h.sc;obtain⟨Q,_,_,c7,u,_⟩:=h.ow;exact⟨⟨_,_,d⟩,⟨_,_,_,e⟩,⟨_,_,_,g⟩,⟨_,_,_,p⟩,⟨_,_,b,h.cap.fus _ _ _ b⟩,⟨_,_,_,r⟩,⟨_,_,_,t⟩,⟨_,_,_,u⟩⟩
end
theorem Uc(m:Nat)(w:bI)(vn vl vi vv vf vk vs vo:aC)(ss:aJ)(G:Nat)(L:Nat->Nat)(Z:aL)(x:Mo)(known:List Mo)(bL:List (List Sc))(own:List Sc)(k mn mc:Int)(b:mQ w m vn vl vi vv vf vk vs vo ss G L Z x known bL own)(e:AO (dD ss G L Z) m x known≠0):aD 77 #[.agg #[vn,vl],.agg #[A x.name,vi,vv,vf],O k,vk,vs,vo,O mn,O mc] w λy w'=>y=dz (.tuple #[.agg #[aU,aU,aU,aU,O 0,O 0,aU],O<|AO (dD ss G L Z) m x known])/\bK w w':=by obtain⟨⟨V,c0,z⟩,⟨a1,n1,c1,e1⟩,⟨a2,n2,c2,e2⟩,⟨a3,n3,c3,e3⟩,⟨a4,c4,C,aa⟩,⟨a5,n5,c5,e5⟩,⟨a6,n6,c6,e6⟩,⟨a7,n7,c7,e7⟩⟩:=b.forms;obtain⟨n0,p⟩:=aV ss.length;obtain⟨n4,uV⟩:=aV x.bq.length;obtain⟨II,vD⟩:=bV p uV;rw[<-p]at z;rw[<-uV]at C aa;clear p uV;subst z e1 e2 e3 C e5 e6 e7;obtain⟨W,g,r,t,F,ab,d⟩:=al3 w (aY #[X V n0 c0,X a1 n1 c1] 25) (aY #[A x.name,X a2 n2 c2,X a3 n3 c3,X a4 n4 c4] 47)<|aY #[aU,aU,aU,aU,O 0,O 0,aU] 141;obtain⟨I,K⟩:=jv r;obtain⟨M,P,Q,R⟩:=xX t;obtain⟨lH,jG,U,iO,H⟩:=uh r t F d<|(b.below d).check;clear r t F ab d b;rw[g]at I K M P Q R;obtain⟨E,D⟩:=aV<|AO (dD ss G L Z) m x known;rw[<-D]at H e ⊢;have hz:=eO e;clear D e;go_enter func77,ntmps77;go_wp2_with fail;rw[<-g];clear g I K M P Q R;refine H.mono ?_;rintro y w1 ⟨u,rfl,hu,h⟩;obtain⟨a,S⟩:=bV (bH U h)<|up iO h;clear hu h;obtain⟨r0,r1,r2,r3,r4,r5,r6⟩:=Cg a;obtain⟨z0,z1,z2,z3,z4,z5,z6⟩:=Ng (aF a 0) (aF a 1) (aF a 2) (aF a 3) (aF a 4) (aF a 5)<|aF a 6;go_wp2_with fail;have hs:=MN a (aU) (aU) (aU) (aU) (O 0) (O 0)<|aU;obtain⟨f0,f1,f2,f3,f4,f5,f6⟩:=Cg hs;refine cZ (v:=.tuple #[.agg #[aU,aU,aU,aU,O 0,O 0,aU],O<|E]) (by simp[results,results77,go_sem,f0,f1,f2,f3,f4,f5,f6]) rfl ⟨rfl,?_⟩;exact kJ S (bE (dN _)<|dN _) _ _ _ _ _ _ _
theorem Ud(m:Nat)(w:bI)(vn vl vi vv vf vk vs vo:aC)(ss:aJ)(G:Nat)(L:Nat->Nat)(Z:aL)(x:Mo)(known:List Mo)(bL:List (List Sc))(own:List Sc)(k mn mc:Int)(b:mQ w m vn vl vi vv vf vk vs vo ss G L Z x known bL own)(F:AO (dD ss G L Z) m x known=0)(D:bO.once (D9 ss x known m)≠[]):aD 77 #[.agg #[vn,vl],.agg #[A x.name,vi,vv,vf],O k,vk,vs,vo,O mn,O mc] w λy w'=>y=dz (.tuple #[.agg #[aU,aU,aU,aU,O 0,O 0,aU],O 5])/\bK w w':=by
 obtain⟨⟨a0,c0,z⟩,⟨a1,n1,c1,e1⟩,⟨a2,n2,c2,e2⟩,⟨a3,n3,c3,e3⟩,⟨a4,c4,C,aa⟩,⟨a5,n5,c5,e5⟩,⟨a6,n6,c6,e6⟩,⟨a7,n7,c7,e7⟩⟩:=b.forms;obtain⟨n0,h⟩:=aV ss.length;obtain⟨n4,uV⟩:=aV x.bq.length;obtain⟨II,vD⟩:=bV h uV;rw[<-h]at z;rw[<-uV]at C aa;clear h uV;subst z e1 e2 e3 C e5 e6 e7;obtain⟨W,e,r,t,H,ab,d⟩:=al3 w (aY #[X a0 n0 c0,X a1 n1 c1] 25) (aY #[A x.name,X a2 n2 c2,X a3 n3 c3,X a4 n4 c4] 47)<|aY #[aU,aU,aU,aU,O 0,O 0,aU] 141;obtain⟨K,M⟩:=jv r;obtain⟨P,Q,R,S⟩:=xX t;obtain⟨lH,jG,IJ,iO,I⟩:=uh r t H d<|(b.below d).check;clear r t H ab d b;rw[e]at K M P Q R S;rw[F]at I;have V:J (0<(FX 0 ss x known m).length):=Y (by unfold FX;rw[aK rfl];exact vO.2 D);clear F D;go_enter func77,ntmps77;go_wp2_with fail;rw[<-e];clear e K M P Q R S;refine I.mono ?_;rintro y w1 ⟨u,rfl,hu,g⟩;obtain⟨a,U⟩:=bV (bH IJ g)<|up iO g;obtain⟨ua,ub,uo,uc,rfl,-⟩:=hu;obtain⟨nd,p⟩:=aV<|(FX 0 ss x known m).length;have ac:0<nd:=by rw[p];exact V
 rw[<-p];clear p g;obtain⟨r0,r1,r2,r3,r4,r5,r6⟩:=Cg a;obtain⟨z0,z1,z2,z3,z4,z5,z6⟩:=Ng (aF a 0) (aF a 1) (aF a 2) (aF a 3) (aF a 4) (aF a 5)<|aF a 6;go_wp2_with fail;have hs:=MN a (aU) (aU) (aU) (aU) (O 0) (O 0)<|aU;obtain⟨f0,f1,f2,f3,f4,f5,f6⟩:=Cg hs;refine cZ (v:=.tuple #[.agg #[aU,aU,aU,aU,O 0,O 0,aU],O<|5]) (by simp[results,results77,go_sem,f0,f1,f2,f3,f4,f5,f6]) rfl ⟨rfl,?_⟩;exact kJ U (bE (dN _)<|dN _) _ _ _ _ _ _ _
theorem mE.V6{a:Option Addr}{l:List Fu}(h:mE w m (X a n c) l)(F:k<=l.length):mE w m (X a k c) (l.take k):=by
 obtain⟨C,b,off,cap,p,u,H,y⟩:=h;injection p with r D t;subst r t;have d:(l.take k).length=k:=by rw[iA];omega
 refine⟨a,b,off,c,by rw[d],λz=>u (by rw[d]at z;omega),by rw[d];omega,λi s e=>y i s ?_⟩;have g:=(cO.1 e).1;rw[d]at g;rw[nM g]at e;exact e
theorem Ue(m:Nat)(w:bI)(vn vl vi vv vf vk vs vo:aC)(ss:aJ)(G:Nat)(L:Nat->Nat)(Z:aL)(x:Mo)(known:List Mo)(bL:List (List Sc))(own:List Sc)(k mn mc:Int)(e:mQ w m vn vl vi vv vf vk vs vo ss G L Z x known bL own)(P:AO (dD ss G L Z) m x known=0)(M:bO.once (D9 ss x known m)=[])(hk:k<0):aD 77 #[.agg #[vn,vl],.agg #[A x.name,vi,vv,vf],O k,vk,vs,vo,O mn,O mc] w λH w'=>H=dz (.tuple #[.agg #[aU,aU,aU,aU,O 0,O 0,aU],O 1])/\bK w w':=by
 obtain⟨⟨a0,c0,I⟩,⟨a1,n1,c1,e1⟩,⟨a2,n2,c2,e2⟩,⟨a3,n3,c3,e3⟩,⟨a4,c4,K,ad⟩,⟨a5,n5,c5,e5⟩,⟨a6,n6,c6,e6⟩,⟨a7,n7,c7,e7⟩⟩:=e.forms;obtain⟨n0,z⟩:=aV ss.length;obtain⟨n4,F⟩:=aV x.bq.length;obtain⟨II,vD⟩:=bV z F;rw[<-z]at I;rw[<-F]at K ad;clear z F;subst I e1 e2 e3 K e5 e6 e7;obtain⟨W,hW,C,D,R,ae,t⟩:=al3 w (aY #[X a0 n0 c0,X a1 n1 c1] 25) (aY #[A x.name,X a2 n2 c2,X a3 n3 c3,X a4 n4 c4] 47)<|aY #[aU,aU,aU,aU,O 0,O 0,aU] 141;obtain⟨g,h⟩:=jv C;obtain⟨V,y1,y2,p⟩:=xX D;obtain⟨lH,jG,IJ,iO,U⟩:=uh C D R t<|(e.below t).check;clear C D R ae t e;rw[hW]at g h V y1 y2 p;rw[P]at U;have HD:J ((FX 0 ss x known m).length=0):=Y (by unfold FX;rw[aK rfl,M];rfl);have ah:decide (k<0)=true:=gW hk;clear P M;go_enter func77,ntmps77;go_wp2_with fail;rw[<-hW];clear hW g h V y1 y2 p;refine U.mono ?_;rintro H w1 ⟨u,rfl,hu,d⟩;obtain⟨S,mh,ac,aa⟩:=lD (bH lH d) (bH jG d) (bH IJ d)<|up iO d;obtain⟨ua,ub,uo,uc,rfl,-⟩:=hu;rw[HD];obtain⟨g,h,p⟩:=lS (bD<|(aj S 0).trans rfl) (bD<|(aj S 1).trans rfl) (bD<|(aj mh 3).trans rfl);clear d;go_wp2_with fail;refine bW dw dw ?_;repeat(with_reducible(refine wpQuiet_step (λr b=>?_));go_simp;first|(with_reducible(refine b _ ?_);clear b r)|(rw[aI (by simp[undef])];with_reducible(refine b _ ?_);clear b r)|(apply Exists.intro;refine⟨λ_=>?_,b _ ?_⟩;(fail);clear b r))
 with_reducible(refine wpQuiet_nil ?_)
 intro w2 af;obtain⟨⟨nq,ag⟩,Q⟩:=af;have y:bK w1 w2:=by rw[Q];exact bU w1 nq ag
 obtain⟨ab,a⟩:=bV (up aa y)<|bH ac y;clear Q y g h p;obtain⟨r0,r1,r2,r3,r4,r5,r6⟩:=Cg a;obtain⟨z0,z1,z2,z3,z4,z5,z6⟩:=Ng (aF a 0) (aF a 1) (aF a 2) (aF a 3) (aF a 4) (aF a 5)<|aF a 6;go_wp2_with fail;have hs:=MN a (aU) (aU) (aU) (aU) (O 0) (O 0)<|aU;obtain⟨f0,f1,f2,f3,f4,f5,f6⟩:=Cg hs;refine cZ (v:=.tuple #[.agg #[aU,aU,aU,aU,O 0,O 0,aU],O<|1]) (by simp[results,results77,go_sem,f0,f1,f2,f3,f4,f5,f6]) rfl ⟨rfl,?_⟩;exact kJ ab (bE (dN _)<|dN _) _ _ _ _ _ _ _
theorem Uf(m:Nat)(w:bI)(vn vl vi vv vf vk vs vo:aC)(ss:aJ)(G:Nat)(L:Nat->Nat)(Z:aL)(x:Mo)(known:List Mo)(bL:List (List Sc))(own:List Sc)(k mn mc:Int)(e:mQ w m vn vl vi vv vf vk vs vo ss G L Z x known bL own)(P:AO (dD ss G L Z) m x known=0)(M:bO.once (D9 ss x known m)=[])(ah:¬k<0)(Q:k>=x.bq.length):aD 77 #[.agg #[vn,vl],.agg #[A x.name,vi,vv,vf],O k,vk,vs,vo,O mn,O mc] w λH w'=>H=dz (.tuple #[.agg #[aU,aU,aU,aU,O 0,O 0,aU],O 1])/\bK w w':=by
 obtain⟨⟨a0,c0,I⟩,⟨a1,n1,c1,e1⟩,⟨a2,n2,c2,e2⟩,⟨a3,n3,c3,e3⟩,⟨a4,c4,K,ad⟩,⟨a5,n5,c5,e5⟩,⟨a6,n6,c6,e6⟩,⟨a7,n7,c7,e7⟩⟩:=e.forms;obtain⟨n0,z⟩:=aV ss.length;obtain⟨U,F⟩:=aV x.bq.length;obtain⟨II,vD⟩:=bV z F;rw[<-z]at I;rw[<-F]at K ad;clear z F;subst I e1 e2 e3 K e5 e6 e7;obtain⟨W,hW,C,D,S,ae,t⟩:=al3 w (aY #[X a0 n0 c0,X a1 n1 c1] 25) (aY #[A x.name,X a2 n2 c2,X a3 n3 c3,X a4 U c4] 47)<|aY #[aU,aU,aU,aU,O 0,O 0,aU] 141;obtain⟨g,h⟩:=jv C;obtain⟨y0,y1,y2,p⟩:=xX D;obtain⟨lH,jG,IJ,iO,wV⟩:=uh C D S t<|(e.below t).check;clear C D S ae t e;rw[hW]at g h y0 y1 y2 p;rw[P]at wV;have HD:J ((FX 0 ss x known m).length=0):=Y (by unfold FX;rw[aK rfl,M];rfl);rw[<-vD]at Q;have ai:decide (k>=(U:Int))=true:=gW Q;clear P M;go_enter func77,ntmps77;go_wp2_with fail;rw[<-hW];clear hW g h y0 y1 y2 p;refine wV.mono ?_;rintro H w1 ⟨u,rfl,hu,d⟩;obtain⟨V,mh,ac,aa⟩:=lD (bH lH d) (bH jG d) (bH IJ d)<|up iO d;obtain⟨ua,ub,uo,uc,rfl,-⟩:=hu;rw[HD];obtain⟨g,h,p⟩:=lS (bD<|(aj V 0).trans rfl) (bD<|(aj V 1).trans rfl) (bD<|(aj mh 3).trans rfl);clear d;go_wp2_with fail;refine bW dw dw ?_;repeat(with_reducible(refine wpQuiet_step (λr b=>?_));go_simp;first|(with_reducible(refine b _ ?_);clear b r)|(rw[aI (by simp[undef])];with_reducible(refine b _ ?_);clear b r)|(apply Exists.intro;refine⟨λ_=>?_,b _ ?_⟩;(fail);clear b r))
 with_reducible(refine wpQuiet_nil ?_)
 intro w2 af;obtain⟨⟨nq,ag⟩,R⟩:=af;have y:bK w1 w2:=by rw[R];exact bU w1 nq ag
 obtain⟨ab,a⟩:=bV (up aa y)<|bH ac y;clear R y g h p;obtain⟨r0,r1,r2,r3,r4,r5,r6⟩:=Cg a;obtain⟨z0,z1,z2,z3,z4,z5,z6⟩:=Ng (aF a 0) (aF a 1) (aF a 2) (aF a 3) (aF a 4) (aF a 5)<|aF a 6;go_wp2_with fail;have hs:=MN a (aU) (aU) (aU) (aU) (O 0) (O 0)<|aU;obtain⟨f0,f1,f2,f3,f4,f5,f6⟩:=Cg hs;refine cZ (v:=.tuple #[.agg #[aU,aU,aU,aU,O 0,O 0,aU],O<|1]) (by simp[results,results77,go_sem,f0,f1,f2,f3,f4,f5,f6]) rfl ⟨rfl,?_⟩;exact kJ ab (bE (dN _)<|dN _) _ _ _ _ _ _ _
theorem Ug(m:Nat)(w:bI)(vn vl vi vv vf vk vs vo:aC)(ss:aJ)(G:Nat)(L:Nat->Nat)(Z:aL)(x:Mo)(known:List Mo)(bL:List (List Sc))(own:List Sc)(k mn mc:Int)(g:mQ w m vn vl vi vv vf vk vs vo ss G L Z x known bL own)(hE:AO (dD ss G L Z) m x known=0)(hD:bO.once (D9 ss x known m)=[])(h:Nat)(ae:k=h)(F:h<x.bq.length)(hf:Fl.jw ss.length known bL=false):aD 77 #[.agg #[vn,vl],.agg #[A x.name,vi,vv,vf],O k,vk,vs,vo,O mn,O mc] w λe w'=>e=dz (.tuple #[.agg #[aU,aU,aU,aU,O 0,O 0,aU],O 1])/\bK w w':=by
 obtain⟨⟨S,V,e0⟩,⟨U,n1,c1,e1⟩,⟨a2,n2,c2,e2⟩,⟨a3,n3,c3,e3⟩,⟨a4,c4,e4,ad⟩,⟨a5,n5,c5,e5⟩,⟨a6,n6,c6,e6⟩,⟨a7,n7,c7,e7⟩⟩:=g.forms;obtain⟨n0,H⟩:∃n,n=ss.length:=⟨_,rfl⟩;obtain⟨n4,P⟩:∃n,n=x.bq.length:=⟨_,rfl⟩;obtain⟨R,vD⟩:=bV H P;rw[<-H]at e0;rw[<-P]at e4 ad;clear H P;subst e0 e1 e2 e3 e4 e5 e6 e7;have Q:=Y g;obtain⟨W,C,I,K,k2,af,z⟩:=al3 w (aY #[X S n0 V,X U n1 c1] 25) (aY #[A x.name,X a2 n2 c2,X a3 n3 c3,X a4 n4 c4] 47)<|aY #[aU,aU,aU,aU,O 0,O 0,aU] 141;obtain⟨p,r⟩:=jv I;obtain⟨y0,y1,y2,t⟩:=xX K;obtain⟨lH,jG,IJ,iO,wV⟩:=uh I K k2 z<|(g.below z).check;clear I K k2 af z g;rw[C]at p r y0 y1 y2 t;rw[hE]at wV;have HD:J ((FX 0 ss x known m).length=0):=Y (by unfold FX;rw[if_pos rfl,hD];rfl);subst ae;have al:h<n4:=by rw[vD.out];exact F
 have ak:h<=c4:=by omega
 clear F;have HF:=Y hf;clear hf;clear hE hD;go_enter func77,ntmps77;go_wp2_with fail;rw[<-C];clear C p r y0 y1 y2 t;refine wV.out.mono ?_;rintro e w1 ⟨u,rfl,hu,d⟩;obtain⟨oW,mh,ac,HB1⟩:=lD (bH lH.out d) (bH jG.out d) (bH IJ.out d)<|up iO.out d;obtain⟨ua,ub,uo,uc,rfl,-⟩:=hu;rw[HD.out];obtain⟨p,r,t⟩:=lS (bD<|(aj oW.out 0).trans rfl) (bD<|(aj oW.out 1).trans rfl) (bD<|(aj mh.out 3).trans rfl);clear d;have QB:=Y (λq M=>Cj m (gn w1 q M) S (X U n1 c1) n0 V (X a5 n5 c5) (X a6 n6 c6) known bL (Q.out.kn.below<|up HB1.out<|bU w1 q M)<|Q.out.sc.below<|up HB1.out<|bU w1 q M);rw[R.out]at QB;rw[HF.out]at QB;rw[<-R.out]at QB;go_wp2_with fail;refine bW dw dw ?_;repeat(with_reducible(refine wpQuiet_step (λy b=>?_));go_simp;first|(with_reducible(refine b _ ?_);clear b y)|(rw[if_neg (by simp[undef])];with_reducible(refine b _ ?_);clear b y)|(apply Exists.intro;refine⟨λ_=>?_,b _ ?_⟩;((exact Calls.oZ<|QB.out _ _));clear b y))
 with_reducible(refine wpQuiet_nil ?_)
 intro w2 ag;obtain⟨⟨nq,ah⟩,aa⟩:=ag;have D:bK w1 w2:=by rw[aa];exact bU w1 nq ah
 obtain⟨ab,a⟩:=bV (up HB1.out D)<|bH ac.out D;clear aa D p r t;obtain⟨r0,r1,r2,r3,r4,r5,r6⟩:=Cg a.out;obtain⟨z0,z1,z2,z3,z4,z5,z6⟩:=Ng (aF a.out 0) (aF a.out 1) (aF a.out 2) (aF a.out 3) (aF a.out 4) (aF a.out 5)<|aF a.out 6;go_wp2_with fail;have hs:=MN a.out (aU) (aU) (aU) (aU) (O 0) (O 0)<|aU;obtain⟨f0,f1,f2,f3,f4,f5,f6⟩:=Cg hs;refine bodyPost_ret (v:=.tuple #[.agg #[aU,aU,aU,aU,O 0,O 0,aU],O<|1]) (by simp[results,results77,go_sem,f0,f1,f2,f3,f4,f5,f6]) rfl ⟨rfl,?_⟩;exact kJ ab.out (Nat.le_trans (Nat.le_succ _)<|Nat.le_succ _) _ _ _ _ _ _ _
theorem Uh(m:Nat)(w:bI)(vn vl vi vv vf vk vs vo:aC)(ss:aJ)(G:Nat)(L:Nat->Nat)(Z:aL)(x:Mo)(known:List Mo)(bL:List (List Sc))(own:List Sc)(k mn mc:Int)(y:mQ w m vn vl vi vv vf vk vs vo ss G L Z x known bL own)(hE:AO (dD ss G L Z) m x known=0)(hD:bO.once (D9 ss x known m)=[])(b:Nat)(af:k=b)(S:b<x.bq.length)(hf:Fl.jw ss.length known bL=true)(ho:Fl.vg ss.length (x.bq.take b) own=false):aD 77 #[.agg #[vn,vl],.agg #[A x.name,vi,vv,vf],O k,vk,vs,vo,O mn,O mc] w λe w'=>e=dz (.tuple #[.agg #[aU,aU,aU,aU,O 0,O 0,aU],O 1])/\bK w w':=by
 obtain⟨⟨H,K,e0⟩,⟨I,n1,M,e1⟩,⟨a2,n2,c2,e2⟩,⟨a3,n3,c3,e3⟩,⟨a4,c4,e4,ae⟩,⟨a5,n5,c5,e5⟩,⟨a6,n6,c6,e6⟩,⟨a7,n7,c7,e7⟩⟩:=y.forms;obtain⟨n0,U⟩:∃n,n=ss.length:=⟨_,rfl⟩;obtain⟨n4,uV⟩:∃n,n=x.bq.length:=⟨_,rfl⟩;obtain⟨r,vD⟩:=bV U uV;rw[<-U]at e0;rw[<-uV]at e4 ae;clear U uV;subst e0 e1 e2 e3 e4 e5 e6 e7;have p:=Y y;obtain⟨W,Q,V,k1,k2,ag,P⟩:=al3 w (aY #[X H n0 K,X I n1 M] 25) (aY #[A x.name,X a2 n2 c2,X a3 n3 c3,X a4 n4 c4] 47)<|aY #[aU,aU,aU,aU,O 0,O 0,aU] 141;obtain⟨z,C⟩:=jv V;obtain⟨y0,y1,y2,D⟩:=xX k1;obtain⟨lH,jG,IJ,iO,wV⟩:=uh V k1 k2 P<|(y.below P).check;clear V k1 k2 ag P y;rw[Q]at z C y0 y1 y2 D;rw[hE]at wV;have HD:J ((FX 0 ss x known m).length=0):=Y (by unfold FX;rw[if_pos rfl,hD];rfl);subst af;have ac:=Y<|Nat.le_of_lt S;have al:b<n4:=by rw[vD.out];exact S
 have ak:b<=c4:=by omega
 clear S;obtain⟨HF,HO⟩:=bV hf ho;clear hf ho;clear hE hD;go_enter func77,ntmps77;go_wp2_with fail;rw[<-Q];clear Q z C y0 y1 y2 D;refine wV.out.mono ?_;rintro e w1 ⟨u,rfl,hu,h⟩;obtain⟨oW,mh,ad,g⟩:=lD (bH lH.out h) (bH jG.out h) (bH IJ.out h)<|up iO.out h;obtain⟨ua,ub,uo,uc,rfl,-⟩:=hu;rw[HD.out];obtain⟨z,C,D⟩:=lS (bD<|(aj oW.out 0).trans rfl) (bD<|(aj oW.out 1).trans rfl) (bD<|(aj mh.out 3).trans rfl);clear h;have QB:=Y (λq d=>Cj m (gn w1 q d) H (X I n1 M) n0 K (X a5 n5 c5) (X a6 n6 c6) known bL (p.out.kn.below<|up g.out<|bU w1 q d)<|p.out.sc.below<|up g.out<|bU w1 q d);rw[r.out]at QB;rw[HF.out]at QB;rw[<-r.out]at QB;have t:=Y (λq d=>P6 m (gn w1 q d) H (X I n1 M) n0 K (X a4 b c4) (X a7 n7 c7) (x.bq.take b) own ((p.out.mo.split.2.2.V6 ac.out).below (up g.out<|bU w1 q d))<|p.out.ow.below<|up g.out<|bU w1 q d);rw[r.out]at t;rw[HO.out]at t;rw[<-r.out]at t;go_wp2_with fail;refine bW dw dw ?_;repeat(with_reducible(refine wpQuiet_step (λF qb=>?_));go_simp;first|(with_reducible(refine qb _ ?_);clear qb F)|(rw[if_neg (by simp[undef])];with_reducible(refine qb _ ?_);clear qb F)|(apply Exists.intro;refine⟨λ_=>?_,qb _ ?_⟩;(first|(exact Calls.oZ<|QB.out _ _)|(exact Calls.oZ<|t.out _ _));clear qb F))
 with_reducible(refine wpQuiet_nil ?_)
 intro w2 ah;obtain⟨⟨nq,ai⟩,aa⟩:=ah;have R:bK w1 w2:=by rw[aa];exact bU w1 nq ai
 obtain⟨ab,a⟩:=bV (up g.out R)<|bH ad.out R;clear aa R z C D;obtain⟨r0,r1,r2,r3,r4,r5,r6⟩:=Cg a.out;obtain⟨z0,z1,z2,z3,z4,z5,z6⟩:=Ng (aF a.out 0) (aF a.out 1) (aF a.out 2) (aF a.out 3) (aF a.out 4) (aF a.out 5)<|aF a.out 6;go_wp2_with fail;have hs:=MN a.out (aU) (aU) (aU) (aU) (O 0) (O 0)<|aU;obtain⟨f0,f1,f2,f3,f4,f5,f6⟩:=Cg hs;refine bodyPost_ret (v:=.tuple #[.agg #[aU,aU,aU,aU,O 0,O 0,aU],O<|1]) (by simp[results,results77,go_sem,f0,f1,f2,f3,f4,f5,f6]) rfl ⟨rfl,?_⟩;exact kJ ab.out (Nat.le_trans (Nat.le_succ _)<|Nat.le_succ _) _ _ _ _ _ _ _
structure yt(w:World)(n:Nat)(eU vc vs vf ve:Value)(P:Pb):Prop where
 names:Own w n eU P.names
 cons:eZ CoT w n 242 4 vc P.cons
 sinks:eZ SiC w n 189 6 vs P.sinks
 fr:dJ w vf P.fr
 gY:pJ w n ve P.gY
theorem Own.PX(h:Own w n v l)(p:n'<=n):Own w n' v l:=by
 obtain⟨e,a⟩:=h;refine⟨e,?_⟩;rcases a with a|⟨g,cap,b,d,hg,rest⟩;·exact aO a
 ·exact aQ ⟨g,cap,b,d,bE p hg,rest⟩
theorem pJ.PX(h:pJ w n v l)(b:n'<=n):pJ w n' v l:=by
 rcases h with h|⟨g,cap,a,hg,d⟩;·exact aO h
 ·exact aQ ⟨g,cap,a,bE b hg,d⟩
theorem yt.keep{p vs vf:aC}{P:Pb}(h:yt w n eU p vs vf ve P)(a:Kx B muP w w'):yt w' n eU p vs vf ve P:=by
 refine⟨h.names.keep λ_ _ _ d=>a.at d rfl,h.cons.keep (λ_ _ _ d=>a.at d rfl) λc y b=>b.mono λv l e=>a.cells (λ_ _=>rfl) e,h.sinks.keep (λ_ _ _ d=>a.at d rfl) λc y b=>b.mono λv l e=>a.cells (λ_ _=>rfl) e,a.cells (λ_ _=>rfl) h.fr,?_⟩;rcases h.gY with u|⟨g,cap,t,hg,r,b,z⟩;·exact aO u
 ·exact aQ ⟨g,cap,t,hg,r,a.at b rfl,z⟩
theorem aiz{C D F H I K M:aC}(h:dR W B (aY #[C,D,F,H,I,K,M] 141))(e:n<=B)(a b c d p f g:aC):Kx n muP W (((((((W.setCell (aN B 0) a).setCell (aN B 1) b).setCell (aN B 2) c).setCell (aN B 3) d).setCell (aN B 4) p).setCell (aN B 5) f).setCell (aN B 6) g):=by have r:=aP h 0 a;have t:=aP r 1 b;have u:=aP t 2 c;have y:=aP u 3 d;have z:=aP y 4 p;have P:=aP z 5 f;exact(Kx.set h rfl e 0 _).trans ((Kx.set r rfl e 1 _).trans ((Kx.set t rfl e 2 _).trans ((Kx.set u rfl e 3 _).trans ((Kx.set y rfl e 4 _).trans ((Kx.set z rfl e 5 _).trans (Kx.set P rfl e 6 _))))))
theorem Xf.Xq(h:Xf w0 w q nl fC kc eU sets ve E)(a:nC w0 q.vn q.vl q.ss q.G q.L q.c.Z)(b:q.c.N=q.ss.length)(d:kc<=16777216)(e:nl.length<=1048576):D7 w q nl fC eU sets ve:=
 ⟨h.blk,a.below h.base,b,h.levels,h.numbers,h.called.mono d,λs v g=>(h.eF s v g).below h.base,h.nodup,e⟩
theorem Xf.below(h:Xf w0 w q nl fC kc eU sets ve E)(a:bK w w'):Xf w0 w' q nl fC kc eU sets ve E:=
 ⟨bH h.blk a,h.new,h.levels.below a,h.numbers.below a,h.called.below a,h.eF,h.nodup,fM h.names a,h.mg.below a,up h.base a⟩
namespace Fl
def Lb(c:Env)(m:Nat)(f:Fu)(mn a:Int):Bool:=decide (((c.names m f).length:Int) > mn)||decide (((f.params.length+c.vY m f.body:Nat):Int) > a)
theorem aby(g:∀l∈bL,∀y∈l,y.gY.length<=1048576)(e:∀y∈own,y.gY.length<=1048576)(s:aS):(qH x k known bL own s).gY.length<=1048576:=by
 have b:∀(l:List Sc) (i:Nat),(∀y∈l,y.gY.length<=1048576)->(l.getD i Gf).gY.length<=1048576:=λl i d=>by
  rw[List.getD];cases h:l[i]? with
  | none=>simp[Gf]
  | some y=>exact d y<|dG h
 unfold qH;split;·simp[Gf]
 ·split;·exact b _ _ e
  ·refine b _ _ λy a=>?_;rw[List.getD]at a;cases h:bL[(fF x k s known).1.toNat]? with
   | none=>rw[h]at a;cases a
   | some l=>rw[h]at a;exact g l (dG h) y a
structure Lens(c:Env)(m:Nat)(f:Fu):Prop where
 names:f.params.length+(c.yx m f.body++c.oM m f.result).length<=1048576
 mg:(c.Pz m f.body++c.AA m f.result).length<=4398046511103
 cls:(nR m f.body++Fl.cls m f.result).length<=16777216
 sets:c.vY m f.body<=1048576
 sinks:((c.Il m f.body ([],c.low))++c.zi m f.result ([],c.low)).length<=16777216
 cons:f.params.length+(c.Kn m f.body ([],c.low)).length<=16777216
 all:f.params.length+c.vY m f.body<=1048576
theorem aiA{c:Env}(e:f∈x.bq)(C:xH m x<=1048576)(a:∀s,(c.eF s).gY.length<=1048576)(b:c.yg m f.body)(d:c.xZ m f.result):Lens c m f:=by have h:=afu (m:=m) e;obtain⟨g,p,r,t,u,y,z⟩:=Ng (Qv c m f.body) (Qu c m f.result) (Qz c bM a m f.body) (Qy c bM a m f.result) (La m f.body) (Qw m f.result)<|Qx c m f.body;obtain⟨s1,s2,D⟩:=lS (Jc c m f.body ([],c.low) b) (Jb c m f.result ([],c.low) d)<|Xu c m f.body ([],c.low);refine⟨by rw[bg];omega,by rw[bg];omega,by rw[bg];omega,by omega,by rw[bg];omega,by omega,by omega⟩
end Fl
theorem abz(m:Nat)(w:bI)(vn vl vi vv vf vk vs vo:aC)(ss:aJ)(G:Nat)(L:Nat->Nat)(Z:aL)(x:Mo)(known:List Mo)(bL:List (List Sc))(own:List Sc)(k mn mc:Int)(P:mQ w m vn vl vi vv vf vk vs vo ss G L Z x known bL own)(hE:AO (dD ss G L Z) m x known=0)(hD:bO.once (D9 ss x known m)=[])(d:Nat)(f:Fu)(dk:k=d)(aa:x.bq[d]?=some f)(hf:Fl.jw ss.length known bL=true)(ho:Fl.vg ss.length (x.bq.take d) own=true):aD 77 #[.agg #[vn,vl],.agg #[A x.name,vi,vv,vf],O k,vk,vs,vo,O mn,O mc] w λe w'=>J ((Fl.Lb (Fl.gH ss Z x d known bL own f) m f mn mc=true/\e=dz (.tuple #[.agg #[aU,aU,aU,aU,O 0,O 0,aU],O 2])/\bK w w')\/(Fl.Lb (Fl.gH ss Z x d known bL own f) m f mn mc=false/\∃eU vc vs vf ve,e=dz (.tuple #[.agg #[eU,vc,vs,vf,O 0,O ((Fl.gH ss Z x d known bL own f).jd m f).level,ve],O 0])/\yt w' w.heap.size eU vc vs vf ve ((Fl.gH ss Z x d known bL own f).jd m f)/\bK w w')):=by
 have ad:dD ss G L Z=0/\oO m x=0:=by
  unfold AO at hE;by_cases h0:dD ss G L Z=0
  ·rw[if_pos h0]at hE;by_cases g:oO m x=0;·exact⟨h0,g⟩
   ·rw[if_neg g]at hE;exact absurd hE g
  ·rw[if_neg h0]at hE;exact absurd hE h0
 have ay:=Fl.Qr hD;obtain⟨am,br,ax⟩:=lS (Fl.Zu (Z:=Z) ay ad.2 aa hf ho) (Fl.Ub ad.1 ay d bL own f)<|List.mem_of_getElem? aa;have bu:=aiA (c:=Fl.gH ss Z x d known bL own f) ax P.small (aby P.mg P.Rp) am.st am.ex;have cD:f.params.length<=4/\x.vars.length<=8/\x.imports.length<=8:=by
  have g:=ad.2;unfold oO at g;by_cases V:8<x.imports.length\/8<x.vars.length\/8<x.bq.length;·rw[if_pos V]at g;omega
  ·rw[if_neg V]at g;refine⟨?_,by omega,by omega⟩;by_cases h3:((bS.kR x.name&&x.imports.all bS.kR)&&x.vars.all Q6)=false;·rw[if_pos h3]at g;omega
   ·rw[if_neg h3]at g;by_cases h4:uZ m x.bq≠0;·rw[if_pos h4]at g;exact absurd g h4
    ·have h5:=uP (Classical.not_not.1 h4) f ax;unfold Q7 at h5;by_cases h6:4<f.params.length;·rw[if_pos h6]at h5;omega
     ·omega
 have cy:x.name.size<=8:=by
  have g:=ad.2;unfold oO at g;by_cases V:8<x.imports.length\/8<x.vars.length\/8<x.bq.length;·rw[if_pos V]at g;omega
  ·rw[if_neg V]at g;by_cases h3:((bS.kR x.name&&x.imports.all bS.kR)&&x.vars.all Q6)=false;·rw[if_pos h3]at g;omega
   ·have h4:((bS.kR x.name&&x.imports.all bS.kR)&&x.vars.all Q6)=true:=by
     cases h:((bS.kR x.name&&x.imports.all bS.kR)&&x.vars.all Q6)with
     | true=>rfl
     | false=>exact absurd h h3
    simp only[Bool.and_eq_true]at h4;exact tK h4.1.1
 obtain⟨c,hc⟩:∃c,c=Fl.gH ss Z x d known bL own f:=⟨_,rfl⟩;have uH:=Y hc;rw[<-hc]at am br bu ⊢;obtain⟨MI,b2,M,au,Iy,b6⟩:=vC am br bu cD cy ay;obtain⟨cQ,cP⟩:=bV ad ax;have cA:x.bq.length<=1048576:=by have:=I9 m x.bq;have hw:=P.small;unfold xH at hw;omega
 have b4:J (d<=x.bq.length):=Y<|Nat.le_of_lt (List.getElem?_eq_some_iff.1 aa).1;have cd:=(List.getElem?_eq_some_iff.1 aa).1;obtain⟨fa,fb,fo,fc,df,cu,di,zF⟩:=P.mo.split.2.2;obtain⟨dj,vp,vb,dE,dI,dO,dT,g0,g1,g2,g3,g4,g5,g6,cG,QC,bA⟩:=zF d f aa;have cV:=cu bC;obtain⟨bh,bi,be,dv,cW,cX⟩:=vC cG QC bA aa hf ho;clear zF cu am br bu cD cy ay ad ax hf ho aa dj;obtain⟨⟨a0,c0,e0⟩,⟨a1,n1,c1,e1⟩,⟨a2,n2,c2,e2⟩,⟨a3,n3,c3,e3⟩,⟨a4,c4,e4,de⟩,⟨a5,n5,c5,e5⟩,⟨a6,n6,c6,e6⟩,⟨a7,n7,c7,e7⟩⟩:=P.forms;obtain⟨n0,bv⟩:∃n,n=ss.length:=⟨_,rfl⟩;obtain⟨n4,uV⟩:∃n,n=x.bq.length:=⟨_,rfl⟩;obtain⟨II,vD⟩:=bV bv uV;rw[<-bv]at e0;rw[<-uV]at e4 de;clear bv uV;subst e0 e1 e2 e3 e4 e5 e6 e7;have D:=Y P;obtain⟨W,hW,k0,k1,k2,bY,bq⟩:=al3 w (aY #[X a0 n0 c0,X a1 n1 c1] 25) (aY #[A x.name,X a2 n2 c2,X a3 n3 c3,X a4 n4 c4] 47)<|aY #[aU,aU,aU,aU,O 0,O 0,aU] 141;obtain⟨x0,x1⟩:=jv k0;obtain⟨y0,y1,y2,R⟩:=xX k1;obtain⟨lH,jG,IJ,iO,wV⟩:=uh k0 k1 k2 bq<|(P.below bq).check;clear k0 k1 k2 bY bq P;rw[hW]at x0 x1 y0 y1 y2 R;injection df with db dc dd;subst db cV;subst dk;have d0:d<n4:=by rw[vD.out];exact cd
 have dX:d<=c4:=by omega
 have uV:n4<=1048576:=by rw[vD.out];exact cA
 clear cd dc dd di cA hc;obtain⟨pa,pb,po,pc,rfl,-⟩:=cG;obtain⟨ba,bc,rfl⟩:=fH.kC QC;obtain⟨ra,rc,rfl,rfl,rfl,rfl⟩:=bA.shape;obtain⟨y,bx⟩:∃n,n=f.params.length:=⟨_,rfl⟩;obtain⟨nb,cz⟩:∃n,n=f.body.length:=⟨_,rfl⟩;obtain⟨nr,cC⟩:∃n,n=f.result.args.length:=⟨_,rfl⟩;have Ee:=Y bx;rw[<-bx]at g1 bh;rw[<-cz]at g2 bi;rw[<-cC]at g6 be;rw[hE]at wV;have HD:J ((FX 0 ss x known m).length=0):=Y (by unfold FX;rw[if_pos rfl,hD];rfl);clear hE hD QC bA bx cz cC;go_enter func77,ntmps77;go_wp2_with fail;rw[<-hW];clear hW x0 x1 y0 y1 y2 R;refine wV.out.mono ?_;rintro e w1 ⟨u,rfl,hu,ai⟩;obtain⟨oW,mh,cR,ae⟩:=lD (bH lH.out ai) (bH jG.out ai) (bH IJ.out ai)<|up iO.out ai;obtain⟨ua,ub,uo,uc,rfl,-⟩:=hu;rw[HD.out];have QB:=Y (λq os=>Cj m (gn w1 q os) a0 (X a1 n1 c1) n0 c0 (X a5 n5 c5) (X a6 n6 c6) known bL (D.out.kn.below<|up ae.out<|bU w1 q os)<|D.out.sc.below<|up ae.out<|bU w1 q os);obtain⟨x0,x1,R⟩:=lS (bD<|(aj oW.out 0).trans rfl) (bD<|(aj oW.out 1).trans rfl) (bD<|(aj mh.out 3).trans rfl);rw[II.out]at QB;rw[cW.out]at QB;rw[<-II.out]at QB;have KZ:=Y (λq os=>P6 m (gn w1 q os) a0 (X a1 n1 c1) n0 c0 (X (some<|aN fb fo) d c4) (X a7 n7 c7) (x.bq.take d) own ((D.out.mo.split.2.2.V6 b4.out).below (up ae.out<|bU w1 q os))<|D.out.ow.below<|up ae.out<|bU w1 q os);rw[II.out]at KZ;rw[cX.out]at KZ;rw[<-II.out]at KZ;clear ai;go_wp2_with fail;refine bW dw dw ?_;repeat(with_reducible(refine wpQuiet_step (λr a=>?_));go_simp;first|(with_reducible(refine a _ ?_);clear a r)|(rw[if_neg (by simp[undef])];with_reducible(refine a _ ?_);clear a r)|(apply Exists.intro;refine⟨λ_=>?_,a _ ?_⟩;(first|(exact Calls.oZ<|QB.out _ _)|(exact Calls.oZ<|KZ.out _ _));clear a r))
 with_reducible(refine wpQuiet_nil ?_)
 intro w2 ab;obtain⟨⟨nq,dr⟩,F⟩:=ab;have ak:bK w1 w2:=by rw[F];exact bU w1 nq dr
 obtain⟨S,Ui,zD,cS⟩:=lD (up ae.out ak) (bH oW.out ak) (bH mh.out ak)<|bH cR.out ak;clear F ak x0 x1 R;replace g0:=aG g0 S.out;replace g1:=aG g1 S.out;replace g2:=aG g2 S.out;replace g3:=aG g3 S.out;replace g4:=aG g4 S.out;replace g5:=aG g5 S.out;replace g6:=aG g6 S.out;obtain⟨W3,ah⟩:∃W,W=w2.alloc (aY #[A f.name,X pa y pc,X ba nb bc,O f.result.kind,O f.result.n,A f.result.name,X ra nr rc] 82):=⟨_,rfl⟩;have al:bK w2 W3:=by rw[ah];exact aH _ _
 have HB3:=Y<|up S.out al;have aq:J (dR W3 w2.heap.size<|aY #[A f.name,X pa y pc,X ba nb bc,O f.result.kind,O f.result.n,A f.result.name,X ra nr rc] 82):=Y (by rw[ah];exact bF _ _);have m3:=aj zD.out 3;obtain⟨a9,ca,cT⟩:=fE (bH Ui.out al) (bH zD.out al)<|bH cS.out al;obtain⟨x0,x1⟩:=jv a9.out;obtain⟨y0,y1,y2,R⟩:=xX ca.out;obtain⟨-,K⟩:=jv aq.out;have IZ:J (nC W3 (X a0 n0 c0) (X a1 n1 c1) ss G L Z):=Y ⟨D.out.strs.below HB3.out,D.out.Q5.below HB3.out,cQ.out.1⟩;have D8:=Y (aok W3 (X a0 n0 c0) (X a1 n1 c1) (X a2 n2 c2) (X a3 n3 c3) (X (some<|aN fb fo) n4 c4) (X pa y pc) ss G L Z x f.params (Fl.qH x d known bL own) IZ.out (D.out.mo.split.2.1.below HB3.out) (bh.out.below HB3.out) ⟨_,_,_,rfl⟩ ⟨_,_,_,rfl⟩ (b6.out.vI f cP.out) (by have:=au.out.1;omega) (by have:=au.out.2.1;omega) b6.out.Ig);clear al;rw[ah]at x0 x1 y0 y1 y2 R K;go_wp2_with fail;rw[<-ah];clear m3 x0 x1 y0 y1 y2 R K ah g0 g1 g2 g3 g4 g5 g6;obtain⟨FB,ct⟩:∃b,b=w2.heap.size:=⟨_,rfl⟩;rw[<-ct]at aq ⊢;clear ct;refine D8.out.mono ?_;rintro e w4 ⟨B,rfl,ce⟩;obtain⟨cY,bw⟩:=ce.out;obtain⟨q,hq⟩:∃q,q=N9 B (X a0 n0 c0) (X a1 n1 c1) ss G L Z x.name (Fl.tJ ss f.params x.vars) (Fl.qH x d known bL own):=⟨_,rfl⟩;have a8:J (q.p=B+1+1+1):=Y (by rw[hq];rfl);have p:J (q.c=c):=Y (by rw[hq,uH.out];rfl);have aE:J (nC W3 q.vn q.vl q.ss q.G q.L q.c.Z/\q.c.N=q.ss.length/\∀s,q.c.pl s=dU q.ss s):=Y (by rw[hq];exact⟨IZ.out,rfl,λ_=>rfl⟩);rw[<-hq]at bw;have ar:=Y bw;clear hq bw ce;obtain⟨dy,cU,cM⟩:=fE (bH a9.out ar.out.base) (bH ca.out ar.out.base)<|bH aq.out ar.out.base;obtain⟨y0,y1,y2,R⟩:=xX cU.out;obtain⟨p0,K,p2,p3,p4,p5,p6⟩:=Cg cM.out;have HT:J (KF W3 q #[A x.name,X a2 n2 c2,X a3 n3 c3,X (some<|aN fb fo) n4 c4,O d,X a5 n5 c5,X a6 n6 c6,X a7 n7 c7] (λs=>s∈nR m f.body++Fl.cls m f.result)):=Y (λwx s hb C=>by obtain⟨bY,dp⟩:=MI.out.means s C;rw[p.out];exact WY m W3 wx (X a2 n2 c2) (X a3 n3 c3) (X (some<|aN fb fo) n4 c4) (X a5 n5 c5) (X a6 n6 c6) (X a7 n7 c7) x known bL own d s (c.eF s) hb (D.out.mo.below HB3.out) (D.out.kn.below HB3.out) D.out.cap.fus b4.out (Nat.le_trans bY bM) (by have:=au.out.2.2;omega) (D.out.sc.below HB3.out) (D.out.ow.below HB3.out) dp);have b7:=Y (ae2 m W3 w4 q f.params (λ_=>none) 0 cY 0 (aU) [] x.name (d:Int) a2 a3 (some<|aN fb fo) a5 a6 a7 n2 n3 n4 n5 n6 n7 c2 c3 c4 c5 c6 c7 (λs=>s∈nR m f.body++Fl.cls m f.result) f pa y pc (X ba nb bc) (O f.result.kind) (O f.result.n) (A f.result.name) (X ra nr rc) ar.out HT.out (bi.out.below HB3.out) (be.out.below HB3.out) (by rw[p.out];exact MI.out.st) (by rw[p.out];exact MI.out.ex) (λs C=>C) (by rw[p.out,uH.out];exact Iy.out) (by rw[p.out];exact M.out.names) (by rw[p.out];have:=M.out.mg;simpa using this) (by have:=M.out.cls;omega) (by rw[p.out];have:=M.out.sets;omega));rw[a8.out]at b7;go_wp2_with fail;clear y0 y1 y2 R p0 K p2 p3 p4 p5 p6;refine b7.out.mono ?_;rintro e w5 ⟨rfl,cf⟩;obtain⟨IB,d2,cg,cL,E5,ao,ch,cb,bf,-⟩:=cf.out;rw[p.out]at ao bf;rw[show Fl.adds f.params (c.yx m f.body++c.oM m f.result)=c.names m f from rfl,Nat.zero_add]at ao;have c8:J (gP (jZ E5)=(c.jd m f).gY):=Y (aix λt=>by rw[bf.1];simp[Fl.Env.gY]);rw[c8.out]at ao;obtain⟨U,cj,c9⟩:=fE ao cb ch;clear cf ao ch cb bf;obtain⟨dC,b3,oK,eD⟩:=lD (bH a9.out U.out.base) (bH aq.out U.out.base) (bH cT.out U.out.base)<|HB3.out.trans<|U.out.base.mono HB3.out.size;obtain⟨b0,b1,ag⟩:=U.out.names.NM;obtain⟨bo,bp,bj⟩:=U.out.mg.form;have aw:=U.out.blk;rw[a8.out,ag]at aw;obtain⟨s5,s8,K⟩:=lS (bD<|(aj aw 5).trans rfl) (bD<|(aj aw 8).trans rfl) (bD<|(aj b3.out 1).trans rfl);obtain⟨ac,bk⟩:∃n,n=(c.names m f).length:=⟨_,rfl⟩;obtain⟨Q,av⟩:∃n,n=c.vY m f.body:=⟨_,rfl⟩;have az:J (Fl.Lb c m f mn mc=(decide ((ac:Int) > mn)||decide (((y+Q:Nat):Int) > mc))):=Y (by rw[bk,av,Ee.out];rfl);have d1:y+Q<=1048576:=by rw[av,Ee.out];exact M.out.all
 rw[<-bk]at s5 ag;rw[<-av]at s8;clear aw;clear av bk;by_cases cw:mn<(ac:Int)
 ·have Fw:J (Fl.Lb c m f mn mc=true):=Y (by rw[az.out];simp[cw]);go_wp2_with fail;refine bW dw dw ?_;repeat(with_reducible(refine wpQuiet_step (λr a=>?_));go_simp;first|(with_reducible(refine a _ ?_);clear a r)|(rw[if_neg (by simp[undef])];with_reducible(refine a _ ?_);clear a r)|(apply Exists.intro;refine⟨λ_=>?_,a _ ?_⟩;(fail);clear a r))
  with_reducible(refine wpQuiet_nil ?_)
  intro w6 ab;obtain⟨⟨ap,af⟩,F⟩:=ab;have z:bK w5 w6:=by rw[F];exact bU w5 ap af
  obtain⟨I,mI⟩:=bV (up eD.out z)<|bH oK.out z;clear F z s5 s8 K;obtain⟨r0,r1,r2,r3,r4,r5,r6⟩:=Cg mI.out;obtain⟨z0,z1,z2,z3,z4,z5,z6⟩:=Ng (aF mI.out 0) (aF mI.out 1) (aF mI.out 2) (aF mI.out 3) (aF mI.out 4) (aF mI.out 5)<|aF mI.out 6;go_wp2_with fail;have C:=MN mI.out (aU) (aU) (aU) (aU) (O 0) (O 0)<|aU;obtain⟨f0,f1,f2,f3,f4,f5,f6⟩:=Cg C;refine bodyPost_ret (v:=.tuple #[.agg #[aU,aU,aU,aU,O 0,O 0,aU],O<|2]) (by simp[results,results77,go_sem,f0,f1,f2,f3,f4,f5,f6]) rfl (Y<|Or.inl ⟨Fw.out,rfl,?_⟩);exact kJ I.out (Nat.le_trans (Nat.le_succ _)<|Nat.le_succ _) _ _ _ _ _ _ _
 ·by_cases cx:mc<((y+Q:Nat):Int)
  ·have Fw:J (Fl.Lb c m f mn mc=true):=Y (by rw[az.out];simp only[gt_iff_lt,cx,decide_true,Bool.or_true]);have dm:mc<(y:Int)+(Q:Int):=by omega
   have dq:IntKind.i64.wrap ((y:Int)+(Q:Int))=(y:Int)+(Q:Int):=wrap_small bC bC;have dn:(ac:Int)<=mn:=by omega
   go_wp2_with fail;refine bW dw dw ?_;repeat(with_reducible(refine wpQuiet_step (λr a=>?_));go_simp;first|(with_reducible(refine a _ ?_);clear a r)|(rw[if_neg (by simp[undef])];with_reducible(refine a _ ?_);clear a r)|(apply Exists.intro;refine⟨λ_=>?_,a _ ?_⟩;(fail);clear a r))
   with_reducible(refine wpQuiet_nil ?_)
   intro w6 ab;obtain⟨⟨ap,af⟩,F⟩:=ab;have z:bK w5 w6:=by rw[F];exact bU w5 ap af
   obtain⟨I,mI⟩:=bV (up eD.out z)<|bH oK.out z;clear F z s5 s8 K;obtain⟨r0,r1,r2,r3,r4,r5,r6⟩:=Cg mI.out;obtain⟨z0,z1,z2,z3,z4,z5,z6⟩:=Ng (aF mI.out 0) (aF mI.out 1) (aF mI.out 2) (aF mI.out 3) (aF mI.out 4) (aF mI.out 5)<|aF mI.out 6;go_wp2_with fail;have C:=MN mI.out (aU) (aU) (aU) (aU) (O 0) (O 0)<|aU;obtain⟨f0,f1,f2,f3,f4,f5,f6⟩:=Cg C;refine bodyPost_ret (v:=.tuple #[.agg #[aU,aU,aU,aU,O 0,O 0,aU],O<|2]) (by simp[results,results77,go_sem,f0,f1,f2,f3,f4,f5,f6]) rfl (Y<|Or.inl ⟨Fw.out,rfl,?_⟩);exact kJ I.out (Nat.le_trans (Nat.le_succ _)<|Nat.le_succ _) _ _ _ _ _ _ _
  ·have Fw:J (Fl.Lb c m f mn mc=false):=Y (by rw[az.out];simp only[gt_iff_lt,cw,cx,decide_false,Bool.or_false]);have dm:(y:Int)+(Q:Int)<=mc:=by omega
   have dq:IntKind.i64.wrap ((y:Int)+(Q:Int))=(y:Int)+(Q:Int):=wrap_small bC bC;have dn:(ac:Int)<=mn:=by omega
   go_wp2_with fail;refine bW dw dw ?_;repeat(with_reducible(refine wpQuiet_step (λr a=>?_));go_simp;first|(with_reducible(refine a _ ?_);clear a r)|(rw[if_neg (by simp[undef])];with_reducible(refine a _ ?_);clear a r)|(apply Exists.intro;refine⟨λ_=>?_,a _ ?_⟩;(fail);clear a r))
   with_reducible(refine wpQuiet_nil ?_)
   intro w6 ab;obtain⟨⟨ap,af⟩,F⟩:=ab;have z:bK w5 w6:=by rw[F];exact bU w5 ap af
   obtain⟨I,mI,bm,cN⟩:=lD (up eD.out z) (bH oK.out z) (U.out.below z)<|bH b3.out z;clear F z s5 s8 K;have bB:=bm.out.Xq aE.out.1 aE.out.2.1 (by have g:=c9.out;have V:=M.out.cls;omega) (by have g:=lN (c.yx m f.body++c.oM m f.result) f.params;have V:=M.out.names;exact Nat.le_trans g V);have bz:Es w6 q (c.names m f) IB cg (c.vY m f.body:Nat) cL m f (X ba nb bc) (O f.result.kind) (O f.result.n) (A f.result.name) (X ra nr rc):=by
    refine⟨⟨bB,by rw[p.out];exact b2.out,(bi.out.below I.out),by rw[p.out];exact MI.out.st,λv hv=>?_,λs C=>?_,aE.out.2.2⟩,⟨bB,by rw[p.out];exact b2.out,(be.out.below I.out),by rw[p.out];exact MI.out.ex,λv hv=>?_,λs C=>?_⟩,au.out.1⟩;·rw[p.out]at hv;exact Fl.sV.2<|Or.inr<|List.mem_append.2<|Or.inl hv
    ·exact(cj.out s).2 (Or.inr<|List.mem_append.2<|Or.inl C)
    ·rw[p.out]at hv;exact Fl.sV.2<|Or.inr<|List.mem_append.2<|Or.inr hv
    ·exact(cj.out s).2 (Or.inr<|List.mem_append.2<|Or.inr C)
   rw[ag,bj]at bz;have aA:=Y (Tv m w6 q (c.names m f) IB b0 ac b1 _ bo _ bp f (X pa y pc) (X ba nb bc) (O f.result.kind) (O f.result.n) (A f.result.name) (X ra nr rc) bz (bh.out.below I.out) (by rw[p.out];exact M.out.sinks) (by rw[p.out];exact M.out.cons));rw[a8.out,p.out]at aA;obtain⟨da,ck⟩:=bV ag bj;clear bz bB;obtain⟨cl,cc⟩:∃n,n=(c.jd m f).gY.length:=⟨_,rfl⟩;rw[<-cc]at aA ck;clear ag bj cc;obtain⟨p0,K,p2,p3,p4,p5,p6⟩:=Cg cN.out;go_wp2_with fail;clear p0 K p2 p3 p4 p5 p6;refine aA.out.mono ?_;rintro e w7 ⟨ds,du,dt,rfl,cF⟩;obtain⟨bb,Xv,bs,ug⟩:=cF.out;have cm:J (yt w7 w.heap.size cg ds du dt cL<|c.jd m f):=Y ⟨fM (bm.out.names.PX HB3.out.size) ug,eZ.old bb I.out.size,eZ.old Xv I.out.size,bs,(bm.out.mg.PX HB3.out.size).below ug⟩;obtain⟨H,kG⟩:=bV (bH mI.out ug)<|up I.out ug;obtain⟨b8,cp,rfl⟩:=bb.form;obtain⟨co,cr,rfl⟩:=Xv.form;obtain⟨b9,cq,rfl⟩:=dJ.form bs;have b5:J ((c.jd m f).level=((c.hg m f.result).2:Nat)):=Y rfl;generalize ((List.range f.params.length).map (Fl.D5 c.low)++(c.Kn m f.body ([],c.low)).map (Fl.BX<|c.names m f)).length=cH at *;generalize ((c.Il m f.body ([],c.low)++c.zi m f.result ([],c.low)).map (oP<|c.names m f)).length=cJ at *;generalize (Fl.nums (c.names m f) (c.hg m f.result).1).length=cI at *;rw[da.out,ck.out]at cm;obtain⟨cv,cn⟩:∃n,n=(c.hg m f.result).2:=⟨_,rfl⟩;rw[<-cn]at b5 ⊢;clear cn bb Xv bs ug cF;obtain⟨r0,r1,r2,r3,r4,r5,r6⟩:=Cg H.out;obtain⟨z0,z1,z2,z3,z4,z5,z6⟩:=Ng (aF H.out 0) (aF H.out 1) (aF H.out 2) (aF H.out 3) (aF H.out 4) (aF H.out 5)<|aF H.out 6;go_wp2_with fail;have C:=MN H.out (X b0 ac b1) (X b8 cH cp) (X co cJ cr) (X b9 cI cq) (O 0) (O cv)<|X bo cl bp;obtain⟨f0,f1,f2,f3,f4,f5,f6⟩:=Cg C;refine bodyPost_ret (v:=.tuple #[.agg #[X b0 ac b1,X b8 cH cp,X co cJ cr,X b9 cI cq,O 0,O cv,X bo cl bp],O 0]) (by simp[results,results77,go_sem,f0,f1,f2,f3,f4,f5,f6]) rfl (Y<|Or.inr ⟨Fw.out,_,_,_,_,_,by rw[b5.out],cm.out.keep<|aiz (n:=w.heap.size) H.out (Nat.le_trans (Nat.le_succ _)<|Nat.le_succ _) _ _ _ _ _ _ _,kJ kG.out (Nat.le_trans (Nat.le_succ _)<|Nat.le_succ _) _ _ _ _ _ _ _⟩)
