import Derived.Test.YtiebmbnfedbdeaaGreatDoorTZBX
import Derived.Test.YtiebmbnfedbdeaaGreatDoorTZBS
import Derived.Test.YtiebmbnfedbdeaaGreatDoorTZGA
set_option maxHeartbeats 0
set_option maxRecDepth 99999
namespace Go.Proofs.YtiebmbnfedbdeaaGreatDoor
open Ck bS bO Rd Sm
open Go.Proofs.Tryz
open Go.RowKit
namespace Lw
end Lw
open Go.Maps Go.WideMaps
namespace Lw
end Lw
section
variable {w wx wy : World} {vn vl : Value} {bm nm : Nat} {o : ByteArray → ByteArray → Option Int} {v : Value} {l : List Ce}
end
section
variable {w wx wy : World} {vn vl : Value} {v : Value} {l : List (ByteArray × Int)}
end
namespace Lw
end Lw
namespace Lw
end Lw
namespace Sm
open Fl
end Sm
variable{w w' W:bI}{vi vf r0 r1 r2 r3 v:aC}{B G m n:Nat}{U ss:aJ}{name a b:aS}{x:Mo}{V:Nat->Nat->Nat × Nat}
theorem Hl.below(c:Hl w vi vf)(d:bK w w'):Hl w' vi vf:=c.sub<|aad d
theorem EM(w:bI)(t:aS)(x:Mo)(s:prE t=0)(u:prX t=x)(E:t.size<=maxLen)(F:Tab w)(z:Qo w):aD 15 #[A t] w λq w'=>∃c g e i p k d h f H,q=dz (.tuple #[.agg #[A x.name,X c g e,X i p k,X d h f],O H,O 0])/\J (jl (fr w w') 8196 (.agg #[A x.name,X c g e,X i p k,X d h f]) x/\Hl (fr w w') (X c g e) (X d h f)/\bK w w'):=by have r:=Xo w t E F z;rw[s,u]at r;refine r.mono ?_;rintro q w' ⟨c,g,e,i,p,k,d,h,f,rfl,C,y,-,D⟩;exact⟨c,g,e,i,p,k,d,h,f,_,rfl,Y ⟨C,D,y⟩⟩
theorem DF{t:TypeId}(g:dR W B (.cells #[r0,r1,r2,r3] t (0,0)))(c d e f:aC):((((W.setCell (aN B 0) c).setCell (aN B 1) d).setCell (aN B 2) e).setCell (aN B 3) f).heap[B]?=some (.cells #[c,d,e,f] t (0,0)):=by rw[aP (aP (aP (aP g 0 c) 1 d) 2 e) 3 f];rfl
namespace Ck
section
variable {R : List ByteArray} {name : ByteArray} {o : Mo} {l : List Mo} {j : Nat} {x : Mo}
end
theorem Ii{c:Cx}(e:Uk U c.ss c.l):∀y∈(an c name).1,XI U y:=by
 intro y d;unfold an at d;split at d;·cases d
 ·split at d;·cases d
  ·exact XY e _ name y d
end Ck
theorem Ck.amA{c:Cx}:(Ck.an c name).1.length<=8:=by
 unfold Ck.an;split;·simp
 ·rename_i h;split;·simp
  ·exact FU (kK<|by simpa using h).2.2.1 _ _
theorem amB{c:Cx}(f:eZ Ht w 0 35 6 v (Ck.an c name).1):xO w v (Ck.an c name).1:=by
 by_cases g:nN (dD c.ss c.G c.L c.Z) c.m c.l=0;·have e:=Ik g;exact Li f (bE amA bM) (λy d u i=>e.size u<|(Ii e y d).1 u i) (λy d=>bE (Ii e y d).2 e.len)
 ·have h:(Ck.an c name).1=[]:=by unfold Ck.an;rw[aK g]
  rw[h]at f ⊢;exact Li f cK (λy d=>by cases d) (λy d=>by cases d)
namespace Sm
open Fl
def atQ(ss:List aS)(Z:Nat->Nat->Bool)(m:Nat)(x:Mo)(V:Nat->Nat->Nat × Nat):Nat->List Sc × List Dg
 | 0=>([],[])
 | k+1=>match x.bq[k]? with
  | none=>atQ ss Z m x V k
  | some f=>((atQ ss Z m x V k).1++[eF Z ss.length (V k) ((gH ss Z x k [] [] (atQ ss Z m x V k).1 f).jd m f) f],(atQ ss Z m x V k).2++GJ Z ss.length (V k) ((gH ss Z x k [] [] (atQ ss Z m x V k).1 f).jd m f) f.name)
def at0(ss:List aS)(G:Nat)(L:Nat->Nat)(Z:Nat->Nat->Bool)(m:Nat)(x:Mo)(V:Nat->Nat->Nat × Nat):Nat->Bool
 | 0=>true
 | k+1=>at0 ss G L Z m x V k&&match x.bq[k]? with
  | none=>false
  | some f=>decide (Vq ss G L Z m x k [] [] (atQ ss Z m x V k).1 40 1000=0)&&X9 Z ss.length ((gH ss Z x k [] [] (atQ ss Z m x V k).1 f).jd m f).names.length ((gH ss Z x k [] [] (atQ ss Z m x V k).1 f).jd m f).cons (V k)
theorem at6{L:Nat->Nat}{Z:aL}(h:dD ss G L Z=0):∀k,at0 ss G L Z m x V k=true->qI ss G L Z m x [] [] k=0/\inf ss Z m x [] [] k=atQ ss Z m x V k
 | 0,_=>⟨rfl,rfl⟩
 | k+1,e=>by
  unfold at0 at e;rw[dK]at e;obtain⟨r,g⟩:=at6 h k e.1;have c:=e.2;cases d:x.bq[k]? with
  | none=>rw[d]at c;cases c
  | some f =>rw[d]at c;simp only[dK,iy]at c;obtain⟨q,s⟩:=c;refine⟨by rw[Oe r,g];exact q,?_⟩;obtain⟨p,i⟩:=eY (EH (own:=(atQ ss Z m x V k).1) d q)<|Ul (adF h)<|agA s;rw[tL d,g,<-Un p.pb i f,<-Uo p.pb i f.name];simp only[atQ,d]
theorem auk(g:at0 nH 2 (λ_=>2) qg 8196 x V x.bq.length=true)(c:AO (dD nH 2 (λ_=>2) qg) 8196 x []=0)(d:bO.once (D9 nH x [] 8196)=[]):ans nH 2 (λ_=>2) qg 8196 x [] []=if (atQ nH qg 8196 x V x.bq.length).2≠[]then ([],bO.once (atQ nH qg 8196 x V x.bq.length).2,0)else ((atQ nH qg 8196 x V x.bq.length).1,[],0):=by obtain⟨e,f⟩:=at6 (G:=2) (L:=λ_=>2) Om x.bq.length g;unfold ans;rw[aI (by rw[c];decide),aI (by rw[d];simp),aI (by rw[e];decide),f]
end Sm
namespace Ck
def atV(x:Mo):Cx:=⟨8196,nH,2,λ_=>2,qg,[x]⟩
theorem auo(f:x.imports=[]):¬yu [x] a b:=by
 have e:∀a b,¬imp [x] a b:=λa b c=>by
  obtain⟨i,y,_,g,d,_⟩:=c;have:y=x:=by simpa using dG g
  rw[this,f]at d;cases d
 intro c;cases c with
 | one c=>exact e _ _ c
 | more _ c=>exact e _ _ c
theorem aup(e:x.imports=[])(h:nN (dD nH 2 (λ_=>2) qg) 8196 [x]=0):an (atV x) x.name=Sm.ans nH 2 (λ_=>2) qg 8196 x [] []:=by
 have f:dQ [x] x.name=some 0:=by simp[dQ,cB]
 unfold an;rw[aI (by show ¬nN (dD nH 2 (λ_=>2) qg) 8196 [x]≠0;rw[h];simp),aI (by show ¬(dQ [x] x.name).isSome=false;rw[f];simp)];rw[QU (c:=atV x) f rfl];unfold Oj;rw[aI (show ¬yu (atV x).l x.name x.name from auo e),e];rw[aI (show ¬(bl (atV x).l (FD<|atV x) [] []).2≠0 from λd=>d rfl),aI<|show ¬bO.once (bl (atV x).l (FD<|atV x) [] []).1≠[]from λd=>d rfl];have g:tN (atV x).l x=[]:=by simp[tN,atV,cB]
 have i:vE (atV x).l (FD<|atV x) x=[]:=by unfold vE;rw[g];rfl
 rw[g,i];rfl
def acc(a:Fi):Bool:=decide (a.2.1.length=0)&&decide (0<a.1.length)
structure Says(t:ByteArray)(ok:Bool)(x:Mo):Prop where
 size:t.size<=maxLen
 err:prE t=0
 mod:prX t=x
 name:x.name=⟨#[109]⟩
 form:nN (dD nH 2 (λ_=>2) qg) 8196 [x]=0
 small:xH 8196 x<=1048576
 errno:(an (atV x) x.name).2.2=0
 acc:acc (an (atV x) x.name)=ok
theorem atS{t:aS}{ok:Bool}(V:Nat->Nat->Nat × Nat)(i:t.size<=maxLen)(k:prE t=0)(p:prX t=x)(s:x.name=⟨#[109]⟩)(q:x.imports=[])(e:nN (dD nH 2 (λ_=>2) qg) 8196 [x]=0)(u:decide (xH 8196 x<=1048576)=true)(r:at0 nH 2 (λ_=>2) qg 8196 x V x.bq.length=true)(f:AO (dD nH 2 (λ_=>2) qg) 8196 x []=0)(g:bO.once (D9 nH x [] 8196)=[])(h:(decide ((atQ nH qg 8196 x V x.bq.length).2=[])&&decide (0<(atQ nH qg 8196 x V x.bq.length).1.length))=ok):Says t ok x:=by
 have d:=(aup q e).trans (auk r f g);refine⟨i,k,p,s,e,iP u,?_,?_⟩;·rw[d];split<;>rfl
 ·rw[d,<-h];by_cases c:(atQ nH qg 8196 x V x.bq.length).2=[];·rw[aI (by simp[c])];simp[acc,c]
  ·rw[aK c];simp[acc,c]
end Ck
namespace Rd
def q0:Mo:=⟨⟨#[109]⟩,[],[⟨⟨#[120]⟩,⟨#[108,111,119]⟩⟩,⟨⟨#[121]⟩,⟨#[104,105,103,104]⟩⟩],[⟨⟨#[102]⟩,[⟨#[112]⟩],[⟨1,⟨#[121]⟩,⟨3,0,⟨#[43]⟩,[⟨2,0,⟨#[112]⟩,[]⟩,⟨2,0,⟨#[120]⟩,[]⟩]⟩,[],[]⟩,⟨4,⟨#[108,111,119]⟩,⟨2,0,⟨#[120]⟩,[]⟩,[],[]⟩],⟨2,0,⟨#[120]⟩,[]⟩⟩]⟩
def u0:aS:=⟨#[40,109,111,100,117,108,101,32,109,32,40,118,97,114,32,120,32,108,111,119,41,32,40,118,97,114,32,121,32,104,105,103,104,41,32,40,102,117,110,32,102,32,40,112,41,32,40,115,101,116,32,121,32,40,43,32,112,32,120,41,41,32,40,112,114,105,110,116,32,108,111,119,32,120,41,32,120,41,41]⟩
def q1:Mo:=⟨⟨#[109]⟩,[],[⟨⟨#[120]⟩,⟨#[108,111,119]⟩⟩,⟨⟨#[121]⟩,⟨#[104,105,103,104]⟩⟩],[⟨⟨#[102]⟩,[],[⟨1,⟨#[120]⟩,⟨2,0,⟨#[121]⟩,[]⟩,[],[]⟩],⟨1,0,⟨#[]⟩,[]⟩⟩]⟩
def u1:aS:=⟨#[40,109,111,100,117,108,101,32,109,32,40,118,97,114,32,120,32,108,111,119,41,32,40,118,97,114,32,121,32,104,105,103,104,41,32,40,102,117,110,32,102,32,40,41,32,40,115,101,116,32,120,32,121,41,32,48,41,41]⟩
def q2:Mo:=⟨⟨#[109]⟩,[],[⟨⟨#[120]⟩,⟨#[108,111,119]⟩⟩,⟨⟨#[121]⟩,⟨#[104,105,103,104]⟩⟩],[⟨⟨#[102]⟩,[],[⟨2,⟨#[]⟩,⟨2,0,⟨#[121]⟩,[]⟩,[⟨1,⟨#[122]⟩,⟨1,1,⟨#[]⟩,[]⟩,[],[]⟩],[]⟩,⟨1,⟨#[120]⟩,⟨2,0,⟨#[122]⟩,[]⟩,[],[]⟩],⟨1,0,⟨#[]⟩,[]⟩⟩]⟩
def u2:aS:=⟨#[40,109,111,100,117,108,101,32,109,32,40,118,97,114,32,120,32,108,111,119,41,32,40,118,97,114,32,121,32,104,105,103,104,41,32,40,102,117,110,32,102,32,40,41,32,40,105,102,32,121,32,40,40,115,101,116,32,122,32,49,41,41,32,40,41,41,32,40,115,101,116,32,120,32,122,41,32,48,41,41]⟩
def q3:Mo:=⟨⟨#[109]⟩,[],[⟨⟨#[121]⟩,⟨#[104,105,103,104]⟩⟩],[⟨⟨#[112]⟩,[],[⟨4,⟨#[108,111,119]⟩,⟨1,1,⟨#[]⟩,[]⟩,[],[]⟩],⟨1,0,⟨#[]⟩,[]⟩⟩,⟨⟨#[102]⟩,[],[⟨3,⟨#[]⟩,⟨2,0,⟨#[121]⟩,[]⟩,[⟨1,⟨#[121]⟩,⟨4,0,⟨#[112]⟩,[]⟩,[],[]⟩],[]⟩],⟨1,0,⟨#[]⟩,[]⟩⟩]⟩
def u3:aS:=⟨#[40,109,111,100,117,108,101,32,109,32,40,118,97,114,32,121,32,104,105,103,104,41,32,40,102,117,110,32,112,32,40,41,32,40,112,114,105,110,116,32,108,111,119,32,49,41,32,48,41,32,40,102,117,110,32,102,32,40,41,32,40,119,104,105,108,101,32,121,32,40,40,115,101,116,32,121,32,40,99,97,108,108,32,112,41,41,41,41,32,48,41,41]⟩
def q4:Mo:=⟨⟨#[109]⟩,[],[⟨⟨#[121]⟩,⟨#[104,105,103,104]⟩⟩],[⟨⟨#[112]⟩,[⟨#[97]⟩],[⟨4,⟨#[108,111,119]⟩,⟨2,0,⟨#[97]⟩,[]⟩,[],[]⟩],⟨1,0,⟨#[]⟩,[]⟩⟩,⟨⟨#[102]⟩,[],[],⟨4,0,⟨#[112]⟩,[⟨2,0,⟨#[121]⟩,[]⟩]⟩⟩]⟩
def u4:aS:=⟨#[40,109,111,100,117,108,101,32,109,32,40,118,97,114,32,121,32,104,105,103,104,41,32,40,102,117,110,32,112,32,40,97,41,32,40,112,114,105,110,116,32,108,111,119,32,97,41,32,48,41,32,40,102,117,110,32,102,32,40,41,32,40,99,97,108,108,32,112,32,121,41,41,41]⟩
def q5:Mo:=⟨⟨#[109]⟩,[],[⟨⟨#[120]⟩,⟨#[108,111,119]⟩⟩,⟨⟨#[121]⟩,⟨#[104,105,103,104]⟩⟩],[⟨⟨#[112]⟩,[⟨#[97]⟩,⟨#[98]⟩],[],⟨2,0,⟨#[97]⟩,[]⟩⟩,⟨⟨#[102]⟩,[],[⟨1,⟨#[120]⟩,⟨4,0,⟨#[112]⟩,[⟨1,1,⟨#[]⟩,[]⟩,⟨2,0,⟨#[121]⟩,[]⟩]⟩,[],[]⟩,⟨1,⟨#[121]⟩,⟨4,0,⟨#[112]⟩,[⟨2,0,⟨#[121]⟩,[]⟩,⟨1,1,⟨#[]⟩,[]⟩]⟩,[],[]⟩,⟨3,⟨#[]⟩,⟨3,0,⟨#[60]⟩,[⟨2,0,⟨#[120]⟩,[]⟩,⟨1,3,⟨#[]⟩,[]⟩]⟩,[⟨1,⟨#[120]⟩,⟨3,0,⟨#[43]⟩,[⟨2,0,⟨#[120]⟩,[]⟩,⟨1,1,⟨#[]⟩,[]⟩]⟩,[],[]⟩],[]⟩],⟨2,0,⟨#[120]⟩,[]⟩⟩]⟩
def u5:aS:=⟨#[40,109,111,100,117,108,101,32,109,32,40,118,97,114,32,120,32,108,111,119,41,32,40,118,97,114,32,121,32,104,105,103,104,41,32,40,102,117,110,32,112,32,40,97,32,98,41,32,97,41,32,40,102,117,110,32,102,32,40,41,32,40,115,101,116,32,120,32,40,99,97,108,108,32,112,32,49,32,121,41,41,32,40,115,101,116,32,121,32,40,99,97,108,108,32,112,32,121,32,49,41,41,32,40,119,104,105,108,101,32,40,60,32,120,32,51,41,32,40,40,115,101,116,32,120,32,40,43,32,120,32,49,41,41,41,41,32,120,41,41]⟩
end Rd
theorem auF:Ck.Says Rd.u0 true Rd.q0:=atS (λ_ _=>(1,0)) bM dw dw rfl rfl dw dw dw dw dw dw
theorem auG:Ck.Says Rd.u1 false Rd.q1:=atS (λ_ _=>(0,0)) bM dw dw rfl rfl dw dw dw dw dw dw
theorem auH:Ck.Says Rd.u2 false Rd.q2:=atS (λ_ _=>(0,1)) bM dw dw rfl rfl dw dw dw dw dw dw
theorem auI:Ck.Says Rd.u3 false Rd.q3:=atS (λ_ _=>(0,0)) bM dw dw rfl rfl dw dw dw dw dw dw
theorem auJ:Ck.Says Rd.u4 false Rd.q4:=atS (λ_ _=>(1,0)) bM dw dw rfl rfl dw dw dw dw dw dw
theorem auK:Ck.Says Rd.u5 true Rd.q5:=atS (λ_ v=>(v+1,0)) bM dw dw rfl rfl dw dw dw dw dw dw
def Hy(x:Int)(n:Nat):Nat:=if x.tmod n<0 then (x.tmod n+n).toNat else (x.tmod n).toNat
theorem agU{x:Int}(c:0<n):Hy x n<n:=by have d:x.tmod n<n:=Int.tmod_lt_of_pos x bC;have e:-(n:Int)<x.tmod n:=Int.lt_tmod_of_pos x bC;unfold Hy;split<;>omega
theorem acv(w:bI)(x:Int)(n:Nat)(h:0<n)(g:n<=9223372036854775807):aD 7 #[O x,O n] w λf w'=>f=dz (O (Hy x n:Nat))/\w'=w:=by
 have i:x.tmod n<n:=Int.tmod_lt_of_pos x bC;have k:-(n:Int)<x.tmod n:=Int.lt_tmod_of_pos x bC;have d:J (x.tmod n<0->Hy x n=(x.tmod n+n).toNat):=Y (λc=>by unfold Hy;rw[aK c]);have e:J (¬x.tmod n<0->Hy x n=(x.tmod n).toNat):=Y (λc=>by unfold Hy;rw[aI c]);go_enter func7,ntmps7;go_wp2;·go_ret;refine⟨?_,rfl⟩;rw[d bC];exact bZ bC
 ·go_ret;refine⟨?_,rfl⟩;rw[e bC];exact bZ bC
theorem Z6(w:bI)(o:Obj):J (bK w<|w.alloc o)/\J ((w.alloc o).heap[w.heap.size]?=some o):=⟨aH w o,bF w o⟩
