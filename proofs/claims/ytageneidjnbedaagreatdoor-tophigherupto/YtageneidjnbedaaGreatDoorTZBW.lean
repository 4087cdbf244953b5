import Derived.Test.YtageneidjnbedaaGreatDoorTZBX
import Derived.Test.YtageneidjnbedaaGreatDoorTZBS
import Derived.Test.YtageneidjnbedaaGreatDoorTZTQ
set_option maxHeartbeats 0
set_option maxRecDepth 99999
namespace Go.Proofs.YtageneidjnbedaaGreatDoor
open Ck bS bO Rd Sm
open Go.Proofs.Tryz
open Go.RowKit Go.Maps Go.WideMaps
namespace Sm
open Fl
end Sm
variable{w w':bI}{vi vf v:aC}{U ss:aJ}{name a b t fn:aS}{G m n bn bc en ec k:Nat}{x:Mo}{V:Nat->Nat->Nat × Nat}{ok:Bool}{i1 i2 i3:Int}{ba ea:Option Addr}
theorem Hl.below(h:Hl w vi vf)(d:bK w w'):Hl w' vi vf:=h.sub<|aad d
theorem EM(w:bI)(t:aS)(x:Mo)(r:prE t=0)(s:prX t=x)(C:t.size<=maxLen)(D:Tab w)(y:Qo w):aD 8 #[A t] w λq w'=>∃d f c1 i p c2 e g c3 E,q=dz (.tuple #[.agg #[A x.name,X d f c1,X i p c2,X e g c3],O E,O 0])/\J (jl (fr w w') 8196 (.agg #[A x.name,X d f c1,X i p c2,X e g c3]) x/\Hl (fr w w') (X d f c1) (X e g c3)/\bK w w'):=by have h:=Xo w t C D y;rw[r,s]at h;refine h.mono ?_;rintro q w' ⟨d,f,c1,i,p,c2,e,g,c3,rfl,z,u,-,B⟩;exact⟨d,f,c1,i,p,c2,e,g,c3,_,rfl,Y ⟨z,B,u⟩⟩
namespace Ck
section
variable {R : List ByteArray} {name : ByteArray} {o : Mo} {l : List Mo} {j : Nat} {x : Mo}
end
theorem Ii{c:Cx}(e:Uk U c.ss c.l):∀y∈(an c name).1,XI U y:=by
 intro y d;unfold an at d;split at d;·cases d
 ·split at d;·cases d
  ·exact XY e _ name y d
end Ck
theorem Ck.amA{c:Cx}:(Ck.an c name).1.length<=8:=by
 unfold Ck.an;split;·simp
 ·rename_i h;split;·simp
  ·exact FU (kK<|by simpa using h).2.2.1 _ _
theorem amB{c:Cx}(h:eZ Ht w 0 34 6 v (Ck.an c name).1):xO w v (Ck.an c name).1:=by
 by_cases f:nN (dD c.ss c.G c.L c.Z) c.m c.l=0;·have e:=Ik f;exact Li h (bE amA bM) (λy d g p=>e.size g<|(Ii e y d).1 g p) (λy d=>bE (Ii e y d).2 e.len)
 ·have i:(Ck.an c name).1=[]:=by unfold Ck.an;rw[aK f]
  rw[i]at h ⊢;exact Li h cK (λy d=>by cases d) (λy d=>by cases d)
namespace Sm
open Fl
def awr(ss:List aS)(Z:Nat->Nat->Bool)(m:Nat)(x:Mo)(V:Nat->Nat->Nat × Nat):Nat->List Sc × List Dg
 | 0=>([],[])
 | k+1=>match x.bq[k]? with
  | none=>awr ss Z m x V k
  | some f=>((awr ss Z m x V k).1++[eF Z ss.length (V k) ((gH ss Z x k [] [] (awr ss Z m x V k).1 f).jd m f) f],(awr ss Z m x V k).2++GJ Z ss.length (V k) ((gH ss Z x k [] [] (awr ss Z m x V k).1 f).jd m f) f.name)
def ax2(ss:List aS)(G:Nat)(L:Nat->Nat)(Z:Nat->Nat->Bool)(m:Nat)(x:Mo)(V:Nat->Nat->Nat × Nat):Nat->Bool
 | 0=>true
 | k+1=>ax2 ss G L Z m x V k&&match x.bq[k]? with
  | none=>false
  | some f=>decide (Vq ss G L Z m x k [] [] (awr ss Z m x V k).1 40 1000=0)&&X9 Z ss.length ((gH ss Z x k [] [] (awr ss Z m x V k).1 f).jd m f).names.length ((gH ss Z x k [] [] (awr ss Z m x V k).1 f).jd m f).cons (V k)
theorem ayz{L:Nat->Nat}{Z:aL}(i:dD ss G L Z=0):∀k,ax2 ss G L Z m x V k=true->qI ss G L Z m x [] [] k=0/\inf ss Z m x [] [] k=awr ss Z m x V k
 | 0,_=>⟨rfl,rfl⟩
 | k+1,h=>by
  unfold ax2 at h;rw[dK]at h;obtain⟨s,g⟩:=ayz i k h.1;have d:=h.2;cases e:x.bq[k]? with
  | none=>rw[e]at d;cases d
  | some f =>rw[e]at d;simp only[dK,iy]at d;obtain⟨r,u⟩:=d;refine⟨by rw[Oe s,g];exact r,?_⟩;obtain⟨q,p⟩:=eY (EH (own:=(awr ss Z m x V k).1) e r)<|Ul (adF i)<|agA u;rw[tL e,g,<-Un q.pb p f,<-Uo q.pb p f.name];simp only[awr,e]
theorem azT(h:ax2 nH 2 (λ_=>2) qg 8196 x V x.bq.length=true)(d:AO (dD nH 2 (λ_=>2) qg) 8196 x []=0)(e:bO.once (D9 nH x [] 8196)=[]):ans nH 2 (λ_=>2) qg 8196 x [] []=if (awr nH qg 8196 x V x.bq.length).2≠[]then ([],bO.once (awr nH qg 8196 x V x.bq.length).2,0)else ((awr nH qg 8196 x V x.bq.length).1,[],0):=by obtain⟨f,g⟩:=ayz (G:=2) (L:=λ_=>2) Om x.bq.length h;unfold ans;rw[aI (by rw[d];decide),aI (by rw[e];simp),aI (by rw[f];decide),g]
end Sm
namespace Ck
def Jd(x:Mo):Cx:=⟨8196,nH,2,λ_=>2,qg,[x]⟩
theorem au0(f:x.imports=[]):¬yu [x] a b:=by
 have e:∀a b,¬imp [x] a b:=λa b h=>by
  obtain⟨i,y,_,g,d,_⟩:=h;have:y=x:=by simpa using dG g
  rw[this,f]at d;cases d
 intro h;cases h with
 | one h=>exact e _ _ h
 | more _ h=>exact e _ _ h
theorem au1(d:x.imports=[])(g:nN (dD nH 2 (λ_=>2) qg) 8196 [x]=0):an (Jd x) x.name=Sm.ans nH 2 (λ_=>2) qg 8196 x [] []:=by
 have e:dQ [x] x.name=some 0:=by simp[dQ,cB]
 unfold an;rw[aI (by show ¬nN (dD nH 2 (λ_=>2) qg) 8196 [x]≠0;rw[g];simp),aI (by show ¬(dQ [x] x.name).isSome=false;rw[e];simp)];rw[QU (c:=Jd x) e rfl];unfold Oj;rw[aI (show ¬yu (Jd x).l x.name x.name from au0 d),d];rw[aI (show ¬(bl (Jd x).l (FD<|Jd x) [] []).2≠0 from λh=>h rfl),aI<|show ¬bO.once (bl (Jd x).l (FD<|Jd x) [] []).1≠[]from λh=>h rfl];have f:tN (Jd x).l x=[]:=by simp[tN,Jd,cB]
 have i:vE (Jd x).l (FD<|Jd x) x=[]:=by unfold vE;rw[f];rfl
 rw[f,i];rfl
def acc(a:Fi):Bool:=decide (a.2.1.length=0)&&decide (0<a.1.length)
structure Says(t:ByteArray)(ok:Bool)(x:Mo):Prop where
 size:t.size<=maxLen
 err:prE t=0
 mod:prX t=x
 name:x.name=⟨#[109]⟩
 form:nN (dD nH 2 (λ_=>2) qg) 8196 [x]=0
 small:xH 8196 x<=1048576
 errno:(an (Jd x) x.name).2.2=0
 acc:acc (an (Jd x) x.name)=ok
theorem awv(V:Nat->Nat->Nat × Nat)(p:t.size<=maxLen)(q:prE t=0)(r:prX t=x)(y:x.name=⟨#[109]⟩)(s:x.imports=[])(f:nN (dD nH 2 (λ_=>2) qg) 8196 [x]=0)(z:decide (xH 8196 x<=1048576)=true)(u:ax2 nH 2 (λ_=>2) qg 8196 x V x.bq.length=true)(g:AO (dD nH 2 (λ_=>2) qg) 8196 x []=0)(i:bO.once (D9 nH x [] 8196)=[])(h:(decide ((awr nH qg 8196 x V x.bq.length).2=[])&&decide (0<(awr nH qg 8196 x V x.bq.length).1.length))=ok):Says t ok x:=by
 have e:=(au1 s f).trans (azT u g i);refine⟨p,q,r,y,f,iP z,?_,?_⟩;·rw[e];split<;>rfl
 ·rw[e,<-h];by_cases d:(awr nH qg 8196 x V x.bq.length).2=[];·rw[aI (by simp[d])];simp[acc,d]
  ·rw[aK d];simp[acc,d]
end Ck
namespace Rd
def q0:Mo:=⟨⟨#[109]⟩,[],[⟨⟨#[120]⟩,⟨#[108,111,119]⟩⟩,⟨⟨#[121]⟩,⟨#[104,105,103,104]⟩⟩],[⟨⟨#[102]⟩,[⟨#[112]⟩],[⟨1,⟨#[121]⟩,⟨3,0,⟨#[43]⟩,[⟨2,0,⟨#[112]⟩,[]⟩,⟨2,0,⟨#[120]⟩,[]⟩]⟩,[],[]⟩,⟨4,⟨#[108,111,119]⟩,⟨2,0,⟨#[120]⟩,[]⟩,[],[]⟩],⟨2,0,⟨#[120]⟩,[]⟩⟩]⟩
def u0:aS:=⟨#[40,109,111,100,117,108,101,32,109,32,40,118,97,114,32,120,32,108,111,119,41,32,40,118,97,114,32,121,32,104,105,103,104,41,32,40,102,117,110,32,102,32,40,112,41,32,40,115,101,116,32,121,32,40,43,32,112,32,120,41,41,32,40,112,114,105,110,116,32,108,111,119,32,120,41,32,120,41,41]⟩
def q1:Mo:=⟨⟨#[109]⟩,[],[⟨⟨#[120]⟩,⟨#[108,111,119]⟩⟩,⟨⟨#[121]⟩,⟨#[104,105,103,104]⟩⟩],[⟨⟨#[102]⟩,[],[⟨1,⟨#[120]⟩,⟨2,0,⟨#[121]⟩,[]⟩,[],[]⟩],⟨1,0,⟨#[]⟩,[]⟩⟩]⟩
def u1:aS:=⟨#[40,109,111,100,117,108,101,32,109,32,40,118,97,114,32,120,32,108,111,119,41,32,40,118,97,114,32,121,32,104,105,103,104,41,32,40,102,117,110,32,102,32,40,41,32,40,115,101,116,32,120,32,121,41,32,48,41,41]⟩
def q2:Mo:=⟨⟨#[109]⟩,[],[⟨⟨#[120]⟩,⟨#[108,111,119]⟩⟩,⟨⟨#[121]⟩,⟨#[104,105,103,104]⟩⟩],[⟨⟨#[102]⟩,[],[⟨2,⟨#[]⟩,⟨2,0,⟨#[121]⟩,[]⟩,[⟨1,⟨#[122]⟩,⟨1,1,⟨#[]⟩,[]⟩,[],[]⟩],[]⟩,⟨1,⟨#[120]⟩,⟨2,0,⟨#[122]⟩,[]⟩,[],[]⟩],⟨1,0,⟨#[]⟩,[]⟩⟩]⟩
def u2:aS:=⟨#[40,109,111,100,117,108,101,32,109,32,40,118,97,114,32,120,32,108,111,119,41,32,40,118,97,114,32,121,32,104,105,103,104,41,32,40,102,117,110,32,102,32,40,41,32,40,105,102,32,121,32,40,40,115,101,116,32,122,32,49,41,41,32,40,41,41,32,40,115,101,116,32,120,32,122,41,32,48,41,41]⟩
def q3:Mo:=⟨⟨#[109]⟩,[],[⟨⟨#[121]⟩,⟨#[104,105,103,104]⟩⟩],[⟨⟨#[112]⟩,[],[⟨4,⟨#[108,111,119]⟩,⟨1,1,⟨#[]⟩,[]⟩,[],[]⟩],⟨1,0,⟨#[]⟩,[]⟩⟩,⟨⟨#[102]⟩,[],[⟨3,⟨#[]⟩,⟨2,0,⟨#[121]⟩,[]⟩,[⟨1,⟨#[121]⟩,⟨4,0,⟨#[112]⟩,[]⟩,[],[]⟩],[]⟩],⟨1,0,⟨#[]⟩,[]⟩⟩]⟩
def u3:aS:=⟨#[40,109,111,100,117,108,101,32,109,32,40,118,97,114,32,121,32,104,105,103,104,41,32,40,102,117,110,32,112,32,40,41,32,40,112,114,105,110,116,32,108,111,119,32,49,41,32,48,41,32,40,102,117,110,32,102,32,40,41,32,40,119,104,105,108,101,32,121,32,40,40,115,101,116,32,121,32,40,99,97,108,108,32,112,41,41,41,41,32,48,41,41]⟩
def q4:Mo:=⟨⟨#[109]⟩,[],[⟨⟨#[121]⟩,⟨#[104,105,103,104]⟩⟩],[⟨⟨#[112]⟩,[⟨#[97]⟩],[⟨4,⟨#[108,111,119]⟩,⟨2,0,⟨#[97]⟩,[]⟩,[],[]⟩],⟨1,0,⟨#[]⟩,[]⟩⟩,⟨⟨#[102]⟩,[],[],⟨4,0,⟨#[112]⟩,[⟨2,0,⟨#[121]⟩,[]⟩]⟩⟩]⟩
def u4:aS:=⟨#[40,109,111,100,117,108,101,32,109,32,40,118,97,114,32,121,32,104,105,103,104,41,32,40,102,117,110,32,112,32,40,97,41,32,40,112,114,105,110,116,32,108,111,119,32,97,41,32,48,41,32,40,102,117,110,32,102,32,40,41,32,40,99,97,108,108,32,112,32,121,41,41,41]⟩
def q5:Mo:=⟨⟨#[109]⟩,[],[⟨⟨#[120]⟩,⟨#[108,111,119]⟩⟩,⟨⟨#[121]⟩,⟨#[104,105,103,104]⟩⟩],[⟨⟨#[112]⟩,[⟨#[97]⟩,⟨#[98]⟩],[],⟨2,0,⟨#[97]⟩,[]⟩⟩,⟨⟨#[102]⟩,[],[⟨1,⟨#[120]⟩,⟨4,0,⟨#[112]⟩,[⟨1,1,⟨#[]⟩,[]⟩,⟨2,0,⟨#[121]⟩,[]⟩]⟩,[],[]⟩,⟨1,⟨#[121]⟩,⟨4,0,⟨#[112]⟩,[⟨2,0,⟨#[121]⟩,[]⟩,⟨1,1,⟨#[]⟩,[]⟩]⟩,[],[]⟩,⟨3,⟨#[]⟩,⟨3,0,⟨#[60]⟩,[⟨2,0,⟨#[120]⟩,[]⟩,⟨1,3,⟨#[]⟩,[]⟩]⟩,[⟨1,⟨#[120]⟩,⟨3,0,⟨#[43]⟩,[⟨2,0,⟨#[120]⟩,[]⟩,⟨1,1,⟨#[]⟩,[]⟩]⟩,[],[]⟩],[]⟩],⟨2,0,⟨#[120]⟩,[]⟩⟩]⟩
def u5:aS:=⟨#[40,109,111,100,117,108,101,32,109,32,40,118,97,114,32,120,32,108,111,119,41,32,40,118,97,114,32,121,32,104,105,103,104,41,32,40,102,117,110,32,112,32,40,97,32,98,41,32,97,41,32,40,102,117,110,32,102,32,40,41,32,40,115,101,116,32,120,32,40,99,97,108,108,32,112,32,49,32,121,41,41,32,40,115,101,116,32,121,32,40,99,97,108,108,32,112,32,121,32,49,41,41,32,40,119,104,105,108,101,32,40,60,32,120,32,51,41,32,40,40,115,101,116,32,120,32,40,43,32,120,32,49,41,41,41,41,32,120,41,41]⟩
end Rd
theorem aAE:Ck.Says Rd.u0 true Rd.q0:=awv (λ_ _=>(1,0)) bM dw dw rfl rfl dw dw dw dw dw dw
theorem aAF:Ck.Says Rd.u1 false Rd.q1:=awv (λ_ _=>(0,0)) bM dw dw rfl rfl dw dw dw dw dw dw
theorem aAG:Ck.Says Rd.u2 false Rd.q2:=awv (λ_ _=>(0,1)) bM dw dw rfl rfl dw dw dw dw dw dw
theorem aAH:Ck.Says Rd.u3 false Rd.q3:=awv (λ_ _=>(0,0)) bM dw dw rfl rfl dw dw dw dw dw dw
theorem aAI:Ck.Says Rd.u4 false Rd.q4:=awv (λ_ _=>(1,0)) bM dw dw rfl rfl dw dw dw dw dw dw
theorem aAJ:Ck.Says Rd.u5 true Rd.q5:=awv (λ_ v=>(v+1,0)) bM dw dw rfl rfl dw dw dw dw dw dw
def Hy(x:Int)(n:Nat):Nat:=if x.tmod n<0 then (x.tmod n+n).toNat else (x.tmod n).toNat
theorem agU{x:Int}(d:0<n):Hy x n<n:=by have e:x.tmod n<n:=Int.tmod_lt_of_pos x bC;have f:-(n:Int)<x.tmod n:=Int.lt_tmod_of_pos x bC;unfold Hy;split<;>omega
theorem acv(w:bI)(x:Int)(n:Nat)(i:0<n)(g:n<=9223372036854775807):aD 14 #[O x,O n] w λf w'=>f=dz (O (Hy x n:Nat))/\w'=w:=by
 have p:x.tmod n<n:=Int.tmod_lt_of_pos x bC;have q:-(n:Int)<x.tmod n:=Int.lt_tmod_of_pos x bC;have d:J (x.tmod n<0->Hy x n=(x.tmod n+n).toNat):=Y (λh=>by unfold Hy;rw[aK h]);have e:J (¬x.tmod n<0->Hy x n=(x.tmod n).toNat):=Y (λh=>by unfold Hy;rw[aI h]);go_enter func14,ntmps14;go_wp2;·go_ret;refine⟨?_,rfl⟩;rw[d bC];exact bZ bC
 ·go_ret;refine⟨?_,rfl⟩;rw[e bC];exact bZ bC
theorem Z6(w:bI)(o:Obj):J (bK w<|w.alloc o)/\J ((w.alloc o).heap[w.heap.size]?=some o):=⟨aH w o,bF w o⟩
def ax3(w w':bI)(d:Ck.Fi)(e:Ending):Prop:=
 ∃(fn:aS) (i1 i2:Int) (ba:Option Addr) (bn bc:Nat) (i3:Int) (ea:Option Addr) (en ec:Nat) (ok:Bool),e=.returned (.tuple #[.agg #[.string fn,.int .i64 i1,.int .i64 i2,.slice ba bn bc,.int .i64 i3,.slice ea en ec],.bool ok])/\(ok=true->d.2.2=0/\d.2.1=[])/\bK w w'
theorem ax3.mk{d:Ck.Fi}(h:ok=true->d.2.2=0/\d.2.1=[])(e:bK w w'):ax3 w w' d (dz<|.tuple #[.agg #[A fn,O i1,O i2,X ba bn bc,O i3,X ea en ec],.bool ok]):=⟨_,_,_,_,_,_,_,_,_,_,_,rfl,h,e⟩
theorem azq(m:Nat)(w:bI)(vn vl vk:aC)(ss:aJ)(G:Nat)(L:Nat->Nat)(Z:aL)(l:List Mo)(name:aS)(k:Int)(hS:Strs w vn ss)(hR:EX w vl G L Z)(hK:xQ w m vk l)(ap:∀x∈l,xH m x<=1048576)(ht:Tab w)(hn:name.size<=maxLen):aD 6 #[.agg #[vn,vl],vk,A name,O k] w λe w'=>ax3 w w' (Ck.an ⟨m,ss,G,L,Z,l⟩ name) e:=by
 obtain⟨c,hc⟩:∃c,c=(⟨m,ss,G,L,Z,l⟩:Cx):=⟨_,rfl⟩;obtain⟨Zk,hA⟩:=aV<|Ck.an c name;rw[<-hc,<-hA];obtain⟨SA,DA,EA⟩:=Zk;have ay:J (∀wx,bK w wx->aD 7 #[.agg #[vn,vl],vk,A name] wx λe w'=>∃S vd,e=dz (.tuple #[.agg #[S,vd],O EA])/\J (xO w' S SA/\jg w' vd DA/\bK wx w')):=Y (λwx N=>by
  have h:=agF m wx vn vl vk ss G L Z l name (Ck.uni ss l) (hS.below N) (hR.below N) (hK.below N) ap (ht.below N) hn Ik;rw[<-hc,<-hA]at h;refine h.mono ?_;rintro e w' ⟨S,vd,rfl,hh⟩;have h1:=hh.1;refine⟨S,vd,rfl,Y ⟨?_,hh.2.1,hh.2.2⟩⟩;have h2:eZ Ht w' 0 34 6 S (Ck.an c name).1:=by rw[<-hA];exact h1
  have h3:=amB (c:=c) h2;rw[<-hA]at h3;exact h3)
 obtain⟨a0,c0,e0⟩:=jc hS;obtain⟨a1,b1,o1,c1,lA,bh,bi,lC,e1,-⟩:=hR;obtain⟨a5,b5,B,c5,e5,-⟩:=hK;generalize ss.length=n0 at e0;generalize l.length=n5 at e5;subst e0 e1 e5;clear hS ap ht hn hc hA;obtain⟨W,hW,k0,k1,a4,al⟩:=AL w (aY #[X a0 n0 c0,X a1 G c1] 25)<|aY #[A ⟨#[]⟩,O 0,O 0,aU,O 0,aU] 34;obtain⟨x0,x1⟩:=jv k0;obtain⟨iO,jG⟩:=bV al k1;obtain⟨RB,ad⟩:=aV<|w.heap.size+1;have ab:J (w.heap.size<=RB):=Y bC;clear k0 k1 a4 al;go_enter func6,ntmps6;go_upto_region 1 with fail;rw[<-hW,<-ad];rw[<-ad]at jG;clear hW ad;go_wp2_with fail;refine(ay W iO).mono ?_;rintro e p ⟨S,vd,rfl,M⟩;obtain⟨bb,ar,IJ⟩:=fE M.out.1 (up iO M.2.2)<|bH jG M.2.2;obtain⟨C,P,Q,D,rfl,am,WM,ao⟩:=M.1;obtain⟨s,db,be,u,rfl,-⟩:=M.2.1;obtain⟨ah,ax⟩:=bV am ao;obtain⟨ns,af⟩:=aV SA.length;obtain⟨g,ae⟩:=aV DA.length;rw[<-af]at ah WM ⊢;rw[<-ae];obtain⟨D8,TI,aw⟩:=fE af ae WM;clear M x0 x1 af ae am ao WM;go_upto_region 2 with fail;obtain⟨z,ag⟩:=Z6 p<|aY #[X C ns D,X s g u] 40;obtain⟨d,aa⟩:=bV (bH IJ z)<|up ar z;have av:J (∀(i:Nat) y,SA[i]?=some y->∃(ba:Option Addr) (bn bc:Nat) (ea:Option Addr) (en ec:Nat),(p.alloc<|aY #[X C ns D,X s g u] 40).cell? (aN P<|Q+i*6)=some (A y.fn)/\(p.alloc<|aY #[X C ns D,X s g u] 40).cell? (aN P<|Q+i*6+1)=some (O y.mask)/\(p.alloc<|aY #[X C ns D,X s g u] 40).cell? (aN P<|Q+i*6+2)=some (O y.level)/\(p.alloc<|aY #[X C ns D,X s g u] 40).cell? (aN P<|Q+i*6+3)=some (X ba bn bc)/\(p.alloc<|aY #[X C ns D,X s g u] 40).cell? (aN P<|Q+i*6+4)=some (O y.pc)/\(p.alloc<|aY #[X C ns D,X s g u] 40).cell? (aN P<|Q+i*6+5)=some (X ea en ec)):=Y (λi y hy=>by obtain⟨vb,ve,g0,g1,g2,g3,g4,g5,N,he⟩:=ax i y hy;obtain⟨ba,bc,rfl⟩:=N.Hr;obtain⟨ea,ec,rfl⟩:=jc he;exact⟨_,_,_,_,_,_,aG g0 z,aG g1 z,aG g2 z,aG g3 z,aG g4 z,aG g5 z⟩);obtain⟨AB,ak⟩:=aV p.heap.size;rw[<-ak]at ag ⊢;generalize p.alloc (aY #[X C ns D,X s g u] 40)=K at *;clear ak;obtain⟨z0,z1⟩:=jv ag;obtain⟨r0,r1,r2,r3,r4,r5⟩:=ZC6 d;obtain⟨q0,q1,q2,q3⟩:=rY (aF d 0) (aF d 1) (aF d 2)<|aF d 3;obtain⟨q4,q5⟩:=eY (aF d 4)<|aF d 5;by_cases hE:EA=0
 ·subst hE;by_cases hd:g=0
  ·by_cases f:ns=0;·subst hd f;go_wp2_with fail;have f:=EC d (A ⟨#[]⟩) (O 0) (O 0) (aU) (O 0)<|aU;obtain⟨E,f1,F,H,I,B⟩:=ZC6 f;refine cZ (v:=.tuple #[.agg #[A ⟨#[]⟩,O 0,O 0,aU,O 0,aU],.bool false]) (by simp[results,results6,go_sem,E,f1,F,H,I,B]) rfl ?_;exact ax3.mk (λh=>by cases h) (Lg aa ab _ _ _ _ _ _)
   ·have ac:0<ns:=by omega
    obtain rfl:=ah ac;have au:J (DA=[]):=Y (List.eq_nil_of_length_eq_zero (by rw[<-TI];exact hd));subst hd;have a2:((ns:Int)==0)=false:=by simp;omega
    have a3:¬((ns:Int)=0):=by omega
    go_upto_region 4 with fail;clear a2 a3 f;obtain⟨r,hr⟩:∃r:Nat,r=Hy k ns:=⟨_,rfl⟩;have Mc:J (∀k' os,aD 14 #[O k,O ns] (gn K k' os) λe w'=>e=dz (O (r:Nat))/\Below (gn K k' os).heap.size (gn K k' os) w'):=Y (λk' os=>by rw[hr];exact(acv (gn K k' os) k ns ac aw).mono λe w' h=>⟨h.1,by rw[h.2];exact bQ _ _⟩);have aE:r<ns:=by rw[hr];exact agU ac
    obtain⟨y,hy⟩:∃y,SA[r]?=some y:=⟨_,aZ (by rw[<-D8];exact aE)⟩;obtain⟨ba,bn,bc,ea,en,ec,g0,g1,g2,g3,g4,g5⟩:=av r y hy;replace g0:=bD g0;replace g1:=bD g1;replace g2:=bD g2;replace g3:=bD g3;replace g4:=bD g4;replace g5:=bD g5;have a8:=bD z0;have az:(0:Int)<=(r:Int):=by omega
    have aA:(r:Int)<(ns:Int):=by omega
    clear hr hy z0 z1 r0 r1 r2 r3 r4 r5 q0 q1 q2 q3 q4 q5;refine gq 9 dw dw ?_;dsimp only[List.take,List.drop];repeat(quiet_step ((exact Calls.oZ<|Mc.out _ _)))
    refine wpQuiet_nil ?_;intro w6 a6;obtain⟨⟨nq,a7⟩,aq⟩:=a6;have ai:J (bK K w6):=Y (by rw[aq];exact bU K nq a7);clear aq g0 g1 g2 g3 g4 g5 a8 az aA;obtain⟨q,fD⟩:=bV (bH d.out ai.out)<|up aa.out ai.out;obtain⟨r0,r1,r2,r3,r4,r5⟩:=ZC6 q.out;obtain⟨q0,q1,q2,q3⟩:=rY (aF q.out 0) (aF q.out 1) (aF q.out 2)<|aF q.out 3;obtain⟨q4,q5⟩:=eY (aF q.out 4)<|aF q.out 5;go_wp2_with fail;have f:=EC q.out (A y.fn) (O y.mask) (O y.level) (X ba bn bc) (O y.pc)<|X ea en ec;obtain⟨E,f1,F,H,I,B⟩:=ZC6 f;refine cZ (v:=.tuple #[.agg #[A y.fn,O y.mask,O y.level,X ba bn bc,O y.pc,X ea en ec],.bool true]) (by simp[results,results6,go_sem,E,f1,F,H,I,B]) rfl ?_;exact ax3.mk (λ_=>⟨rfl,au.out⟩) (Lg fD.out ab.out _ _ _ _ _ _)
  ·have bf:(0:Int)<(g:Int):=by omega
   go_wp2_with fail;have f:=EC d (A ⟨#[]⟩) (O 0) (O 0) (aU) (O 0)<|aU;obtain⟨E,f1,F,H,I,B⟩:=ZC6 f;refine cZ (v:=.tuple #[.agg #[A ⟨#[]⟩,O 0,O 0,aU,O 0,aU],.bool false]) (by simp[results,results6,go_sem,E,f1,F,H,I,B]) rfl ?_;exact ax3.mk (λh=>by cases h) (Lg aa ab _ _ _ _ _ _)
 ·have hz:=eO hE;go_wp2_with fail;have f:=EC d (A ⟨#[]⟩) (O 0) (O 0) (aU) (O 0)<|aU;obtain⟨E,f1,F,H,I,B⟩:=ZC6 f;refine cZ (v:=.tuple #[.agg #[A ⟨#[]⟩,O 0,O 0,aU,O 0,aU],.bool false]) (by simp[results,results6,go_sem,E,f1,F,H,I,B]) rfl ?_;exact ax3.mk (λh=>by cases h) (Lg aa ab _ _ _ _ _ _)
section
variable (w : World) (o o' : Obj)
end
section
variable (w : World) (c0 c1 c2 c3 c4 c5 c6 c7 : Value) (t : TypeId)
end
theorem mE.mono{l:List Fu}(h:mE w m v l)(d:m<=k):mE w k v l:=by obtain⟨a,b,off,cap,D,E,F,H⟩:=h;refine⟨a,b,off,cap,D,E,F,λi s K=>?_⟩;obtain⟨N,Q,P,e,f,g,p,q,r,u,y,z,B,C,I,L,M⟩:=H i s K;exact⟨N,Q,P,e,f,g,p,q,r,u,y,z,B,C,I,L.mono k d,M.mono k d⟩
theorem jl.mono(h:jl w m v x)(p:m<=k):jl w k v x:=by obtain⟨vi,q,vf,d,e,f,g,i⟩:=h;exact⟨vi,q,vf,d,e,f,g,i.mono p⟩
namespace Rd
theorem aAM{s:ByteArray}(h:prE s=0):xH 8196 (prX s)<=1048576/\oO 8196 (prX s)=0:=by
 have i:prX s=(TP s).1:=by unfold prX;rw[aK h]
 rw[i];unfold prE at h;by_cases e:bS.we s=0
 ·rw[aK e]at h;cases d:(prS s).f;·rw[d]at h;simp only[rz,if_false]at h;refine⟨?_,h⟩;have f:(TP s).2.f=false:=(show Le (prS s) (TP s).2 from ain _).nf d;obtain⟨g,p⟩:=eY (aqM (m:=8196) (st:=⟨BI s,false⟩) (K:=4097) (aQ (by have:=(abq s).1;simp only;omega)) f) ((abq s).2.2.2.1);simp only at g;show xH 8196 (pM 4097 ⟨BI s,false⟩).1<=_;omega
  ·rw[d]at h;simp at h
 ·rw[aI e]at h;exact aM h e
end Rd
