/- part -/
import Derived.Test.YtbgkpehhdibaoaaGreatDoorBZBX
import Derived.Test.YtbgkpehhdibaoaaGreatDoorBZBS
set_option maxHeartbeats 0
set_option maxRecDepth 99999
namespace Go.Proofs.YtbgkpehhdibaoaaGreatDoor
open Ck bN bJ Rd Sm
open Go.Proofs.Tryz
open Go.RowKit Go.Maps Go.WideMaps
namespace Sm
open Fl
end Sm
variable{w w':World}{vi vf v:Value}{name a b t fn:aY}{U ss:List aY}{G m n bn bc en ec:Nat}{x:Mo}{V:Nat->Nat->Nat × Nat}{ok:Bool}{i1 i2 i3:Int}{ba ea:Option Addr}
theorem Ip.below(h:Ip w vi vf)(hb:bG w w'):Ip w' vi vf:=h.sub (Wt hb)
theorem NQ(w:World)(t:aY)(x:Mo)(hE:prE t=0)(hX:prX t=x)(hs:t.size<=maxLen)(ht:Tab w)(he:M9 w):Calls prog 25 #[A t] w λe w'=>∃a1 n1 c1 a2 n2 c2 a3 n3 c3 z,e=dz (.tuple #[.agg #[A x.name,Y a1 n1 c1,Y a2 n2 c2,Y a3 n3 c3],O z,O 0])/\Hid (iY (fr w w') 8196 (.agg #[A x.name,Y a1 n1 c1,Y a2 n2 c2,Y a3 n3 c3]) x/\Ip (fr w w') (Y a1 n1 c1) (Y a3 n3 c3)/\bG w w'):=by have h:=Tv w t hs ht he;rw[hE,hX]at h;refine h.mono ?_;rintro e w' ⟨a1,n1,c1,a2,n2,c2,a3,n3,c3,rfl,hm,hb,-,hp⟩;exact⟨a1,n1,c1,a2,n2,c2,a3,n3,c3,_,rfl,I ⟨hm,hp,hb⟩⟩
namespace Ck
section
variable {R : List ByteArray} {name : ByteArray} {o : Mo} {l : List Mo} {j : Nat} {x : Mo}
end
theorem an_ok{c:Cx}(h:(an c name).2.2=0):jU (bX c.ss c.G c.L c.Z) c.m c.l=0/\(dI c.l name).isSome=true:=by
 unfold an at h;by_cases h1:jU (bX c.ss c.G c.L c.Z) c.m c.l≠0;·rw[aL h1]at h;exact aM h h1
 ·rw[aJ h1]at h;refine⟨by simpa using h1,?_⟩;by_cases h2:(dI c.l name).isSome=false;·rw[aL h2]at h;cases h
  ·cases hq:(dI c.l name).isSome with
   | false=>exact aM hq h2
   | true=>rfl
theorem an_efs{c:Cx}(hU:YM U c.ss c.l):∀y∈(an c name).1,TT U y:=by
 intro y hy;unfold an at hy;split at hy;·cases hy
 ·split at hy;·cases hy
  ·exact Ue hU _ name y hy
end Ck
theorem Ck.an_len{c:Cx}:(Ck.an c name).1.length<=8:=by
 unfold Ck.an;split;·simp
 ·rename_i h;split;·simp
  ·exact fd_len (oh (by simpa using h)).2.2.1 _ _
theorem an_scs{c:Cx}(h:dV Er w 0 35 6 v (Ck.an c name).1):yX w v (Ck.an c name).1:=by
 by_cases hf:jU (bX c.ss c.G c.L c.Z) c.m c.l=0;·have hU:=NK hf;exact NC h (bF an_len bO) (λy hy u hu=>hU.size u ((an_efs hU y hy).1 u hu)) (λy hy=>bF (an_efs hU y hy).2 hU.len)
 ·have e:(Ck.an c name).1=[]:=by unfold Ck.an;rw[aL hf]
  rw[e]at h ⊢;exact NC h dx (λy hy=>by cases hy) (λy hy=>by cases hy)
namespace Sm
open Fl
def xK(ss:List aY)(Z:Nat->Nat->Bool)(m:Nat)(x:Mo)(V:Nat->Nat->Nat × Nat):Nat->List Sc × List Dg
 | 0=>([],[])
 | k+1=>match x.bg[k]? with
  | none=>xK ss Z m x V k
  | some f=>((xK ss Z m x V k).1++[dW Z ss.length (V k) ((gH ss Z x k [] [] (xK ss Z m x V k).1 f).jq m f) f],(xK ss Z m x V k).2++F6 Z ss.length (V k) ((gH ss Z x k [] [] (xK ss Z m x V k).1 f).jq m f) f.name)
def QV(ss:List aY)(G:Nat)(L:Nat->Nat)(Z:Nat->Nat->Bool)(m:Nat)(x:Mo)(V:Nat->Nat->Nat × Nat):Nat->Bool
 | 0=>true
 | k+1=>QV ss G L Z m x V k&&match x.bg[k]? with
  | none=>false
  | some f=>decide (TF ss G L Z m x k [] [] (xK ss Z m x V k).1 40 1000=0)&&Um Z ss.length ((gH ss Z x k [] [] (xK ss Z m x V k).1 f).jq m f).names.length ((gH ss Z x k [] [] (xK ss Z m x V k).1 f).jq m f).cons (V k)
theorem Wj{L:Nat->Nat}{Z:Nat->Nat->Bool}(hc:bX ss G L Z=0):∀k,QV ss G L Z m x V k=true->rA ss G L Z m x [] [] k=0/\inf ss Z m x [] [] k=xK ss Z m x V k
 | 0,_=>⟨rfl,rfl⟩
 | k+1,h=>by
  unfold QV at h;rw[dJ]at h;obtain⟨h1,h2⟩:=Wj hc k h.1;have h3:=h.2;cases hf:x.bg[k]? with
  | none=>rw[hf]at h3;cases h3
  | some f =>rw[hf]at h3;simp only[dJ,gP]at h3;obtain⟨hw,hV⟩:=h3;refine⟨by rw[KV h1,h2];exact hw,?_⟩;obtain⟨hr,he⟩:=eY (FR (own:=(xK ss Z m x V k).1) hf hw) (Qn (QU hc) (least_of hV));rw[xH hf,h2,<-Qp hr.pb he f,<-Qq hr.pb he f.name];simp only[xK,hf]
theorem ans_all(hk:QV mU 2 (λ_=>2) nX 8196 x V x.bg.length=true)(e1:yZ (bX mU 2 (λ_=>2) nX) 8196 x []=0)(e2:bJ.once (Ei mU x [] 8196)=[]):ans mU 2 (λ_=>2) nX 8196 x [] []=if (xK mU nX 8196 x V x.bg.length).2≠[]then ([],bJ.once (xK mU nX 8196 x V x.bg.length).2,0)else ((xK mU nX 8196 x V x.bg.length).1,[],0):=by obtain⟨h1,h2⟩:=Wj (G:=2) (L:=λ_=>2) YX x.bg.length hk;unfold ans;rw[aJ (by rw[e1];decide),aJ (by rw[e2];simp),aJ (by rw[h1];decide),h2]
end Sm
namespace Ck
def Dz(x:Mo):Cx:=⟨8196,mU,2,λ_=>2,nX,[x]⟩
theorem no_rch(hi:x.imports=[]):¬sH [x] a b:=by
 have hn:∀a b,¬imp [x] a b:=λa b h=>by
  obtain⟨i,y,_,hy,hb,_⟩:=h;have:y=x:=by simpa using eT hy
  rw[this,hi]at hb;cases hb
 intro h;cases h with
 | one h=>exact hn _ _ h
 | more _ h=>exact hn _ _ h
theorem an_one(hi:x.imports=[])(hf:jU (bX mU 2 (λ_=>2) nX) 8196 [x]=0):an (Dz x) x.name=Sm.ans mU 2 (λ_=>2) nX 8196 x [] []:=by
 have hm:dI [x] x.name=some 0:=by simp[dI,dA]
 unfold an;rw[aJ (by show ¬jU (bX mU 2 (λ_=>2) nX) 8196 [x]≠0;rw[hf];simp),aJ (by show ¬(dI [x] x.name).isSome=false;rw[hm];simp)];rw[V7 (c:=Dz x) hm rfl];unfold QC;rw[aJ (show ¬sH (Dz x).l x.name x.name from no_rch hi),hi];rw[aJ (show ¬(bl (Dz x).l (FD (Dz x)) [] []).2≠0 from λh=>h rfl),aJ (show ¬bJ.once (bl (Dz x).l (FD (Dz x)) [] []).1≠[]from λh=>h rfl)];have ho:Jg (Dz x).l x=[]:=by simp[Jg,Dz,dA]
 have hs:Cj (Dz x).l (FD (Dz x)) x=[]:=by unfold Cj;rw[ho];rfl
 rw[ho,hs];rfl
def acc(a:Fi):Bool:=decide (a.2.1.length=0)&&decide (0<a.1.length)
structure Says(t:ByteArray)(ok:Bool)(x:Mo):Prop where
 size:t.size<=maxLen
 err:prE t=0
 mod:prX t=x
 name:x.name=⟨#[109]⟩
 form:jU (bX mU 2 (λ_=>2) nX) 8196 [x]=0
 small:vF 8196 x<=1048576
 errno:(an (Dz x) x.name).2.2=0
 acc:acc (an (Dz x) x.name)=ok
theorem yh(V:Nat->Nat->Nat × Nat)(h0:t.size<=maxLen)(h1:prE t=0)(h2:prX t=x)(hn:x.name=⟨#[109]⟩)(hi:x.imports=[])(hf:jU (bX mU 2 (λ_=>2) nX) 8196 [x]=0)(hw:decide (vF 8196 x<=1048576)=true)(hk:QV mU 2 (λ_=>2) nX 8196 x V x.bg.length=true)(e1:yZ (bX mU 2 (λ_=>2) nX) 8196 x []=0)(e2:bJ.once (Ei mU x [] 8196)=[])(h:(decide ((xK mU nX 8196 x V x.bg.length).2=[])&&decide (0<(xK mU nX 8196 x V x.bg.length).1.length))=ok):Says t ok x:=by
 have ha:=(an_one hi hf).trans (ans_all hk e1 e2);refine⟨h0,h1,h2,hn,hf,jw hw,?_,?_⟩;·rw[ha];split<;>rfl
 ·rw[ha,<-h];by_cases hd:(xK mU nX 8196 x V x.bg.length).2=[];·rw[aJ (by simp[hd])];simp[acc,hd]
  ·rw[aL hd];simp[acc,hd]
end Ck
namespace Rd
def q0:Mo:=⟨⟨#[109]⟩,[],[⟨⟨#[120]⟩,⟨#[108,111,119]⟩⟩,⟨⟨#[121]⟩,⟨#[104,105,103,104]⟩⟩],[⟨⟨#[102]⟩,[⟨#[112]⟩],[⟨1,⟨#[121]⟩,⟨3,0,⟨#[43]⟩,[⟨2,0,⟨#[112]⟩,[]⟩,⟨2,0,⟨#[120]⟩,[]⟩]⟩,[],[]⟩,⟨4,⟨#[108,111,119]⟩,⟨2,0,⟨#[120]⟩,[]⟩,[],[]⟩],⟨2,0,⟨#[120]⟩,[]⟩⟩]⟩
def u0:aY:=⟨#[40,109,111,100,117,108,101,32,109,32,40,118,97,114,32,120,32,108,111,119,41,32,40,118,97,114,32,121,32,104,105,103,104,41,32,40,102,117,110,32,102,32,40,112,41,32,40,115,101,116,32,121,32,40,43,32,112,32,120,41,41,32,40,112,114,105,110,116,32,108,111,119,32,120,41,32,120,41,41]⟩
def q1:Mo:=⟨⟨#[109]⟩,[],[⟨⟨#[120]⟩,⟨#[108,111,119]⟩⟩,⟨⟨#[121]⟩,⟨#[104,105,103,104]⟩⟩],[⟨⟨#[102]⟩,[],[⟨1,⟨#[120]⟩,⟨2,0,⟨#[121]⟩,[]⟩,[],[]⟩],⟨1,0,⟨#[]⟩,[]⟩⟩]⟩
def u1:aY:=⟨#[40,109,111,100,117,108,101,32,109,32,40,118,97,114,32,120,32,108,111,119,41,32,40,118,97,114,32,121,32,104,105,103,104,41,32,40,102,117,110,32,102,32,40,41,32,40,115,101,116,32,120,32,121,41,32,48,41,41]⟩
def q2:Mo:=⟨⟨#[109]⟩,[],[⟨⟨#[120]⟩,⟨#[108,111,119]⟩⟩,⟨⟨#[121]⟩,⟨#[104,105,103,104]⟩⟩],[⟨⟨#[102]⟩,[],[⟨2,⟨#[]⟩,⟨2,0,⟨#[121]⟩,[]⟩,[⟨1,⟨#[122]⟩,⟨1,1,⟨#[]⟩,[]⟩,[],[]⟩],[]⟩,⟨1,⟨#[120]⟩,⟨2,0,⟨#[122]⟩,[]⟩,[],[]⟩],⟨1,0,⟨#[]⟩,[]⟩⟩]⟩
def u2:aY:=⟨#[40,109,111,100,117,108,101,32,109,32,40,118,97,114,32,120,32,108,111,119,41,32,40,118,97,114,32,121,32,104,105,103,104,41,32,40,102,117,110,32,102,32,40,41,32,40,105,102,32,121,32,40,40,115,101,116,32,122,32,49,41,41,32,40,41,41,32,40,115,101,116,32,120,32,122,41,32,48,41,41]⟩
def q3:Mo:=⟨⟨#[109]⟩,[],[⟨⟨#[121]⟩,⟨#[104,105,103,104]⟩⟩],[⟨⟨#[112]⟩,[],[⟨4,⟨#[108,111,119]⟩,⟨1,1,⟨#[]⟩,[]⟩,[],[]⟩],⟨1,0,⟨#[]⟩,[]⟩⟩,⟨⟨#[102]⟩,[],[⟨3,⟨#[]⟩,⟨2,0,⟨#[121]⟩,[]⟩,[⟨1,⟨#[121]⟩,⟨4,0,⟨#[112]⟩,[]⟩,[],[]⟩],[]⟩],⟨1,0,⟨#[]⟩,[]⟩⟩]⟩
def u3:aY:=⟨#[40,109,111,100,117,108,101,32,109,32,40,118,97,114,32,121,32,104,105,103,104,41,32,40,102,117,110,32,112,32,40,41,32,40,112,114,105,110,116,32,108,111,119,32,49,41,32,48,41,32,40,102,117,110,32,102,32,40,41,32,40,119,104,105,108,101,32,121,32,40,40,115,101,116,32,121,32,40,99,97,108,108,32,112,41,41,41,41,32,48,41,41]⟩
def q4:Mo:=⟨⟨#[109]⟩,[],[⟨⟨#[121]⟩,⟨#[104,105,103,104]⟩⟩],[⟨⟨#[112]⟩,[⟨#[97]⟩],[⟨4,⟨#[108,111,119]⟩,⟨2,0,⟨#[97]⟩,[]⟩,[],[]⟩],⟨1,0,⟨#[]⟩,[]⟩⟩,⟨⟨#[102]⟩,[],[],⟨4,0,⟨#[112]⟩,[⟨2,0,⟨#[121]⟩,[]⟩]⟩⟩]⟩
def u4:aY:=⟨#[40,109,111,100,117,108,101,32,109,32,40,118,97,114,32,121,32,104,105,103,104,41,32,40,102,117,110,32,112,32,40,97,41,32,40,112,114,105,110,116,32,108,111,119,32,97,41,32,48,41,32,40,102,117,110,32,102,32,40,41,32,40,99,97,108,108,32,112,32,121,41,41,41]⟩
def q5:Mo:=⟨⟨#[109]⟩,[],[⟨⟨#[120]⟩,⟨#[108,111,119]⟩⟩,⟨⟨#[121]⟩,⟨#[104,105,103,104]⟩⟩],[⟨⟨#[112]⟩,[⟨#[97]⟩,⟨#[98]⟩],[],⟨2,0,⟨#[97]⟩,[]⟩⟩,⟨⟨#[102]⟩,[],[⟨1,⟨#[120]⟩,⟨4,0,⟨#[112]⟩,[⟨1,1,⟨#[]⟩,[]⟩,⟨2,0,⟨#[121]⟩,[]⟩]⟩,[],[]⟩,⟨1,⟨#[121]⟩,⟨4,0,⟨#[112]⟩,[⟨2,0,⟨#[121]⟩,[]⟩,⟨1,1,⟨#[]⟩,[]⟩]⟩,[],[]⟩,⟨3,⟨#[]⟩,⟨3,0,⟨#[60]⟩,[⟨2,0,⟨#[120]⟩,[]⟩,⟨1,3,⟨#[]⟩,[]⟩]⟩,[⟨1,⟨#[120]⟩,⟨3,0,⟨#[43]⟩,[⟨2,0,⟨#[120]⟩,[]⟩,⟨1,1,⟨#[]⟩,[]⟩]⟩,[],[]⟩],[]⟩],⟨2,0,⟨#[120]⟩,[]⟩⟩]⟩
def u5:aY:=⟨#[40,109,111,100,117,108,101,32,109,32,40,118,97,114,32,120,32,108,111,119,41,32,40,118,97,114,32,121,32,104,105,103,104,41,32,40,102,117,110,32,112,32,40,97,32,98,41,32,97,41,32,40,102,117,110,32,102,32,40,41,32,40,115,101,116,32,120,32,40,99,97,108,108,32,112,32,49,32,121,41,41,32,40,115,101,116,32,121,32,40,99,97,108,108,32,112,32,121,32,49,41,41,32,40,119,104,105,108,101,32,40,60,32,120,32,51,41,32,40,40,115,101,116,32,120,32,40,43,32,120,32,49,41,41,41,41,32,120,41,41]⟩
end Rd
theorem says0:Ck.Says Rd.u0 true Rd.q0:=yh (λ_ _=>(1,0)) bO bR bR rfl rfl bR bR bR bR bR bR
theorem says1:Ck.Says Rd.u1 false Rd.q1:=yh (λ_ _=>(0,0)) bO bR bR rfl rfl bR bR bR bR bR bR
theorem says2:Ck.Says Rd.u2 false Rd.q2:=yh (λ_ _=>(0,1)) bO bR bR rfl rfl bR bR bR bR bR bR
theorem says3:Ck.Says Rd.u3 false Rd.q3:=yh (λ_ _=>(0,0)) bO bR bR rfl rfl bR bR bR bR bR bR
theorem says4:Ck.Says Rd.u4 false Rd.q4:=yh (λ_ _=>(1,0)) bO bR bR rfl rfl bR bR bR bR bR bR
theorem says5:Ck.Says Rd.u5 true Rd.q5:=yh (λ_ v=>(v+1,0)) bO bR bR rfl rfl bR bR bR bR bR bR
def Et(x:Int)(n:Nat):Nat:=if x.tmod n<0 then (x.tmod n+n).toNat else (x.tmod n).toNat
theorem restV_lt{x:Int}(hn:0<n):Et x n<n:=by have t1:x.tmod n<n:=Int.tmod_lt_of_pos x aX;have t2:-(n:Int)<x.tmod n:=Int.lt_tmod_of_pos x aX;unfold Et;split<;>omega
theorem YZ(w:World)(x:Int)(n:Nat)(hn:0<n)(h6:n<=9223372036854775807):Calls prog 10 #[O x,O n] w λe w'=>e=dz (O (Et x n:Nat))/\w'=w:=by
 have t1:x.tmod n<n:=Int.tmod_lt_of_pos x aX;have t2:-(n:Int)<x.tmod n:=Int.lt_tmod_of_pos x aX;have E1:Hid (x.tmod n<0->Et x n=(x.tmod n+n).toNat):=I (λh=>by unfold Et;rw[aL h]);have E2:Hid (¬x.tmod n<0->Et x n=(x.tmod n).toNat):=I (λh=>by unfold Et;rw[aJ h]);go_enter func10,ntmps10;go_wp2;·go_ret;refine⟨?_,rfl⟩;rw[E1 aX];exact bT aX
 ·go_ret;refine⟨?_,rfl⟩;rw[E2 aX];exact bT aX
theorem Wm(w:World)(o:Obj):Hid (bG w (w.alloc o))/\Hid ((w.alloc o).heap[w.heap.size]?=some o):=⟨aH w o,aZ w o⟩
def QW(w w':World)(aag:Ck.Fi)(e:Ending):Prop:=
 ∃(fn:aY) (i1 i2:Int) (ba:Option Addr) (bn bc:Nat) (i3:Int) (ea:Option Addr) (en ec:Nat) (ok:Bool),e=.returned (.tuple #[.agg #[.string fn,.int .i64 i1,.int .i64 i2,.slice ba bn bc,.int .i64 i3,.slice ea en ec],.bool ok])/\(ok=true->aag.2.2=0/\aag.2.1=[])/\bG w w'
theorem QW.mk{aag:Ck.Fi}(h:ok=true->aag.2.2=0/\aag.2.1=[])(hb:bG w w'):QW w w' aag (dz (.tuple #[.agg #[A fn,O i1,O i2,Y ba bn bc,O i3,Y ea en ec],.bool ok])):=⟨_,_,_,_,_,_,_,_,_,_,_,rfl,h,hb⟩
theorem tacc_any(m:Nat)(w:World)(vn vl vk:Value)(ss:List aY)(G:Nat)(L:Nat->Nat)(Z:Nat->Nat->Bool)(l:List Mo)(name:aY)(k:Int)(hS:Strs w vn ss)(hR:Fg w vl G L Z)(hK:vD w m vk l)(hsm:∀x∈l,vF m x<=1048576)(ht:Tab w)(hn:name.size<=maxLen):Calls prog 24 #[.agg #[vn,vl],vk,A name,O k] w λe w'=>QW w w' (Ck.an ⟨m,ss,G,L,Z,l⟩ name) e:=by
 obtain⟨c,hc⟩:∃c,c=(⟨m,ss,G,L,Z,l⟩:Cx):=⟨_,rfl⟩;obtain⟨aag,hA⟩:=bC (Ck.an c name);rw[<-hc,<-hA];obtain⟨SA,DA,EA⟩:=aag;have HANS:Hid (∀wx,bG w wx->Calls prog 18 #[.agg #[vn,vl],vk,A name] wx λe w'=>∃vs vd,e=dz (.tuple #[.agg #[vs,vd],O EA])/\Hid (yX w' vs SA/\jf w' vd DA/\bG wx w')):=I (λwx hb=>by
  have h:=Aj m wx vn vl vk ss G L Z l name (Ck.uni ss l) (hS.below hb) (hR.below hb) (hK.below hb) hsm (ht.below hb) hn NK;rw[<-hc,<-hA]at h;refine h.mono ?_;rintro e w' ⟨vs,vd,rfl,hh⟩;have h1:=hh.1;refine⟨vs,vd,rfl,I ⟨?_,hh.2.1,hh.2.2⟩⟩;have h2:dV Er w' 0 35 6 vs (Ck.an c name).1:=by rw[<-hA];exact h1
  have h3:=an_scs (c:=c) h2;rw[<-hA]at h3;exact h3)
 obtain⟨a0,c0,e0⟩:=jF hS;obtain⟨a1,b1,o1,c1,lA,lRB,lRO,lC,e1,-⟩:=hR;obtain⟨a5,b5,f5,c5,e5,-⟩:=hK;generalize ss.length=n0 at e0;generalize l.length=n5 at e5;subst e0 e1 e5;clear hS hsm ht hn hc hA;obtain⟨W,hW,k0,k1,hsz,hBW⟩:=wX w (aW #[Y a0 n0 c0,Y a1 G c1] 25) (aW #[A ⟨#[]⟩,O 0,O 0,J,O 0,J] 35);obtain⟨x0,x1⟩:=iV k0;obtain⟨iA,jh⟩:=bU hBW k1;obtain⟨RB,hRB⟩:=bC (w.heap.size+1);have HRB:Hid (w.heap.size<=RB):=I aX;clear k0 k1 hsz hBW;go_enter func24,ntmps24;go_upto_region 1 with fail;rw[<-hW,<-hRB];rw[<-hRB]at jh;clear hW hRB;go_wp2_with fail;refine(HANS W iA).mono ?_;rintro e w2 ⟨vs,vd,rfl,Rb⟩;obtain⟨HSC2,HB2,Fa⟩:=fD Rb.out.1 (up iA Rb.2.2) (aU jh Rb.2.2);obtain⟨sa,sb,so,sc,rfl,hs0,SQ,hsel⟩:=Rb.1;obtain⟨da,db,do',dc,rfl,-⟩:=Rb.2.1;obtain⟨UG,HSEL⟩:=bU hs0 hsel;obtain⟨ns,hns⟩:=bC SA.length;obtain⟨nd,hnd⟩:=bC DA.length;rw[<-hns]at UG SQ ⊢;rw[<-hnd];obtain⟨Fz,HND,HS63⟩:=fD hns hnd SQ;clear Rb x0 x1 hns hnd hs0 hsel SQ;go_upto_region 2 with fail;obtain⟨dQ,HK9⟩:=Wm w2 (aW #[Y sa ns sc,Y da nd dc] 61);obtain⟨EI,HB3⟩:=bU (aU Fa dQ) (up HB2 dQ);have HSEL3:Hid (∀(i:Nat) y,SA[i]?=some y->∃(ba:Option Addr) (bn bc:Nat) (ea:Option Addr) (en ec:Nat),(w2.alloc (aW #[Y sa ns sc,Y da nd dc] 61)).cell? (X sb (so+i*6))=some (A y.fn)/\(w2.alloc (aW #[Y sa ns sc,Y da nd dc] 61)).cell? (X sb (so+i*6+1))=some (O y.mask)/\(w2.alloc (aW #[Y sa ns sc,Y da nd dc] 61)).cell? (X sb (so+i*6+2))=some (O y.level)/\(w2.alloc (aW #[Y sa ns sc,Y da nd dc] 61)).cell? (X sb (so+i*6+3))=some (Y ba bn bc)/\(w2.alloc (aW #[Y sa ns sc,Y da nd dc] 61)).cell? (X sb (so+i*6+4))=some (O y.pc)/\(w2.alloc (aW #[Y sa ns sc,Y da nd dc] 61)).cell? (X sb (so+i*6+5))=some (Y ea en ec)):=I (λi y hy=>by obtain⟨vb,ve,g0,g1,g2,g3,g4,g5,hb,he⟩:=HSEL i y hy;obtain⟨ba,bc,rfl⟩:=hb.IB;obtain⟨ea,ec,rfl⟩:=jF he;exact⟨_,_,_,_,_,_,aD g0 dQ,aD g1 dQ,aD g2 dQ,aD g3 dQ,aD g4 dQ,aD g5 dQ⟩);obtain⟨AB,hAB⟩:=bC w2.heap.size;rw[<-hAB]at HK9 ⊢;generalize w2.alloc (aW #[Y sa ns sc,Y da nd dc] 61)=W3 at *;clear hAB;obtain⟨z0,z1⟩:=iV HK9;obtain⟨r0,r1,r2,r3,r4,r5⟩:=NR EI;obtain⟨q0,q1,q2,q3⟩:=tZ (aG EI 0) (aG EI 1) (aG EI 2) (aG EI 3);obtain⟨q4,q5⟩:=eY (aG EI 4) (aG EI 5);by_cases hE:EA=0
 ·subst hE;by_cases hd:nd=0
  ·by_cases hs:ns=0;·subst hd hs;go_wp2_with fail;have hs:=PE EI (A ⟨#[]⟩) (O 0) (O 0) (J) (O 0) (J);obtain⟨f0,f1,f2,f3,f4,f5⟩:=NR hs;refine bV (v:=.tuple #[.agg #[A ⟨#[]⟩,O 0,O 0,J,O 0,J],.bool false]) (by simp[results,results24,go_sem,f0,f1,f2,f3,f4,f5]) rfl ?_;exact QW.mk (λh=>by cases h) (nU HB3 HRB _ _ _ _ _ _)
   ·have hsp:0<ns:=by omega
    have HSP:=I hsp;obtain rfl:=UG hsp;have HDE:Hid (DA=[]):=I (List.eq_nil_of_length_eq_zero (by rw[<-HND];exact hd));subst hd;have hs1:((ns:Int)==0)=false:=by simp;omega
    have hs2:¬((ns:Int)=0):=by omega
    go_upto_region 4 with fail;clear hs1 hs2 hs;obtain⟨r,hr⟩:∃r:Nat,r=Et k ns:=⟨_,rfl⟩;have Kk:Hid (∀k' os,Calls prog 10 #[O k,O ns] (gn W3 k' os) λe w'=>e=dz (O (r:Nat))/\Below (gn W3 k' os).heap.size (gn W3 k' os) w'):=I (λk' os=>by rw[hr];exact(YZ (gn W3 k' os) k ns hsp HS63).mono λe w' h=>⟨h.1,by rw[h.2];exact bP _ _⟩);have hrn:r<ns:=by rw[hr];exact restV_lt hsp
    obtain⟨y,hy⟩:∃y,SA[r]?=some y:=⟨_,bD (by rw[<-Fz];exact hrn)⟩;obtain⟨ba,bn,bc,ea,en,ec,g0,g1,g2,g3,g4,g5⟩:=HSEL3 r y hy;replace g0:=aS g0;replace g1:=aS g1;replace g2:=aS g2;replace g3:=aS g3;replace g4:=aS g4;replace g5:=aS g5;have z0':=aS z0;have hr0:(0:Int)<=(r:Int):=by omega
    have hr1:(r:Int)<(ns:Int):=by omega
    clear hr hy z0 z1 r0 r1 r2 r3 r4 r5 q0 q1 q2 q3 q4 q5;refine eU 9 bR bR ?_;dsimp only[List.take,List.drop];repeat(quiet_step ((exact Calls.nE (Kk.out _ _))))
    refine wpQuiet_nil ?_;intro w6 hw';obtain⟨⟨nq,osq⟩,hw''⟩:=hw';have HB36:Hid (bG W3 w6):=I (by rw[hw''];exact bQ W3 nq osq);clear hw'' g0 g1 g2 g3 g4 g5 z0' hr0 hr1;obtain⟨FH,dX⟩:=bU (aU EI.out HB36.out) (up HB3.out HB36.out);obtain⟨r0,r1,r2,r3,r4,r5⟩:=NR FH.out;obtain⟨q0,q1,q2,q3⟩:=tZ (aG FH.out 0) (aG FH.out 1) (aG FH.out 2) (aG FH.out 3);obtain⟨q4,q5⟩:=eY (aG FH.out 4) (aG FH.out 5);go_wp2_with fail;have hs:=PE FH.out (A y.fn) (O y.mask) (O y.level) (Y ba bn bc) (O y.pc) (Y ea en ec);obtain⟨f0,f1,f2,f3,f4,f5⟩:=NR hs;refine bV (v:=.tuple #[.agg #[A y.fn,O y.mask,O y.level,Y ba bn bc,O y.pc,Y ea en ec],.bool true]) (by simp[results,results24,go_sem,f0,f1,f2,f3,f4,f5]) rfl ?_;exact QW.mk (λ_=>⟨rfl,HDE.out⟩) (nU dX.out HRB.out _ _ _ _ _ _)
  ·have hd1:(0:Int)<(nd:Int):=by omega
   go_wp2_with fail;have hs:=PE EI (A ⟨#[]⟩) (O 0) (O 0) (J) (O 0) (J);obtain⟨f0,f1,f2,f3,f4,f5⟩:=NR hs;refine bV (v:=.tuple #[.agg #[A ⟨#[]⟩,O 0,O 0,J,O 0,J],.bool false]) (by simp[results,results24,go_sem,f0,f1,f2,f3,f4,f5]) rfl ?_;exact QW.mk (λh=>by cases h) (nU HB3 HRB _ _ _ _ _ _)
 ·have hz:=eP hE;go_wp2_with fail;have hs:=PE EI (A ⟨#[]⟩) (O 0) (O 0) (J) (O 0) (J);obtain⟨f0,f1,f2,f3,f4,f5⟩:=NR hs;refine bV (v:=.tuple #[.agg #[A ⟨#[]⟩,O 0,O 0,J,O 0,J],.bool false]) (by simp[results,results24,go_sem,f0,f1,f2,f3,f4,f5]) rfl ?_;exact QW.mk (λh=>by cases h) (nU HB3 HRB _ _ _ _ _ _)
end Go.Proofs.YtbgkpehhdibaoaaGreatDoor
