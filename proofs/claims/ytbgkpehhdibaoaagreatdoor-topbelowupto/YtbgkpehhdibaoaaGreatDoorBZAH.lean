/- part -/
import Derived.Test.YtbgkpehhdibaoaaGreatDoorBZAF
import Derived.Test.YtbgkpehhdibaoaaGreatDoorBZAG
import Derived.Laws.CopyOwn
import Derived.Lib.AppendZerosOnto
import Derived.Shelf.Spec.SlicesInsert
set_option maxHeartbeats 0
set_option maxRecDepth 99999
namespace Go.Proofs.YtbgkpehhdibaoaaGreatDoor
open bN bJ
open Go.Proofs.Tryz
open Go.RowKit
namespace bJ
def calls:Nat->Ex->List Ex
 | 0,_=>[]
 | m+1,x=>x.args.flatMap (calls m)++if x.kind=4 then [x]else []
end bJ
variable{j p q n e k g cap i m off:Nat}{w w1 w2 b w' w6:World}{cs:Array Value}{t:TypeId}{fz:Nat × Nat}{v v6:Value}{x y z:List UInt8}
theorem jy{α β:Type}{f:α->List β}{l:List α}{y:α}(h:l[j]?=some y):(l.take (j+1)).flatMap f=(l.take j).flatMap f++f y:=by rw[gy,h];simp
theorem uD{α β:Type}{f:α->List β}{l:List α}(j:Nat):((l.take j).flatMap f).length<=(l.flatMap f).length:=by have h:=congrArg (λt=>(t.flatMap f).length) (oV j l);simp only[kQ,aT]at h;omega
theorem jI{r:Option Nat}(h:bG w w1)(hg:w1.grownBy w2 r)(hr:∀k,r=some k->w.heap.size<=k):bG w w2:=
 ⟨hg.os.trans h.os,hg.tape.trans h.tape,hg.output.trans h.output,bF h.size hg.size,λk hk=>(hg.block k (uj hk h.size) (λe=>by have:=hr k e.symm;omega)).trans (h.block k hk)⟩
theorem F5(w:World)(c0 c1 c2 c3:Value)(t:TypeId):(w.alloc (.cells #[c0,c1,c2,c3] t)).cell? (X w.heap.size 0)=some c0:=by simp[go_sem]
theorem DN(w:World)(c0 c1 c2 c3:Value)(t:TypeId):(w.alloc (.cells #[c0,c1,c2,c3] t)).cell? (X w.heap.size 1)=some c1:=by simp[go_sem]
theorem DR(w:World)(c0 c1 c2 c3:Value)(t:TypeId):(w.alloc (.cells #[c0,c1,c2,c3] t)).cell? (X w.heap.size 2)=some c2:=by simp[go_sem]
def StC(w:World)(m:Nat)(c:List Value)(s:St):Prop:=∃e0 e1 e2 e3 va vb,c=[.int .i64 s.kind,.string s.name,e0,e1,e2,e3,va,vb]/\K5 s.kind/\s.name.size<=maxLen/\gT w m e0 e1 e2 e3 s.e/\fB w m va s.a/\fB w m vb s.b
theorem fB.rT:∀{m:Nat} {v:Value} {l:List St},fB w m v l->∃a cap,v=Y a l.length cap
 | 0,_,_,h=>iW h
 | _+1,_,_,⟨a,_,_,cap,e,_⟩=>⟨a,cap,e⟩
namespace bJ
def within(f:List St->List St)(s:St):List St:=([s]++f s.a)++f s.b
def all:Nat->List St->List St
 | 0,_=>[]
 | m+1,l=>l.flatMap (within (all m))
end bJ
structure Dg where
 code:Int
 fn:ByteArray
 name:ByteArray
namespace bJ
def gJ(a b:Dg):Bool:=
 if (a.fn.toList==b.fn.toList)=false then Op.bytesLess a.fn.toList b.fn.toList
 else if (a.code==b.code)=false then decide (a.code<b.code)else Op.bytesLess a.name.toList b.name.toList
end bJ
def oW(c:List Value)(d:Dg):Prop:=c=[.int .i64 d.code,.string d.fn,.string d.name]
theorem oZ:(prog.info? 80).map (λi=>(i.zero,i.size,i.bytes))=some (some (.agg #[O 0,A ⟨#[]⟩,A ⟨#[]⟩]),3,40):=by kernel_rfl
theorem oW.one{c:List Value}{d:Dg}(h:oW c d):∀u∈c,u.oneCell'=true:=by subst h;intro u hu;simp at hu;rcases hu with rfl|rfl|rfl<;>rfl
def Told(w:World)(n p:Nat)(l:List Dg):Prop:=n<=p/\∃v,w.heap[p]?=some (.cells #[v] 59 (0,0))/\eF oW w n 80 3 v l
structure dN(p:Nat)(w w':World):Prop where
 size:w.heap.size<=w'.heap.size
 block:∀k,k<w.heap.size->k≠p->(∀cs fz,w.heap[k]?≠some (.cells cs 80 fz))->w'.heap[k]?=w.heap[k]?
theorem dN.refl(p:Nat)(w:World):dN p w w:=⟨bE _,λ_ _ _ _=>rfl⟩
theorem dN.trans{a c:World}(h:dN p a b)(k:dN p b c):dN p a c:=⟨bF h.size k.size,λi hi hp hd=>by have h1:=h.block i hi hp hd;rw[<-h1];exact k.block i (uj hi h.size) hp (λcs fz=>by rw[h1];exact hd cs fz)⟩
theorem dN.of_below(h:bG w w'):dN p w w':=⟨h.size,λk hk _ _=>h.block k hk⟩
theorem dN.at(h:dN p w w')(hq:q≠p)(ho:w.heap[q]?=some (.cells cs t fz))(ht:t≠80):w'.heap[q]?=some (.cells cs t fz):=by rw[h.block q (bq ho) hq (λcs' fz' e=>by rw[ho]at e;simp at e;exact ht e.2.1)];exact ho
theorem Told.below{l:List Dg}(h:Told w n p l)(hb:bG w w'):Told w' n p l:=by obtain⟨h0,v,h1,h2⟩:=h;exact⟨h0,v,by rw[hb.block p (bq h1)];exact h1,h2.below hb⟩
theorem eF.set{α:Type}{At:List Value->α->Prop}{l:List α}(h:eF At w n e k v l){a:Addr}(ha:v.ownBlock≠some a.block)(x:Value):eF At (w.setCell a x) n e k v l:=by
 obtain⟨cs,⟨h0,h1⟩,h2⟩:=h;refine⟨cs,⟨h0,?_⟩,h2⟩;rcases h1 with h1|⟨g,cap,cur,hv,hg,hh,r⟩;·exact aR h1
 ·refine aV ⟨g,cap,cur,hv,hg,bI hh (λe'=>ha (by rw[hv,<-e'];rfl)) _,r⟩
theorem eF.apart{α:Type}{At:List Value->α->Prop}{l:List α}(h:eF At w n e k v l)(hp:w.heap[p]?=some (.cells cs t fz))(ht:t≠e):v.ownBlock≠some p:=by
 intro e';obtain⟨_,⟨_,h1⟩,_⟩:=h;rcases h1 with⟨rfl,_⟩|⟨g,cap,cur,hv,_,hh,_⟩;·cases e'
 ·rw[hv]at e';have:g=p:=by simpa[Value.ownBlock]using e'
  subst this;rw[hp]at hh;simp at hh;exact ht hh.2.1
theorem eF.form{α:Type}{At:List Value->α->Prop}{l:List α}(h:eF At w n e k v l):∃a c,v=Y a l.length c:=by
 rcases h.shape with⟨rfl,rfl⟩|⟨g,cap,rfl,_⟩;·exact⟨_,_,rfl⟩
 ·exact⟨_,_,rfl⟩
theorem eF.typ{α:Type}{At:List Value->α->Prop}{l:List α}(h:eF At w n e k v l)(hg:v.ownBlock=some g):∃cur,w.heap[g]?=some (.cells cur e (0,0)):=by
 obtain⟨_,⟨_,h1⟩,_⟩:=h;rcases h1 with⟨rfl,_⟩|⟨g',cap,cur,hv,_,hh,_⟩;·cases hg
 ·rw[hv]at hg;have:g'=g:=by simpa[Value.ownBlock]using hg
  subst this;exact⟨cur,hh⟩
theorem Told.push{l:List Dg}{d:Dg}{o:Obj}(hn:n<=p)(hp:w.heap[p]?=some (aW #[v] 59))(hv:eF oW w n 80 3 v l)(hown:eF oW w6 n 80 3 v6 (l++[d]))(hg:(w.alloc o).grownBy w6 v.ownBlock):w6.heap[p]?=some (aW #[v] 59)/\Told (w6.setCell (X p 0) v6) n p (l++[d])/\Below n w (w6.setCell (X p 0) v6)/\dN p w (w6.setCell (X p 0) v6):=by
 obtain⟨hb,hplt,hne⟩:=l9 (aH w o) (bq hp) (hv.apart hp bO);have h1:w6.heap[p]?=some (aW #[v] 59):=by rw[hg.block p (uj hplt hb.size) (λe=>hne e.symm),hb.block p hplt];exact hp
 have hne6:=hown.apart h1 bO;have hkeep:∀k,k<w.heap.size->k≠p->some k≠v.ownBlock->(w6.setCell (X p 0) v6).heap[k]?=w.heap[k]?:=λk hk hkp hkv=>by rw[um _ _ _ _ hkp,hg.block k (uj hk hb.size) hkv,hb.block k hk]
 have hsz:w.heap.size<=(w6.setCell (X p 0) v6).heap.size:=by simp only[World.setCell,Cr];exact bF hb.size hg.size
 refine⟨h1,⟨hn,v6,?_,hown.set hne6 _⟩,⟨hg.os.trans hb.os,hg.tape.trans hb.tape,hg.output.trans hb.output,hsz,λk hk=>hkeep k aX aX (λe=>?_)⟩,⟨hsz,λk hk hkp hd=>hkeep k hk hkp (λe=>?_)⟩⟩;·rw[aO h1];rfl
 ·have:=(hv.lt k e.symm).1;omega
 ·obtain⟨cur,hc⟩:=hv.typ e.symm;exact hd _ _ hc
namespace bJ
def mX(names:List aY)(fn name:aY):List Dg:=if decide (0<=dR names name)=true then []else [⟨3,fn,name⟩]
end bJ
theorem Ww{P:Program}(w:World)(dT sT ty elem:TypeId)(k g o dLen dCap:Nat)(a:Addr)(sLen sCap:Nat)(cur:Array Value)(t:TypeId)(cs:List Value)(hu:P.underlying dT=some (.slice elem))(hs:(P.info? elem).map (·.size)=some k)(hg:w.heap[g]?=some (.cells cur t (0,0)))(hn:cs.length=Nat.min sLen dLen*k)(hsrc:∀j v,cs[j]?=some v->w.cell? (a.add j)=some v)(hfit:o+cs.length<=cur.size)(h1:∀v∈cs,v.oneCell'=true):(Builtin.copy_ #[dT,sT] ty #[.slice (some ⟨g,o,none⟩) dLen dCap,.slice (some a) sLen sCap]).run P w=.ok (goInt (Nat.min sLen dLen)) (w.setRow g (cur.toList.take o++cs++cur.toList.drop (o+cs.length)).toArray):=by
 obtain⟨hl,hst⟩:=eY (run_loadCells_list (P:=P) w a cs hsrc) (run_storeCells_at P g o t cs 0 cur w hg (by simpa using hfit) h1);cases hq:P.info? elem with
 | none=>simp[hq]at hs
 | some i=>
  have hi:i.size=k:=by simpa[hq]using hs
  rw[hn]at hl;simp[Builtin.copy_,run_underlying hu,Builtin.lenOf,Builtin.firstCells,sizeOf,typeInfo,hq,hi,hl,hst]
theorem But.setRow(w:World)(cs:Array Value):But g w (w.setRow g cs):=⟨rfl,rfl,rfl,by simp[World.setRow],λk _ hk=>setRow_other w g k cs hk⟩
section
variable {w : World} {ops : Array Oper} {rest : List Oper} {o : Oper} {a : Act} {Q : Exit → Act → World → Prop}
end
def jf(w:World)(v:Value)(l:List Dg):Prop:=
 ∃(a:Option Addr) (b off cap:Nat),v=.slice a l.length cap/\(0<l.length->a=some ⟨b,off,none⟩)/\l.length<=9223372036854775807/\
  ∀i d,l[i]?=some d->w.cell? ⟨b,off+i*3,none⟩=some (.int .i64 d.code)/\w.cell? ⟨b,off+i*3+1,none⟩=some (.string d.fn)/\w.cell? ⟨b,off+i*3+2,none⟩=some (.string d.name)
theorem jf.below{l:List Dg}(h:jf w v l)(hb:bG w w'):jf w' v l:=by obtain⟨a,b,off,cap,e,h0,hl,h1⟩:=h;refine⟨a,b,off,cap,e,h0,hl,λi d hd=>?_⟩;obtain⟨g0,g1,g2⟩:=h1 i d hd;exact⟨aD g0 hb,aD g1 hb,aD g2 hb⟩
theorem eF.dg{l:List Dg}(h:eF oW w n 80 3 (Y (some (X g 0)) l.length cap) l){d:Dg}(hd:l[i]?=some d):w.cell? (X g (i*3))=some (O d.code)/\w.cell? (X g (i*3+1))=some (A d.fn)/\w.cell? (X g (i*3+2))=some (A d.name):=by obtain⟨c,hc,h1,h2⟩:=h.cell hd;have h2':c=[O d.code,A d.fn,A d.name]:=h2;subst h2';exact⟨h1 0 bO,h1 1 bO,h1 2 bO⟩
theorem eF.F6{l:List Dg}(h:eF oW w n 80 3 v l)(hl:l.length<=9223372036854775807):jf w v l:=by
 have h0:=h;rcases h.shape with⟨rfl,rfl⟩|⟨g,cap,rfl,_⟩;·exact⟨none,0,0,0,rfl,λh=>aM h dx,by simp,λi d hd=>by simp at hd⟩
 ·refine⟨_,g,0,cap,rfl,λ_=>rfl,hl,λi d hd=>?_⟩;rw[eD];exact h0.dg hd
namespace bJ
def rE(a b:Dg):Bool:=(a.code==b.code)&&(a.fn.toList==b.fn.toList)&&(a.name.toList==b.name.toList)
def ins:List Dg->Dg->List Dg
 | [],d=>[d]
 | x::r,d=>if gJ x d then x::ins r d else if rE x d then x::r else d::x::r
def once(l:List Dg):List Dg:=l.foldl ins []
end bJ
theorem Uw:∀(x y:List UInt8),Op.bytesLess x y=decide (x<y)
 | [],[]=>by simp[Op.bytesLess]
 | _::_,[]=>by simp[Op.bytesLess]
 | [],_::_=>by simp[Op.bytesLess]
 | a::x,b::y=>by rw[Op.bytesLess,Uw x y];simp only[List.cons_lt_cons_iff];by_cases h1:a<b<;>by_cases h2:a=b<;>by_cases h3:x<y<;>simp[h1,h2,h3]
theorem Cu(x:List UInt8):Op.bytesLess x x=false:=by rw[Uw];simp[List.lt_irrefl]
theorem Oe(h1:Op.bytesLess x y=true)(h2:Op.bytesLess y z=true):Op.bytesLess x z=true:=by rw[Uw]at *;simp only[gP]at *;exact List.lt_trans h1 h2
theorem ZE(h1:Op.bytesLess x y=false)(h2:Op.bytesLess y x=false):x=y:=by rw[Uw]at *;simp only[decide_eq_false_iff_not]at *;exact List.le_antisymm (List.not_lt.1 h2) (List.not_lt.1 h1)
theorem toList_inj{x y:aY}(h:x.toList=y.toList):x=y:=by rw[Lib.toList_data,Lib.toList_data]at h;cases x;cases y;simp only at h;congr 1;exact Array.toList_inj.1 h
namespace bJ
theorem uE(a b:Dg):gJ a b=true↔Op.bytesLess a.fn.toList b.fn.toList=true\/(a.fn=b.fn/\(a.code<b.code\/(a.code=b.code/\Op.bytesLess a.name.toList b.name.toList=true))):=by
 unfold gJ;by_cases h1:a.fn=b.fn
 ·rw[h1,Cu];rw[aJ dx];by_cases h2:a.code=b.code;·rw[aJ (by simp[h2])];simp[h2]
  ·rw[aL (by simp[h2])];simp[h2]
 ·have h1':¬a.fn.toList=b.fn.toList:=λh=>h1 (toList_inj h);rw[aL (by simpa using h1')];simp[h1]
theorem uF(a:Dg):gJ a a=false:=by
 cases h:gJ a a with
 | false=>rfl
 | true =>rw[uE,Cu,Cu]at h;simp at h
theorem p9{a b c:Dg}(h1:gJ a b=true)(h2:gJ b c=true):gJ a c=true:=by
 rw[uE]at *;rcases h1 with h1|⟨e1,h1⟩
 ·rcases h2 with h2|⟨e2,h2⟩;·exact aR (Oe h1 h2)
  ·rw[<-e2];exact aR h1
 ·rcases h2 with h2|⟨e2,h2⟩;·rw[e1];exact aR h2
  ·refine aV ⟨e1.trans e2,?_⟩;rcases h1 with h1|⟨f1,h1⟩
   ·rcases h2 with h2|⟨f2,h2⟩;·exact aR aX
    ·exact aR aX
   ·rcases h2 with h2|⟨f2,h2⟩;·exact aR aX
    ·exact aV ⟨by omega,Oe h1 h2⟩
theorem zF{a b:Dg}(h1:gJ a b=false)(h2:gJ b a=false):a=b:=by
 have n1:¬gJ a b=true:=by rw[h1];simp
 have n2:¬gJ b a=true:=by rw[h2];simp
 rw[uE]at n1 n2;have e1:a.fn.toList=b.fn.toList:=ZE (Bool.eq_false_iff.2 λh=>n1 (aR h)) (Bool.eq_false_iff.2 λh=>n2 (aR h));have e1':=toList_inj e1;have e2:a.code=b.code:=by have a1:¬a.code<b.code:=λh=>n1 (aV ⟨e1',aR h⟩);have a2:¬b.code<a.code:=λh=>n2 (aV ⟨e1'.symm,aR h⟩);omega
 have e3:a.name.toList=b.name.toList:=ZE (Bool.eq_false_iff.2 λh=>n1 (aV ⟨e1',aV ⟨e2,h⟩⟩)) (Bool.eq_false_iff.2 λh=>n2 (aV ⟨e1'.symm,aV ⟨e2.symm,h⟩⟩));have e3':=toList_inj e3;cases a;cases b;simp_all
theorem sS{a b:Dg}:rE a b=true↔a=b:=by
 unfold rE;simp only[dJ,beq_iff_eq];constructor;·rintro⟨⟨h1,h2⟩,h3⟩;have h2':=toList_inj h2;have h3':=toList_inj h3;cases a;cases b;simp_all
 ·rintro rfl;simp
def Asc(l:List Dg):Prop:=l.Pairwise λa b=>gJ a b=true
theorem Ux{l:List Dg}{d x:Dg}:x∈ins l d↔x∈l\/x=d:=by
 induction l with
 | nil=>simp[ins]
 | cons y r ih=>
  unfold ins;split;·simp only[fK,ih,or_assoc]
  ·split
   ·rename_i h;rw[sS]at h;subst h;simp only[fK];constructor;·exact λh=>aR h
    ·rintro(h|h);·exact h
     ·exact aR h
   ·simp only[fK];constructor
    ·rintro(h|h|h);·exact aV h
     ·exact aR (aR h)
     ·exact aR (aV h)
    ·rintro((h|h)|h);·exact aV (aR h)
     ·exact aV (aV h)
     ·exact aR h
theorem asc_ins{l:List Dg}{d:Dg}(h:Asc l):Asc (ins l d):=by
 induction l with
 | nil=>simp[ins,Asc]
 | cons y r ih=>
  have h0:(∀z∈r,gJ y z=true)/\Asc r:=rU.1 h;unfold ins;split
  ·rename_i hy;refine rU.2 ⟨λz hz=>?_,ih h0.2⟩;rcases Ux.1 hz with hz|rfl;·exact h0.1 z hz
   ·exact hy
  ·rename_i hy;split;·exact h
   ·rename_i hs;have hdy:gJ d y=true:=by
     cases hc:gJ d y with
     | true=>rfl
     | false=>exact aM (sS.2 (zF (by simpa using hy) hc)) hs
    refine rU.2 ⟨λz hz=>?_,h⟩;rcases fK.1 hz with rfl|hz;·exact hdy
    ·exact p9 hdy (h0.1 z hz)
theorem JW{l acc:List Dg}(h:Asc acc):Asc (l.foldl ins acc)/\∀x,x∈l.foldl ins acc↔x∈acc\/x∈l:=by
 induction l generalizing acc with
 | nil=>exact⟨h,λx=>by simp⟩
 | cons y r ih =>obtain⟨h1,h2⟩:=ih (asc_ins (d:=y) h);refine⟨h1,λx=>?_⟩;rw[rF,h2 x,Ux,fK,or_assoc]
theorem ZF(l:List Dg):Asc (once l):=(JW (l:=l) (acc:=[]) List.Pairwise.nil).1
theorem Az(l:List Dg)(x:Dg):x∈once l↔x∈l:=by rw[once,(JW (l:=l) (acc:=[]) List.Pairwise.nil).2 x];simp
theorem F7:∀{l1 l2:List Dg},Asc l1->Asc l2->(∀x,x∈l1↔x∈l2)->l1=l2
 | [],[],_,_,_=>rfl
 | [],y::_,_,_,h=>aM ((h y).2 dx) dx
 | x::_,[],_,_,h=>aM ((h x).1 dx) dx
 | x::r,y::s,h1,h2,h=>by
  have a1:(∀z∈r,gJ x z=true)/\Asc r:=rU.1 h1;have a2:(∀z∈s,gJ y z=true)/\Asc s:=rU.1 h2;have irr:∀{a b:Dg},gJ a b=true->gJ b a=true->False:=λ{a b} p q=>by have:=uF a;rw[p9 p q]at this;cases this
  have hxy:x=y:=by
   rcases fK.1 ((h x).1 dx)with e|hx;·exact e
   ·rcases fK.1 ((h y).2 dx)with e|hy;·exact e.symm
    ·exact(irr (a1.1 y hy) (a2.1 x hx)).elim
  subst hxy;congr 1;refine F7 a1.2 a2.2 λz=>?_;constructor
  ·intro hz;rcases fK.1 ((h z).1 (pR _ hz))with e|hz';·subst e;have:=uF z;rw[a1.1 z hz]at this;cases this
   ·exact hz'
  ·intro hz;rcases fK.1 ((h z).2 (pR _ hz))with e|hz';·subst e;have:=uF z;rw[a2.1 z hz]at this;cases this
   ·exact hz'
end bJ
theorem Uy(x y:Dg)(w:World):(Op.equalIn 10000 80 (.agg #[O x.code,A x.fn,A x.name]) (.agg #[O y.code,A y.fn,A y.name])).run prog w=.ok (rE x y) w:=by
 obtain⟨u3,a3,z3,u9⟩:=tZ underlying3 Tryz.isAgg3 Tryz.sizeOf3 underlying9;obtain⟨a9,z9⟩:=eY Tryz.isAgg9 Tryz.sizeOf9;have hS:prog.underlying 80=some (.struct (prog.fieldsOf 80)):=by kernel_rfl
 have hp:prog.stoodInHeld 80=false:=by kernel_rfl
 rw[show(10000:Nat)=9999+1 from rfl,run_equalIn_agg w 9999 80 _ _ hS hp];simp only[Program.fieldsOf,underlying80];go_simp;unfold rE;cases h1:(x.code==y.code)<;>cases h2:(x.fn.toList==y.fn.toList)<;>cases h3:(x.name.toList==y.name.toList)<;>simp_all
theorem Og(op:BinOp)(a b:Operand)(x y:Dg)(w:World):(eqGuard op 80 a b (.agg #[O x.code,A x.fn,A x.name]) (.agg #[O y.code,A y.fn,A y.name])).run prog w=.ok () w:=
 run_eqGuard_agg w op _ a b _ _ bR
namespace bJ
def oI:Option Nat->Int
 | some i=>i
 | none=>-1
end bJ
def Jj(w:World)(m b off:Nat)(l:List Fu):Prop:=
 ∀i s,l[i]?=some s->s.name.size<=maxLen/\∃vp vb e0 e1 e2 e3,w.cell? ⟨b,off+i*7,none⟩=some (.string s.name)/\w.cell? ⟨b,off+i*7+1,none⟩=some vp/\w.cell? ⟨b,off+i*7+2,none⟩=some vb/\
   w.cell? ⟨b,off+i*7+3,none⟩=some e0/\w.cell? ⟨b,off+i*7+4,none⟩=some e1/\w.cell? ⟨b,off+i*7+5,none⟩=some e2/\w.cell? ⟨b,off+i*7+6,none⟩=some e3/\
   Strs w vp s.params/\fB w m vb s.body/\gT w m e0 e1 e2 e3 s.result
theorem Jj.below{b:Nat}{l:List Fu}(h:Jj w m b off l)(hb:bG w w'):Jj w' m b off l:=λi s hs=>by obtain⟨k1,vp,vb,e0,e1,e2,e3,g0,g1,g2,g3,g4,g5,g6,hp,hs',hx⟩:=h i s hs;exact⟨k1,vp,vb,e0,e1,e2,e3,aD g0 hb,aD g1 hb,aD g2 hb,aD g3 hb,aD g4 hb,aD g5 hb,aD g6 hb,hp.below hb,hs'.below hb,hx.below hb⟩
theorem box7(w:World)(c0 c1 c2 c3 c4 c5 c6:Value)(t:TypeId):(w.alloc (.cells #[c0,c1,c2,c3,c4,c5,c6] t)).cell? (X w.heap.size 0)=some c0:=by simp[go_sem]
theorem box1(w:World)(c0:Value)(t:TypeId):(w.alloc (.cells #[c0] t)).cell? (X w.heap.size 0)=some c0:=by simp[go_sem]
theorem Rp(w:World)(B:Nat)(s nm:aY)(c1 c2 c3 c4 c5 c6:Value)(hB:w.cell? (X B 0)=some (A s)):Calls prog 276 #[.agg #[A nm,c1,c2,c3,c4,c5,c6],iO B] w λe w'=>e=dz (.bool (dA nm s))/\bG w w':=by have q0:=box7 w (A nm) c1 c2 c3 c4 c5 c6 109;have HB0:=I (aH w (aW #[A nm,c1,c2,c3,c4,c5,c6] 109));have qB:=aD hB HB0;have HE:Hid (dA nm s=(nm.toList==s.toList)):=rfl;clear hB;go_enter func276,ntmps276;go_wp2;go_ret;exact⟨aP HE.symm,HB0⟩
theorem ZG(m:Nat)(w:World)(a:Option Addr)(b off cap n:Nat)(l:List Fu)(s:aY)(B:Nat)(hn:n<=l.length)(hbig:l.length<=9223372036854775807)(ha:0<n->a=some (X b off))(hel:Jj w m b off l)(hB:w.cell? (X B 0)=some (A s)):Calls prog 60 #[Y a n cap,.func (.func 276) #[] #[iO B]] w λe w'=>e=dz (O (oI (FZ l s n)))/\bG w w':=by
 obtain⟨lK,HA,HB⟩:=fD hel ha hB;obtain⟨R,hR⟩:=bC (oI (FZ l s n));have HR:=I hR;rw[<-hR];clear hel ha hB hR;go_enter func60,ntmps60;go_wp2_with fail;go_loopw[5,8] (λ_ i wr=>∃j:Nat,j<=n/\i=O j/\(∀d g,d<j->l[d]?=some g->dA g.name s=false)/\bG w wr) (λ_ i _=>n - (intOf i).toNat);case atStart=>exact⟨0,bL _,rfl,λd g hd=>aM hd (fT _),bP _ _⟩
 case round=>
  obtain⟨j,hj,rfl,hall,hnx⟩:=hrel;obtain⟨fF,fO⟩:=bU hall hnx;clear hall;by_cases hjl:j<n
  ·obtain⟨f,hf⟩:∃f,l[j]?=some f:=⟨_,bD aX⟩;obtain⟨-,vp,vb,e0,e1,e2,e3,g0,g1,g2,g3,g4,g5,g6,-⟩:=lK j f hf;obtain rfl:=HA aX;have HF:=I hf;replace g0:=aD g0 hnx;replace g1:=aD g1 hnx;replace g2:=aD g2 hnx;replace g3:=aD g3 hnx;replace g4:=aD g4 hnx;replace g5:=aD g5 hnx;replace g6:=aD g6 hnx;have HC:=I (Rp wr B s f.name vp vb e0 e1 e2 e3 (aD HB hnx));clear hf hnx;generalize hq:dA f.name s=q at HC;have HQ:=I hq;clear hq;go_wp2_with fail;refine HC.mono ?_;rintro e w5 ⟨rfl,hb5⟩;have d9:=I (up fO hb5);clear hb5 g0 g1 g2 g3 g4 g5 g6;cases q
   ·go_wp2_with fail;go_roundw;case rel=>exact⟨j+1,by omega,by go_num,λd g hd hg=>by
     by_cases e:d=j;·subst e;rw[HF]at hg;cases hg;exact HQ
     ·exact fF d g aX hg,d9⟩
    case measure=>simp[intOf];omega
   ·go_wp2_with fail;go_ret;exact⟨by rw[HR,Zx hjl HF HQ fF];rfl,d9⟩
  ·go_wp2_with fail;go_ret;exact⟨by rw[HR,Wu λd g hd hg=>fF d g aX hg];rfl,fO⟩
theorem Rq(w:World)(a:Option Addr)(n cap:Nat)(k:Nat)(hk:k<=n)(hn:n<=cap):Calls prog 251 #[Y a n cap,O k] w λe w'=>e=dz (Y a k cap)/\w'=w:=by
 have h0:max (k:Int) 0=k:=by omega
 have h1:min (k:Int) n=k:=by omega
 go_enter func251,ntmps251;go_wp2_with fail;go_ret;exact⟨rfl,rfl⟩
def bJ.AA(at':Int)(l:List Fu)(s:aY)(n:Nat):Int × Int × Bool:=match FZ l s n with
 | some i=>(at',i,true)
 | none=>(0,0,false)
theorem JX(m:Nat)(w:World)(a:Option Addr)(b off cap n:Nat)(l:List Fu)(s:aY)(at':Int)(hn:n<=l.length)(hbig:l.length<=9223372036854775807)(ha:0<n->a=some (X b off))(hel:Jj w m b off l):Calls prog 250 #[O at',Y a n cap,A s] w λe w'=>e=dz (.tuple #[O (bJ.AA at' l s n).1,O (bJ.AA at' l s n).2.1,.bool (bJ.AA at' l s n).2.2])/\bG w w':=by
 have HB0:=I (aH w (aW #[A s] 9));have q0:=box1 w (A s) 9;have HC:=I (ZG m (w.alloc (aW #[A s] 9)) a b off cap n l s w.heap.size hn hbig ha (hel.below HB0) q0);obtain⟨R,hR⟩:=bC (bJ.AA at' l s n);have HR:=I hR;rw[<-hR];clear hel ha hR q0;cases hf:FZ l s n with
 | none =>rw[hf]at HC;have HF:=I hf;clear hf;go_enter func250,ntmps250;go_wp2_with fail;refine HC.mono ?_;rintro e w5 ⟨rfl,hb5⟩;have d9:=I (up HB0 hb5);clear hb5;have ho:oI none=-1:=rfl;rw[ho];clear ho;go_wp2;go_ret3;exact Ld (by rw[HR];simp[bJ.AA,HF.out]) d9
 | some i =>rw[hf]at HC;have HF:=I hf;clear hf;go_enter func250,ntmps250;go_wp2_with fail;refine HC.mono ?_;rintro e w5 ⟨rfl,hb5⟩;have d9:=I (up HB0 hb5);clear hb5;have ho:oI (some i)=(i:Int):=rfl;rw[ho];clear ho;go_wp2;go_ret3;exact Ld (by rw[HR];simp[bJ.AA,HF.out]) d9
end Go.Proofs.YtbgkpehhdibaoaaGreatDoor
