import Derived.Test.YtiebmbnfedbdeaaGreatDoorTZAJ
set_option maxHeartbeats 0
set_option maxRecDepth 99999
namespace Go.Proofs.YtiebmbnfedbdeaaGreatDoor
open bO
open Go.Proofs.Tryz
open Go.RowKit
namespace Rn
structure Vr where
 val:Int
 rd:Bool
 st:Bool
structure gM where
 fuel:Nat
 vs:List Vr
 pr:List (ByteArray × Int)
abbrev Own:=ByteArray->Option Int
def put(o:Own)(n:aS)(v:Int):Own:=λs=>if cB s n=true then some v else o s
def pos(nm:List (aS × aS))(mod name:aS):Option Nat:=(List.range nm.length).find? λi=>match nm[i]? with|some v=>cB v.1 mod&&cB v.2 name|none=>false
def sh(nm:List (aS × aS))(mn:aS)(o:Own)(n:aS):Option Nat:=if (o n).isSome=true then none else pos nm mn n
def gt(nm:List (aS × aS))(mn:aS)(o:Own)(n:aS)(s:gM):Int × gM:=
 match sh nm mn o n with
 | none=>((o n).getD 0,s)
 | some i=>((s.vs[i]?.map (·.val)).getD 0,{ s with vs:=s.vs.modify i λv=>{ v with rd:=true } })
def pt(nm:List (aS × aS))(mn:aS)(o:Own)(n:aS)(x:Int)(s:gM):Own × gM:=
 match sh nm mn o n with
 | none=>(put o n x,s)
 | some i=>(o,{ s with vs:=s.vs.modify i λv=>{ v with val:=x,st:=true } })
def Nt(s:gM):Int:=if s.fuel=0 then 6 else 0
def fq(s:gM):gM:={ s with fuel:=s.fuel - 1 }
def qX(s:gM):Option gM:=if s.fuel=0 then none else some { s with fuel:=s.fuel - 1 }
def tr(b:Bool):Int:=if b=true then 1 else 0
def ap(op:aS)(a b:Int):Int:=
 if (op.toList==[43])=true then wrap64 (a+b)else if (op.toList==[45])=true then wrap64 (a - b)else if (op.toList==[42])=true then wrap64 (a*b)
 else if (op.toList==[60])=true then tr (decide (a<b))else tr (a==b)
structure FJ where
 ev:Nat->Nat->Own->Ex->gM->Int × Int × gM
 dO:Nat->Nat->Own->St->gM->Int × Own × gM
 lp:Nat->Nat->Own->St->gM->Int × Own × gM
def evs(f:Ex->gM->Int × Int × gM):List Ex->gM->List Int × Int × gM
 | [],s=>([],0,s)
 | x::l,s=>if (f x s).2.1=0 then ((f x s).1::(evs f l (f x s).2.2).1,(evs f l (f x s).2.2).2)else ([],(f x s).2)
def rA(f:Own->St->gM->Int × Own × gM):List St->Own->gM->Int × Own × gM
 | [],o,s=>(0,o,s)
 | c::l,o,s=>if (f o c s).1=0 then rA f l (f o c s).2.1 (f o c s).2.2 else f o c s
def qD(ps:List aS)(args:List Int):Own:=(ps.zip args).foldl (λo p=>put o p.1 p.2) (λ_=>none)
def enter(F:FJ)(l:List Mo)(c k:Nat)(args:List Int)(s:gM):Int × Int × gM:=
 match l[c]?.bind λm=>m.bq[k]? with
 | none=>(0,0,s)
 | some f=>if f.params.length=args.length then
   if (rA (F.dO c k) f.body (qD f.params args) s).1=0 then F.ev c k (rA (F.dO c k) f.body (qD f.params args) s).2.1 f.result (rA (F.dO c k) f.body (qD f.params args) s).2.2
   else (0,(rA (F.dO c k) f.body (qD f.params args) s).1,(rA (F.dO c k) f.body (qD f.params args) s).2.2)
  else (0,5,s)
def call(F:FJ)(l:List Mo)(c k:Nat)(name:aS)(args:List Int)(s:gM):Int × Int × gM:=
 match qX s,l[c]? with
 | none,_=>(0,6,s)
 | some s1,none=>(0,0,s1)
 | some s1,some x=>if (fF x k name l).2.2=false then (0,4,s1)
  else enter F l (if (fF x k name l).1<0 then c else (fF x k name l).1.toNat) (fF x k name l).2.1.toNat args s1
def mn(l:List Mo)(c:Nat):aS:=(l[c]?.map (·.name)).getD ⟨#[]⟩
def step(nm:List (aS × aS))(l:List Mo)(F:FJ):FJ where
 ev d k o x s:=
  if x.kind=1 then (x.n,0,s)
  else if x.kind=2 then ((gt nm (mn l d) o x.name s).1,0,(gt nm (mn l d) o x.name s).2)
  else if (evs (F.ev d k o) x.args s).2.1=0 then
   if x.kind=4 then call F l d k x.name (evs (F.ev d k o) x.args s).1 (evs (F.ev d k o) x.args s).2.2
   else (ap x.name ((evs (F.ev d k o) x.args s).1.getD 0 0) ((evs (F.ev d k o) x.args s).1.getD 1 0),0,(evs (F.ev d k o) x.args s).2.2)
  else (0,(evs (F.ev d k o) x.args s).2)
 dO d k o c s:=match qX s with
  | none=>(6,o,s)
  | some s1=>
   if c.kind=3 then F.lp d k o c s1
   else if (F.ev d k o c.e s1).2.1=0 then
    if c.kind=1 then (0,pt nm (mn l d) o c.name (F.ev d k o c.e s1).1 (F.ev d k o c.e s1).2.2)
    else if c.kind=4 then (0,o,{ (F.ev d k o c.e s1).2.2 with pr:=(F.ev d k o c.e s1).2.2.pr++[(c.name,(F.ev d k o c.e s1).1)] })
    else if (F.ev d k o c.e s1).1=0 then rA (F.dO d k) c.b o (F.ev d k o c.e s1).2.2
    else rA (F.dO d k) c.a o (F.ev d k o c.e s1).2.2
   else ((F.ev d k o c.e s1).2.1,o,(F.ev d k o c.e s1).2.2)
 lp d k o c s:=
  if (F.ev d k o c.e s).2.1=0/\(F.ev d k o c.e s).1≠0 then
   if (rA (F.dO d k) c.a o (F.ev d k o c.e s).2.2).1=0 then
    match qX (rA (F.dO d k) c.a o (F.ev d k o c.e s).2.2).2.2 with
    | none=>(6,(rA (F.dO d k) c.a o (F.ev d k o c.e s).2.2).2)
    | some s2=>F.lp d k (rA (F.dO d k) c.a o (F.ev d k o c.e s).2.2).2.1 c s2
   else rA (F.dO d k) c.a o (F.ev d k o c.e s).2.2
  else ((F.ev d k o c.e s).2.1,o,(F.ev d k o c.e s).2.2)
def M(nm:List (aS × aS))(l:List Mo):Nat->FJ
 | 0=>⟨λ_ _ _ _ s=>(0,0,s),λ_ _ o _ s=>(0,o,s),λ_ _ o _ s=>(0,o,s)⟩
 | g+1=>step nm l (M nm l g)
structure Mea(μ:gM->Nat):Prop where
 vs:∀s v,μ { s with vs:=v }=μ s
 qX:∀s s1,Rn.qX s=some s1->μ s1+1<=μ s
 pr:∀s d,μ { s with pr:=s.pr++[d] }<=μ s+1
def Le(μ:gM->Nat)(F:FJ):Prop:=(∀a k o x s,μ (F.ev a k o x s).2.2<=μ s)/\(∀a k o c s,μ (F.dO a k o c s).2.2<=μ s)/\(∀a k o c s,μ (F.lp a k o c s).2.2<=μ s)
theorem kU{s:gM}(h:s.fuel=0):qX s=none/\Nt s=6/\fq s=s:=by refine⟨by simp[qX,h],by simp[Nt,h],?_⟩;obtain⟨f,v,p⟩:=s;simp only at h;subst h;rfl
theorem qE{s:gM}(h:s.fuel≠0):qX s=some (fq s)/\Nt s=0:=⟨by simp[qX,fq,h],by simp[Nt,h]⟩
theorem zY{s s1:gM}(h:qX s=some s1):s.fuel=s1.fuel+1/\s1.vs=s.vs/\s1.pr=s.pr:=by
 unfold qX at h;split at h;·cases h
 ·cases h;refine⟨?_,rfl,rfl⟩;show s.fuel=s.fuel - 1+1;omega
theorem Sl:Mea (·.fuel):=⟨λ_ _=>rfl,λs s1 h=>by have:=(zY h).1;show s1.fuel+1<=s.fuel;omega,λ_ _=>dN _⟩
theorem ahp:Mea (λs=>s.pr.length+s.fuel):=⟨λ_ _=>rfl,λs s1 c=>by obtain⟨f,_,e⟩:=zY c;simp only[e];omega,λs d=>by simp only[bg,iI];omega⟩
section
variable {μ : gM → Nat} (U : Mea μ)
include U
theorem akq(nm:List (aS × aS))(m:aS)(o:Own)(n:aS)(s:gM):μ (gt nm m o n s).2=μ s:=by
 unfold gt;split;·rfl
 ·exact U.vs _ _
theorem MG(nm:List (aS × aS))(m:aS)(o:Own)(n:aS)(x:Int)(s:gM):μ (pt nm m o n x s).2=μ s:=by
 unfold pt;split;·rfl
 ·exact U.vs _ _
omit U in
theorem YL{f:Ex->gM->Int × Int × gM}(c:∀x s,μ (f x s).2.2<=μ s):∀(l:List Ex) (s:gM),μ (evs f l s).2.2<=μ s
 | [],s=>bG _
 | x::l,s=>by
  unfold evs;split;·exact bE (YL c l _)<|c x s
  ·exact c x s
omit U in
theorem DI{f:Own->St->gM->Int × Own × gM}(d:∀o c s,μ (f o c s).2.2<=μ s):∀(l:List St) (o:Own) (s:gM),μ (rA f l o s).2.2<=μ s
 | [],_,s=>bG _
 | x::l,o,s=>by
  unfold rA;split;·exact bE (DI d l _ _)<|d o x s
  ·exact d o x s
omit U in
theorem Nu{F:FJ}(d:Le μ F)(l:List Mo)(a k:Nat)(args:List Int)(s:gM):μ (enter F l a k args s).2.2<=μ s:=by
 unfold enter;split;·exact bG _
 ·rename_i f _;have e:=DI (λo c s=>d.2.1 a k o c s) f.body (qD f.params args) s;split
  ·split;·exact bE (d.1 _ _ _ _ _) e
   ·exact e
  ·exact bG _
theorem adH{F:FJ}(d:Le μ F)(l:List Mo)(a k:Nat)(n:aS)(args:List Int)(s:gM):μ (call F l a k n args s).2.2<=μ s:=by
 unfold call;split;·exact bG _
 ·rename_i s1 c _;have:=U.qX _ _ c;show μ s1<=μ s;omega
 ·rename_i s1 x c _;have:=U.qX _ _ c;split;·show μ s1<=μ s;omega
  ·refine bE (Nu d l _ _ args s1) ?_;omega
theorem adI{nm:List (aS × aS)}{l:List Mo}{F:FJ}(e:Le μ F):Le μ (step nm l F):=by
 refine⟨λa k o x s=>?_,λa k o c s=>?_,λa k o c s=>?_⟩
 ·have d:=YL (λx s=>e.1 a k o x s) x.args s;simp only[step];split;·exact bG _
  ·split;·exact Nat.le_of_eq<|akq U _ _ _ _ _
   ·split
    ·split;·exact bE (adH U e l _ _ _ _ _) d
     ·exact d
    ·exact d
 ·simp only[step];split;·exact bG _
  ·rename_i s1 g;have i:=U.qX _ _ g;have d:=e.1 a k o c.e s1;have f:μ s1<=μ s:=by omega
   split;·exact bE (e.2.2 _ _ _ _ _) f
   ·split
    ·split;·show μ (pt nm (mn l a) o c.name (F.ev a k o c.e s1).1 (F.ev a k o c.e s1).2.2).2<=μ s;rw[MG U];exact bE d f
     ·split;·have:=U.pr (F.ev a k o c.e s1).2.2 (c.name,(F.ev a k o c.e s1).1);refine bE this ?_;omega
      ·split;·exact bE (DI (λo c s=>e.2.1 a k o c s) _ _ _)<|bE d f
       ·exact bE (DI (λo c s=>e.2.1 a k o c s) _ _ _)<|bE d f
    ·exact bE d f
 ·have d:=e.1 a k o c.e s;have h:=DI (λo c s=>e.2.1 a k o c s) c.a o (F.ev a k o c.e s).2.2;simp only[step];split
  ·split
   ·split;·exact bE h d
    ·rename_i s2 g;have i:=U.qX _ _ g;refine bE (e.2.2 _ _ _ _ _) ?_;omega
   ·exact bE h d
  ·exact d
theorem Io(nm:List (aS × aS))(l:List Mo):∀g,Le μ<|M nm l g
 | 0=>⟨λ_ _ _ _ _=>bG _,λ_ _ _ _ _=>bG _,λ_ _ _ _ _=>bG _⟩
 | g+1=>adI U<|Io nm l g
end
theorem WH(nm:List (aS × aS))(l:List Mo)(g:Nat):Le (·.fuel) (M nm l g):=Io Sl nm l g
theorem Ww(nm:List (aS × aS))(l:List Mo)(g:Nat):Le (λs=>s.pr.length+s.fuel) (M nm l g):=Io ahp nm l g
end Rn
open Go.Maps Go.WideMaps
variable{a s t x y:aS}{b n n':Nat}{w w':bI}{v:aC}{nm:List (aS × aS)}{bs:List Nat}
theorem adK:laidOutB prog=true:=by kernel_rfl
theorem uY:Keyed prog 9:=string_keyed underlying9
theorem Sn:134<prog.types.size:=iP dw
theorem aav:(match prog.underlying 134 with|some (.array _ _)|some (.struct _)=>true|_=>false)=true:=by rw[underlying134]
theorem ahq:prog.keyTypeAt 2 134=true:=by kernel_rfl
theorem DJ:Keyed prog 134:=Keyed.of_law<|deep_law_laid (m:=2) adK bM Sn ahq aav
theorem ahr:prog.keyType 134=true:=by kernel_rfl
theorem V3:prog.cellsOf 134=2:=by kernel_rfl
theorem Nv:prog.cellsOf 9=1:=by kernel_rfl
theorem ahs{P:Program}{k:TypeId}{f0 f1:Field}(hk:P.underlying k=some (.struct #[f0,f1]))(hkt:P.keyType k=true)(hc:P.cellsOf k=2)(h0:P.underlying f0.type=some .string)(h1:P.underlying f1.type=some .string)(c0:P.cellsOf f0.type=1)(c1:P.cellsOf f1.type=1)(o0:f0.offset=0)(o1:f1.offset=1)(n0:(f0.name != "_")=true)(n1:(f1.name != "_")=true)(ht:0<P.types.size){a b:ByteArray}(ha:a.size<=maxLen)(hb:b.size<=maxLen):∃kl,keyOf P k (.agg #[.string a,.string b])=some kl:=by
 obtain⟨d,hd⟩:∃d,P.types.size=d+1:=Nat.exists_eq_succ_of_ne_zero (by omega);have e0:P.keyLits (d+1) f0.type [.string a]=some [.string a.data.toList]:=by simp[Program.keyLits,h0,ha]
 have e1:P.keyLits (d+1) f1.type [.string b]=some [.string b.data.toList]:=by simp[Program.keyLits,h1,hb]
 refine⟨.string (keyBytes [.string a.data.toList,.string b.data.toList]),?_⟩;have e2:P.keyLits (d+1+1) k [.string a,.string b]=some [.string a.data.toList,.string b.data.toList]:=by unfold Program.keyLits;simp only[hk];rw[aK ⟨by rw[hc];rfl,by simp[n0,n1]⟩];simp[c0,c1,o0,o1,e0,e1]
 simp[keyOf,hk,hkt,Value.formed,hc,hd,Value.cells,e2]
theorem Sq(w:bI):(zeroValue 3).run prog w=.ok (O 0) w:=by kernel_rfl
theorem adL(w:bI):(zeroValue 140).run prog w=.ok (.pointer none) w:=by kernel_rfl
theorem Sw{b:aS}(c:a.size<=maxLen)(d:b.size<=maxLen):∃kl,keyOf prog 134 (.agg #[A a,A b])=some kl:=
 ahs underlying134 ahr V3 underlying9 underlying9 Nv Nv rfl rfl bM bM (Nat.lt_of_le_of_lt (bN _) Sn) c d
def nS(w:bI)(b n:Nat)(o:Rn.Own):Prop:=
 ∃D:DataW Unit,w.ownsMap prog 9 (plainElem prog 3) b n D/\∀s:aS,s.size<=maxLen->
  (Maps.has D (.string s.data.toList)=(o s).isSome/\D.atKey (.string s.data.toList) (.lit (.int .i64 0))=.lit (.int .i64 ((o s).getD 0)))
theorem nS.kept{o:Rn.Own}{row:Option Nat}(c:nS w b n o)(hg:w.grownBy w' row)(f:some b≠row):nS w' b n o:=by obtain⟨D,d,e⟩:=c;exact⟨D,d.kept hg f,e⟩
theorem nS.same{o:Rn.Own}(e:nS w b n o)(i:w'.heap[b]?=w.heap[b]?):nS w' b n o:=by obtain⟨D,⟨d,c,f,g⟩,h⟩:=e;exact⟨D,⟨d,c,by rw[i];exact f,g⟩,h⟩
theorem nS.mono{o:Rn.Own}(c:nS w b n o)(f:n<=n'):nS w b n' o:=by obtain⟨D,d,e⟩:=c;exact⟨D,d.mono f,e⟩
theorem nS.lt{o:Rn.Own}(c:nS w b n o):b<w.heap.size:=by obtain⟨D,d,_⟩:=c;exact d.lt
theorem nS.isMap{o:Rn.Own}(e:nS w b n o):∃d c,w.heap[b]?=some (.map d c):=by obtain⟨D,⟨d,c,f,_⟩,_⟩:=e;exact⟨d,c,f⟩
theorem nS.new(w:bI):nS (w.alloc<|.map #[] 0) w.heap.size 0 (λ_=>none):=
 ⟨.map [],World.ownsMap_made _ _ _ _,λ_ _=>⟨rfl,rfl⟩⟩
theorem yV(h:cB s t=false):(Lit.string s.data.toList)≠(Lit.string t.data.toList):=λe=>by injection e with e;rw[cB,Lib.toList_data,Lib.toList_data,e]at h;simp at h
theorem key_eq(h:cB s t=true):s=t:=toList_inj (by rw[cB,beq_iff_eq]at h;exact h)
theorem nS.put{w:World}{b n:Nat}{o:Rn.Own}(f:nS w b n o)(j:n<maxLen){s:ByteArray}(k:s.size<=maxLen){v:Int}(m:mq v):∃w',(Instr.mapUpdate 117 (.map<|some b) (.string s)<|.int .i64 v).run prog w=.ok () w'/\nS w' b (n+1) (Rn.put o s v)/\w.grownBy w' (some b):=by
 obtain⟨D,d,g⟩:=f;have p:(Lit.int .i64 v).wf=true:=by simpa[mq,Lit.wf,IntKind.min,IntKind.max,IntKind.signed,IntKind.bits]using m
 obtain⟨w',e,h,i⟩:=d.update uY underlying117 j (keyOf_string_mk underlying9 k)<|plainElem_int underlying3 p;refine⟨w',e,⟨_,h,λt l=>?_⟩,i⟩;cases c:cB t s with
 | true =>have:=key_eq c;subst this;rw[has_put_same d.isMap (show WideAt.IsKeyLit (.string t.data.toList)from trivial),atKey_put_same d.isMap<|show WideAt.IsKeyLit (.string t.data.toList)from trivial];simp[Rn.put,c]
 | false =>rw[has_put_other (yV c),atKey_put_other<|yV c];simpa[Rn.put,c]using g t l
theorem nS.look{o:Rn.Own}(g:nS w b n o)(e:s.size<=maxLen):(Instr.lookup 117 (.map<|some b) (A s) false).run prog w=.ok (O<|(o s).getD 0) w:=by obtain⟨D,h,i⟩:=g;obtain⟨c,f,d,_⟩:=h.lookup_int uY underlying117 underlying3 (Sq w)<|keyOf_string_mk underlying9 e;rw[(i s e).2]at d;simp only[DataW.lit.injEq,Lit.int.injEq,true_and]at d;rw[f,d]
theorem nS.sS{o:Rn.Own}(i:nS w b n o)(d:s.size<=maxLen):(Instr.lookup 117 (.map<|some b) (A s) true).run prog w=.ok (.tuple #[O ((o s).getD 0),.bool (o s).isSome]) w:=by obtain⟨D,j,e⟩:=i;obtain⟨v,ps,h,f⟩:=j.look_ok uY underlying117 (Sq w) (zd:=.lit<|.int .i64 0) (zp:=[]) (plainElem_int underlying3 bM)<|keyOf_string_mk underlying9 d;rw[(e s d).2]at f;obtain⟨c,rfl,g,_⟩:=plainElem_int_inv underlying3 f;simp only[pO,DataW.lit.injEq,Lit.int.injEq,true_and]at g;rw[h,(e s d).1,g.1]
def DK:Value->Option (DataW Unit × List MemPlace)
 | .pointer none=>some (.nil,[])
 | .pointer (some ⟨b,0,none⟩)=>some (.lit (.int .i64 b),[])
 | _=>none
theorem Sy{ps:List MemPlace}(h:DK v=some (.nil,ps)):v=.pointer none:=by unfold DK at h;split at h<;>simp_all
theorem V4{ps:List MemPlace}(h:DK v=some (.lit<|.int .i64 b,ps)):v=gK b:=by unfold DK at h;split at h<;>simp_all<;>omega
def yX(bs:List Nat):Option Nat->Value
 | none=>.pointer none
 | some i=>.pointer (some ⟨bs.getD i 0,0,none⟩)
def Wj(bs:List Nat):Option Nat->DataW Unit
 | none=>.nil
 | some i=>.lit (.int .i64 ((bs.getD i 0:Nat):Int))
def YM(w:bI)(b n:Nat)(nm:List (aS × aS))(bs:List Nat):Prop:=
 ∃D:DataW Unit,w.ownsMap prog 134 DK b n D/\∀x y:aS,x.size<=maxLen->y.size<=maxLen->∀c,keyOf prog 134 (.agg #[.string x,.string y])=some c->D.atKey c .nil=Wj bs (Rn.pos nm x y)
theorem YM.same(e:YM w b n nm bs)(i:w'.heap[b]?=w.heap[b]?):YM w' b n nm bs:=by obtain⟨D,⟨d,c,f,g⟩,h⟩:=e;exact⟨D,⟨d,c,by rw[i];exact f,g⟩,h⟩
theorem YM.isMap(e:YM w b n nm bs):∃d c,w.heap[b]?=some (.map d c):=by obtain⟨D,⟨d,c,f,_⟩,_⟩:=e;exact⟨d,c,f⟩
theorem YM.look(j:YM w b n nm bs)(f:x.size<=maxLen)(g:y.size<=maxLen):(Instr.lookup 128 (.map<|some b) (.agg #[A x,A y]) false).run prog w=.ok (yX bs<|Rn.pos nm x y) w:=by
 obtain⟨D,k,l⟩:=j;obtain⟨m,d⟩:=Sw f g;obtain⟨v,ps,h,c⟩:=k.lookup DJ underlying128 (adL w) (zd:=.nil) (zp:=[]) rfl d;rw[l x y f g m d]at c;rw[h];cases e:Rn.pos nm x y with
 | none=>rw[e]at c;rw[Sy c];rfl
 | some i=>rw[e]at c;rw[V4 c];rfl
