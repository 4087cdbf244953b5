import Derived.Lib.AppendIntMem
import Derived.Lib.ItoaLen
import Derived.Test.YtiebmbnfedbdeaaGreatDoorTZAI
set_option maxHeartbeats 0
set_option maxRecDepth 99999
namespace Go.Proofs.YtiebmbnfedbdeaaGreatDoor
open bS
open Go.Proofs.Tryz
open Go.RowKit Go.Maps Go.WideMaps
namespace bS
def yN(ss:List aS)(k:Nat):Bool:=!((ss.take k).any λt=>t.data.toList==(ss.getD k ByteArray.empty).data.toList)&&dZ (ss.getD k ByteArray.empty).data.toList
def mY(ss:List aS):Bool:=(List.range ss.length).all (yN ss)&&decide (0<ss.length)
end bS
theorem Qf:Keyed prog 9:=string_keyed underlying9
theorem Dq(w:bI):(zeroValue 3).run prog w=.ok (O 0) w:=by kernel_rfl
theorem ac9(ss:aJ)(k:Nat)(a:k<ss.length)(p:aS->Bool):(ss.take<|k+1).any p=((ss.take k).any p||p (ss.getD k ByteArray.empty)):=by rw[uW a,List.any_append];simp[List.getD,aZ a]
theorem ada{ss:List ByteArray}{k:Nat}(f:k<ss.length){D:DataW Unit}(g:IsMap D)(e:∀l,Maps.has D (.string l)=(ss.take k).any λt=>t.data.toList==l)(d:DataW Unit):∀l,Maps.has (D.put (.string (ss.getD k ByteArray.empty).data.toList) d) (.string l)=(ss.take<|k+1).any λt=>t.data.toList==l:=by
 intro l;rw[ac9 ss k f];by_cases a:l=(ss.getD k ByteArray.empty).data.toList;·subst a;rw[has_put_same g (by simp[WideAt.IsKeyLit])];simp
 ·rw[has_put_other (by intro b;exact a<|by injection b),e l];have c:((ss.getD k ByteArray.empty).data.toList==l)=false:=beq_eq_false_iff_ne.2 (λb=>a b.symm);rw[c,Bool.or_false]
theorem aan{ss:aJ}(b:∀s∈ss,s.size<=maxLen)(k:Nat):(ss.getD k ByteArray.empty).size<=maxLen:=by
 by_cases a:k<ss.length;·rw[List.getD,aZ a];exact b _<|kZ a
 ·rw[List.getD,Ry bC];exact bN _
theorem adE(w:World)(v:Value)(ss:List ByteArray)(V:Strs w v ss):Calls prog 51 #[v] w λg w'=>g=.returned (.bool<|mY ss)/\Below w.heap.size w w':=by
 obtain⟨a,b,off,cap,rfl,G,hl,Q,n⟩:=V;obtain⟨len,z⟩:=aV ss.length;rw[<-z]at G hl n ⊢;have h:Hid (len=ss.length):=z;clear z;have aa:=@run_makeMap prog;go_enter func51,ntmps51;go_wp2;go_loopw[11] (λi wr=>∃k:Nat,k<=len/\i=.int .i64 k/\(∀d,d<k->yN ss d=true)/\Below w.heap.size w wr/\∃D:DataW Unit,wr.ownsMap prog 9 (plainElem prog 3) w.heap.size k D/\∀l,Maps.has D (.string l)=(ss.take k).any λt=>t.data.toList==l) (λi _=>len - (intOf i).toNat);exact⟨0,bN _,rfl,λd x=>aM x<|fU _,(bQ _ _).alloc (bG _) _,.map [],World.ownsMap_made _ _ _ _,λl=>rfl⟩
 obtain⟨k,hk,rfl,H,e,D,f,L⟩:=hrel;have E:Hid (∀d,d<k->yN ss d=true):=H;have r:Hid (∀l,Maps.has D (.string l)=(ss.take k).any λt=>t.data.toList==l):=L;clear H L aa;by_cases p:k<len
 ·obtain rfl:=G (by omega);obtain⟨s,q⟩:=aV<|ss.getD k ByteArray.empty;have W:wr.cell? ⟨b,off+k,none⟩=some (.string s):=by rw[q];rw[e.cell (eH _ _<|n k p)];exact n k p
  have C:s.size<=maxLen:=by rw[q];exact aan Q k
  have o:keyOf prog 9 (.string s)=some (.string s.data.toList):=keyOf_string_mk underlying9 C;have u:Hid (s=ss.getD k ByteArray.empty):=q;have I:Maps.has D (.string s.data.toList)=true\/dZ s.data.toList=false->mY ss=false:=by
   intro m;have:yN ss k=false:=by unfold yN;rw[<-u,<-r];rcases m with m|m<;>simp[m]
   unfold mY;rw[bS.all_false (by rw[<-h];exact p) this];rfl
  have F:=Y I;clear q n Q I;cases y:Maps.has D (.string s.data.toList)
  ·cases P:dZ s.data.toList
   ·go_wp2_with (first
     | (at_lookup;refine wpList_lookup_own_ok_int _ rfl _ _ 117 rfl 9 3 .i64 Qf underlying117 underlying3 (Dq _) w.heap.size k D rfl f _ _ rfl o ?_;intro c _ _)
     | (go_at_call 67;refine(GA _ s C).mono ?_;rintro g w' ⟨rfl,rfl⟩)
     | go_in)
    go_ret;exact⟨aW ((gT F) (aQ P)).symm,e⟩
   ·go_wp2_with (first
     | (at_lookup;refine wpList_lookup_own_ok_int _ rfl _ _ 117 rfl 9 3 .i64 Qf underlying117 underlying3 (Dq _) w.heap.size k D rfl f _ _ rfl o ?_;intro c _ _)
     | (go_at_call 67;refine(GA _ s C).mono ?_;rintro g w' ⟨rfl,rfl⟩)
     | (at_mapUpdate;refine wpList_mapUpdate_own _ rfl _ _ _ 117 rfl 9 3 Qf underlying117 _ w.heap.size k _ rfl f (by unfold maxLen;omega) _ _ _ rfl rfl o _ [] (plainElem_int underlying3<|WalkArith.wf_i64<|by omega) ?_)
     | go_in)
    intro w1 ab K;have U:=e.grown K e.size (λj Z=>by cases Z;exact bG _);have N:yN ss k=true:=by unfold yN;rw[<-u,<-r,y,P];rfl
    have B:=ada (k:=k) (by rw[<-h];exact p) f.isMap r (.lit<|.int .i64 k);rw[<-u]at B;obtain⟨S,R⟩:=bV B N;clear K f W N B y;go_wp2;go_roundw;exact⟨k+1,by omega,by go_num,λd x=>by
     by_cases g:d=k;·subst g;exact gT R
     ·exact E d (by omega),U,_,ab,gT S⟩
    simp[intOf];omega
  ·go_wp2_with (first
    | (at_lookup;refine wpList_lookup_own_ok_int _ rfl _ _ 117 rfl 9 3 .i64 Qf underlying117 underlying3 (Dq _) w.heap.size k D rfl f _ _ rfl o ?_;intro c _ _)
    | go_in)
   go_ret;exact⟨aW ((gT F) (aO y)).symm,e⟩
 ·go_wp2;go_ret;refine⟨aW ?_,e⟩;unfold mY;rw[bS.all_true (λd x=>E d (by have:=h.out;omega)),<-h];simp
def Tab(w:bI):Prop:=Lib.TabIs prog w "internal/strconv.uint64pow10" .u64 Lib.pow10Tab
theorem adb:(prog.globalNamed "internal/strconv.uint64pow10").isSome=true:=by kernel_rfl
theorem Tab.below{w w':bI}(a:Tab w)(b:bK w w'):Tab w':=by obtain⟨g,hg⟩:=sF.1 adb;exact Joins.tab_stays hg a b<|bG _
namespace bS
def Fq(t:Ex->aS)(acc:aS)(y:Ex):aS:=acc++((⟨#[32]⟩:aS)++t y)
def Fv(x:Ex):aS:=(if x.kind=4 then (⟨#[40,99,97,108,108,32]⟩:aS)else ⟨#[40]⟩)++x.name
def zT:Nat->Ex->aS
 | 0,_=>⟨#[]⟩
 | m+1,x=>if x.kind=1 then ⟨(Lib.itoa x.n).toArray⟩else if x.kind=2 then x.name else x.args.foldl (Fq (zT m)) (Fv x)++(⟨#[41]⟩:aS)
end bS
theorem yO{f g:Ex->Nat}:∀{l:List Ex},(∀(i:Nat) (x:Ex),l[i]?=some x->f x<=g x)->(l.map f).sum<=(l.map g).sum
 | [],_=>bG _
 | x::l,a=>by have c:=a 0 x rfl;have d:=yO (l:=l) (λi y b=>a (i+1) y<|by simpa using b);simp only[fZ,jI];omega
theorem wW{α:Type}{f:α->Nat}{y:α}:∀{l:List α},y∈l->f y<=(l.map f).sum
 | x::l,h=>by
  simp only[fZ,jI];rcases fV.1 h with rfl|h;·omega
  ·have:=wW (f:=f) h;omega
