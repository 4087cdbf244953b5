import Derived.Lib.AppendIntMem
import Derived.Lib.ItoaLen
import Derived.Test.YtajaekfdcpjjfaaGreatDoorDZAI
set_option maxHeartbeats 0
set_option maxRecDepth 99999
namespace Go.Proofs.YtajaekfdcpjjfaaGreatDoor
open bS
open Go.Proofs.Tryz
open Go.RowKit Go.Maps Go.WideMaps
namespace bS
def yN(ss:List aS)(k:Nat):Bool:=!((ss.take k).any λt=>t.data.toList==(ss.getD k ByteArray.empty).data.toList)&&dZ (ss.getD k ByteArray.empty).data.toList
def mY(ss:List aS):Bool:=(List.range ss.length).all (yN ss)&&decide (0<ss.length)
end bS
theorem Qf:Keyed prog 9:=string_keyed underlying9
theorem Dq(w:bI):(zeroValue 3).run prog w=.ok (O 0) w:=by kernel_rfl
theorem ac9(ss:aJ)(k:Nat)(a:k<ss.length)(p:aS->Bool):(ss.take<|k+1).any p=((ss.take k).any p||p (ss.getD k ByteArray.empty)):=by rw[uW a,List.any_append];simp[List.getD,aZ a]
theorem ada{ss:List ByteArray}{k:Nat}(g:k<ss.length){a:DataW Unit}(h:IsMap a)(f:∀l,Maps.has a (.string l)=(ss.take k).any λt=>t.data.toList==l)(d:DataW Unit):∀l,Maps.has (a.put (.string (ss.getD k ByteArray.empty).data.toList) d) (.string l)=(ss.take<|k+1).any λt=>t.data.toList==l:=by
 intro l;rw[ac9 ss k g];by_cases b:l=(ss.getD k ByteArray.empty).data.toList;·subst b;rw[has_put_same h (by simp[WideAt.IsKeyLit])];simp
 ·rw[has_put_other (by intro c;exact b<|by injection c),f l];have e:((ss.getD k ByteArray.empty).data.toList==l)=false:=beq_eq_false_iff_ne.2 (λc=>b c.symm);rw[e,Bool.or_false]
theorem aan{ss:aJ}(b:∀s∈ss,s.size<=maxLen)(k:Nat):(ss.getD k ByteArray.empty).size<=maxLen:=by
 by_cases a:k<ss.length;·rw[List.getD,aZ a];exact b _<|kZ a
 ·rw[List.getD,Ry bC];exact bN _
theorem adE(w:World)(v:Value)(ss:List ByteArray)(U:Strs w v ss):Calls prog 85 #[v] w λh w'=>h=.returned (.bool<|mY ss)/\Below w.heap.size w w':=by
 obtain⟨a,b,off,cap,rfl,G,Z,P,o⟩:=U;obtain⟨len,B⟩:=aV ss.length;rw[<-B]at G Z o ⊢;have m:Hid (len=ss.length):=B;clear B;have aa:=@run_makeMap prog;go_enter func85,ntmps85;go_wp2;go_loopw[11] (λi wr=>∃k:Nat,k<=len/\i=.int .i64 k/\(∀d,d<k->yN ss d=true)/\Below w.heap.size w wr/\∃e:DataW Unit,wr.ownsMap prog 9 (plainElem prog 3) w.heap.size k e/\∀l,Maps.has e (.string l)=(ss.take k).any λt=>t.data.toList==l) (λi _=>len - (intOf i).toNat);exact⟨0,bN _,rfl,λd y=>aM y<|fU _,(bQ _ _).alloc (bG _) _,.map [],World.ownsMap_made _ _ _ _,λl=>rfl⟩
 obtain⟨k,hk,rfl,H,f,e,g,L⟩:=hrel;have E:Hid (∀d,d<k->yN ss d=true):=H;have u:Hid (∀l,Maps.has e (.string l)=(ss.take k).any λt=>t.data.toList==l):=L;clear H L aa;by_cases q:k<len
 ·obtain rfl:=G (by omega);obtain⟨s,r⟩:=aV<|ss.getD k ByteArray.empty;have V:wr.cell? ⟨b,off+k,none⟩=some (.string s):=by rw[r];rw[f.cell (eH _ _<|o k q)];exact o k q
  have D:s.size<=maxLen:=by rw[r];exact aan P k
  have p:keyOf prog 9 (.string s)=some (.string s.data.toList):=keyOf_string_mk underlying9 D;have x:Hid (s=ss.getD k ByteArray.empty):=r;have I:Maps.has e (.string s.data.toList)=true\/dZ s.data.toList=false->mY ss=false:=by
   intro n;have:yN ss k=false:=by unfold yN;rw[<-x,<-u];rcases n with n|n<;>simp[n]
   unfold mY;rw[bS.all_false (by rw[<-m];exact q) this];rfl
  have F:=Y I;clear r o P I;cases z:Maps.has e (.string s.data.toList)
  ·cases N:dZ s.data.toList
   ·go_wp2_with (first
     | (at_lookup;refine wpList_lookup_own_ok_int _ rfl _ _ 164 rfl 9 3 .i64 Qf underlying164 underlying3 (Dq _) w.heap.size k e rfl g _ _ rfl p ?_;intro c _ _)
     | (go_at_call 110;refine(GA _ s D).mono ?_;rintro h w' ⟨rfl,rfl⟩)
     | go_in)
    go_ret;exact⟨aW ((gT F) (aQ N)).symm,f⟩
   ·go_wp2_with (first
     | (at_lookup;refine wpList_lookup_own_ok_int _ rfl _ _ 164 rfl 9 3 .i64 Qf underlying164 underlying3 (Dq _) w.heap.size k e rfl g _ _ rfl p ?_;intro c _ _)
     | (go_at_call 110;refine(GA _ s D).mono ?_;rintro h w' ⟨rfl,rfl⟩)
     | (at_mapUpdate;refine wpList_mapUpdate_own _ rfl _ _ _ 164 rfl 9 3 Qf underlying164 _ w.heap.size k _ rfl g (by unfold maxLen;omega) _ _ _ rfl rfl p _ [] (plainElem_int underlying3<|WalkArith.wf_i64<|by omega) ?_)
     | go_in)
    intro w1 ab K;have S:=f.grown K f.size (λj W=>by cases W;exact bG _);have M:yN ss k=true:=by unfold yN;rw[<-x,<-u,z,N];rfl
    have C:=ada (k:=k) (by rw[<-m];exact q) g.isMap u (.lit<|.int .i64 k);rw[<-x]at C;obtain⟨R,Q⟩:=bV C M;clear K g V M C z;go_wp2;go_roundw;exact⟨k+1,by omega,by go_num,λd y=>by
     by_cases h:d=k;·subst h;exact gT Q
     ·exact E d (by omega),S,_,ab,gT R⟩
    simp[intOf];omega
  ·go_wp2_with (first
    | (at_lookup;refine wpList_lookup_own_ok_int _ rfl _ _ 164 rfl 9 3 .i64 Qf underlying164 underlying3 (Dq _) w.heap.size k e rfl g _ _ rfl p ?_;intro c _ _)
    | go_in)
   go_ret;exact⟨aW ((gT F) (aO z)).symm,f⟩
 ·go_wp2;go_ret;refine⟨aW ?_,f⟩;unfold mY;rw[bS.all_true (λd y=>E d (by have:=m.out;omega)),<-m];simp
def Tab(w:bI):Prop:=Lib.TabIs prog w "internal/strconv.uint64pow10" .u64 Lib.pow10Tab
theorem adb:(prog.globalNamed "internal/strconv.uint64pow10").isSome=true:=by kernel_rfl
theorem Tab.below{w w':bI}(a:Tab w)(b:bK w w'):Tab w':=by obtain⟨g,hg⟩:=sF.1 adb;exact Joins.tab_stays hg a b<|bG _
namespace bS
def Fq(t:Ex->aS)(acc:aS)(y:Ex):aS:=acc++((⟨#[32]⟩:aS)++t y)
def Fv(x:Ex):aS:=(if x.kind=4 then (⟨#[40,99,97,108,108,32]⟩:aS)else ⟨#[40]⟩)++x.name
def zT:Nat->Ex->aS
 | 0,_=>⟨#[]⟩
 | m+1,x=>if x.kind=1 then ⟨(Lib.itoa x.n).toArray⟩else if x.kind=2 then x.name else x.args.foldl (Fq (zT m)) (Fv x)++(⟨#[41]⟩:aS)
end bS
theorem yO{f g:Ex->Nat}:∀{l:List Ex},(∀(i:Nat) (x:Ex),l[i]?=some x->f x<=g x)->(l.map f).sum<=(l.map g).sum
 | [],_=>bG _
 | x::l,a=>by have c:=a 0 x rfl;have d:=yO (l:=l) (λi y b=>a (i+1) y<|by simpa using b);simp only[fZ,jI];omega
theorem wW{α:Type}{f:α->Nat}{y:α}:∀{l:List α},y∈l->f y<=(l.map f).sum
 | x::l,h=>by
  simp only[fZ,jI];rcases fV.1 h with rfl|h;·omega
  ·have:=wW (f:=f) h;omega
