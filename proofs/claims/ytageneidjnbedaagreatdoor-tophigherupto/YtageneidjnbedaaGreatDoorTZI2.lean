import Derived.Lib.AppendIntMem
import Derived.Lib.ItoaLen
import Derived.Test.YtageneidjnbedaaGreatDoorTZAI
set_option maxHeartbeats 0
set_option maxRecDepth 99999
namespace Go.Proofs.YtageneidjnbedaaGreatDoor
open bS
open Go.Proofs.Tryz
open Go.RowKit Go.Maps Go.WideMaps
namespace bS
def yN(ss:List aS)(k:Nat):Bool:=!((ss.take k).any λt=>t.data.toList==(ss.getD k ByteArray.empty).data.toList)&&dZ (ss.getD k ByteArray.empty).data.toList
def mY(ss:List aS):Bool:=(List.range ss.length).all (yN ss)&&decide (0<ss.length)
end bS
variable{w w':bI}
theorem Qf:Keyed prog 9:=string_keyed underlying9
theorem Dq(w:bI):(zeroValue 3).run prog w=.ok (O 0) w:=by kernel_rfl
theorem ac9(ss:aJ)(k:Nat)(a:k<ss.length)(p:aS->Bool):(ss.take<|k+1).any p=((ss.take k).any p||p (ss.getD k ByteArray.empty)):=by rw[uW a,List.any_append];simp[List.getD,aZ a]
theorem ada{ss:List ByteArray}{k:Nat}(f:k<ss.length){D:DataW Unit}(g:IsMap D)(h:∀l,Maps.has D (.string l)=(ss.take k).any λt=>t.data.toList==l)(d:DataW Unit):∀l,Maps.has (D.put (.string (ss.getD k ByteArray.empty).data.toList) d) (.string l)=(ss.take<|k+1).any λt=>t.data.toList==l:=by
 intro l;rw[ac9 ss k f];by_cases a:l=(ss.getD k ByteArray.empty).data.toList;·subst a;rw[has_put_same g (by simp[WideAt.IsKeyLit])];simp
 ·rw[has_put_other (by intro b;exact a<|by injection b),h l];have e:((ss.getD k ByteArray.empty).data.toList==l)=false:=beq_eq_false_iff_ne.2 (λb=>a b.symm);rw[e,Bool.or_false]
theorem aan{ss:aJ}(h:∀s∈ss,s.size<=maxLen)(k:Nat):(ss.getD k ByteArray.empty).size<=maxLen:=by
 by_cases a:k<ss.length;·rw[List.getD,aZ a];exact h _<|kZ a
 ·rw[List.getD,Ry bC];exact bN _
theorem adE(w:World)(v:Value)(ss:List ByteArray)(V:Strs w v ss):Calls prog 23 #[v] w λg w'=>g=.returned (.bool<|mY ss)/\Below w.heap.size w w':=by
 obtain⟨a,b,off,cap,rfl,H,hl,Q,n⟩:=V;obtain⟨len,B⟩:=aV ss.length;rw[<-B]at H hl n ⊢;have m:Hid (len=ss.length):=B;clear B;have aa:=@run_makeMap prog;go_enter func23,ntmps23;go_wp2;go_loopw[11] (λi wr=>∃k:Nat,k<=len/\i=.int .i64 k/\(∀d,d<k->yN ss d=true)/\Below w.heap.size w wr/\∃D:DataW Unit,wr.ownsMap prog 9 (plainElem prog 3) w.heap.size k D/\∀l,Maps.has D (.string l)=(ss.take k).any λt=>t.data.toList==l) (λi _=>len - (intOf i).toNat);exact⟨0,bN _,rfl,λd y=>aM y<|fU _,(bQ _ _).alloc (bG _) _,.map [],World.ownsMap_made _ _ _ _,λl=>rfl⟩
 obtain⟨k,hk,rfl,I,e,D,f,M⟩:=hrel;have F:Hid (∀d,d<k->yN ss d=true):=I;have u:Hid (∀l,Maps.has D (.string l)=(ss.take k).any λt=>t.data.toList==l):=M;clear I M aa;by_cases q:k<len
 ·obtain rfl:=H (by omega);obtain⟨s,r⟩:=aV<|ss.getD k ByteArray.empty;have W:wr.cell? ⟨b,off+k,none⟩=some (.string s):=by rw[r];rw[e.cell (eH _ _<|n k q)];exact n k q
  have E:s.size<=maxLen:=by rw[r];exact aan Q k
  have p:keyOf prog 9 (.string s)=some (.string s.data.toList):=keyOf_string_mk underlying9 E;have x:Hid (s=ss.getD k ByteArray.empty):=r;have K:Maps.has D (.string s.data.toList)=true\/bS.dZ s.data.toList=false->mY ss=false:=by
   intro h;have:yN ss k=false:=by unfold yN;rw[<-x,<-u];rcases h with h|h<;>simp[h]
   unfold mY;rw[bS.all_false (by rw[<-m];exact q) this];rfl
  have G:=Y K;clear r n Q K;cases z:Maps.has D (.string s.data.toList)
  ·cases P:bS.dZ s.data.toList
   ·go_wp2_with (first
     | (at_lookup;refine wpList_lookup_own_ok_int _ rfl _ _ 58 rfl 9 3 .i64 Qf underlying58 underlying3 (Dq _) w.heap.size k D rfl f _ _ rfl p ?_;intro c _ _)
     | (go_at_call 28;refine(GA _ s E).mono ?_;rintro g w' ⟨rfl,rfl⟩)
     | go_in)
    go_ret;exact⟨aW ((gT G) (aQ P)).symm,e⟩
   ·go_wp2_with (first
     | (at_lookup;refine wpList_lookup_own_ok_int _ rfl _ _ 58 rfl 9 3 .i64 Qf underlying58 underlying3 (Dq _) w.heap.size k D rfl f _ _ rfl p ?_;intro c _ _)
     | (go_at_call 28;refine(GA _ s E).mono ?_;rintro g w' ⟨rfl,rfl⟩)
     | (at_mapUpdate;refine wpList_mapUpdate_own _ rfl _ _ _ 58 rfl 9 3 Qf underlying58 _ w.heap.size k _ rfl f (by unfold maxLen;omega) _ _ _ rfl rfl p _ [] (plainElem_int underlying3<|WalkArith.wf_i64<|by omega) ?_)
     | go_in)
    intro w1 ab L;have U:=e.grown L e.size (λj Z=>by cases Z;exact bG _);have N:yN ss k=true:=by unfold yN;rw[<-x,<-u,z,P];rfl
    have C:=ada (k:=k) (by rw[<-m];exact q) f.isMap u (.lit<|.int .i64 k);rw[<-x]at C;obtain⟨S,R⟩:=bV C N;clear L f W N C z;go_wp2;go_roundw;exact⟨k+1,by omega,by go_num,λd y=>by
     by_cases g:d=k;·subst g;exact gT R
     ·exact F d (by omega),U,_,ab,gT S⟩
    simp[intOf];omega
  ·go_wp2_with (first
    | (at_lookup;refine wpList_lookup_own_ok_int _ rfl _ _ 58 rfl 9 3 .i64 Qf underlying58 underlying3 (Dq _) w.heap.size k D rfl f _ _ rfl p ?_;intro c _ _)
    | go_in)
   go_ret;exact⟨aW ((gT G) (aO z)).symm,e⟩
 ·go_wp2;go_ret;refine⟨aW ?_,e⟩;unfold mY;rw[bS.all_true (λd y=>F d (by have:=m.out;omega)),<-m];simp
def Tab(w:bI):Prop:=Lib.TabIs prog w "internal/strconv.uint64pow10" .u64 Lib.pow10Tab
theorem adb:(prog.globalNamed "internal/strconv.uint64pow10").isSome=true:=by kernel_rfl
theorem Tab.below(h:Tab w)(a:bK w w'):Tab w':=by obtain⟨g,hg⟩:=sF.1 adb;exact Joins.tab_stays hg h a<|bG _
theorem ayS(w:bI)(n:Int)(b:mq n)(d:Tab w):aD 128 #[O n] w λa w'=>a=dz (A ⟨(Lib.itoa n).toArray⟩)/\bK w w':=by refine(Tryz.strconv_Itoa n b.1 b.2 w d).mono ?_;rintro a w' ⟨rfl,k,e,rfl⟩;exact⟨rfl,Lib.below_grow _ _ (bG _) _ _⟩
namespace bS
def Fq(t:Ex->aS)(acc:aS)(y:Ex):aS:=acc++((⟨#[32]⟩:aS)++t y)
def Fv(x:Ex):aS:=(if x.kind=4 then (⟨#[40,99,97,108,108,32]⟩:aS)else ⟨#[40]⟩)++x.name
def zT:Nat->Ex->aS
 | 0,_=>⟨#[]⟩
 | m+1,x=>if x.kind=1 then ⟨(Lib.itoa x.n).toArray⟩else if x.kind=2 then x.name else x.args.foldl (Fq (zT m)) (Fv x)++(⟨#[41]⟩:aS)
end bS
theorem awV{t:Ex->aS}:∀(l:List Ex) (acc:aS),(l.foldl (Fq t) acc).size=acc.size+(l.map λy=>(t y).size+1).sum
 | [],acc=>by simp
 | y::l,acc=>by
  rw[pz,awV l];have e:(Fq t acc y).size=acc.size+(1+(t y).size):=by unfold Fq;rw[ZP,ZP];rfl
  rw[e,fZ,jI];omega
theorem yO{f g:Ex->Nat}:∀{l:List Ex},(∀(i:Nat) (x:Ex),l[i]?=some x->f x<=g x)->(l.map f).sum<=(l.map g).sum
 | [],_=>bG _
 | x::l,h=>by have b:=h 0 x rfl;have d:=yO (l:=l) (λi y a=>h (i+1) y<|by simpa using a);simp only[fZ,jI];omega
theorem ayp(k:Nat)(f:Ex->Nat):∀l:List Ex,(l.map λx=>k*f x).sum=k*(l.map f).sum
 | []=>rfl
 | x::l=>by simp only[fZ,jI,ayp k f l,Nat.mul_add]
theorem av5:∀{m:Nat} {d e f g:aC} {x:Ex},iH w m d e f g x->(zT m x).size+1<=6*jF m x
 | 0,_,_,_,_,_,h=>iU h
 | m+1,d,e,f,g,x,h=>by
  obtain⟨_,_,_,_,_,j,a,b,off,cap,_,_,_,k⟩:=h;have u:(x.args.map λy=>(zT m y).size+1).sum<=6*(x.args.map<|jF m).sum:=by rw[<-ayp];exact yO (λi y n=>by obtain⟨p,q,r,s,_,_,_,_,l⟩:=k i y n;exact av5 l)
  have t:(Fv x).size<=x.name.size+6:=by
   unfold Fv;rw[ZP];split;·show 6+_<=_;omega
   ·show 1+_<=_;omega
  simp only[zT,jF];split;·have:=Lib.itoa_length_le x.n j.1 j.2;show(Lib.itoa x.n).toArray.size+1<=_;rw[List.size_toArray];omega
  ·split;·omega
   ·rw[ZP,awV];show _+1+1<=_;omega
theorem awg{a b:aS}(h:a=b):dz (A a)=dz (A b):=by rw[h]
theorem wW{α:Type}{f:α->Nat}{y:α}:∀{l:List α},y∈l->f y<=(l.map f).sum
 | x::l,h=>by
  simp only[fZ,jI];rcases fV.1 h with rfl|h;·omega
  ·have:=wW (f:=f) h;omega
