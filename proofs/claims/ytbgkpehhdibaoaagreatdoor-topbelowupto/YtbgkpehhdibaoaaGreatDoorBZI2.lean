/- part -/
import Derived.Lib.AppendIntMem
import Derived.Lib.ItoaLen
import Derived.Test.YtbgkpehhdibaoaaGreatDoorBZAI
set_option maxHeartbeats 0
set_option maxRecDepth 99999
namespace Go.Proofs.YtbgkpehhdibaoaaGreatDoor
open bN
open Go.Proofs.Tryz
open Go.RowKit Go.Maps Go.WideMaps
namespace bN
def wC(ss:List aY)(k:Nat):Bool:=!((ss.take k).any λt=>t.data.toList==(ss.getD k ByteArray.empty).data.toList)&&dP (ss.getD k ByteArray.empty).data.toList
def lN(ss:List aY):Bool:=(List.range ss.length).all (wC ss)&&decide (0<ss.length)
end bN
theorem lawS:Keyed prog 9:=string_keyed underlying9
theorem AP(w:World):(zeroValue 3).run prog w=.ok (O 0) w:=by kernel_rfl
theorem Z4(ss:List aY)(k:Nat)(hk:k<ss.length)(p:aY->Bool):(ss.take (k+1)).any p=((ss.take k).any p||p (ss.getD k ByteArray.empty)):=by rw[rX hk,List.any_append];simp[List.getD,bD hk]
theorem Z5{ss:List ByteArray}{k:Nat}(hk:k<ss.length){D:DataW Unit}(hm:IsMap D)(h:∀l,Maps.has D (.string l)=(ss.take k).any λt=>t.data.toList==l)(d:DataW Unit):∀l,Maps.has (D.put (.string (ss.getD k ByteArray.empty).data.toList) d) (.string l)=(ss.take (k+1)).any λt=>t.data.toList==l:=by
 intro l;rw[Z4 ss k hk];by_cases e:l=(ss.getD k ByteArray.empty).data.toList;·subst e;rw[has_put_same hm (by simp[WideAt.IsKeyLit])];simp
 ·rw[has_put_other (by intro h';exact e (by injection h')),h l];have e':((ss.getD k ByteArray.empty).data.toList==l)=false:=beq_eq_false_iff_ne.2 (λh'=>e h'.symm);rw[e',Bool.or_false]
theorem WM{ss:List aY}(h:∀s∈ss,s.size<=maxLen)(k:Nat):(ss.getD k ByteArray.empty).size<=maxLen:=by
 by_cases hk:k<ss.length;·rw[List.getD,bD hk];exact h _ (kP hk)
 ·rw[List.getD,Om aX];exact bL _
theorem Jl(w:World)(v:Value)(ss:List ByteArray)(hS:Strs w v ss):Calls prog 66 #[v] w λe w'=>e=.returned (.bool (lN ss))/\Below w.heap.size w w':=by
 obtain⟨a,b,off,cap,rfl,ha,hl,hs,h1⟩:=hS;obtain⟨len,hlen⟩:=bC ss.length;rw[<-hlen]at ha hl h1 ⊢;have HL:Hid (len=ss.length):=hlen;clear hlen;have hmm:=@run_makeMap prog;go_enter func66,ntmps66;go_wp2;go_loopw[11] (λi wr=>∃k:Nat,k<=len/\i=.int .i64 k/\(∀d,d<k->wC ss d=true)/\Below w.heap.size w wr/\∃D:DataW Unit,wr.ownsMap prog 9 (plainElem prog 3) w.heap.size k D/\∀l,Maps.has D (.string l)=(ss.take k).any λt=>t.data.toList==l) (λi _=>len - (intOf i).toNat);case atStart=>exact⟨0,bL _,rfl,λd hd=>aM hd (fT _),(bP _ _).alloc (bE _) _,.map [],World.ownsMap_made _ _ _ _,λl=>rfl⟩
 case round=>
  obtain⟨k,hk,rfl,hall,hnx,D,hown,hhas⟩:=hrel;have HA:Hid (∀d,d<k->wC ss d=true):=hall;have HH:Hid (∀l,Maps.has D (.string l)=(ss.take k).any λt=>t.data.toList==l):=hhas;clear hall hhas hmm;by_cases hlt:k<len
  ·obtain rfl:=ha (by omega);obtain⟨s,hsk⟩:=bC (ss.getD k ByteArray.empty);have hcx:wr.cell? ⟨b,off+k,none⟩=some (.string s):=by rw[hsk];rw[hnx.cell (eX _ _ (h1 k hlt))];exact h1 k hlt
   have hsz:s.size<=maxLen:=by rw[hsk];exact WM hs k
   have hkey:keyOf prog 9 (.string s)=some (.string s.data.toList):=keyOf_string_mk underlying9 hsz;have HK:Hid (s=ss.getD k ByteArray.empty):=hsk;have hbad:Maps.has D (.string s.data.toList)=true\/dP s.data.toList=false->lN ss=false:=by
    intro h;have:wC ss k=false:=by unfold wC;rw[<-HK,<-HH];rcases h with h|h<;>simp[h]
    unfold lN;rw[bN.all_false (by rw[<-HL];exact hlt) this];rfl
   have HB:=I hbad;clear hsk h1 hs hbad;cases hh:Maps.has D (.string s.data.toList)
   ·cases hnm:dP s.data.toList
    ·go_wp2_with (first
      | (at_lookup;refine wpList_lookup_own_ok_int _ rfl _ _ 95 rfl 9 3 .i64 lawS underlying95 underlying3 (AP _) w.heap.size k D rfl hown _ _ rfl hkey ?_;intro c _ _)
      | (go_at_call 92;refine(DL _ s hsz).mono ?_;rintro e w' ⟨rfl,rfl⟩)
      | go_in)
     go_ret;exact⟨aP ((gV HB) (aV hnm)).symm,hnx⟩
    ·go_wp2_with (first
      | (at_lookup;refine wpList_lookup_own_ok_int _ rfl _ _ 95 rfl 9 3 .i64 lawS underlying95 underlying3 (AP _) w.heap.size k D rfl hown _ _ rfl hkey ?_;intro c _ _)
      | (go_at_call 92;refine(DL _ s hsz).mono ?_;rintro e w' ⟨rfl,rfl⟩)
      | (at_mapUpdate;refine wpList_mapUpdate_own _ rfl _ _ _ 95 rfl 9 3 lawS underlying95 _ w.heap.size k _ rfl hown (by unfold maxLen;omega) _ _ _ rfl rfl hkey _ [] (plainElem_int underlying3 (WalkArith.wf_i64 (by omega))) ?_)
      | go_in)
     intro w1 hown1 hgrow1;have R2:=hnx.grown hgrow1 hnx.size (λj hj=>by cases hj;exact bE _);have hn1:wC ss k=true:=by unfold wC;rw[<-HK,<-HH,hh,hnm];rfl
     have hn2:=Z5 (k:=k) (by rw[<-HL];exact hlt) hown.isMap HH (.lit (.int .i64 k));rw[<-HK]at hn2;obtain⟨H2,H1⟩:=bU hn2 hn1;clear hgrow1 hown hcx hn1 hn2 hh;go_wp2;go_roundw;case rel=>exact⟨k+1,by omega,by go_num,λd hd=>by
      by_cases e:d=k;·subst e;exact gV H1
      ·exact HA d (by omega),R2,_,hown1,gV H2⟩
     case measure=>simp[intOf];omega
   ·go_wp2_with (first
     | (at_lookup;refine wpList_lookup_own_ok_int _ rfl _ _ 95 rfl 9 3 .i64 lawS underlying95 underlying3 (AP _) w.heap.size k D rfl hown _ _ rfl hkey ?_;intro c _ _)
     | go_in)
    go_ret;exact⟨aP ((gV HB) (aR hh)).symm,hnx⟩
  ·go_wp2;go_ret;refine⟨aP ?_,hnx⟩;unfold lN;rw[bN.all_true (λd hd=>HA d (by have:=HL.out;omega)),<-HL];simp
def Tab(w:World):Prop:=Lib.TabIs prog w "internal/strconv.uint64pow10" .u64 Lib.pow10Tab
theorem Z6:(prog.globalNamed "internal/strconv.uint64pow10").isSome=true:=by kernel_rfl
theorem Tab.below{w w':World}(h:Tab w)(hb:bG w w'):Tab w':=by obtain⟨g,hg⟩:=rR.1 Z6;exact Joins.tab_stays hg h hb (bE _)
namespace bN
def Cz(t:Ex->aY)(acc:aY)(y:Ex):aY:=acc++((⟨#[32]⟩:aY)++t y)
def CB(x:Ex):aY:=(if x.kind=4 then (⟨#[40,99,97,108,108,32]⟩:aY)else ⟨#[40]⟩)++x.name
def xQ:Nat->Ex->aY
 | 0,_=>⟨#[]⟩
 | m+1,x=>if x.kind=1 then ⟨(Lib.itoa x.n).toArray⟩else if x.kind=2 then x.name else x.args.foldl (Cz (xQ m)) (CB x)++(⟨#[41]⟩:aY)
end bN
theorem wD{f g:Ex->Nat}:∀{l:List Ex},(∀(i:Nat) (x:Ex),l[i]?=some x->f x<=g x)->(l.map f).sum<=(l.map g).sum
 | [],_=>bE _
 | x::l,h=>by have h0:=h 0 x rfl;have h1:=wD (l:=l) (λi y hy=>h (i+1) y (by simpa using hy));simp only[fG,iZ];omega
theorem uJ{α:Type}{f:α->Nat}{y:α}:∀{l:List α},y∈l->f y<=(l.map f).sum
 | x::l,h=>by
  simp only[fG,iZ];rcases fK.1 h with rfl|h;·omega
  ·have:=uJ (f:=f) h;omega
end Go.Proofs.YtbgkpehhdibaoaaGreatDoor
