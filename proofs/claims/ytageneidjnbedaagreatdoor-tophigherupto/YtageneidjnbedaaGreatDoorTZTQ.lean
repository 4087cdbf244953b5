import Derived.Test.YtageneidjnbedaaGreatDoorTZPC
set_option maxHeartbeats 0
set_option maxRecDepth 99999
namespace Go.Proofs.YtageneidjnbedaaGreatDoor
open bS
open Go.Proofs.Tryz
open Go.RowKit
namespace bS
def av7(st:List (List UInt8) × Bool)(b:UInt8):List (List UInt8) × Bool:=
 if sG b.toNat then (st.1,false)
 else if nY b.toNat then (st.1++[[b]],false)
 else if st.2 then (st.1.dropLast++[st.1.getLastD []++[b]],true)
 else (st.1++[[b]],true)
def aw3(l:List UInt8):List (List UInt8) × Bool:=l.foldl av7 ([],false)
def awC(l:List UInt8):Prop:=l≠[]/\∀b∈l,sG b.toNat=false/\nY b.toNat=false/\sH b.toNat=true
def ay6(l:List UInt8):Prop:=(∃b,l=[b]/\sG b.toNat=false/\nY b.toNat=true)\/awC l
def okN(n:Nat):Bool:=sG n||nY n||sH n
end bS
variable{x:Mo}{s t w:ByteArray}{l:List UInt8}{L1 L2 L a Zk B r:aJ}{n:Int}{m d k v K M:Nat}{f:Fu}
theorem ext_list(s:ByteArray)(a b:Nat):(bS.ext s (a,b)).data.toList=(s.data.toList.take b).drop a:=by unfold bS.ext;rw[ByteArray.data_extract];simp[List.drop_take]
theorem axV(s:ByteArray):∀k,k<=s.size->((bS.tok s k).1.map λp=>(bS.ext s p).data.toList)=(aw3<|s.data.toList.take k).1/\(bS.tok s k).2=(aw3<|s.data.toList.take k).2
 | 0,_=>⟨rfl,rfl⟩
 | k+1,z=>by
  obtain⟨b,i⟩:=axV s k bC;have e:k<s.data.toList.length:=by rw[iG];omega
  have q:aw3 (s.data.toList.take<|k+1)=av7 (aw3<|s.data.toList.take k) s.data.toList[k]:=by unfold aw3;rw[uW e,JX];rfl
  have y:bS.bt s k=(s.data.toList[k]).toNat:=by unfold bS.bt;rw[List.getD,aZ e];rfl
  have g:(bS.ext s (k,k+1)).data.toList=[s.data.toList[k]]:=by rw[ext_list s,uW e];exact List.drop_left' (by rw[iA];omega)
  rw[q];unfold av7;simp only[bS.tok];rw[y,i];split;·exact⟨b,rfl⟩
  ·split;·refine⟨?_,rfl⟩;rw[gX,b];simp only[fZ,jV,g]
   ·split;·rename_i j;rw[<-i]at j;obtain⟨L,a,h⟩:=(wN s k).2.2 j;have u:=(wN s k).2.1 (a,k) (by rw[h];simp);refine⟨?_,rfl⟩;rw[<-b,h];simp only[List.dropLast_concat,List.getLastD_concat,gX,fZ,jV];congr 2;rw[<-ayR s a k (by simp only at u;omega)];rw[ByteArray.data_append,Array.toList_append];congr 1
    ·refine⟨?_,rfl⟩;rw[gX,b];simp only[fZ,jV,g]
theorem axq:∀(x:List UInt8) (acc:List (List UInt8)) (y:List UInt8),(∀b∈x,sG b.toNat=false/\nY b.toNat=false)->x.foldl av7 (acc++[y],true)=(acc++[y++x],true)
 | [],acc,y,_=>by simp
 | b::x,acc,y,h=>by
  obtain⟨g,i⟩:=h b cK;rw[pz];have e:av7 (acc++[y],true) b=(acc++[y++[b]],true):=by unfold av7;rw[aI (by simp[g]),aI (by simp[i]),aK rfl];simp
  rw[e,axq x acc (y++[b]) (λc j=>h c<|by simp[j])];simp
theorem ayF(x:List UInt8)(acc:List (List UInt8))(h:ay6 x):∃o,x.foldl av7 (acc,false)=(acc++[x],o):=by
 rcases h with⟨b,rfl,e,g⟩|⟨q,i⟩;·refine⟨false,?_⟩;rw[pz,List.foldl_nil];unfold av7;rw[aI (by simp[e]),aK g]
 ·cases x with
  | nil=>exact aM rfl q
  | cons b x=>
   obtain⟨e,g,_⟩:=i b cK;refine⟨true,?_⟩;rw[pz];have p:av7 (acc,false) b=(acc++[[b]],true):=by unfold av7;rw[aI (by simp[e]),aI (by simp[g]),aI cK]
   rw[p,axq x acc [b] (λc j=>⟨(i c<|by simp[j]).1,(i c<|by simp[j]).2.1⟩)];rfl
theorem azz{x:List UInt8}(h:ay6 x):∀b∈x,okN b.toNat=true:=by
 intro b e;unfold okN;rcases h with⟨c,rfl,_,g⟩|⟨_,i⟩;·rw[dh]at e;subst e;rw[g];simp
 ·rw[(i b e).2.2];simp
theorem ay7:Df s=none↔∀b∈s.data.toList,okN b.toNat=true:=by
 constructor
 ·intro h b q;obtain⟨k,e,rfl⟩:=gU.1 q;have p:=Gv.1 h k (jE.2 (by rw[iG]at e;exact e));have g:Mh s k=true:=by simpa using p
  have i:bS.bt s k=(s.data.toList[k]).toNat:=by unfold bS.bt;rw[List.getD,aZ e];rfl
  unfold Mh at g;rw[i]at g;exact g
 ·intro h;refine jW (λk e=>?_);have j:k<s.data.toList.length:=by rw[iG];exact e
  have i:bS.bt s k=(s.data.toList[k]).toNat:=by unfold bS.bt;rw[List.getD,aZ j];rfl
  have:=h s.data.toList[k]<|kZ j;unfold Mh;rw[i];unfold okN at this;rw[this];rfl
theorem ay8(b:¬4096<s.size)(e:Df s=none):(BI s).map (·.data.toList)=(aw3 s.data.toList).1:=by unfold BI;rw[aI b,e];simp only[List.map_map];have:=(axV s s.size<|bG _).1;rw[fQ (by rw[iG];exact bG _)]at this;exact this
theorem bytes_inj:∀{a b:aJ},a.map (·.data.toList)=b.map (·.data.toList)->a=b
 | [],[],_=>rfl
 | [],y::b,h=>by simp at h
 | x::a,[],h=>by simp at h
 | x::a,y::b,h=>by simp only[fZ,R9]at h;obtain⟨e,g⟩:=h;rw[bytes_inj g];congr 1;cases x with|mk x=>cases y with|mk y=>congr 1;exact Array.toList_inj.1 e
namespace Tk
abbrev o:ByteArray:=⟨#[40]⟩
abbrev c:ByteArray:=⟨#[41]⟩
def ex:Nat->Ex->List aS
 | 0,_=>[]
 | m+1,x=>if x.kind=1 then [⟨(Lib.itoa x.n).toArray⟩]else if x.kind=2 then [x.name]
  else if x.kind=4 then o::([⟨#[99,97,108,108]⟩]++([x.name]++(x.args.map (ex m)).flatten))++[c]else o::([x.name]++(x.args.map (ex m)).flatten)++[c]
def stk(b:Ex->List aS)(bt:List St->List aS)(s:St):List aS:=
 if s.kind=1 then o::([⟨#[115,101,116]⟩]++([s.name]++(b s.e++[])))++[c]
 else if s.kind=4 then o::([⟨#[112,114,105,110,116]⟩]++([s.name]++(b s.e++[])))++[c]
 else if s.kind=3 then o::([⟨#[119,104,105,108,101]⟩]++(b s.e++((o::bt s.a++[c])++[])))++[c]
 else o::([⟨#[105,102]⟩]++(b s.e++((o::bt s.a++[c])++((o::bt s.b++[c])++[]))))++[c]
def bd:Nat->List St->List aS
 | 0,_=>[]
 | m+1,l=>(l.map (stk (ex m) (bd m))).flatten
def im(s:aS):List aS:=o::([⟨#[105,109,112,111,114,116]⟩]++([s]++[]))++[c]
def va(v:Va):List aS:=o::([⟨#[118,97,114]⟩]++([v.name]++([v.level]++[])))++[c]
def fu(m:Nat)(f:Fu):List aS:=o::([⟨#[102,117,110]⟩]++([f.name]++((o::f.params++[c])++(bd m f.body++(ex m f.result++[])))))++[c]
def mo(m:Nat)(x:Mo):List aS:=o::([⟨#[109,111,100,117,108,101]⟩]++([x.name]++((x.imports.map im).flatten++((x.vars.map va).flatten++(x.bq.map (fu m)).flatten))))++[c]
end Tk
namespace bS
def dl(L:List aS):List (List UInt8):=L.map (·.data.toList)
def Lx(t:aS)(L:List aS):Prop:=(∀acc,∃o,t.data.toList.foldl av7 (acc,false)=(acc++dl L,o))/\∀b∈t.data.toList,okN b.toNat=true
def LxT(l L:List aS):Prop:=(∀acc o,∃e,(Lib.joinTail [32] (dl l)).foldl av7 (acc,o)=(acc++dl L,e))/\∀b∈Lib.joinTail [32] (dl l),okN b.toNat=true
theorem ax8(a b:aJ):dl (a++b)=dl a++dl b:=by unfold dl;rw[gX]
theorem LxT.nil:LxT [] []:=⟨λacc o=>⟨o,by simp[dl,Lib.joinTail]⟩,λb e=>by simp[dl,Lib.joinTail]at e⟩
theorem axW(acc:List (List UInt8))(o:Bool):av7 (acc,o) 32=(acc,false):=by unfold av7;rw[aK bM]
theorem LxT.cons{l:aJ}(h:Lx t L1)(i:LxT l L2):LxT (t::l) (L1++L2):=by
 have g:Lib.joinTail [32] (dl (t::l))=32::(t.data.toList++Lib.joinTail [32] (dl l)):=by simp[dl,Lib.joinTail]
 refine⟨λacc o=>?_,λb e=>?_⟩;·obtain⟨q,j⟩:=h.1 acc;obtain⟨u,p⟩:=i.1 (acc++dl L1) q;refine⟨u,?_⟩;rw[g,pz,axW,JX,j,p,ax8,iK]
 ·rw[g]at e;rcases fV.1 e with rfl|e;·decide
  ·rcases bX.1 e with e|e;·exact h.2 b e
   ·exact i.2 b e
theorem LxT.map{α:Type}{t:α->ByteArray}{f:α->aJ}:∀{l:List α} {r R:aJ},(∀y∈l,Lx (t y)<|f y)->LxT r R->LxT (l.map t++r) ((l.map f).flatten++R)
 | [],r,R,_,b=>by simpa using b
 | y::l,r,R,h,b=>by have:=LxT.cons (h y cK) (LxT.map (l:=l) (λg e=>h g<|by simp[e]) b);simpa using this
theorem Lx.brk{l:aJ}(h:LxT l L):Lx (bS.brk l) (Tk.o::L++[Tk.c]):=by
 have p:∀acc:List (List UInt8),av7 (acc,false) 40=(acc++[[40]],false):=λacc=>by unfold av7;rw[aI bM,aK bM]
 have q:∀(acc:List (List UInt8)) (o:Bool),av7 (acc,o) 41=(acc++[[41]],false):=λacc o=>by unfold av7;rw[aI bM,aK bM]
 have u:∀acc,∃g,(Lib.join (l.map (·.data.toList)) [32]).foldl av7 (acc,false)=(acc++dl L,g):=λacc=>by
  cases l with
  | nil =>obtain⟨g,i⟩:=h.1 acc false;refine⟨g,?_⟩;rw[<-i];simp[dl,Lib.joinTail,Lib.join_nil]
  | cons x r=>
   obtain⟨g,i⟩:=h.1 acc false;refine⟨g,?_⟩;rw[<-i];have j:Lib.joinTail [32] (dl (x::r))=32::(x.data.toList++Lib.joinTail [32] (dl r)):=by simp[dl,Lib.joinTail]
   rw[j,pz,axW,fZ,Lib.join_cons];rfl
 constructor
 ·intro acc;obtain⟨g,i⟩:=u<|acc++[[40]];refine⟨false,?_⟩;rw[jk,pz,p,JX,i,pz,List.foldl_nil,q];have y:dl (Tk.o::L++[Tk.c])=[40]::(dl L++[[41]]):=by simp[dl]
  rw[y];simp
 ·intro b e;rw[jk]at e;rcases fV.1 e with rfl|e;·decide
  ·rcases bX.1 e with e|e
   ·cases l with
    | nil=>simp[Lib.join_nil]at e
    | cons x r=>
     refine h.2 b ?_;have j:Lib.joinTail [32] (dl (x::r))=32::(x.data.toList++Lib.joinTail [32] (dl r)):=by simp[dl,Lib.joinTail]
     rw[j];rw[fZ,Lib.join_cons]at e;exact l8 _ e
   ·rw[dh]at e;subst e;decide
theorem Lx.word(h:ay6 w.data.toList):Lx w [w]:=⟨λacc=>by obtain⟨o,e⟩:=ayF w.data.toList acc h;exact⟨o,by rw[e];rfl⟩,azz h⟩
theorem avZ(g:l≠[])(h:∀b∈l,sH b.toNat=true):awC l:=⟨g,λb i=>by
 have e:=h b i;refine⟨?_,?_,e⟩;·unfold sH at e;unfold sG;simp only[GK,dK,iy,beq_iff_eq]at e;simp only[Bool.or_eq_false_iff,beq_eq_false_iff_ne];omega
 ·unfold sH at e;unfold nY;simp only[GK,dK,iy,beq_iff_eq]at e;simp only[Bool.or_eq_false_iff,beq_eq_false_iff_ne];omega⟩
theorem axX{b:UInt8}(h:iY b=true):sH b.toNat=true:=by unfold iY at h;unfold sH;rw[h];rfl
theorem av0(h:dZ l=true):awC l:=by unfold dZ at h;simp only[dK,iy]at h;exact avZ (λe=>by rw[e]at h;simp at h) (λb g=>axX<|iB.1 h.2 b g)
theorem Lx.name(h:kR w=true):Lx w [w]:=Lx.word<|aQ<|av0 h
theorem aw4(h:opB s=true):s=⟨#[43]⟩\/s=⟨#[45]⟩\/s=⟨#[42]⟩\/s=⟨#[60]⟩\/s=⟨#[61]⟩:=by
 unfold opB at h;have e:=iP h;unfold dU at e;cases j:(List.range opS.length).find? (Ov opS s)with
 | none=>rw[j]at e;simp at e
 | some k=>
  obtain⟨p,g⟩:=find_spec j;unfold Ov at g;have i:=beq_iff_eq.1 g;rw[A8,A8]at i;have q:k<5:=p;have b:=iQ i;obtain rfl|rfl|rfl|rfl|rfl:k=0\/k=1\/k=2\/k=3\/k=4:=by omega
  ·exact aO b
  ·exact aQ<|aO b
  ·exact aQ<|aQ<|aO b
  ·exact aQ<|aQ<|aQ<|aO b
  ·exact aQ<|aQ<|aQ<|aQ b
theorem ayt(h:opB s=true):awC s.data.toList:=by rcases aw4 h with rfl|rfl|rfl|rfl|rfl<;>exact avZ cK bM
theorem aw5(g:Nat):∀b∈Lib.decDigits g,48<=b.toNat/\b.toNat<=57:=by
 induction g using Nat.strongRecOn with
 | ind g j=>
  intro b e;have i:∀v,v<10->48<=(UInt8.ofNat<|48+v).toNat/\(UInt8.ofNat<|48+v).toNat<=57:=λv p=>by rw[UInt8.toNat_ofNat'];omega
  by_cases h:g<10;·rw[Lib.decDigits_one h,dh]at e;rw[e];exact i g h
  ·rw[Lib.decDigits,dif_neg h]at e;rcases bX.1 e with e|e;·exact j (g / 10) bC b e
   ·rw[dh]at e;rw[e];exact i (g % 10) bC
theorem ax9(b:Nat):Lib.decDigits b≠[]:=by intro e;have:=Lib.decDigits_length b;have g:=Lib.nDigits_pos b;rw[e]at this;simp at this;omega
theorem awD(h:0<=n):awC (⟨(Lib.itoa n).toArray⟩:ByteArray).data.toList:=by
 obtain⟨u,rfl⟩:=Int.eq_ofNat_of_zero_le h;have e:(⟨(Lib.itoa (u:Int)).toArray⟩:ByteArray).data.toList=Lib.decDigits u:=by show(Lib.itoa (u:Int)).toArray.toList=_;rw[Lib.itoa_nonneg]
 rw[e];exact avZ (ax9 u) (λb g=>by have:=aw5 u b g;unfold sH;simp only[GK,dK,iy,beq_iff_eq];omega)
theorem axr(h:yB s=true):awC s.data.toList:=by
 unfold yB at h;rw[dK]at h;obtain⟨g,j⟩:=h;unfold preS uR at *;cases p:lI s with
 | none =>rw[p]at g;exact av0 g
 | some i=>
  rw[p]at g j;simp only[nD,Bool.not_true,Bool.false_or]at g j;obtain⟨D,u⟩:=find_spec p;have q:i<s.data.toList.length:=D;have E:s.data.toList=(s.extract 0 i).data.toList++46::(s.extract (i+1) s.size).data.toList:=by
   have y:(s.extract 0 i).data.toList=s.data.toList.take i:=by rw[ByteArray.data_extract];simp
   have z:(s.extract (i+1) s.size).data.toList=s.data.toList.drop (i+1):=by rw[ByteArray.data_extract];simp only[Array.toList_extract];rw[List.extract_eq_take_drop];exact fQ (by rw[Bo,iG];omega)
   have C:s.data.toList[i]=46:=by have:=beq_iff_eq.1 u;rw[List.getD,aZ q]at this;exact this
   rw[y,z,<-C,<-Nw q,pK]
  rw[E];refine avZ cK (λb e=>?_);rcases bX.1 e with e|e;·exact((av0 g).2 b e).2.2
  ·rcases fV.1 e with rfl|e;·decide
   ·exact((av0 j).2 b e).2.2
theorem axC:∀(m:Nat) (x:Ex),jo m x=true->Lx (zT m x) (Tk.ex m x)
 | 0,x,h=>by cases h
 | m+1,x,h=>by
  simp only[jo]at h;simp only[zT,Tk.ex];by_cases b:x.kind=1;·rw[aK b]at h;simp only[dK,iy]at h;rw[aK b,aK b];exact Lx.word<|aQ<|awD h.1.1.1
  ·rw[aI b]at h;rw[aI b,aI b];by_cases e:x.kind=2;·rw[aK e]at h;simp only[dK]at h;rw[aK e,aK e];exact Lx.word<|aQ<|av0 h.1.2
   ·rw[aI e]at h;rw[aI e,aI e];by_cases p:x.kind=3;·rw[aK p]at h;simp only[dK]at h;rw[<-ahC x (zT m) bC,aI bC];have g:=LxT.map (l:=x.args) (t:=zT m) (f:=Tk.ex m) (λy j=>axC m y<|iB.1 h.2 y j) LxT.nil;rw[gL,gL]at g;exact Lx.brk<|LxT.cons (Lx.word<|aQ<|ayt h.1.1.2) g
    ·rw[aI p]at h;by_cases i:x.kind=4;·rw[aK i]at h;simp only[dK]at h;rw[<-aaO x (zT m) i,aK i];have g:=LxT.map (l:=x.args) (t:=zT m) (f:=Tk.ex m) (λy j=>axC m y<|iB.1 h.2 y j) LxT.nil;rw[gL,gL]at g;exact Lx.brk<|LxT.cons (Lx.word<|aQ<|avZ cK bM)<|LxT.cons (Lx.word<|aQ<|axr h.1.1.2) g
     ·rw[aI i]at h;cases h
theorem LxT.Me{l:List St}(h:∀s∈l,Lx (stX m s)<|Tk.stk (Tk.ex m) (Tk.bd m) s):LxT (Me (m+1) l) (Tk.bd (m+1) l):=by have:=LxT.map h LxT.nil;rw[gL,gL]at this;exact this
theorem aya:∀(m:Nat) (l:List St),j6 m l=true->LxT (Me m l) (Tk.bd m l)
 | 0,l,h=>by cases h
 | m+1,l,h=>by
  rw[wL]at h;refine LxT.Me (λs C=>?_);have i:=iB.1 h s C;unfold Vz at i;simp only[dK]at i;obtain⟨⟨⟨b,z⟩,u⟩,y⟩:=i;obtain⟨we,q,D⟩:=lS (axC m s.e z) (aya m s.a u)<|aya m s.b y;unfold stH at b;unfold Tk.stk;by_cases e:s.kind=1;·rw[aK (aO e)]at b;simp only[dK]at b;rw[aK e,<-aee m s e];exact Lx.brk<|LxT.cons (Lx.word<|aQ<|avZ cK bM)<|LxT.cons (Lx.name b.1.1)<|LxT.cons we LxT.nil
  ·by_cases g:s.kind=4;·rw[aK (aQ g)]at b;simp only[dK]at b;rw[aI e,aK g,<-Wq m s g];exact Lx.brk<|LxT.cons (Lx.word<|aQ<|avZ cK bM)<|LxT.cons (Lx.name b.1.1)<|LxT.cons we LxT.nil
   ·rw[aI bC]at b;by_cases p:s.kind=2;·rw[aI e,aI g,aI bC,<-ahF m s p];exact Lx.brk<|LxT.cons (Lx.word<|aQ<|avZ cK bM)<|LxT.cons we<|LxT.cons (Lx.brk q)<|LxT.cons (Lx.brk D) LxT.nil
    ·rw[aI p]at b;by_cases j:s.kind=3;·rw[aI e,aI g,aK j,<-Ws m s j];exact Lx.brk<|LxT.cons (Lx.word<|aQ<|avZ cK bM)<|LxT.cons we<|LxT.cons (Lx.brk q) LxT.nil
     ·rw[aI j]at b;cases b
theorem LxT.app{b:aJ}(h:LxT a Zk)(i:LxT b B):LxT (a++b) (Zk++B):=by
 have g:Lib.joinTail [32] (dl<|a++b)=Lib.joinTail [32] (dl a)++Lib.joinTail [32] (dl b):=by rw[ax8,rQ]
 refine⟨λacc o=>?_,λx e=>?_⟩;·obtain⟨q,j⟩:=h.1 acc o;obtain⟨u,p⟩:=i.1 (acc++dl Zk) q;exact⟨u,by rw[g,JX,j,p,ax8,iK]⟩
 ·rw[g]at e;rcases bX.1 e with e|e;·exact h.2 x e
  ·exact i.2 x e
theorem az4(h:Wp m f=true):Lx (fuX m f) (Tk.fu m f):=by
 unfold Wp at h;simp only[dK]at h;obtain⟨⟨⟨i,e⟩,q⟩,j⟩:=h;have g:[[(⟨#[102,117,110]⟩:ByteArray),f.name,brk f.params],Me m f.body,[zT m f.result]].flatten=⟨#[102,117,110]⟩::f.name::brk f.params::(Me m f.body++[zT m f.result]):=by simp
 unfold fuX Tk.fu;rw[g];have p:LxT f.params f.params:=by
  have:=LxT.map (l:=f.params) (t:=id) (f:=λs=>[s]) (λy u=>Lx.name<|iB.1 j y u) LxT.nil;have b:∀l:aJ,(l.map λs=>[s]).flatten=l:=λl=>by induction l<;>simp_all
  rw[b]at this;simpa using this
 exact Lx.brk<|LxT.cons (Lx.word<|aQ<|avZ cK bM)<|LxT.cons (Lx.name i)<|LxT.cons (Lx.brk p)<|LxT.app (aya m f.body e)<|LxT.cons (axC m f.result q) LxT.nil
theorem az5(u:x.bq≠[]->m≠0)(z:kR x.name=true)(q:x.imports.all kR=true)(C:x.vars.all Q6=true)(j:∀f∈x.bq,Wp m f=true):Lx (moT m x) (Tk.mo m x):=by
 rw[<-akH u];have p:[[(⟨#[109,111,100,117,108,101]⟩:ByteArray),x.name],x.imports.map FY,x.vars.map vaX,x.bq.map<|fuX m].flatten=⟨#[109,111,100,117,108,101]⟩::x.name::(x.imports.map FY++(x.vars.map vaX++x.bq.map (fuX m))):=by simp
 unfold moX Tk.mo;rw[p];have g:=LxT.map (l:=x.bq) (t:=fuX m) (f:=Tk.fu m) (λy b=>az4<|j y b) LxT.nil;rw[gL,gL]at g;have i:=LxT.map (l:=x.vars) (t:=vaX) (f:=Tk.va) (λy b=>by have e:=iB.1 C y b;unfold Q6 at e;simp only[dK]at e;exact Lx.brk<|LxT.cons (Lx.word<|aQ<|avZ cK bM)<|LxT.cons (Lx.name e.1)<|LxT.cons (Lx.name e.2) LxT.nil) g;have h:=LxT.map (l:=x.imports) (t:=FY) (f:=Tk.im) (λy b=>Lx.brk<|LxT.cons (Lx.word<|aQ<|avZ cK bM)<|LxT.cons (Lx.name<|iB.1 q y b) LxT.nil) i;exact Lx.brk<|LxT.cons (Lx.word<|aQ<|avZ cK bM)<|LxT.cons (Lx.name z) h
theorem Lx.words(h:Lx t L)(b:¬4096<t.size):we t=0/\BI t=L:=by have e:Df t=none:=ay7.2 h.2;refine⟨by unfold we;rw[aI b,e];rfl,bytes_inj ?_⟩;rw[ay8 b e];obtain⟨o,g⟩:=h.1 [];unfold aw3;rw[g];rfl
end bS
namespace Rd
open bS (awC dZ jo yw j6 L6 Vz Sj)
theorem avW(w:ByteArray)(r:aJ):pk ⟨w::r,false⟩=w:=rfl
theorem axD(h:w.data.toList≠l):is w l=false:=by unfold is;simpa using h
theorem av2(h:is w []=false):tk ⟨w::r,false⟩=⟨r,false⟩:=by unfold tk;rw[avW,h];rfl
theorem axE(h:is w l=true)(g:l≠[]):kw l ⟨w::r,false⟩=⟨r,false⟩:=by have e:is w []=false:=axD (λb=>by unfold is at h;rw[b]at h;exact g (beq_iff_eq.1 h).symm);unfold kw;rw[avW,h,aK rfl,av2 e]
theorem av3(b:d≠20):op d ⟨Tk.o::r,false⟩=⟨r,false⟩:=by unfold op mx;rw[aI b];exact axE rfl cK
theorem av4:sh ⟨Tk.c::r,false⟩=⟨r,false⟩:=axE rfl cK
theorem avV(h:awC w.data.toList):plain w=true:=by unfold plain;have e:is w []=false:=axD h.1;have g:is w [40]=false:=axD (λb=>by have:=(h.2 40 (by rw[b];simp)).2.1;revert this;decide);have i:is w [41]=false:=axD (λb=>by have:=(h.2 41 (by rw[b];simp)).2.1;revert this;decide);rw[e,g,i];rfl
theorem avU(h:plain w=true):is w []=false/\is w [40]=false/\is w [41]=false:=by unfold plain at h;simp only[dK,Bool.not_eq_true']at h;exact⟨h.1.1,h.1.2,h.2⟩
theorem av1(h:plain w=true):iw ⟨w::r,false⟩=(w,⟨r,false⟩):=by
 have e:nm ⟨w::r,false⟩=⟨w::r,false⟩:=by unfold nm;rw[avW,h];rfl
 unfold iw;rw[e,avW,av2 (avU h).1]
theorem axh(h:dZ w.data.toList=true):Z8 w=false:=by
 unfold bS.dZ at h;simp only[dK,iy]at h;unfold Z8;cases g:w.data.toList with
 | nil=>rw[g]at h;simp at h
 | cons b l=>
  rw[g]at h;have e:=iB.1 h.2 b cK;have:nU b=false:=by unfold nU;unfold iY at e;simp only[dK,iy]at e;rw[Bool.and_eq_false_iff];right;exact iD bC
  rw[List.all_cons,this];rfl
theorem azA(h:dZ w.data.toList=true):pE (k+1) d ⟨w::r,false⟩=(⟨2,0,w,[]⟩,⟨r,false⟩):=by have b:=avV<|av0 h;have g:=av1 (r:=r) b;simp only[pE];rw[avW,(avU b).2.1,axh h];have e:oM ⟨w::r,false⟩=(⟨2,0,(iw ⟨w::r,false⟩).1,[]⟩,(iw ⟨w::r,false⟩).2):=rfl;simp only[rz,if_false];rw[e,g]
theorem awE:∀(l:List UInt8) (acc:Nat) (b:UInt8),Lib.decFrom acc (l++[b])=(Lib.decFrom acc l).bind λn=>(Lib.digitVal b).map λd=>n*10+d
 | [],acc,b=>by simp only[sP,Lib.decFrom];cases Lib.digitVal b<;>rfl
 | a::l,acc,b=>by
  simp only[List.cons_append,Lib.decFrom];cases Lib.digitVal a with
  | none=>rfl
  | some d=>exact awE l _ b
theorem ayu(h:v<10):Lib.digitVal (UInt8.ofNat<|48+v)=some v:=by
 have e:(UInt8.ofNat<|48+v).toNat=48+v:=by rw[UInt8.toNat_ofNat'];omega
 unfold Lib.digitVal;rw[e,aK bC];congr 1;omega
theorem axY(u:Nat):Lib.decFrom 0 (Lib.decDigits u)=some u:=by
 induction u using Nat.strongRecOn with
 | ind u b=>
  by_cases h:u<10;·rw[Lib.decDigits_one h];simp only[Lib.decFrom,ayu h];congr 1;omega
  ·rw[Lib.decDigits,dif_neg h,awE,b (u / 10) bC,ayu bC];simp only[Option.bind_some,kV];congr 1;omega
theorem ay9(b:Nat)(h:1<=b):(Lib.decDigits b).getD 0 0≠48:=by
 induction b using Nat.strongRecOn with
 | ind b p=>
  by_cases e:b<10;·rw[Lib.decDigits_one e];show UInt8.ofNat (48+b)≠48;intro i;have:=congrArg UInt8.toNat i;rw[UInt8.toNat_ofNat']at this;have q:(48:UInt8).toNat=48:=rfl;omega
  ·rw[Lib.decDigits,dif_neg e];have:=p (b / 10) bC bC;have j:=ax9<|b / 10;cases g:Lib.decDigits (b / 10)with
   | nil=>exact aM g j
   | cons a l=>rw[g]at this;exact this
theorem aw6:∀(k b:Nat),b<10 ^ (k+1)->Lib.nDigits b<=k+1
 | 0,b,h=>by rw[Lib.nDigits_small bC];exact bG _
 | k+1,b,h=>by
  by_cases e:b<10;·rw[Lib.nDigits_small e];omega
  ·rw[Lib.nDigits_big e];have:=aw6 k (b / 10) (by rw[Nat.div_lt_iff_lt_mul bM];rw[Nat.pow_succ]at h;exact h);omega
theorem ayG(j:0<=n)(G:n<=999999):is ⟨(Lib.itoa n).toArray⟩ [40]=false/\Z8 ⟨(Lib.itoa n).toArray⟩=true/\Z9 ⟨(Lib.itoa n).toArray⟩=false/\BG ⟨(Lib.itoa n).toArray⟩=n/\is ⟨(Lib.itoa n).toArray⟩ []=false:=by
 have z:=awD j;have i:=avU<|avV z;obtain⟨u,rfl⟩:=Int.eq_ofNat_of_zero_le j;have e:(⟨(Lib.itoa (u:Int)).toArray⟩:ByteArray).data.toList=Lib.decDigits u:=by show(Lib.itoa (u:Int)).toArray.toList=_;rw[Lib.itoa_nonneg]
 have C:(⟨(Lib.itoa (u:Int)).toArray⟩:ByteArray).size=Lib.nDigits u:=by rw[<-iG,e,Lib.decDigits_length]
 have H:=aw6 5 u bC;have y:(Lib.decDigits u).all nU=true:=by rw[iB];intro b g;have:=aw5 u b g;unfold nU;simp only[dK,iy];exact this
 have q:Lib.atoi (Lib.decDigits u)=some (u:Int):=by
  cases h:Lib.decDigits u with
  | nil=>exact aM h<|ax9 u
  | cons b l=>
   have g:=aw5 u b (by rw[h];simp);have E:(b==45)=false:=by rw[beq_eq_false_iff_ne];rintro rfl;revert g;decide
   have F:(b==43)=false:=by rw[beq_eq_false_iff_ne];rintro rfl;revert g;decide
   unfold Lib.atoi;simp only[E,F,rz,if_false];unfold Lib.decNat;rw[aI cK,<-h,axY];rfl
 refine⟨i.2.1,?_,?_,?_,i.1⟩;·unfold Z8;rw[i.1,e,y];rfl
 ·unfold Z9;rw[C,e,iD bC,Bool.false_or];by_cases D:1<=u
  ·have:=ay9 u D;have p:((Lib.decDigits u).getD 0 0==48)=false:=by simpa using this
   rw[p,Sg]
  ·have:u=0:=by omega
   subst this;rw[Lib.nDigits_small bM];rfl
 ·unfold BG;rw[e,q];rfl
theorem az6(j:0<=n)(p:n<=999999):pE (k+1) d ⟨⟨(Lib.itoa n).toArray⟩::r,false⟩=(⟨1,n,⟨#[]⟩,[]⟩,⟨r,false⟩):=by
 obtain⟨f1,e,g,h,i⟩:=ayG j p;simp only[pE];rw[avW,f1,e];have b:nu ⟨⟨(Lib.itoa n).toArray⟩::r,false⟩=⟨⟨(Lib.itoa n).toArray⟩::r,false⟩:=by unfold nu;rw[avW,g];rfl
 simp only[rz,if_false,if_true];unfold nuE;rw[b,avW,h,av2 i]
theorem awh{α:Type}{f:α->Nat}{l:List α}{y:α}(h:y∈l):f y<=jh f l:=by
 induction l with
 | nil=>cases h
 | cons a l b=>
  rw[dF];rcases fV.1 h with rfl|h;·omega
  ·have:=b h;omega
theorem ayv:∀(m:Nat) (x:Ex),jo m x=true->∃w t,Tk.ex m x=w::t/\(w=Tk.o\/(plain w=true/\is w [40]=false))
 | 0,x,h=>by cases h
 | m+1,x,h=>by
  simp only[bS.jo]at h;simp only[Tk.ex];by_cases e:x.kind=1;·rw[aK e]at h ⊢;simp only[dK,iy]at h;have b:=avV<|awD h.1.1.1;exact⟨_,_,rfl,aQ ⟨b,(avU b).2.1⟩⟩
  ·rw[aI e]at h ⊢;by_cases g:x.kind=2;·rw[aK g]at h ⊢;simp only[dK]at h;have b:=avV<|av0 h.1.2;exact⟨_,_,rfl,aQ ⟨b,(avU b).2.1⟩⟩
   ·rw[aI g];split;·exact⟨_,_,rfl,aO rfl⟩
    ·exact⟨_,_,rfl,aO rfl⟩
theorem az7(r:aJ):argc ⟨Tk.c::r,false⟩=false:=rfl
theorem axt{pe:Sr->Ex × Sr}:∀(args:List Ex) (n:Nat) (r:aJ),(∀y∈args,jo m y=true)->(∀y∈args,∀g,(Tk.ex m y++g).length<k->pe ⟨Tk.ex m y++g,false⟩=(y,⟨g,false⟩))->
 ((args.map<|Tk.ex m).flatten++Tk.c::r).length<k->args.length<=n->loop argc pe n ⟨(args.map<|Tk.ex m).flatten++Tk.c::r,false⟩=(args,⟨Tk.c::r,false⟩)
 | [],n,r,_,_,_,_=>by simp only[jV,DT,sP];exact rT<|az7 r
 | y::args,n,r,i,q,b,p=>by
  obtain⟨n,rfl⟩:∃j,n=j+1:=⟨n - 1,by simp at p;omega⟩;have u:((y::args).map (Tk.ex m)).flatten++Tk.c::r=Tk.ex m y++((args.map<|Tk.ex m).flatten++Tk.c::r):=by simp
  rw[u]at b ⊢;obtain⟨w,t,D,E⟩:=ayv m y<|i y cK;have C:argc ⟨Tk.ex m y++((args.map<|Tk.ex m).flatten++Tk.c::r),false⟩=true:=by
   rw[D];show(is w [40]||plain w)=true;rcases E with rfl|⟨z,_⟩;·rfl
   ·rw[z,Bool.or_true]
  rw[nI C,q y cK _ b];have F:=axt args n r (λh e=>i h<|by simp[e]) (λh e=>q h<|by simp[e]) (by rw[bg]at b;omega) (by simp at p;omega);simp only[F]
theorem az8(h:opB s=true):opc s=true:=by rcases aw4 h with rfl|rfl|rfl|rfl|rfl<;>rfl
theorem sj{α:Type}{f:α->aJ}{l:List α}(h:∀y∈l,1<=(f y).length):l.length<=(l.map f).flatten.length:=by
 induction l with
 | nil=>simp
 | cons y l e =>have i:=h y cK;have j:=e (λg b=>h g<|by simp[b]);simp only[fZ,uE,bg,vN];omega
theorem awq:∀(m:Nat) (x:Ex) (k d:Nat) (r:aJ),jo m x=true->yw m x+d<=20->(Tk.ex m x++r).length<k->pE k d ⟨Tk.ex m x++r,false⟩=(x,⟨r,false⟩)
 | 0,x,k,d,r,h,_,_=>by cases h
 | m+1,x,0,d,r,h,D,e=>by omega
 | m+1,x,k+1,d,r,h,D,e=>by
  obtain⟨kd,n,s,args⟩:=x;simp only[bS.jo]at h;simp only[bS.yw]at D;simp only[Tk.ex]at e ⊢;by_cases F:kd=1;·subst F;simp only[if_true,dK,iy]at h ⊢;obtain⟨⟨⟨p,i⟩,q⟩,g⟩:=h;have N:s=⟨#[]⟩:=iQ (by rw[A8]at q;simpa using q);have u:args=[]:=qp.1<|beq_iff_eq.1 g;subst N u;exact az6 p i
  ·rw[aI F]at h e ⊢;by_cases G:kd=2;·subst G;simp only[if_true,dK,beq_iff_eq]at h ⊢;obtain⟨⟨p,i⟩,q⟩:=h;have u:args=[]:=qp.1 q;subst p u;exact azA i
   ·rw[aI G]at h e ⊢;rw[aI bC]at D;have E:d≠20:=by omega
    have z:∀y∈args,yw m y+(d+1)<=20:=λy j=>by have:=awh (f:=yw m) j;omega
    by_cases H:kd=3
    ·subst H;simp only[if_true,dK,beq_iff_eq]at h;obtain⟨⟨⟨p,i⟩,q⟩,g⟩:=h;subst p;rw[aI bM]at e ⊢;match args,q,g,z,e with
     | [a,b],_,g,z,e=>
      obtain⟨P,Q⟩:=eY (iB.1 g a cK)<|iB.1 g b cK;have C:(Tk.o::([s]++([a,b].map (Tk.ex m)).flatten)++[Tk.c])++r=Tk.o::s::(Tk.ex m a++(Tk.ex m b++(Tk.c::r))):=by simp
      rw[C]at e ⊢;simp only[vN,bg]at e;obtain⟨S,V,W⟩:=lS ((avU<|avV<|ayt i).1) (awq m a k (d+1) (Tk.ex m b++(Tk.c::r)) P (z a cK) (by simp only[bg,vN];omega)) (awq m b k (d+1) (Tk.c::r) Q (z b cK) (by simp only[bg,vN];omega));simp only[pE];rw[aK dH];unfold cE;rw[av3 E,avW,az8 i,aK rfl];unfold opE;rw[av2 S,V,avW];simp only;rw[W];simp only;rw[av4]
    ·rw[aI H]at h;by_cases I:kd=4
     ·subst I;simp only[if_true,dK,beq_iff_eq,iy]at h e ⊢;obtain⟨⟨⟨p,i⟩,q⟩,g⟩:=h;subst p;have C:(Tk.o::([(⟨#[99,97,108,108]⟩:ByteArray)]++([s]++(args.map<|Tk.ex m).flatten))++[Tk.c])++r=Tk.o::(⟨#[99,97,108,108]⟩:ByteArray)::s::((args.map<|Tk.ex m).flatten++Tk.c::r):=by simp
      rw[C]at e ⊢;simp only[vN]at e;have aa:args.length<=(args.map<|Tk.ex m).flatten.length:=sj (λy j=>by obtain⟨w,t,U,_⟩:=ayv m y<|iB.1 g y j;rw[U];simp);have Z:=axt (pe:=pE k<|d+1) (m:=m) (k:=k) args k r (λy j=>iB.1 g y j) (λy j r' R=>awq m y k (d+1) r' (iB.1 g y j) (z y j) R) bC (by rw[bg]at e;omega);simp only[pE];rw[aK dH];unfold cE;rw[av3 E,avW,aI bM,aK dH,av2 dH];have u:caE (pE k<|d+1) k ⟨s::((args.map<|Tk.ex m).flatten++Tk.c::r),false⟩=(⟨4,0,(iw ⟨s::((args.map<|Tk.ex m).flatten++Tk.c::r),false⟩).1,(loop argc (pE k<|d+1) k (iw ⟨s::((args.map<|Tk.ex m).flatten++Tk.c::r),false⟩).2).1⟩,sh (loop argc (pE k<|d+1) k (iw ⟨s::((args.map<|Tk.ex m).flatten++Tk.c::r),false⟩).2).2):=rfl;rw[u,av1<|avV<|axr i];simp only;rw[Z];simp only;rw[av4]
     ·rw[aI I]at h;cases h
end Rd
namespace Rd
open bS (awC dZ jo yw j6 L6 Vz Sj kR)
theorem avY(h:kR w=true):plain w=true:=avV<|av0 h
theorem aw7{c:Sr->Bool}(u:∀(s:St) (r:aJ),Vz m s=true->c ⟨Tk.stk (Tk.ex m) (Tk.bd m) s++r,false⟩=true)(R:aJ)(q:c ⟨R,false⟩=false)
 (z:∀(s:St) (r:aJ),Vz m s=true->Sj m s+d<=20->(Tk.stk (Tk.ex m) (Tk.bd m) s++r).length<k->(Tk.stk (Tk.ex m) (Tk.bd m) s++r).length<K->pS K k d ⟨Tk.stk (Tk.ex m) (Tk.bd m) s++r,false⟩=(s,⟨r,false⟩)):
 ∀(l:List St) (n:Nat),(∀s∈l,Vz m s=true)->(∀s∈l,Sj m s+d<=20)->((l.map<|Tk.stk (Tk.ex m)<|Tk.bd m).flatten++R).length<k->((l.map<|Tk.stk (Tk.ex m)<|Tk.bd m).flatten++R).length<K->l.length<=n->loop c (pS K k d) n ⟨(l.map<|Tk.stk (Tk.ex m)<|Tk.bd m).flatten++R,false⟩=(l,⟨R,false⟩)
 | [],n,_,_,_,_,_=>by simp only[jV,DT,sP];exact rT q
 | s::l,n,b,p,g,e,y=>by
  obtain⟨n,rfl⟩:∃j,n=j+1:=⟨n - 1,by simp at y;omega⟩;have C:((s::l).map (Tk.stk (Tk.ex m)<|Tk.bd m)).flatten++R=Tk.stk (Tk.ex m) (Tk.bd m) s++((l.map<|Tk.stk (Tk.ex m)<|Tk.bd m).flatten++R):=by simp
  rw[C]at g e ⊢;rw[nI (u s _<|b s cK),z s _ (b s cK) (p s cK) g e];have D:=aw7 u R q z l n (λi h=>b i<|by simp[h]) (λi h=>p i<|by simp[h]) (by rw[bg]at g;omega) (by rw[bg]at e;omega) (by simp at y;omega);simp only[D]
theorem azB(m:Nat)(s:St):1<=(Tk.stk (Tk.ex m) (Tk.bd m) s).length:=by
 unfold Tk.stk;repeat' split
 all_goals simp
theorem azC(m:Nat)(s:St)(r:aJ):LV ⟨Tk.stk (Tk.ex m) (Tk.bd m) s++r,false⟩=true:=by
 unfold Tk.stk;repeat' split
 all_goals rfl
theorem ayH(m:Nat)(s:St)(r:aJ):kY ⟨Tk.stk (Tk.ex m) (Tk.bd m) s++r,false⟩=true:=by
 unfold Tk.stk;repeat' split
 all_goals rfl
theorem axu{s:St}(h:stH s=true):(s.kind=1/\kR s.name=true/\s.a=[]/\s.b=[])\/(s.kind=4/\kR s.name=true/\s.a=[]/\s.b=[])\/(s.kind=2/\s.name=⟨#[]⟩)\/(s.kind=3/\s.name=⟨#[]⟩/\s.b=[]):=by
 unfold stH at h;by_cases b:s.kind=1\/s.kind=4
 ·rw[aK b]at h;simp only[dK,beq_iff_eq]at h;obtain⟨⟨i,j⟩,p⟩:=h;rcases b with k|k;·exact aO ⟨k,i,qp.1 p,qp.1 j⟩
  ·exact aQ<|aO ⟨k,i,qp.1 p,qp.1 j⟩
 ·rw[aI b]at h;by_cases e:s.kind=2;·rw[aK e]at h;exact aQ (aQ<|aO ⟨e,iQ (by rw[A8]at h;simpa using h)⟩)
  ·rw[aI e]at h;by_cases g:s.kind=3;·rw[aK g]at h;simp only[dK,beq_iff_eq]at h;exact aQ (aQ<|aQ ⟨g,iQ (by have:=h.1;rw[A8]at this;simpa using this),qp.1 h.2⟩)
   ·rw[aI g]at h;cases h
theorem aza{l:List St}:l.length<=((l.map<|Tk.stk (Tk.ex m)<|Tk.bd m).flatten).length:=sj (λy _=>azB m y)
theorem axF(p:∀(s:St) (r:aJ),Vz m s=true->Sj m s+(d+1)<=20->(Tk.stk (Tk.ex m) (Tk.bd m) s++r).length<k->(Tk.stk (Tk.ex m) (Tk.bd m) s++r).length<K->pS K k (d+1) ⟨Tk.stk (Tk.ex m) (Tk.bd m) s++r,false⟩=(s,⟨r,false⟩))(l:List St)(r:aJ)(g:j6 (m+1) l=true)(i:L6 (m+1) l+(d+1)<=20)(h:(Tk.bd (m+1) l++Tk.c::r).length<k)(j:(Tk.bd (m+1) l++Tk.c::r).length<K):blk (pS K k<|d+1) k d ⟨Tk.o::(Tk.bd (m+1) l++Tk.c::r),false⟩=(l,⟨r,false⟩):=by rw[wL]at g;rw[JW]at i;have q:=aw7 (c:=LV) (λs r _=>azC m s r) (Tk.c::r) rfl p l k (λs e=>iB.1 g s e) (λs e=>by have:=awh (f:=Sj m) e;omega) h j (by have:=aza (m:=m) (l:=l);have b:Tk.bd (m+1) l=(l.map<|Tk.stk (Tk.ex m)<|Tk.bd m).flatten:=rfl;rw[<-b]at this;rw[bg]at h;omega);have b:Tk.bd (m+1) l=(l.map<|Tk.stk (Tk.ex m)<|Tk.bd m).flatten:=rfl;unfold blk;rw[av3 bC,b,q];simp only;rw[av4]
theorem azb(K:Nat):∀(m:Nat) (s:St) (k d:Nat) (r:aJ),Vz m s=true->Sj m s+d<=20->(Tk.stk (Tk.ex m) (Tk.bd m) s++r).length<k->(Tk.stk (Tk.ex m) (Tk.bd m) s++r).length<K->pS K k d ⟨Tk.stk (Tk.ex m) (Tk.bd m) s++r,false⟩=(s,⟨r,false⟩)
 | m,s,0,d,r,h,u,i,g=>by omega
 | 0,s,k+1,d,r,h,u,i,g=>by unfold bS.Vz at h;simp[bS.jo]at h
 | m+1,s,k+1,d,r,h,u,i,g=>by
  unfold bS.Vz at h;simp only[dK]at h;obtain⟨⟨⟨S,E⟩,G⟩,I⟩:=h;obtain⟨kd,y,e,a,b⟩:=s;simp only at E G I;unfold bS.Sj at u;simp only at u;unfold Tk.stk at i g ⊢
  have H:∀(s:St) (r:aJ),Vz m s=true->Sj m s+(d+1+1)<=20->(Tk.stk (Tk.ex m) (Tk.bd m) s++r).length<k->(Tk.stk (Tk.ex m) (Tk.bd m) s++r).length<K->pS K k (d+1+1) ⟨Tk.stk (Tk.ex m) (Tk.bd m) s++r,false⟩=(s,⟨r,false⟩):=
   λs r N P Q R=>azb K m s k (d+1+1) r N P Q R
  rcases axu S with⟨p,F,C,q⟩|⟨p,F,C,q⟩|⟨p,D⟩|⟨p,D,q⟩
  ·simp only at p F C q;subst p C q;simp only[if_true]at i g ⊢;rw[aI bM]at u;have z:(Tk.o::([(⟨#[115,101,116]⟩:ByteArray)]++([y]++(Tk.ex (m+1) e++[])))++[Tk.c])++r=Tk.o::(⟨#[115,101,116]⟩:ByteArray)::y::(Tk.ex (m+1) e++Tk.c::r):=by simp
   rw[z]at i g ⊢;simp only[vN]at i g;have j:op d ⟨Tk.o::(⟨#[115,101,116]⟩:ByteArray)::y::(Tk.ex (m+1) e++Tk.c::r),false⟩=⟨(⟨#[115,101,116]⟩:ByteArray)::y::(Tk.ex (m+1) e++Tk.c::r),false⟩:=av3 bC;rw[atJ (aO rfl) (by rw[j];rfl),j,av2 rfl,av1<|avY F];simp only;rw[awq (m+1) e K (d+1) (Tk.c::r) E bC bC];simp only;rw[av4]
  ·simp only at p F C q;subst p C q;simp only at i g ⊢;rw[aI bM,aK trivial]at i g ⊢;rw[aI bM]at u;have z:(Tk.o::([(⟨#[112,114,105,110,116]⟩:ByteArray)]++([y]++(Tk.ex (m+1) e++[])))++[Tk.c])++r=Tk.o::(⟨#[112,114,105,110,116]⟩:ByteArray)::y::(Tk.ex (m+1) e++Tk.c::r):=by simp
   rw[z]at i g ⊢;simp only[vN]at i g;have j:op d ⟨Tk.o::(⟨#[112,114,105,110,116]⟩:ByteArray)::y::(Tk.ex (m+1) e++Tk.c::r),false⟩=⟨(⟨#[112,114,105,110,116]⟩:ByteArray)::y::(Tk.ex (m+1) e++Tk.c::r),false⟩:=av3 bC;rw[atJ (aQ rfl) (by rw[j];rfl),j,av2 rfl,av1<|avY F];simp only;rw[awq (m+1) e K (d+1) (Tk.c::r) E bC bC];simp only;rw[av4]
  ·simp only at p D;subst p D;simp only at i g ⊢;rw[aI bM,aI bM,aI bM]at i g ⊢;rw[aK (aO rfl)]at u;have z:(Tk.o::([(⟨#[105,102]⟩:ByteArray)]++(Tk.ex (m+1) e++((Tk.o::Tk.bd (m+1) a++[Tk.c])++((Tk.o::Tk.bd (m+1) b++[Tk.c])++[]))))++[Tk.c])++r=Tk.o::(⟨#[105,102]⟩:ByteArray)::(Tk.ex (m+1) e++Tk.o::(Tk.bd (m+1) a++Tk.c::(Tk.o::(Tk.bd (m+1) b++Tk.c::(Tk.c::r))))):=by simp
   rw[z]at i g ⊢;simp only[vN,bg]at i g;have j:op d ⟨Tk.o::(⟨#[105,102]⟩:ByteArray)::(Tk.ex (m+1) e++Tk.o::(Tk.bd (m+1) a++Tk.c::(Tk.o::(Tk.bd (m+1) b++Tk.c::(Tk.c::r))))),false⟩=⟨(⟨#[105,102]⟩:ByteArray)::(Tk.ex (m+1) e++Tk.o::(Tk.bd (m+1) a++Tk.c::(Tk.o::(Tk.bd (m+1) b++Tk.c::(Tk.c::r))))),false⟩:=av3 bC;rw[Mw (by rw[j];rfl),j,av2 rfl];rw[awq (m+1) e K (d+1) _ E bC (by simp only[vN,bg];omega)];simp only;rw[axF H a _ G bC (by simp only[vN,bg];omega) (by simp only[vN,bg];omega)];simp only;rw[axF H b _ I bC (by simp only[vN,bg];omega) (by simp only[vN,bg];omega)];simp only;rw[av4]
  ·simp only at p D q;subst p D q;simp only at i g ⊢;rw[aI bM,aI bM,aK trivial]at i g ⊢;rw[aK (aQ rfl)]at u;have z:(Tk.o::([(⟨#[119,104,105,108,101]⟩:ByteArray)]++(Tk.ex (m+1) e++((Tk.o::Tk.bd (m+1) a++[Tk.c])++[])))++[Tk.c])++r=Tk.o::(⟨#[119,104,105,108,101]⟩:ByteArray)::(Tk.ex (m+1) e++Tk.o::(Tk.bd (m+1) a++Tk.c::(Tk.c::r))):=by simp
   rw[z]at i g ⊢;simp only[vN,bg]at i g;have j:op d ⟨Tk.o::(⟨#[119,104,105,108,101]⟩:ByteArray)::(Tk.ex (m+1) e++Tk.o::(Tk.bd (m+1) a++Tk.c::(Tk.c::r))),false⟩=⟨(⟨#[119,104,105,108,101]⟩:ByteArray)::(Tk.ex (m+1) e++Tk.o::(Tk.bd (m+1) a++Tk.c::(Tk.c::r))),false⟩:=av3 bC;rw[Rv (by rw[j];rfl),j,av2 rfl];rw[awq (m+1) e K (d+1) _ E bC (by simp only[vN,bg];omega)];simp only;rw[axF H a _ G bC (by simp only[vN,bg];omega) (by simp only[vN,bg];omega)];simp only;rw[av4]
theorem azc{x:Ex}(h:jo m x=true)(r:aJ):kY ⟨Tk.ex m x++r,false⟩=false:=by
 cases m with
 | zero=>cases h
 | succ m=>
  simp only[bS.jo]at h;simp only[Tk.ex];by_cases e:x.kind=1;·rw[aK e]at h ⊢;simp only[dK,iy]at h;have:=(avU<|avV<|awD h.1.1.1).2.1;show(is _ [40]&&_)=false;rw[show is (pk ⟨[(⟨(Lib.itoa x.n).toArray⟩:ByteArray)]++r,false⟩) [40]=false from this];rfl
  ·rw[aI e]at h ⊢;by_cases g:x.kind=2;·rw[aK g]at h ⊢;simp only[dK]at h;have:=(avU<|avV<|av0 h.1.2).2.1;show(is _ [40]&&_)=false;rw[show is (pk ⟨[x.name]++r,false⟩) [40]=false from this];rfl
   ·rw[aI g]at h ⊢;by_cases i:x.kind=3
    ·rw[aK i]at h;simp only[dK]at h;rw[aI bC];have p:cmd x.name=0:=by rcases aw4 h.1.1.2 with b|b|b|b|b<;>rw[b]<;>rfl
     show(true&&decide (cmd x.name≠0))=false;rw[p];rfl
    ·rw[aI i]at h;by_cases j:x.kind=4;·rw[aK j];rfl
     ·rw[aI j]at h;cases h
theorem aw8:∀(l:aJ) (n:Nat) (r:aJ),(∀s∈l,kR s=true)->l.length<=n->loop Ri iw n ⟨l++Tk.c::r,false⟩=(l,⟨Tk.c::r,false⟩)
 | [],n,r,_,_=>rT rfl
 | s::l,n,r,h,b=>by obtain⟨n,rfl⟩:∃j,n=j+1:=⟨n - 1,by simp at b;omega⟩;have e:=avY<|h s cK;rw[nI (show Ri ⟨(s::l)++Tk.c::r,false⟩=true from e)];rw[List.cons_append,av1 e];have i:=aw8 l n r (λp g=>h p<|by simp[g]) (by simp at b;omega);simp only[i]
theorem az9{K m d:Nat}{f:Fu}{r:List ByteArray}(h:Wp m f=true)(hd:1+max (max 1 (L6 m f.body)) (yw m f.result)+d<=21)(hd1:1<=d)(hK:([f.name]++((Tk.o::f.params++[Tk.c])++(Tk.bd m f.body++(Tk.ex m f.result++r)))).length<K):pF K d ⟨[f.name]++((Tk.o::f.params++[Tk.c])++(Tk.bd m f.body++(Tk.ex m f.result++r))),false⟩=(f,⟨r,false⟩):=by
 unfold Wp at h;simp only[dK]at h;obtain⟨⟨⟨hn,hb⟩,hx⟩,hp⟩:=h;cases m with
 | zero=>cases hb
 | succ m=>
  have e1:[f.name]++((Tk.o::f.params++[Tk.c])++(Tk.bd (m+1) f.body++(Tk.ex (m+1) f.result++r)))=f.name::(Tk.o::(f.params++Tk.c::(Tk.bd (m+1) f.body++(Tk.ex (m+1) f.result++r)))):=by simp
  rw[e1]at hK ⊢;simp only[vN,bg]at hK;have hb':=hb;rw[wL]at hb';have il:=aw7 (K:=K) (k:=K) (d:=d) (m:=m) (c:=kY) (λs r _=>ayH m s r) (Tk.ex (m+1) f.result++r) (azc hx r) (λs r h1 h2 h3 h4=>azb K m s K d r h1 h2 h3 h4) f.body K (λs hs=>iB.1 hb' s hs) (λs hs=>by have:=awh (f:=Sj m) hs;rw[<-JW]at this;omega) (by have e:Tk.bd (m+1) f.body=(f.body.map (Tk.stk (Tk.ex m) (Tk.bd m))).flatten:=rfl;rw[<-e];simp only[bg];omega) (by have e:Tk.bd (m+1) f.body=(f.body.map (Tk.stk (Tk.ex m) (Tk.bd m))).flatten:=rfl;rw[<-e];simp only[bg];omega) (by have:=aza (m:=m) (l:=f.body);have e:Tk.bd (m+1) f.body=(f.body.map (Tk.stk (Tk.ex m) (Tk.bd m))).flatten:=rfl;rw[<-e]at this;omega);have e2:Tk.bd (m+1) f.body=(f.body.map (Tk.stk (Tk.ex m) (Tk.bd m))).flatten:=rfl;have hpar:vI K d ⟨Tk.o::(f.params++Tk.c::(Tk.bd (m+1) f.body++(Tk.ex (m+1) f.result++r))),false⟩=(f.params,⟨Tk.bd (m+1) f.body++(Tk.ex (m+1) f.result++r),false⟩):=by unfold vI;rw[av3 (by omega),aw8 f.params K _ (λs hs=>iB.1 hp s hs) (by omega)];simp only;rw[av4]
  have hpf:∀st,pF K d st=(⟨(iw st).1,(vI K d (iw st).2).1,(loop kY (pS K K d) K (vI K d (iw st).2).2).1,(pE K d (loop kY (pS K K d) K (vI K d (iw st).2).2).2).1⟩,(pE K d (loop kY (pS K K d) K (vI K d (iw st).2).2).2).2):=λ_=>rfl;rw[hpf,av1 (avY hn)];simp only;rw[hpar];simp only;rw[e2,il];simp only;rw[awq (m+1) f.result K d r hx (by omega) (by simp only[bg];omega)]
theorem aAr{m:Mo}(h:kR s=true):pI K 1 m ⟨Tk.im s++r,false⟩=({ m with imports:=m.imports++[s] },⟨r,false⟩):=by
 have b:Tk.im s++r=Tk.o::(⟨#[105,109,112,111,114,116]⟩:ByteArray)::s::(Tk.c::r):=by unfold Tk.im;simp
 have e:op 1 ⟨Tk.o::(⟨#[105,109,112,111,114,116]⟩:ByteArray)::s::(Tk.c::r),false⟩=⟨(⟨#[105,109,112,111,114,116]⟩:ByteArray)::s::(Tk.c::r),false⟩:=av3 bM;rw[b];unfold pI;rw[e,avW,aK dH,av2 rfl,av1<|avY h];simp only;rw[av4]
theorem aAs{m:Mo}{v:Va}(h:Q6 v=true):pI K 1 m ⟨Tk.va v++r,false⟩=({ m with vars:=m.vars++[v] },⟨r,false⟩):=by
 unfold Q6 at h;simp only[dK]at h;have b:Tk.va v++r=Tk.o::(⟨#[118,97,114]⟩:ByteArray)::v.name::v.level::(Tk.c::r):=by unfold Tk.va;simp
 have e:op 1 ⟨Tk.o::(⟨#[118,97,114]⟩:ByteArray)::v.name::v.level::(Tk.c::r),false⟩=⟨(⟨#[118,97,114]⟩:ByteArray)::v.name::v.level::(Tk.c::r),false⟩:=av3 bM;rw[b];unfold pI;rw[e,avW,aI bM,aK dH,av2 rfl,anO,av1<|avY h.1];simp only;rw[av1 (avY h.2)];simp only;rw[av4]
theorem aAt{m:Mo}(h:Wp M f=true)(g:YK M f<=19)(b:(Tk.fu M f++r).length<K):pI K 1 m ⟨Tk.fu M f++r,false⟩=({ m with bq:=m.bq++[f] },⟨r,false⟩):=by
 have e:Tk.fu M f++r=Tk.o::(⟨#[102,117,110]⟩:ByteArray)::([f.name]++((Tk.o::f.params++[Tk.c])++(Tk.bd M f.body++(Tk.ex M f.result++(Tk.c::r))))):=by unfold Tk.fu;simp
 have i:op 1 ⟨Tk.o::(⟨#[102,117,110]⟩:ByteArray)::([f.name]++((Tk.o::f.params++[Tk.c])++(Tk.bd M f.body++(Tk.ex M f.result++(Tk.c::r))))),false⟩=⟨(⟨#[102,117,110]⟩:ByteArray)::([f.name]++((Tk.o::f.params++[Tk.c])++(Tk.bd M f.body++(Tk.ex M f.result++(Tk.c::r))))),false⟩:=av3 bM;rw[e]at b ⊢;simp only[vN]at b;unfold YK at g;unfold pI;rw[i,avW,aI bM,aI bM,aK dH,av2 rfl,az9 h bC bC bC];simp only;rw[av4]
theorem awF{α:Type}{t:α->aJ}{f:Mo->α->Mo}:∀(l:List α) (n:Nat) (m:Mo) (r:aJ),(∀y∈l,∀m r,(t y++r).length<K->pI K 1 m ⟨t y++r,false⟩=(f m y,⟨r,false⟩))->(∀y∈l,∀r,LV ⟨t y++r,false⟩=true)->
 ((l.map t).flatten++r).length<K->l.length<=n->Ow K 1 n m ⟨(l.map t).flatten++r,false⟩=Ow K 1 (n - l.length) (l.foldl f m) ⟨r,false⟩
 | [],n,m,r,_,_,_,_=>by simp
 | y::l,n,m,r,h,i,b,p=>by
  obtain⟨n,rfl⟩:∃j,n=j+1:=⟨n - 1,by simp at p;omega⟩;have q:((y::l).map t).flatten++r=t y++((l.map t).flatten++r):=by simp
  rw[q]at b ⊢;rw[TL (i y cK _),h y cK m _ b];simp only;rw[awF l n _ r (λg e=>h g<|by simp[e]) (λg e=>i g<|by simp[e]) (by rw[bg]at b;omega) (by simp at p;omega),pz,vN,Nat.add_sub_add_right]
theorem ayw:∀(l:aJ) (m:Mo),l.foldl (λm s=>{ m with imports:=m.imports++[s] }) m={ m with imports:=m.imports++l }
 | [],m=>by simp
 | s::l,m=>by rw[pz,ayw l];simp
theorem ayx:∀(l:List Va) (m:Mo),l.foldl (λm s=>{ m with vars:=m.vars++[s] }) m={ m with vars:=m.vars++l }
 | [],m=>by simp
 | s::l,m=>by rw[pz,ayx l];simp
theorem ayy:∀(l:List Fu) (m:Mo),l.foldl (λm s=>{ m with bq:=m.bq++[s] }) m={ m with bq:=m.bq++l }
 | [],m=>by simp
 | s::l,m=>by rw[pz,ayy l];simp
theorem aAa(q:kR x.name=true)(j:x.imports.all kR=true)(C:x.vars.all Q6=true)(i:∀f∈x.bq,Wp M f=true)(h:moD M x<=20)(e:(Tk.mo M x).length<K):pM K ⟨Tk.mo M x,false⟩=(x,⟨[],false⟩):=by
 have g:Tk.mo M x=Tk.o::(⟨#[109,111,100,117,108,101]⟩:ByteArray)::x.name::((x.imports.map Tk.im).flatten++((x.vars.map Tk.va).flatten++((x.bq.map<|Tk.fu M).flatten++[Tk.c]))):=by unfold Tk.mo;simp
 rw[g]at e ⊢;simp only[vN,bg,Ef]at e;have u:∀st,pM K st=((Ow K 1 K ⟨(iw<|m1 st).1,[],[],[]⟩ (iw<|m1 st).2).1,sh (Ow K 1 K ⟨(iw<|m1 st).1,[],[],[]⟩ (iw<|m1 st).2).2):=λ_=>rfl;have p:∀r,m1 ⟨Tk.o::(⟨#[109,111,100,117,108,101]⟩:ByteArray)::r,false⟩=⟨r,false⟩:=λr=>by unfold m1;rw[av3 bM,axE rfl cK]
 have D:x.imports.length<=(x.imports.map Tk.im).flatten.length:=sj (λy _=>by unfold Tk.im;simp);have E:x.vars.length<=(x.vars.map Tk.va).flatten.length:=sj (λy _=>by unfold Tk.va;simp);have F:x.bq.length<=(x.bq.map<|Tk.fu M).flatten.length:=sj (λy _=>by unfold Tk.fu;simp);rw[u,p,av1<|avY q];simp only;rw[awF (t:=Tk.im) (f:=λm s=>{ m with imports:=m.imports++[s] }) x.imports K _ _ (λy b m r _=>aAr<|iB.1 j y b) (λ_ _ _=>rfl) (by simp only[bg,vN,Ef];omega) bC];rw[awF (t:=Tk.va) (f:=λm s=>{ m with vars:=m.vars++[s] }) x.vars _ _ _ (λy b m r _=>aAs<|iB.1 C y b) (λ_ _ _=>rfl) (by simp only[bg,vN,Ef];omega) bC];rw[awF (t:=Tk.fu M) (f:=λm s=>{ m with bq:=m.bq++[s] }) x.bq _ _ _ (λy b m r z=>aAt (i y b) (by have:=awh (f:=YK M) b;unfold moD at h;omega) z) (λ_ _ _=>rfl) (by simp only[bg,vN,Ef];omega) bC];rw[TM (show LV ⟨[Tk.c],false⟩=false from rfl),ayw,ayx,ayy,av4];simp
theorem axv:∀(m:Nat) (x:Ex) (k:Nat),jo m x=true->yw m x<k->jo k x=true/\zT k x=zT m x
 | 0,x,k,h,_=>by cases h
 | m+1,x,0,h,p=>by omega
 | m+1,x,k+1,h,p=>by
  simp only[bS.yw]at p;simp only[bS.jo]at h ⊢;simp only[zT];by_cases g:x.kind=1;·rw[aK g]at h ⊢;rw[aK g,aK g];exact⟨h,rfl⟩
  ·rw[aI g]at h ⊢;rw[aI g,aI g];by_cases i:x.kind=2;·rw[aK i]at h ⊢;rw[aK i,aK i];exact⟨h,rfl⟩
   ·rw[aI i]at h ⊢;rw[aI i,aI i];rw[aI bC]at p;have G:∀y∈x.args,jo m y=true->jo k y=true/\zT k y=zT m y:=λy b D=>axv m y k D (by have:=awh (f:=yw m) b;omega);have C:x.args.all (jo m)=true->x.args.all (jo k)=true/\x.args.foldl (Fq<|zT k) (Fv x)=x.args.foldl (Fq<|zT m) (Fv x):=λE=>by
     have e:∀y∈x.args,jo k y=true/\zT k y=zT m y:=λy b=>G y b<|iB.1 E y b;refine⟨iB.2 (λy b=>(e y b).1),?_⟩;have:∀(l:List Ex) (acc:ByteArray),(∀y∈l,zT k y=zT m y)->l.foldl (Fq<|zT k) acc=l.foldl (Fq<|zT m) acc:=by
      intro l;induction l with
      | nil=>intro acc _;rfl
      | cons y l H =>intro acc q;rw[pz,pz,H _ (λI F=>q I<|by simp[F])];unfold Fq;rw[q y cK]
     exact this _ _ (λy b=>(e y b).2)
    by_cases u:x.kind=3;·rw[aK u]at h ⊢;simp only[dK]at h ⊢;obtain⟨e,j⟩:=C h.2;exact⟨⟨h.1,e⟩,by rw[j]⟩
    ·rw[aI u]at h ⊢;by_cases z:x.kind=4;·rw[aK z]at h ⊢;simp only[dK]at h ⊢;obtain⟨e,j⟩:=C h.2;exact⟨⟨h.1,e⟩,by rw[j]⟩
     ·rw[aI z]at h;cases h
theorem axZ:∀(m:Nat) (l:List St) (k:Nat),j6 m l=true->L6 m l<k->j6 k l=true/\bS.Me k l=bS.Me m l
 | 0,l,k,h,_=>by cases h
 | m+1,l,0,h,G=>by omega
 | m+1,l,k+1,h,G=>by
  rw[wL]at h;rw[JW]at G;have I:∀s∈l,Vz k s=true/\stX k s=stX m s:=λs i=>by
   have F:=iB.1 h s i;have j:Sj m s<k+1:=Nat.lt_of_le_of_lt (awh (f:=Sj m) i) G;unfold bS.Vz at F ⊢;simp only[dK]at F ⊢;obtain⟨⟨⟨p,y⟩,N⟩,P⟩:=F;unfold bS.Sj at j;rcases axu p with⟨b,R,E,u⟩|⟨b,R,E,u⟩|⟨b,Q⟩|⟨b,Q,u⟩
   ·rw[aI bC]at j;obtain⟨e,g⟩:=axv m s.e k y bC;have q:j6 k []=true:=by
     cases k with
     | zero=>omega
     | succ k=>rfl
    refine⟨⟨⟨⟨p,e⟩,by rw[E];exact q⟩,by rw[u];exact q⟩,?_⟩;rw[<-aee k s b,<-aee m s b,g]
   ·rw[aI bC]at j;obtain⟨e,g⟩:=axv m s.e k y bC;have q:j6 k []=true:=by
     cases k with
     | zero=>omega
     | succ k=>rfl
    refine⟨⟨⟨⟨p,e⟩,by rw[E];exact q⟩,by rw[u];exact q⟩,?_⟩;rw[<-Wq k s b,<-Wq m s b,g]
   ·rw[aK (aO b)]at j;obtain⟨e,g⟩:=axv m s.e k y bC;obtain⟨z,C⟩:=axZ m s.a k N bC;obtain⟨D,H⟩:=axZ m s.b k P bC;refine⟨⟨⟨⟨p,e⟩,z⟩,D⟩,?_⟩;rw[<-ahF k s b,<-ahF m s b,g,C,H]
   ·rw[aK (aQ b)]at j;obtain⟨e,g⟩:=axv m s.e k y bC;obtain⟨z,C⟩:=axZ m s.a k N bC;obtain⟨D,H⟩:=axZ m s.b k P bC;refine⟨⟨⟨⟨p,e⟩,z⟩,D⟩,?_⟩;rw[<-Ws k s b,<-Ws m s b,g,C]
  refine⟨by rw[wL];exact iB.2 (λs i=>(I s i).1),?_⟩;simp only[bS.Me];exact Na (λs i=>(I s i).2)
theorem aAu(h:Wp m f=true)(i:YK m f<=k):Wp k f=true/\fuX k f=fuX m f:=by unfold YK at i;unfold Wp at h ⊢;simp only[dK]at h ⊢;obtain⟨⟨⟨j,g⟩,q⟩,p⟩:=h;obtain⟨b,e⟩:=axZ m f.body k g bC;obtain⟨u,y⟩:=axv m f.result k q bC;refine⟨⟨⟨⟨j,b⟩,u⟩,p⟩,?_⟩;unfold fuX;rw[e,y]
theorem axw(h:oO m x=0):(x.imports.length<=8/\x.vars.length<=8/\x.bq.length<=8)/\kR x.name=true/\x.imports.all kR=true/\x.vars.all Q6=true/\(∀f∈x.bq,Q7 m f=0/\Wp m f=true)/\DX (moT m x)=false:=by
 unfold oO at h;split at h;·cases h
 ·rename_i q;split at h;·cases h
  ·rename_i j;split at h;·rename_i e;exact aM h e
   ·rename_i e;split at h;·cases h
    ·rename_i p;have b:((kR x.name&&x.imports.all kR)&&x.vars.all Q6)=true:=eq_true_of_ne_false j;simp only[dK]at b;have g:uZ m x.bq=0:=Classical.byContradiction e;exact⟨⟨by omega,by omega,by omega⟩,b.1.1,b.1.2,b.2,λf i=>⟨uP g f i,WR<|uP g f i⟩,eq_false_of_ne_true p⟩
theorem aAb(u:x.bq≠[]->m≠0)(h:oO m x=0)(I:21<=k):oO k x=0/\moT k x=moT m x/\moD m x<=20:=by
 obtain⟨⟨N,P,Q⟩,y,q,C,g,p⟩:=axw h;have i:moD m x<=20:=by have:=ah4 u y q C (λf b=>(g f b).2);rw[p]at this;have:=of_decide_eq_false this.symm;omega
 have z:∀f∈x.bq,Wp k f=true/\fuX k f=fuX m f:=λf b=>aAu (g f b).2 (by have:=awh (f:=YK m) b;unfold moD at i;omega);have j:moT k x=moT m x:=by rw[<-akH u,<-akH (m:=k) (λ_=>by omega)];unfold moX;rw[Na (λf b=>(z f b).2)]
 refine⟨?_,j,i⟩;have G:uZ k x.bq=0:=NG (λd E H=>by
  have D:=dG H;have e:=(g E D).1;unfold Q7 at e ⊢;split at e;·cases e
  ·rename_i F;rw[aI F,aK (z E D).1])
 unfold oO;rw[aI bC,y,q,C,G,j,p];rfl
theorem ayb(p:x.bq≠[]->m≠0)(h:oO m x=0)(z:¬4096<(moT m x).size):prE (moT m x)=0/\prX (moT m x)=x:=by
 obtain⟨_,q,j,u,i,_⟩:=axw h;obtain⟨D,_,C⟩:=aAb (k:=8196) p h bM;obtain⟨w1,y⟩:=(az5 p q j u (λf b=>(i f b).2)).words z;have E:(Tk.mo m x).length<4097:=by rw[<-y];have:=(abq<|moT m x).1;omega
 have e:TP (moT m x)=(x,⟨[],false⟩):=by unfold TP;rw[y];exact aAa q j u (λf b=>(i f b).2) C E
 have F:prS (moT m x)=⟨[],false⟩:=by unfold prS;rw[e];rfl
 have g:prE (moT m x)=0:=by unfold prE;rw[aK w1,F,e];simp only[rz,if_false];exact D
 exact⟨g,by unfold prX;rw[aK g,e]⟩
theorem ayc(h:4096<t.size):prE t=2:=by
 have:bS.we t=2:=by unfold bS.we;rw[aK h]
 unfold prE;rw[this];rfl
end Rd
