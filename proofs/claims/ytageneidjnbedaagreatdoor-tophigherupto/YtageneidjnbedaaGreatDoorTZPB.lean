import Derived.Test.YtageneidjnbedaaGreatDoorTZPA
import Derived.Lib.AtoiBound
import Derived.Lib.SmallJoins
import Derived.Deep.CutBlock
set_option maxHeartbeats 0
set_option maxRecDepth 99999
namespace Go.Proofs.YtageneidjnbedaaGreatDoor
open Rd
open Go.Proofs.Tryz
open Go.RowKit
variable{w w1 w2 w0 w' W W':bI}{n m p d d' i:Nat}{v c0 c1 c2 c3 r0 r1 r2 r3:aC}{c:List aC}{y x:Ex}{l:List Ex}{ws:aJ}{ps:List Int}{T:TypeId}{s:St}{r:Array aC}
theorem ade(s:aS)(h:s.size<=18):mq (BG s):=by
 unfold BG;cases b:Lib.atoi s.data.toList with
 | none=>exact⟨by decide,by decide⟩
 | some n =>have:=Lib.atoi_bound b (by rw[iG];exact h);exact⟨by simp only[gD];omega,by simp only[gD];omega⟩
theorem JH(w:bI)(p:Nat)(ws:aJ)(ps:List Int)(d:Nat)(st:Sr)(h:dL w p ws ps d st)(s:aS)(j:s.size<=18):aD 180 #[A s] w λe w'=>∃v,e=dz (.tuple #[O (BG s),v])/\(v=.nilIface\/(∃t x,v=.iface t x)/\BG s=0)/\bK w w':=by
 cases b:Lib.atoi s.data.toList with
 | some n =>refine(Tryz.strconv_Atoi s n j b w).mono ?_;rintro e w' ⟨rfl,t,rfl⟩;exact⟨_,by unfold BG;rw[b];rfl,aO rfl,Joins.below_bytesWorld _ _ _ _<|bG _⟩
 | none=>
  obtain⟨_,_,_,_,_,_,⟨g,z,x,t,B,k,C,q⟩,_⟩:=h;refine(Tryz.strconv_Atoi_err_var s j b z x w (by unfold World.var?;rw[k];simp[q])).mono ?_;rintro e w' ⟨N,rfl,_,_,u⟩;have f:BG s=0:=by unfold BG;rw[b];rfl
  exact⟨_,by rw[f],aQ ⟨⟨_,_,rfl⟩,f⟩,u⟩
theorem ahf(s:aS):Z9 s=(decide (6<s.size)||(decide (1<s.size)&&((s.data.toList.getD 0 0).toNat==48))):=by
 unfold Z9;have e:(s.data.toList.getD 0 0==48)=((s.data.toList.getD 0 0).toNat==48):=by
  generalize s.data.toList.getD 0 0=c;rw[vG];simp only[beq_iff_eq];constructor;·rintro rfl;rfl
  ·intro h;exact UInt8.toNat_inj.1 h
 rw[e]
theorem RF(w:bI)(p:Nat)(ws:aJ)(ps:List Int)(d:Nat)(st:Sr)(h:dL w p ws ps d st):aD 122 #[gK p] w λj w'=>j=dz (O<|BG<|Rd.pk<|Rd.nu st)/\dL w' p ws ps d (Rd.tk<|Rd.nu st)/\But p w w':=by
 have U:J (Rd.nu st=if Z9 (Rd.pk st)then Rd.fl st else st):=rfl;have L:J (Rd.pk (Rd.fl st)=⟨#[]⟩):=rfl;have S:=Y<|ahf<|Rd.pk st;have ad:(Rd.pk st).size<=4096:=IV h 0;go_enter func122,ntmps122;go_wp2_with fail;refine(iF w p ws ps d st h).mono ?_;rintro j w1 ⟨rfl,B,R⟩;clear h;obtain⟨x,Z⟩:=aV<|Rd.pk st;have M:=Y Z;rw[<-Z]at U S ad ⊢;clear Z;cases C:Z9 x
 ·have b:J (Rd.nu st=st):=Y (by rw[U,C];rfl);have f:=S.out;rw[C]at f;have h6:¬6<x.size:=by intro V;rw[gW V]at f;cases f
  have ab:¬((x.size:Int) > 6):=by omega
  by_cases h2:1<x.size
  ·have hz:¬(x[0]'bC).toNat=48:=by intro V;rw[byte_at x 0 bC,gW h2,V]at f;simp at f
   have aa:(x.size:Int) > 1:=by omega
   have ac:decide ((6:Int)<(x.size:Int))=false:=iD bC;have ae:(((x[0]'bC).toNat:Int)==48)=false:=by rw[beq_eq_false_iff_ne];omega
   clear f C;go_wp2_with fail;refine(iW w1 p ws ps d st B).mono ?_;rintro j w2 ⟨rfl,e,F⟩;rw[<-M];go_wp2_with fail;refine(JH w2 p ws ps d _ e x bC).mono ?_;rintro j N ⟨v,rfl,z,q⟩;obtain⟨k,u⟩:=bV (e.below q)<|(R.trans F).trans (But.of_below q);clear q e B;obtain⟨P,H⟩:∃P,P=BG x:=⟨_,rfl⟩;have g:=Y H;rw[<-H]at z ⊢;clear H;rcases z with rfl|⟨⟨t,y,rfl⟩,I⟩;·go_wp2;go_ret;exact⟨bZ (by rw[b.out,<-M];exact g),by rw[b.out];exact k,u⟩
   ·subst I;go_wp2;go_ret;exact⟨bZ (by rw[b.out,<-M];exact g),by rw[b.out];exact k,u⟩
  ·have aa:¬((x.size:Int) > 1):=by omega
   clear f C;go_wp2_with fail;refine(iW w1 p ws ps d st B).mono ?_;rintro j w2 ⟨rfl,e,F⟩;rw[<-M];go_wp2_with fail;refine(JH w2 p ws ps d _ e x bC).mono ?_;rintro j N ⟨v,rfl,z,q⟩;obtain⟨k,u⟩:=bV (e.below q)<|(R.trans F).trans (But.of_below q);clear q e B;obtain⟨P,H⟩:∃P,P=BG x:=⟨_,rfl⟩;have g:=Y H;rw[<-H]at z ⊢;clear H;rcases z with rfl|⟨⟨t,y,rfl⟩,I⟩;·go_wp2;go_ret;exact⟨bZ (by rw[b.out,<-M];exact g),by rw[b.out];exact k,u⟩
   ·subst I;go_wp2;go_ret;exact⟨bZ (by rw[b.out,<-M];exact g),by rw[b.out];exact k,u⟩
 ·have b:J (Rd.nu st=Rd.fl st):=Y (by rw[U,C];rfl);have f:=S.out;rw[C]at f;have HA:=Y (λ(W:bI) (st':Sr) (hR:dL W p ws ps d st')=>JH W p ws ps d st' hR ⟨#[]⟩ bM);have g:J (BG ⟨#[]⟩=0):=rfl;by_cases h6:6<x.size
  ·have ab:(x.size:Int) > 6:=by omega
   clear f C;go_wp2_with fail;refine(mG w1 p ws ps d st B).mono ?_;rintro j w2 ⟨rfl,e,F⟩;go_wp2_with fail;refine(iW w2 p ws ps d _ e).mono ?_;rintro j N ⟨rfl,D,q⟩;rw[L];go_wp2_with fail;refine(HA N _ D).mono ?_;rintro j w4 ⟨v,rfl,z,G⟩;obtain⟨k,u⟩:=bV (D.below G)<|((R.trans F).trans q).trans (But.of_below G);rw[g];clear G D e B;rcases z with rfl|⟨⟨t,y,rfl⟩,I⟩;·go_wp2;go_ret;exact⟨bZ (by rw[b.out,L,g]),by rw[b.out];exact k,u⟩
   ·clear I;go_wp2;go_ret;exact⟨bZ (by rw[b.out,L,g]),by rw[b.out];exact k,u⟩
  ·have ab:¬((x.size:Int) > 6):=by omega
   rw[iD h6,Bool.false_or]at f;obtain⟨k1,k2⟩:=mF.1 f.symm;have h2:=iP k1;have aa:(x.size:Int) > 1:=by omega
   have hz:(x[0]'bC).toNat=48:=by rw[byte_at x 0 bC]at k2;simpa using k2
   have ac:decide ((6:Int)<(x.size:Int))=false:=iD bC;have ae:(((x[0]'bC).toNat:Int)==48)=true:=by rw[beq_iff_eq];omega
   clear f C k1 k2;go_wp2_with fail;refine(mG w1 p ws ps d st B).mono ?_;rintro j w2 ⟨rfl,e,F⟩;go_wp2_with fail;refine(iW w2 p ws ps d _ e).mono ?_;rintro j N ⟨rfl,D,q⟩;rw[L];go_wp2_with fail;refine(HA N _ D).mono ?_;rintro j w4 ⟨v,rfl,z,G⟩;obtain⟨k,u⟩:=bV (D.below G)<|((R.trans F).trans q).trans (But.of_below G);rw[g];clear G D e B;rcases z with rfl|⟨⟨t,y,rfl⟩,I⟩;·go_wp2;go_ret;exact⟨bZ (by rw[b.out,L,g]),by rw[b.out];exact k,u⟩
   ·clear I;go_wp2;go_ret;exact⟨bZ (by rw[b.out,L,g]),by rw[b.out];exact k,u⟩
section
variable {α : Type} {At : World → List Value → α → Prop} {w : World} {ops : Array Oper} {rest : List Oper} {o : Oper} {a : Act} {Q : Exit → Act → World → Prop}
theorem kM(U:Hz At)(P:o.guard=none)(s x:Operand)(t f k q:Nat)(u:Value)(V:o.op=.call { callee:=.builtin .append,args:=#[s,x],argTypes:=#[t,t] })(ht:prog.underlying t=some (.slice f))(R:(prog.info? f).map (λi=>(i.zero,i.size,i.bytes))=some (some u,k,q))(ad:u.cells.size=k)(S:0<k)(M:q<=1024)(n:Nat)(v:Value)(l:List α)(hs:a.eval s=v)(Z:gJ At w n f k v l)(B:Nat)(c:List Value)(y:α)(hx:a.eval x=.slice (some ⟨B,0,none⟩) 1 1)(N:∀(j:Nat) e,c[j]?=some e->w.cell? ⟨B,j,none⟩=some e)(C:c.length=k)(F:∀e∈c,e.oneCell'=true)(I:At (only (λb=>decide (n<=b)&&decide (v.ownBlock≠some b)) w) c y)(hl:l.length<=8192)(L:n<=w.heap.size)(h:∀g cap w',gJ At w' n f k (.slice (some ⟨g,0,none⟩) (l.length+1) cap) (l++[y])->w.grownBy w' v.ownBlock->wpList prog ops Q rest (a.put o.dst<|.slice (some ⟨g,0,none⟩) (l.length+1) cap) w'):wpList prog ops Q (o::rest) a w:=by obtain⟨iS,D,aa,ab,ac⟩:=info_parts R;obtain⟨cs,hr,k1,k2,k3⟩:=Z;refine wpList_append_lies w P s x t V n f iS u k q ht D aa ab ac ad S v l.length cs.flatten hs hr ⟨B,0,none⟩ 1 1 c hx (by rw[C,uS]) (λj e hu=>by rw[Addr.add_lit,d9];exact N j e hu) F (by decide) (by unfold maxLen;omega) (bE (yE (show l.length+1<=8193 by omega) M) (by decide)) L w.heap.size rfl ?_;intro g cap w' G z H _;exact h g cap w' (gJ.push (At:=At) U ⟨k1,k2,k3⟩ rfl C I G z H) z
variable {K : Act → World → Prop} {E : Prop}
theorem Bb(U:Hz At)(P:o.guard=none)(s x:Operand)(t f k q:Nat)(u:Value)(V:o.op=.call { callee:=.builtin .append,args:=#[s,x],argTypes:=#[t,t] })(ht:prog.underlying t=some (.slice f))(R:(prog.info? f).map (λi=>(i.zero,i.size,i.bytes))=some (some u,k,q))(ad:u.cells.size=k)(S:0<k)(M:q<=1024)(n:Nat)(v:Value)(l:List α)(hs:a.eval s=v)(Z:gJ At w n f k v l)(B:Nat)(c:List Value)(y:α)(hx:a.eval x=.slice (some ⟨B,0,none⟩) 1 1)(N:∀(j:Nat) e,c[j]?=some e->w.cell? ⟨B,j,none⟩=some e)(C:c.length=k)(F:∀e∈c,e.oneCell'=true)(I:At (only (λb=>decide (n<=b)&&decide (v.ownBlock≠some b)) w) c y)(hl:l.length<=8192)(L:n<=w.heap.size)(h:∀g cap w',gJ At w' n f k (.slice (some ⟨g,0,none⟩) (l.length+1) cap) (l++[y])->w.grownBy w' v.ownBlock->K (a.put o.dst<|.slice (some ⟨g,0,none⟩) (l.length+1) cap) w'):if Region.wanted o (yielded ops a.tmps)=true then Oper.wp prog o a w K Q else E:=by obtain⟨iS,D,aa,ab,ac⟩:=info_parts R;obtain⟨cs,hr,k1,k2,k3⟩:=Z;refine step_append_lies w P s x t V n f iS u k q ht D aa ab ac ad S v l.length cs.flatten hs hr ⟨B,0,none⟩ 1 1 c hx (by rw[C,uS]) (λj e hu=>by rw[Addr.add_lit,d9];exact N j e hu) F (by decide) (by unfold maxLen;omega) (bE (yE (show l.length+1<=8193 by omega) M) (by decide)) L w.heap.size rfl ?_;intro g cap w' G z H _;exact h g cap w' (gJ.push (At:=At) U ⟨k1,k2,k3⟩ rfl C I G z H) z
end
def fr(w w':bI):bI:=only (λb=>decide (w.heap.size<=b)) w'
theorem axM(h:bK w1 w2):Sub (fr w w1) (fr w w2):=λa v f=>by obtain⟨b,e⟩:=bR.1 f;exact bR.2 ⟨b,aG e h⟩
theorem OM(h:n<=w0.heap.size)(q:∀k,v.ownBlock=some k->k<w0.heap.size):Sub (fr w0 w1) (only (λb=>decide (n<=b)&&decide (v.ownBlock≠some b)) w1):=λa x t=>by obtain⟨f,g⟩:=bR.1 t;have j:=iP f;refine bR.2 ⟨mF.2 ⟨gW<|bE h j,gW (λe=>?_)⟩,g⟩;have:=q _ e;omega
theorem OO(h:w.heap.size<=w0.heap.size)(q:∀k,v.ownBlock=some k->k<w0.heap.size):Sub (fr w0 w1) (only (λb=>decide (w.heap.size<=b)&&decide (v.ownBlock≠some b)) w1):=λa x t=>by obtain⟨f,g⟩:=bR.1 t;have j:=iP f;refine bR.2 ⟨mF.2 ⟨gW<|bE h j,gW (λe=>?_)⟩,g⟩;have:=q _ e;omega
def ExL(m:Nat)(w:bI)(c:List Value)(x:Ex):Prop:=∃c0 c1 c2 c3,c=[c0,c1,c2,c3]/\iH w m c0 c1 c2 c3 x
theorem ExL.sub(e:Sub w w')(h:ExL m w c y):ExL m w' c y:=by obtain⟨c0,c1,c2,c3,b,h⟩:=h;exact⟨c0,c1,c2,c3,b,h.sub e⟩
theorem kW(m:Nat):Hz (ExL m):=λ_ _ _ _ b h=>h.sub b
theorem iH.one(h:iH w m c0 c1 c2 c3 x):∀e∈[c0,c1,c2,c3],e.oneCell'=true:=by obtain⟨a,cap,rfl,rfl,rfl,rfl⟩:=h.shape;intro e b;simp at b;rcases b with rfl|rfl|rfl|rfl<;>rfl
theorem OP:(prog.info? 80).map (λi=>(i.zero,i.size,i.bytes))=some (some<|.agg #[O 0,O 0,A ⟨#[]⟩,aU],4,56):=by kernel_rfl
theorem OQ(w:bI)(c0 c1 c2 c3:aC)(t:TypeId):∀(j:Nat) u,[c0,c1,c2,c3][j]?=some u->(w.alloc<|.cells #[c0,c1,c2,c3] t).cell? (aN w.heap.size j)=some u:=by intro j u b;have e:=(cO.1 b).1;have f:j<4:=e;rw[aj (bF w<|.cells #[c0,c1,c2,c3] t)];simpa using b
theorem gJ.OG(h:gJ (ExL m) w' n 80 4 v l)(z:l.length<=9223372036854775807):xI (only (λb=>decide (n<=b)) w') m v l:=by
 rcases h.shape with⟨rfl,rfl⟩|⟨g,cap,rfl,_,hg,_⟩;·exact⟨none,0,0,0,rfl,λh=>aM h cK,by simp,λi y k=>by simp at k⟩
 ·refine⟨_,g,0,cap,rfl,λ_=>rfl,z,λi y k=>?_⟩;obtain⟨c,D,u,_,c0,c1,c2,c3,rfl,C⟩:=h.cell k;have e:∀j (f:j<4),(only (λb=>decide (n<=b)) w').cell? (aN g<|0+i*4+j)=some ([c0,c1,c2,c3][j]):=λj f=>by refine bR.2 ⟨gW hg,?_⟩;rw[d9,u j f];exact aZ (by simpa using f)
  refine⟨c0,c1,c2,c3,e 0 bM,e 1 bM,e 2 bM,e 3 bM,C.sub (λa F B=>?_)⟩;obtain⟨q,t⟩:=bR.1 B;exact bR.2 ⟨(mF.1 q).1,t⟩
theorem gJ.exs(h:gJ (ExL m) w' w.heap.size 80 4 v l)(b:l.length<=9223372036854775807):xI (fr w w') m v l:=h.OG b
theorem xI.sub(e:Sub w w')(h:xI w m v l):xI w' m v l:=by obtain⟨a,b,off,cap,f,C,F,D⟩:=h;refine⟨a,b,off,cap,f,C,F,λi y H=>?_⟩;obtain⟨g,j,k,q,t,u,z,B,G⟩:=D i y H;exact⟨g,j,k,q,e _ _ t,e _ _ u,e _ _ z,e _ _ B,G.sub e⟩
def meas(n p:Nat)(w:bI):Nat:=match w.cell? ⟨p,4,none⟩with
 | some (.bool true)=>0
 | _=>match w.cell? ⟨p,2,none⟩with
  | some (.int _ z)=>1+(n - z.toNat)
  | _=>0
theorem Yy{st:Sr}(h:dL w p ws ps d st):meas ws.length p w=if st.f then 0 else 1+st.r.length:=by
 obtain⟨_,_,_,_,_,q2,_,q4,_⟩:=h.cells;have b:=h.suffix.length_le;unfold meas;rw[q4,q2];cases st.f;·simp only[rz,if_false];omega
 ·rfl
theorem zU{st st':Sr}(h:dL w p ws ps d st)(e:dL w' p ws ps d' st')(f:st.f=false)(j:Rd.Lt st' st):meas ws.length p w'<meas ws.length p w:=by
 rw[Yy h,Yy e,f];simp only[rz,if_false];split;·omega
 ·rename_i g;rcases j.2 with b|b;·exact aM b g
  ·omega
def BM(d:Nat)(st:Sr):Prop:=d<=30/\(st.f=true\/d<=20)
theorem BM.le{a b:Sr}(h:BM d b)(f:Le a b):BM d a:=⟨h.1,h.2.elim (λe=>aO<|f.1 e) aQ⟩
theorem BM.op{st:Sr}(h:BM d st)(f:d<=29):BM (d+1) (Rd.op d st):=by
 refine⟨by omega,?_⟩;rcases h.2 with b|b;·exact aO<|(jL d st).1.1 b
 ·by_cases e:d=20;·left;refine(Jl _ _).1.1 ?_;unfold Rd.mx;rw[aK e];rfl
  ·exact aQ bC
def Yz(k:Nat):Prop:=∀(w:bI) (p:Nat) (ws:List aS) (ps:List Int) (d:Nat) (st:Sr),dL w p ws ps d st->Rd.Ok k st->BM d st->
 Calls prog 84 #[.pointer (some ⟨p,0,none⟩)] w λe w'=>∃c0 c1 c2 c3,e=.returned (.agg #[c0,c1,c2,c3])/\iH (fr w w') (k+1) c0 c1 c2 c3 (pE k d st).1/\dL w' p ws ps d (pE k d st).2/\But p w w'
theorem kF(P:Nat->Bool)(w:bI)(o:Obj):Sub (only P w) (only P (w.alloc o)):=λa v f=>by obtain⟨b,e⟩:=bR.1 f;exact bR.2 ⟨b,aG e<|aH _ _⟩
theorem dL.block{st:Sr}(h:dL w p ws ps d st):∃c,dR w p (.cells c 71 (0,0)):=by obtain⟨e,f,g,b,_⟩:=h;exact⟨_,b⟩
theorem ahg(k:Nat)(ih:Yz k)(w:World)(p:Nat)(ws:List ByteArray)(ps:List Int)(d:Nat)(st:Sr)(h:dL w p ws ps d st)(hk:Rd.Ok k st)(hd:BM d st)(n:Nat)(hn:Rd.Ok n st):Calls prog 179 #[.pointer (some ⟨p,0,none⟩)] w λe w'=>∃v,e=.returned v/\xI (fr w w') (k+1) v (Rd.loop Rd.argc (pE k d) n st).1/\dL w' p ws ps d (Rd.loop Rd.argc (pE k d) n st).2/\But p w w':=by
 have IH:=Y ih;have zV:=Y h.lt;have hlen:st.r.length<=4096:=Nat.le_trans h.suffix.length_le h.len;clear ih;go_enter func179,ntmps179;go_wp2;go_loopw[3] (λv wr=>∃(acc:List Ex) (st':Sr) (n':Nat),Rd.loop Rd.argc (pE k d) n st=(acc++(Rd.loop Rd.argc (pE k d) n' st').1,(Rd.loop Rd.argc (pE k d) n' st').2)/\Rd.Ok n' st'/\Rd.Ok k st'/\BM d st'/\(acc.length<=4097/\(st'.f=true\/acc.length+st'.r.length<=4096))/\gJ (ExL (k+1)) wr w.heap.size 80 4 v acc/\dL wr p ws ps d st'/\But p w wr) (λ_ wr=>meas ws.length p wr);exact⟨[],st,n,rfl,hn,hk,hd,⟨by simp,Or.inr (by simpa using hlen)⟩,gJ.nil _ _ _ _,h,But.refl _ _⟩
 obtain⟨acc,st',n',hL,hnk,hk',hd',⟨hacc,hacc'⟩,hown,hR,hnx⟩:=hrel;have HL:=Y hL;have HOW:=Y hown;have HRr:=Y hR;have fT:=Y hnx;obtain⟨rc,hrc⟩:=hR.block;have jD:=Y (And.intro hrc zV.out);clear hL hown hnx hrc h hk hd hn hlen;go_wp2_with fail;refine(iF _ p ws ps d st' hR).mono ?_;rintro e w1 ⟨rfl,h1,hb1⟩;have HR1:=Y h1;have HB1:=Y hb1;clear hR h1 hb1;by_cases h0:(Rd.pk st').toList=[40]
 ·have HC:Hid (Rd.argc st'=true):=Y (by unfold Rd.argc;rw[qy h0];rfl);have hf':st'.f=false:=Yi HC.out;obtain⟨n',rfl⟩:=hnk.pos hf';rw[hf']at hacc';have uG:acc.length+st'.r.length<=4096:=by simpa using hacc'
  clear hacc';go_wp2_with fail;refine(IH.out _ p ws ps d st' HR1.out hk' hd').mono ?_;rintro e w5 ⟨c0,c1,c2,c3,rfl,hx,LY,hb5⟩;have hown5:=HOW.out.but (kW _) jD.out.1 (by decide) (by have:=jD.out.2;omega) (HB1.out.trans hb5);have JI:∀j,u3.ownBlock=some j->j<w1.heap.size:=λj hj=>Nat.lt_of_lt_of_le (HOW.out.lt j hj).2 HB1.out.size;have HAT:=Y (ExL.sub (OO (w:=w) (w0:=w1) (w1:=w5) (v:=u3) (by have:=fT.out.size;have:=HB1.out.size;omega) JI) ⟨c0,c1,c2,c3,rfl,hx⟩);have OT:=Y hx.one;obtain⟨ax,cx,rfl,rfl,rfl,rfl⟩:=hx.shape;have rM:=Y hown5;have oK:=Y LY;have eD:=Y ((fT.out.trans HB1.out).trans hb5);have hsz5:=eD.out.size;have oL:=Y (lY k d st');clear hown5 JI hx LY hb5
  go_wp2_with (first
   | (at_builtin;refine kM (kW _) rfl _ _ 78 80 4 56 _ rfl underlying78 OP (by decide) (by decide) (by decide) w.heap.size _ _ rfl (rM.out.below (kW _) (aH _ _)) _ _ (pE k d st').1 rfl (OQ _ _ _ _ _ _) rfl OT.out (ExL.sub (kF _ _ _) HAT.out) (by omega) (by simp;omega) ?_;intro g cap w6 hown6 dX;have pQ:=Y hown6;have mI:=Y (((oK.out.below (aH _ _))).grown dX (λj hj=>by have:=(rM.out.lt j hj).1;have:=zV.out;omega));have fD:=Y ((eD.out.alloc _).grown dX (λj hj=>(rM.out.lt j hj).1));clear hown6 dX)
   | fail)
  go_roundw;exact⟨acc++[(pE k d st').1],(pE k d st').2,n',by rw[HL.out,nI HC.out];simp,hnk.lt oL.out,hk'.le oL.out.1,hd'.le oL.out.1,by
   rw[List.length_append,List.length_singleton];rcases oL.out.2 with e|e;·exact⟨by omega,Or.inl e⟩
   ·exact⟨by omega,Or.inr (by omega)⟩,pQ.out,mI.out,fD.out⟩
  exact zU HRr.out mI.out hf' oL.out
 ·have b0:=pG h0;go_wp2_with fail;refine(iF _ p ws ps d st' HR1.out).mono ?_;rintro e w2 ⟨rfl,h2,hb2⟩;have HR2:=Y h2;have HB2:=Y (HB1.out.trans hb2);clear h2 hb2;go_wp2_with fail;refine(yJ _ _).mono ?_;rintro e w3 ⟨rfl,hw3⟩;subst hw3;obtain⟨b,hb⟩:∃b,b=Rd.plain (Rd.pk st'):=⟨_,rfl⟩;have HBP:=Y hb;rw[<-hb];clear hb;cases b;·have HC:Hid (Rd.argc st'=false):=Y (by unfold Rd.argc;rw[qz h0,<-HBP.out];rfl);have HE:=Y (HOW.out.but (kW _) jD.out.1 (by decide) (by have:=jD.out.2;omega) HB2.out);have RH:=Y (gJ.exs (w:=w) HE.out (by omega));have Vf:Hid (Rd.loop Rd.argc (pE k d) n st=(acc,st')):=Y (by rw[HL.out,rT HC.out];simp);go_wp2;go_ret;exact⟨_,rfl,by rw[Vf.out];exact RH.out,by rw[Vf.out];exact HR2.out,fT.out.trans HB2.out⟩
  ·have HC:Hid (Rd.argc st'=true):=Y (by unfold Rd.argc;rw[<-HBP.out,Bool.or_true]);have hf':st'.f=false:=Yi HC.out;obtain⟨n',rfl⟩:=hnk.pos hf';rw[hf']at hacc';have uG:acc.length+st'.r.length<=4096:=by simpa using hacc'
   clear hacc';go_wp2_with fail;refine(IH.out _ p ws ps d st' HR2.out hk' hd').mono ?_;rintro e w5 ⟨c0,c1,c2,c3,rfl,hx,LY,hb5⟩;have hown5:=HOW.out.but (kW _) jD.out.1 (by decide) (by have:=jD.out.2;omega) (HB2.out.trans hb5);have JI:∀j,u3.ownBlock=some j->j<w3.heap.size:=λj hj=>Nat.lt_of_lt_of_le (HOW.out.lt j hj).2 HB2.out.size;have HAT:=Y (ExL.sub (OO (w:=w) (w0:=w3) (w1:=w5) (v:=u3) (by have:=fT.out.size;have:=HB2.out.size;omega) JI) ⟨c0,c1,c2,c3,rfl,hx⟩);have OT:=Y hx.one;obtain⟨ax,cx,rfl,rfl,rfl,rfl⟩:=hx.shape;have rM:=Y hown5;have oK:=Y LY;have eD:=Y ((fT.out.trans HB2.out).trans hb5);have hsz5:=eD.out.size;have oL:=Y (lY k d st');clear hown5 JI hx LY hb5
   go_wp2_with (first
    | (at_builtin;refine kM (kW _) rfl _ _ 78 80 4 56 _ rfl underlying78 OP (by decide) (by decide) (by decide) w.heap.size _ _ rfl (rM.out.below (kW _) (aH _ _)) _ _ (pE k d st').1 rfl (OQ _ _ _ _ _ _) rfl OT.out (ExL.sub (kF _ _ _) HAT.out) (by omega) (by simp;omega) ?_;intro g cap w6 hown6 dX;have pQ:=Y hown6;have mI:=Y (((oK.out.below (aH _ _))).grown dX (λj hj=>by have:=(rM.out.lt j hj).1;have:=zV.out;omega));have fD:=Y ((eD.out.alloc _).grown dX (λj hj=>(rM.out.lt j hj).1));clear hown6 dX)
    | fail)
   go_roundw;exact⟨acc++[(pE k d st').1],(pE k d st').2,n',by rw[HL.out,nI HC.out];simp,hnk.lt oL.out,hk'.le oL.out.1,hd'.le oL.out.1,by
    rw[List.length_append,List.length_singleton];rcases oL.out.2 with e|e;·exact⟨by omega,Or.inl e⟩
    ·exact⟨by omega,Or.inr (by omega)⟩,pQ.out,mI.out,fD.out⟩
   exact zU HRr.out mI.out hf' oL.out
theorem ahh(w:bI)(b e:Obj):((w.alloc b).alloc e).heap[w.heap.size]?=some b/\((w.alloc b).alloc e).heap[w.heap.size+1]?=some e/\((w.alloc b).alloc e).heap.size=w.heap.size+2:=by
 have f:(w.alloc b).heap.size=w.heap.size+1:=by simp
 refine⟨bT (bF w b) e,?_,by simp⟩;have:=bF (w.alloc b) e;rw[f]at this;exact this
structure Loc(w:World)(p:Nat)(W:World)(T:TypeId)(r c:Array Value):Prop where
 res:W.heap[w.heap.size]?=some (.cells r T (0,0))
 loc:W.heap[w.heap.size+1]?=some (.cells c T (0,0))
 but:But p w W
 size:w.heap.size+2<=W.heap.size
 yQ:p<w.heap.size
section
variable {w : World} {p : Nat} {W W' : World} {T : TypeId} {r c : Array Value}
theorem Loc.start(w:bI)(p:Nat)(T:TypeId)(r c:Array aC)(g:p<w.heap.size):Loc w p ((w.alloc<|.cells r T (0,0)).alloc (.cells c T (0,0))) T r c:=by obtain⟨b,e,f⟩:=ahh w (.cells r T (0,0))<|.cells c T (0,0);exact⟨b,e,But.of_below<|up (aH _ _)<|aH _ _,by rw[f];exact bG _,g⟩
theorem Loc.step(h:Loc w p W T r c)(b:But p W W'):Loc w p W' T r c:=
 ⟨b.at (by have:=h.yQ;omega) h.res,b.at (by have:=h.yQ;omega) h.loc,h.but.trans b,bE h.size b.size,h.yQ⟩
theorem Loc.set(h:Loc w p W T r c)(i:Nat)(v:aC):Loc w p (W.setCell (aN (w.heap.size+1) i) v) T r (c.setIfInBounds i v):=
 ⟨aX h.res cK _,aP h.loc i v,h.but.set (aQ cK) v,by simp only[World.setCell,Am];exact h.size,h.yQ⟩
theorem Loc.qA(h:Loc w p W T r c)(i:Nat)(v:aC):Loc w p (W.setCell (aN w.heap.size i) v) T (r.setIfInBounds i v) c:=
 ⟨aP h.res i v,aX h.loc cK _,h.but.set (aQ cK) v,by simp only[World.setCell,Am];exact h.size,h.yQ⟩
theorem Loc.grown{row:Option Nat}(h:Loc w p W T r c)(hg:W.grownBy W' row)(e:∀k,row=some k->w.heap.size+2<=k):Loc w p W' T r c:=
 ⟨by rw[hg.block _ (by have:=h.size;omega) (λb=>by have:=e _ b.symm;omega)];exact h.res,by rw[hg.block _ (by have:=h.size;omega) (λb=>by have:=e _ b.symm;omega)];exact h.loc,
  h.but.grown hg (λk f=>by have:=e k f;omega),bE h.size hg.size,h.yQ⟩
theorem Loc.alloc(h:Loc w p W T r c)(o:Obj):Loc w p (W.alloc o) T r c:=h.step<|But.of_below<|aH _ _
theorem Loc.cell(h:Loc w p W T r c){i:Nat}{v:aC}(b:c[i]?=some v):bJ W (w.heap.size+1) i=some v/\W.frozen? (aN (w.heap.size+1) i)=false:=⟨(aj h.loc i).trans b,aF h.loc i⟩
theorem Loc.dB(h:Loc w p W T r c){i:Nat}{v:aC}(b:r[i]?=some v):bJ W w.heap.size i=some v/\W.frozen? (aN w.heap.size i)=false:=⟨(aj h.res i).trans b,aF h.res i⟩
theorem Loc.rd{ws:aJ}{ps:List Int}{d:Nat}{st:Sr}(h:Loc w p W T r c)(b:dL W p ws ps d st)(i:Nat)(v:aC):dL (W.setCell (aN (w.heap.size+1) i) v) p ws ps d st:=b.set (by have:=h.yQ;simp;omega) v
theorem Loc.Ml{ws:aJ}{ps:List Int}{d:Nat}{st:Sr}(h:Loc w p W T r c)(b:dL W p ws ps d st)(i:Nat)(v:aC):dL (W.setCell (aN w.heap.size i) v) p ws ps d st:=b.set (by have:=h.yQ;simp;omega) v
end
def qW(W:bI)(b:Nat)(c0 c1 c2 c3:Value):bI:=(((W.setCell ⟨b,0,none⟩ c0).setCell ⟨b,1,none⟩ c1).setCell ⟨b,2,none⟩ c2).setCell ⟨b,3,none⟩ c3
theorem Loc.RJ{c:Array aC}{st:Sr}(h:Loc w p W T #[r0,r1,r2,r3] c)(q:dL W p ws ps d st)(c0 c1 c2 c3:aC):(∃e,e=qW W w.heap.size c0 c1 c2 c3/\bJ e w.heap.size 0=some c0/\bJ e w.heap.size 1=some c1/\bJ e w.heap.size 2=some c2/\bJ e w.heap.size 3=some c3)/\But p w (qW W w.heap.size c0 c1 c2 c3)/\dL (qW W w.heap.size c0 c1 c2 c3) p ws ps d st/\Sub (only (λb=>decide (w.heap.size+2<=b)) W) (fr w<|qW W w.heap.size c0 c1 c2 c3):=by have g:=h.qA 0 c0;have j:=g.qA 1 c1;have k:=j.qA 2 c2;have f:=k.qA 3 c3;refine⟨⟨_,rfl,(f.dB (i:=0) rfl).1,(f.dB (i:=1) rfl).1,(f.dB (i:=2) rfl).1,(f.dB (i:=3) rfl).1⟩,f.but,k.Ml (j.Ml (g.Ml (h.Ml q 0 c0) 1 c1) 2 c2) 3 c3,λa v t=>?_⟩;obtain⟨u,z⟩:=bR.1 t;have B:=iP u;refine bR.2 ⟨gW bC,?_⟩;unfold qW;rw[jH (vM _ _ _ _ (by simp only;omega)),jH (vM _ _ _ _ (by simp only;omega)),jH (vM _ _ _ _ (by simp only;omega)),jH (vM _ _ _ _ (by simp only;omega))];exact z
theorem iH.mk{kd n:Int}{s:aS}(h:xI W m v l)(q:s.size<=4096)(f:mq kd)(g:mq n):iH W (m+1) (O kd) (O n) (A s) v ⟨kd,n,s,l⟩:=by obtain⟨a,b,off,cap,rfl,e,k,j⟩:=h;exact⟨rfl,rfl,rfl,by unfold maxLen;simp only;omega,f,g,a,b,off,cap,rfl,e,k,j⟩
theorem OU(W:bI)(m:Nat):xI W m (aU) []:=⟨none,0,0,0,rfl,λh=>aM h cK,by simp,λi y b=>by simp at b⟩
theorem kN{a:Addr}(h:a.block<n)(x:aC):Sub (only (λb=>decide (n<=b)) W) (only (λb=>decide (n<=b)) (W.setCell a x)):=λb v g=>by obtain⟨e,f⟩:=bR.1 g;refine bR.2 ⟨e,?_⟩;have j:=iP e;rw[jH (w:=W) (vM _ _ _ _ bC)];exact f
theorem qj{st:Sr}(h:dL w p ws ps d st):(Rd.iw st).1.size<=4096:=by
 show(Rd.pk<|Rd.nm st).size<=4096;unfold Rd.nm;split;·exact IV h 0
 ·exact bN _
theorem dL.sM{st:Sr}(h:dL w p ws ps d st):dL w.drew p ws ps d st:=h.keep (λ_ _=>rfl)
theorem But.sM(h:But p w w'):But p w w'.drew:=⟨h.os,h.tape,h.output,h.size,h.block⟩
theorem Loc.sM{c:Array aC}(h:Loc w p W T r c):Loc w p W.drew T r c:=h.step (But.refl _ _).sM
theorem afF(k:Nat)(ih:Yz k)(w:bI)(p:Nat)(ws:aJ)(ps:List Int)(d:Nat)(st:Sr)(h:dL w p ws ps d st)(t:Rd.Ok (k+1) st)(hd:BM d st)(Ap:d<=20):aD 120 #[gK p] w λq w'=>∃c0 c1 c2 c3,q=dz (.agg #[c0,c1,c2,c3])/\iH (fr w w') (k+2) c0 c1 c2 c3 (Rd.cE (pE k<|d+1) k d st).1/\dL w' p ws ps d (Rd.cE (pE k<|d+1) k d st).2/\But p w w':=by
 obtain⟨Ni,jD⟩:=bV (Loc.start w p 80 #[O 0,O 0,A ⟨#[]⟩,aU] #[O 0,O 0,A ⟨#[]⟩,aU] h.lt)<|h.below<|up (aH w<|aY #[O 0,O 0,A ⟨#[]⟩,aU] 80)<|aH _<|aY #[O 0,O 0,A ⟨#[]⟩,aU] 80
 have f:J (Rd.cE (pE k<|d+1) k d st=if opc (Rd.pk<|Rd.op d st)then opE (pE k<|d+1) (Rd.op d st)
  else if Rd.is (Rd.pk<|Rd.op d st) [99,97,108,108]then caE (pE k<|d+1) k (Rd.tk<|Rd.op d st)
  else (⟨0,0,⟨#[]⟩,[]⟩,Rd.sh<|Rd.fl<|Rd.op d st)):=rfl
 have IH:=Y ih;have ba:=hd.1;go_enter func120,ntmps120;go_wp2_with fail;generalize ((w.alloc<|aY #[O 0,O 0,A ⟨#[]⟩,aU] 80).alloc (aY #[O 0,O 0,A ⟨#[]⟩,aU] 80))=W0 at *;refine(mH W0 p ws ps d st jD bC).mono ?_;rintro q w1 ⟨rfl,h1,ay⟩;have Fw:=Y<|Ni.step ay;clear ay h ih;go_wp2_with fail;refine(iF w1 p ws ps _ _ h1).mono ?_;rintro q w2 ⟨rfl,h2,az⟩;obtain⟨ab,ad⟩:=bV (Fw.step az) h2;have HX:J (∀b,b=Rd.pk (Rd.op d st)->b.size<=4096):=Y (λb hb=>by rw[hb];exact IV h1 0);clear az h1 h2;have mX:=Y<|jL d st;have jG:=Y<|t.lt mX;have af:J (BM (d+1)<|Rd.op d st):=Y<|hd.op bC;obtain⟨s1,ai⟩:=aV<|Rd.op d st;rw[<-ai]at f ad HX mX jG af ⊢;clear ai t hd;obtain⟨x,hx⟩:=aV<|Rd.pk s1;have ap:=Y hx;rw[<-hx]at f HX ⊢;clear hx;go_wp2_with fail;refine(aai _ x).mono ?_;rintro q w3 ⟨rfl,a9⟩;subst a9;obtain⟨b,hb⟩:=aV<|opc x;rw[<-hb]at f ⊢;clear hb;cases b
 ·rw[aI cK]at f;by_cases hc:x.toList=[99,97,108,108]
  ·rw[qy hc,aK rfl]at f;go_wp2_with fail;refine(iW _ p ws ps _ _ ad).mono ?_;rintro q w4 ⟨rfl,U,V⟩;have L:=Y<|ab.step V;obtain⟨u0,P⟩:=L.cell (i:=0) rfl;have Aq:J (Loc w p (w4.setCell (aN (w.heap.size+1) 0)<|O 4) 80 #[O 0,O 0,A ⟨#[]⟩,aU] #[O 4,O 0,A ⟨#[]⟩,aU]):=Y<|L.set 0<|O 4;have oK:=Y<|L.rd U 0<|O 4;clear V U;go_wp2_with fail;clear u0 P;generalize w4.setCell (aN (w.heap.size+1) 0) (O 4)=W5 at *;refine(kT _ p ws ps _ _ oK).mono ?_;rintro q w6 ⟨rfl,h6,H⟩;have OV:J ((Rd.iw<|Rd.tk s1).1.size<=4096):=Y<|qj oK;have j:=Y<|Aq.step H;obtain⟨u2,R⟩:=j.cell (i:=2) rfl;have u:J (Loc w p (w6.setCell (aN (w.heap.size+1) 2)<|A (Rd.iw<|Rd.tk s1).1) 80 #[O 0,O 0,A ⟨#[]⟩,aU] #[O 4,O 0,A (Rd.iw<|Rd.tk s1).1,aU]):=Y<|j.set 2<|A (Rd.iw<|Rd.tk s1).1;have Ar:=Y<|j.rd h6 2<|A (Rd.iw<|Rd.tk s1).1;have ag:J (Rd.Ok k (Rd.iw<|Rd.tk s1).2):=Y<|jG.le<|(iV _).1.trans (iC _).1;have al:J (BM (d+1) (Rd.iw<|Rd.tk s1).2):=Y<|af.le<|(iV _).1.trans (iC _).1;have a5:J (Rd.cE (pE k<|d+1) k d st=(⟨4,0,(Rd.iw<|Rd.tk s1).1,(Rd.loop Rd.argc (pE k<|d+1) k (Rd.iw<|Rd.tk s1).2).1⟩,Rd.sh (Rd.loop Rd.argc (pE k<|d+1) k (Rd.iw<|Rd.tk s1).2).2)):=f;clear H h6;have f:=a5;generalize Rd.iw (Rd.tk s1)=nm at *;obtain⟨nn,s3⟩:=nm;simp only at OV u Ar ag al f u2 ⊢;go_wp2_with fail;clear u2 R;generalize w6.setCell (aN (w.heap.size+1) 2) (A nn)=W7 at *;refine(ahg k IH W7 p ws ps (d+1) s3 Ar ag al k ag).mono ?_;rintro q w8 ⟨v,rfl,tY,JJ,pR⟩;have Z:=Y<|u.step pR;obtain⟨u3,I⟩:=Z.cell (i:=3) rfl;have wH:J (xI (only (λb=>decide (w.heap.size+2<=b)) w8) (k+1) v _):=Y<|tY.sub<|fI u.size;have Bd:=Y JJ;clear pR tY JJ;obtain⟨M,N,hv⟩:∃a c,v=X a (Rd.loop Rd.argc (pE k<|d+1) k s3).1.length c:=by obtain⟨a,_,_,c,q,_⟩:=wH.out;exact⟨a,c,q⟩
   subst hv;generalize Rd.loop Rd.argc (pE k<|d+1) k s3=lp at *;obtain⟨F,s4⟩:=lp;simp only at wH Z Bd f ⊢;have Nj:J (Loc w p (w8.setCell (aN (w.heap.size+1) 3)<|X M F.length N) 80 #[O 0,O 0,A ⟨#[]⟩,aU] #[O 4,O 0,A nn,X M F.length N]):=Y<|Z.set 3<|X M F.length N;have lF:=Y<|Z.rd Bd 3<|X M F.length N;have Mq:J (xI (only (λb=>decide (w.heap.size+2<=b)) (w8.setCell (aN (w.heap.size+1) 3)<|X M F.length N)) (k+1) (X M F.length N) F):=Y<|wH.sub<|kN cK _;go_wp2_with fail;refine(jy _ p ws ps d _ lF bC).mono ?_;rintro q ae ⟨rfl,S,z⟩;obtain⟨e,ac⟩:=bV (Nj.step z) S;have RH:J (xI (only (λb=>decide (w.heap.size+2<=b)) ae) (k+1) (X M F.length N) F):=Y (Mq.sub<|z.sub<|iD (by have:=e.yQ;omega));clear S z;obtain⟨u0,P⟩:=e.cell (i:=0) rfl;obtain⟨u1,z1⟩:=e.cell (i:=1) rfl;obtain⟨u2,R⟩:=e.cell (i:=2) rfl;obtain⟨u3,I⟩:=e.cell (i:=3) rfl;obtain⟨r0,y0⟩:=e.dB (i:=0) rfl;obtain⟨r1,y1⟩:=e.dB (i:=1) rfl;obtain⟨r2,y2⟩:=e.dB (i:=2) rfl;obtain⟨r3,y3⟩:=e.dB (i:=3) rfl;go_wp2_with fail;obtain⟨⟨Wf,B,f0,f1,f2,f3⟩,C,G,D⟩:=e.RJ ac (O 4) (O 0) (A nn)<|X M F.length N;unfold qW at B C G D;rw[<-B]at C G D ⊢;clear B u0 u1 u2 u3 P z1 R I r0 r1 r2 r3 y0 y1 y2 y3;refine cZ (v:=.agg #[O 4,O 0,A nn,(X M F.length N)]) (by simp[results,results120,go_sem,f0,f1,f2,f3]) rfl ?_;refine⟨_,_,_,_,rfl,?_,?_,C⟩;·rw[f];exact iH.mk (RH.sub D) OV ⟨by decide,by decide⟩ ⟨by decide,by decide⟩
   ·rw[f];exact G
  ·rw[qz hc,aI cK]at f;have bc:=pG hc;go_wp2_with fail;refine(mG _ p ws ps _ _ ad).mono ?_;rintro q w4 ⟨rfl,U,V⟩;obtain⟨L,ah⟩:=bV (ab.step V) U;clear V U;go_wp2_with fail;refine(jy _ p ws ps d _ ah bC).mono ?_;rintro q ae ⟨rfl,S,z⟩;obtain⟨e,ac⟩:=bV (L.step z) S;have RH:J (xI (only (λb=>decide (w.heap.size+2<=b)) ae) (k+1) (aU) []):=Y ((OU (only (λb=>decide (w.heap.size+2<=b)) w4) (k+1)).sub (z.sub<|iD (by have:=e.yQ;omega)));clear S z;obtain⟨u0,P⟩:=e.cell (i:=0) rfl;obtain⟨u1,z1⟩:=e.cell (i:=1) rfl;obtain⟨u2,R⟩:=e.cell (i:=2) rfl;obtain⟨u3,I⟩:=e.cell (i:=3) rfl;obtain⟨r0,y0⟩:=e.dB (i:=0) rfl;obtain⟨r1,y1⟩:=e.dB (i:=1) rfl;obtain⟨r2,y2⟩:=e.dB (i:=2) rfl;obtain⟨r3,y3⟩:=e.dB (i:=3) rfl;go_wp2_with fail;obtain⟨⟨Wf,B,f0,f1,f2,f3⟩,C,G,D⟩:=e.RJ ac (O 0) (O 0) (A ⟨#[]⟩)<|aU;unfold qW at B C G D;rw[<-B]at C G D ⊢;clear B u0 u1 u2 u3 P z1 R I r0 r1 r2 r3 y0 y1 y2 y3;refine cZ (v:=.agg #[O 0,O 0,A ⟨#[]⟩,(aU)]) (by simp[results,results120,go_sem,f0,f1,f2,f3]) rfl ?_;refine⟨_,_,_,_,rfl,?_,?_,C⟩;·rw[f];exact iH.mk (RH.sub D) (bN _) ⟨by decide,by decide⟩ ⟨by decide,by decide⟩
   ·rw[f];exact G
 ·rw[aK rfl]at f;obtain⟨u0,P⟩:=ab.cell (i:=0) rfl;obtain⟨yR,a4⟩:=bV (ab.set 0<|O 3)<|ab.rd ad 0<|O 3;go_wp2_with fail;clear u0 P;refine(iW _ p ws ps _ _ a4).mono ?_;rintro q w4 ⟨rfl,U,V⟩;rw[<-ap];obtain⟨L,ah⟩:=bV (yR.step V) U;obtain⟨u2,R⟩:=L.cell (i:=2) rfl;have Aq:J (Loc w p (w4.setCell (aN (w.heap.size+1) 2)<|A x) 80 #[O 0,O 0,A ⟨#[]⟩,aU] #[O 3,O 0,A x,aU]):=Y<|L.set 2<|A x;have oK:=Y<|L.rd ah 2<|A x;clear V U;go_upto_region 8 with fail;clear u2 R;generalize w4.setCell (aN (w.heap.size+1) 2) (A x)=W5 at *;obtain⟨u3,I⟩:=Aq.cell (i:=3) rfl;have tX:J (Rd.Ok k<|Rd.tk s1):=Y<|jG.le (iC _).1;have ak:J (BM (d+1)<|Rd.tk s1):=Y<|af.le (iC _).1;have am:J (gJ (ExL<|k+1) W5 (w.heap.size+2) 80 4 (aU) []):=Y<|gJ.nil _ _ _ _;obtain⟨bb,aq⟩:=oK.block;have a6:=Y aq;clear aq;go_cut []from 18 to 24 (λwx=>∃v,Loc w p wx 80 #[O 0,O 0,A ⟨#[]⟩,aU] #[O 3,O 0,A x,v]/\gJ (ExL<|k+1) wx (w.heap.size+2) 80 4 v [(pE k (d+1)<|Rd.tk s1).1]/\dL wx p ws ps (d+1) (pE k (d+1)<|Rd.tk s1).2);case first=>
   go_region_law (first
    | (go_simp;go_at_call 84;refine(IH _ p ws ps (d+1) _ (by repeat(first|exact oK|apply dL.sM)) tX ak).mono ?_;rintro q w6 ⟨c0,c1,c2,c3,rfl,aa,YA,H⟩;have j:=Y ((by repeat(first|exact Aq|apply Loc.sM):Loc w p _ 80 _ _).step H);obtain⟨aA,a0⟩:=j.cell (i:=3) rfl;obtain⟨ax,cx,rfl,rfl,rfl,rfl⟩:=aa.shape;have OW:=Y aa;have mI:=Y YA;have fD:J (But p W5 w6):=Y ((by repeat(first|exact But.refl _ _|apply But.sM):But p W5 _).trans H);have xJ:=Y (am.but (kW _) a6 bM (by have:=j.yQ;omega) fD);have Ao:w.heap.size+1<w6.heap.size:=(by have:=j.size;omega);clear aa YA H;dsimp only)
    | (refine Bb (kW _) dH _ _ 78 80 4 56 _ dH underlying78 OP bM bM bM (w.heap.size+2) _ _ dH (xJ.below (kW _)<|aH _ _) _ _ (pE k (d+1)<|Rd.tk s1).1 dH (OQ _ _ _ _ _ _) rfl OW.one (kW _ _ _ _ _ ((OM (w0:=W5) Aq.size (λk t=>(am.lt k t).2)).trans (kF _ _ _)) ⟨_,_,_,_,rfl,OW⟩) cK (by have:=j.size;simp;omega) ?_;intro g cap w7 gF dI;have EP:=Y gF;have u:=Y<|(j.alloc _).grown dI (λk t=>(xJ.lt k t).1);have Ar:=Y ((mI.below<|aH _ _).grown dI (λk t=>by have:=(xJ.lt k t).1;have:=j.yQ;omega));obtain⟨aE,a1⟩:=u.cell (i:=3) rfl;clear gF dI)
    | fail)
   all_goals go_wp2;go_meet;case rel=>exact⟨_,u.set 3 _,EP.kr (kW _) cK _,u.rd Ar 3 _⟩
  case rest=>
   obtain⟨v8,au,aw,JJ⟩:=hcut;clear u3 I;obtain⟨Z,ao,Bd⟩:=fE au aw JJ;have Vg:J (Rd.Ok k (pE k (d+1)<|Rd.tk s1).2):=Y<|tX.le (lY _ _ _).1;have a2:J (BM (d+1) (pE k (d+1)<|Rd.tk s1).2):=Y<|ak.le (lY _ _ _).1;obtain⟨u3,I⟩:=Z.cell (i:=3) rfl;obtain⟨be,JK⟩:=Bd.block;have a7:=Y JK;clear JK au aw JJ;go_upto_region 9 with fail
   go_region_law (first
    | (go_simp;go_at_call 84;refine(IH _ p ws ps (d+1) _ (by repeat(first|exact Bd|apply dL.sM)) Vg a2).mono ?_;rintro q w6 ⟨c0,c1,c2,c3,rfl,aa,YA,H⟩;have j:=Y ((by repeat(first|exact Z|apply Loc.sM):Loc w p _ 80 _ _).step H);obtain⟨aA,a0⟩:=j.cell (i:=3) rfl;obtain⟨ax,cx,rfl,rfl,rfl,rfl⟩:=aa.shape;have OW:=Y aa;have mI:=Y YA;have fD:J (But p wc w6):=Y ((by repeat(first|exact But.refl _ _|apply But.sM):But p wc _).trans H);have xJ:=Y (ao.but (kW _) a7 bM (by have:=j.yQ;omega) fD);have Ao:w.heap.size+1<w6.heap.size:=(by have:=j.size;omega);clear aa YA H;dsimp only)
    | (refine Bb (kW _) dH _ _ 78 80 4 56 _ dH underlying78 OP bM bM bM (w.heap.size+2) _ _ dH (xJ.below (kW _)<|aH _ _) _ _ (pE k (d+1) (pE k (d+1)<|Rd.tk s1).2).1 dH (OQ _ _ _ _ _ _) rfl OW.one (kW _ _ _ _ _ ((OM (w0:=wc) Z.size (λk t=>(ao.lt k t).2)).trans (kF _ _ _)) ⟨_,_,_,_,rfl,OW⟩) cK (by have:=j.size;simp;omega) ?_;intro g cap w7 gF dI;have EP:=Y gF;have u:=Y<|(j.alloc _).grown dI (λk t=>(xJ.lt k t).1);have Ar:=Y ((mI.below<|aH _ _).grown dI (λk t=>by have:=(xJ.lt k t).1;have:=j.yQ;omega));obtain⟨aE,a1⟩:=u.cell (i:=3) rfl;clear gF dI)
    | fail)
   all_goals
    obtain⟨Nj,a3,lF⟩:=fE (u.set 3<|Tc g 2 cap) (EP.kr (kW _) (a:=(aN (w.heap.size+1) 3)) cK<|Tc g 2 cap)<|u.rd Ar 3<|Tc g 2 cap;clear aE a1 aA a0 Ao u3 I;go_wp2_with fail;refine(jy _ p ws ps d _ lF bC).mono ?_;rintro q ae ⟨rfl,S,z⟩;have e:=Y<|Nj.step z;obtain⟨bf,ar⟩:=lF.block;obtain⟨a8,ac⟩:=bV (a3.but (kW _) ar bM (by have:=e.yQ;omega) z) S;have RH:=Y<|a8.OG cK;clear S z ar;obtain⟨u0,P⟩:=e.cell (i:=0) rfl;obtain⟨u1,z1⟩:=e.cell (i:=1) rfl;obtain⟨u2,R⟩:=e.cell (i:=2) rfl;obtain⟨u3,I⟩:=e.cell (i:=3) rfl;obtain⟨r0,y0⟩:=e.dB (i:=0) rfl;obtain⟨r1,y1⟩:=e.dB (i:=1) rfl;obtain⟨r2,y2⟩:=e.dB (i:=2) rfl;obtain⟨r3,y3⟩:=e.dB (i:=3) rfl;go_wp2_with fail;obtain⟨⟨Wf,B,f0,f1,f2,f3⟩,C,G,D⟩:=e.RJ ac (O 3) (O 0) (A x)<|Tc g 2 cap;unfold qW at B C G D;rw[<-B]at C G D ⊢;clear B u0 u1 u2 u3 P z1 R I r0 r1 r2 r3 y0 y1 y2 y3;refine cZ (v:=.agg #[O 3,O 0,A x,Tc g 2 cap]) (by simp[results,results120,go_sem,f0,f1,f2,f3]) rfl ?_;refine⟨_,_,_,_,rfl,?_,?_,C⟩;·rw[f];have:=iH.mk (kd:=3) (n:=0) (RH.sub D) (HX x rfl) ⟨by decide,by decide⟩ ⟨by decide,by decide⟩;unfold opE;rw[<-ap];exact this
    ·rw[f];exact G
structure Fx(w:World)(p:Nat)(W:World)(T:TypeId)(r:Array Value):Prop where
 res:W.heap[w.heap.size]?=some (.cells r T (0,0))
 but:But p w W
 size:w.heap.size+1<=W.heap.size
 yQ:p<w.heap.size
theorem Fx.start(w:bI)(p:Nat)(T:TypeId)(r:Array aC)(b:p<w.heap.size):Fx w p (w.alloc<|.cells r T (0,0)) T r:=
 ⟨bF w _,But.of_below<|aH _ _,by simp,b⟩
theorem Fx.step(h:Fx w p W T r)(b:But p W W'):Fx w p W' T r:=
 ⟨b.at (by have:=h.yQ;omega) h.res,h.but.trans b,bE h.size b.size,h.yQ⟩
theorem Fx.cell(h:Fx w p W T r)(b:r[i]?=some v):bJ W w.heap.size i=some v/\W.frozen? (aN w.heap.size i)=false:=⟨(aj h.res i).trans b,aF h.res i⟩
theorem Fx.qA(h:Fx w p W T r)(i:Nat)(v:aC):Fx w p (W.setCell (aN w.heap.size i) v) T (r.setIfInBounds i v):=
 ⟨aP h.res i v,h.but.set (aQ cK) v,by simp only[World.setCell,Am];exact h.size,h.yQ⟩
theorem Fx.rd{st:Sr}(h:Fx w p W T r)(b:dL W p ws ps d st)(i:Nat)(v:aC):dL (W.setCell (aN w.heap.size i) v) p ws ps d st:=b.set (by have:=h.yQ;simp;omega) v
theorem Fx.RJ{st:Sr}(h:Fx w p W T #[r0,r1,r2,r3])(q:dL W p ws ps d st)(c0 c1 c2 c3:aC):(∃e,e=qW W w.heap.size c0 c1 c2 c3/\bJ e w.heap.size 0=some c0/\bJ e w.heap.size 1=some c1/\bJ e w.heap.size 2=some c2/\bJ e w.heap.size 3=some c3)/\But p w (qW W w.heap.size c0 c1 c2 c3)/\dL (qW W w.heap.size c0 c1 c2 c3) p ws ps d st/\Sub (only (λb=>decide (w.heap.size+1<=b)) W) (fr w<|qW W w.heap.size c0 c1 c2 c3):=by have g:=h.qA 0 c0;have j:=g.qA 1 c1;have k:=j.qA 2 c2;have f:=k.qA 3 c3;refine⟨⟨_,rfl,(f.cell (i:=0) rfl).1,(f.cell (i:=1) rfl).1,(f.cell (i:=2) rfl).1,(f.cell (i:=3) rfl).1⟩,f.but,k.rd (j.rd (g.rd (h.rd q 0 c0) 1 c1) 2 c2) 3 c3,λa v t=>?_⟩;obtain⟨u,z⟩:=bR.1 t;have B:=iP u;refine bR.2 ⟨gW bC,?_⟩;unfold qW;rw[jH (vM _ _ _ _ (by simp only;omega)),jH (vM _ _ _ _ (by simp only;omega)),jH (vM _ _ _ _ (by simp only;omega)),jH (vM _ _ _ _ (by simp only;omega))];exact z
theorem YC(k:Nat)(hC:∀(w:bI) (p:Nat) (ws:aJ) (ps:List Int) (d:Nat) (st:Sr),dL w p ws ps d st->Rd.Ok k st->BM d st->d<=20->Rd.is (Rd.pk st) [40]=true->aD 120 #[gK p] w λf w'=>∃c0 c1 c2 c3,f=dz (.agg #[c0,c1,c2,c3])/\iH (fr w w') (k+1) c0 c1 c2 c3 (pE k d st).1/\dL w' p ws ps d (pE k d st).2/\But p w w')(hE:∀d st,Rd.is (Rd.pk st) [40]=false->Rd.Ok k st->pE k d st=if Z8 (Rd.pk st)then nuE st else Rd.oM st):Yz k:=by
 intro w p ws ps d st h hk hd;obtain⟨HC,HE,af,jD⟩:=lD hC (hE d st) (Fx.start w p 80 #[O 0,O 0,A ⟨#[]⟩,aU] h.lt)<|h.below<|aH w<|aY #[O 0,O 0,A ⟨#[]⟩,aU] 80;clear hC hE;go_enter func84,ntmps84;go_wp2_with fail;generalize (w.alloc<|aY #[O 0,O 0,A ⟨#[]⟩,aU] 80)=W0 at *;refine(iF W0 p ws ps d st jD).mono ?_;rintro f w1 ⟨rfl,Z,ac⟩;obtain⟨U,R⟩:=bV (af.step ac) Z;have ak:(Rd.pk st).size<=4096:=IV Z 0;clear ac h Z;obtain⟨x,hx⟩:=aV<|Rd.pk st;have ah:=Y hx;rw[<-hx]at HE ak ⊢;clear hx;by_cases V:x.toList=[40]
 ·have hp:Rd.is (Rd.pk st) [40]=true:=by rw[<-ah];exact qy V
  have hf:st.f=false:=Yh (n:=0) hp cK;have Ap:d<=20:=by
   rcases hd.2 with f|f;·rw[hf]at f;cases f
   ·exact f
  go_wp2_with fail;refine(HC _ p ws ps d st R hk hd Ap hp).mono ?_;rintro f w2 ⟨c0,c1,c2,c3,rfl,aa,ab,ad⟩;have e:=Y<|U.step ad;obtain⟨ax,cx,rfl,rfl,rfl,rfl⟩:=aa.shape;obtain⟨ag,u⟩:=bV (aa.sub<|fI U.size) ab;clear aa ab ad;obtain⟨r0,L⟩:=e.cell (i:=0) rfl;obtain⟨r1,M⟩:=e.cell (i:=1) rfl;obtain⟨r2,N⟩:=e.cell (i:=2) rfl;obtain⟨r3,P⟩:=e.cell (i:=3) rfl;go_wp2_with fail;obtain⟨⟨Wf,g,C,f1,D,F⟩,j,q,t⟩:=e.RJ u (O (pE k d st).1.kind) (O (pE k d st).1.n) (A (pE k d st).1.name)<|X ax (pE k d st).1.args.length cx;unfold qW at g j q t;rw[<-g]at j q t ⊢;clear g r0 r1 r2 r3 L M N P;refine cZ (v:=.agg #[O (pE k d st).1.kind,O (pE k d st).1.n,A (pE k d st).1.name,X ax (pE k d st).1.args.length cx]) (by simp[results,results84,go_sem,C,f1,D,F]) rfl ?_;exact⟨_,_,_,_,rfl,ag.sub t,q,j⟩
 ·have b0:=pG V;have B:=Y<|HE (qz V) hk;go_wp2_with fail;refine(amO _ x (by unfold maxLen;omega)).mono ?_;rintro f w2 ⟨rfl,ai⟩;subst ai;obtain⟨b,hb⟩:=aV<|Z8 x;rw[<-hb]at B ⊢;clear hb;cases b
  ·rw[aI cK]at B;go_wp2_with fail;refine(kT _ p ws ps d st R).mono ?_;rintro f w3 ⟨rfl,G,H⟩;obtain⟨S,e,u⟩:=fE (qj R) (U.step H) G;have z:J (pE k d st=(⟨2,0,(Rd.iw st).1,[]⟩,(Rd.iw st).2)):=B;clear G H;obtain⟨r0,L⟩:=e.cell (i:=0) rfl;obtain⟨r1,M⟩:=e.cell (i:=1) rfl;obtain⟨r2,N⟩:=e.cell (i:=2) rfl;obtain⟨r3,P⟩:=e.cell (i:=3) rfl;generalize Rd.iw st=nm at *;obtain⟨I,s3⟩:=nm;simp only at S u z ⊢;go_wp2_with fail;obtain⟨⟨Wf,g,C,f1,D,F⟩,j,q,t⟩:=e.RJ u (O 2) (O 0) (A I)<|aU;unfold qW at g j q t;rw[<-g]at j q t ⊢;clear g r0 r1 r2 r3 L M N P;refine cZ (v:=.agg #[O 2,O 0,A I,aU]) (by simp[results,results84,go_sem,C,f1,D,F]) rfl ?_;refine⟨_,_,_,_,rfl,?_,?_,j⟩;·rw[z];exact iH.mk (OU _ _) S ⟨by decide,by decide⟩ ⟨by decide,by decide⟩
   ·rw[z];exact q
  ·rw[aK rfl]at B;go_wp2_with fail;refine(RF _ p ws ps d st R).mono ?_;rintro f w3 ⟨rfl,G,H⟩;have S:J (mq<|BG<|Rd.pk<|Rd.nu st):=Y (by
    refine ade _ ?_;unfold Rd.nu;split;·exact bN _
    ·rename_i ae;unfold Z9 at ae;simp only[GK,iy,not_or]at ae;omega)
   obtain⟨e,u⟩:=bV (U.step H) G;have z:J (pE k d st=(⟨1,BG<|Rd.pk<|Rd.nu st,⟨#[]⟩,[]⟩,Rd.tk<|Rd.nu st)):=B;clear G H;obtain⟨r0,L⟩:=e.cell (i:=0) rfl;obtain⟨r1,M⟩:=e.cell (i:=1) rfl;obtain⟨r2,N⟩:=e.cell (i:=2) rfl;obtain⟨r3,P⟩:=e.cell (i:=3) rfl;generalize BG (Rd.pk<|Rd.nu st)=I at *;go_wp2_with fail;obtain⟨⟨Wf,g,C,f1,D,F⟩,j,q,t⟩:=e.RJ u (O 1) (O I) (A ⟨#[]⟩)<|aU;unfold qW at g j q t;rw[<-g]at j q t ⊢;clear g r0 r1 r2 r3 L M N P;refine cZ (v:=.agg #[O 1,O I,A ⟨#[]⟩,aU]) (by simp[results,results84,go_sem,C,f1,D,F]) rfl ?_;refine⟨_,_,_,_,rfl,?_,?_,j⟩;·rw[z];exact iH.mk (OU _ _) (bN _) ⟨by decide,by decide⟩ S
   ·rw[z];exact q
theorem pW:∀k,Yz k
 | 0=>by
  refine YC 0 (λw p ws ps d st h e q j g=>?_) (λd st h e=>?_)
  ·have f:=Yh (n:=0) g cK;rcases e with b|b;·rw[f]at b;cases b
   ·omega
  ·have f:st.f=true:=by
    rcases e with b|b;·exact b
    ·omega
   have t:Rd.pk st=⟨#[]⟩:=EY f 0;rw[t];rfl
 | k+1=>by
  refine YC (k+1) (λw p ws ps d st h e q j g=>?_) (λd st h e=>?_)
  ·have b:pE (k+1) d st=Rd.cE (pE k<|d+1) k d st:=by simp only[pE];rw[aK g]
   rw[b];exact afF k (pW k) w p ws ps d st h e q j
  ·simp only[pE];rw[aI (by rw[h];simp)]
def YD(m:Nat)(w:bI)(c:List Value)(s:St):Prop:=
 ∃b e f g va h,c=[.int .i64 s.kind,.string s.name,b,e,f,g,va,h]/\mq s.kind/\s.name.size<=maxLen/\iH w m b e f g s.e/\fH w m va s.a/\fH w m h s.b
theorem og(m:Nat):Hz (YD m):=λ_ _ _ _ b h=>by obtain⟨f,g,j,k,va,C,e,q,t,u,z,B⟩:=h;exact⟨f,g,j,k,va,C,e,q,t,u.sub b,z.sub b,B.sub b⟩
theorem YD.shape(h:YD m w c s):∃f k b g e j,c=[O s.kind,A s.name,O s.e.kind,O s.e.n,A s.e.name,X f s.e.args.length k,X b s.a.length g,X e s.b.length j]:=by obtain⟨z,B,C,D,va,F,rfl,_,_,q,t,u⟩:=h;obtain⟨f,k,rfl,rfl,rfl,rfl⟩:=q.shape;obtain⟨b,g,rfl,_⟩:=t.shape;obtain⟨e,j,rfl,_⟩:=u.shape;exact⟨f,k,b,g,e,j,rfl⟩
theorem YD.one(h:YD m w c s):∀e∈c,e.oneCell'=true:=by obtain⟨j,t,f,k,g,q,rfl⟩:=h.shape;intro e b;simp at b;rcases b with rfl|rfl|rfl|rfl|rfl|rfl|rfl|rfl<;>rfl
theorem infoSt:(prog.info? 107).map (λi=>(i.zero,i.size,i.bytes))=some (some<|.agg #[O 0,A ⟨#[]⟩,O 0,O 0,A ⟨#[]⟩,aU,aU,aU],8,128):=by kernel_rfl
theorem VK(w:bI)(c0 c1 c2 c3 b e f g:aC)(t:TypeId):∀(j:Nat) u,[c0,c1,c2,c3,b,e,f,g][j]?=some u->(w.alloc<|.cells #[c0,c1,c2,c3,b,e,f,g] t).cell? (aN w.heap.size j)=some u:=by intro j u h;rw[aj (bF w<|.cells #[c0,c1,c2,c3,b,e,f,g] t)];simpa using h
theorem uI(W:bI)(m:Nat):fH W (m+1) (aU) []:=⟨none,0,0,0,rfl,λh=>aM h cK,by simp,λi y b=>by simp at b⟩
theorem gJ.sts{l:List St}(h:gJ (YD m) w' n 107 8 v l)(I:l.length<=9223372036854775807):fH (only (λb=>decide (n<=b)) w') (m+1) v l:=by
 rcases h.shape with⟨rfl,rfl⟩|⟨g,cap,rfl,_,hg,_⟩;·exact uI _ _
 ·refine⟨_,g,0,cap,rfl,λ_=>rfl,I,λi y N=>?_⟩;obtain⟨c,S,H,_,q,t,u,z,va,B,rfl,P,R,M,F,G⟩:=h.cell N;have e:∀j (f:j<8),(only (λb=>decide (n<=b)) w').cell? (aN g<|0+i*8+j)=some ([O y.kind,A y.name,q,t,u,z,va,B][j]):=λj f=>by refine bR.2 ⟨gW hg,?_⟩;rw[d9,H j f];exact aZ (by simpa using f)
  have k:Sub (only (λb=>decide (n<=b)&&decide (some g≠some b)) w') (only (λb=>decide (n<=b)) w'):=λa U L=>by obtain⟨C,D⟩:=bR.1 L;exact bR.2 ⟨(mF.1 C).1,D⟩
  exact⟨P,R,q,t,u,z,va,B,e 0 bM,e 1 bM,e 2 bM,e 3 bM,e 4 bM,e 5 bM,e 6 bM,e 7 bM,M.sub k,F.sub k,G.sub k⟩
def RN(K k:Nat):Prop:=∀(w:bI) (p:Nat) (ws:List aS) (ps:List Int) (d:Nat) (st:Sr),dL w p ws ps d st->Rd.Ok k st->Rd.Ok K st->BM d st->LV st=true->
 Calls prog 119 #[.pointer (some ⟨p,0,none⟩)] w λh w'=>∃c0 c1 c2 c3 b e f g,h=.returned (.agg #[c0,c1,c2,c3,b,e,f,g])/\YD (K+1+k) (fr w w') [c0,c1,c2,c3,b,e,f,g] (Rd.pS K k d st).1/\dL w' p ws ps d (Rd.pS K k d st).2/\But p w w'
theorem JM(K k:Nat)(ih:RN K k)(w:World)(p:Nat)(ws:List ByteArray)(ps:List Int)(d:Nat)(st:Sr)(h:dL w p ws ps d st)(hk:Rd.Ok k st)(hK:Rd.Ok K st)(hd:BM d st)(hd2:d<=29)(n:Nat)(hn:Rd.Ok n st):Calls prog 177 #[.pointer (some ⟨p,0,none⟩)] w λe w'=>∃v,e=.returned v/\fH (fr w w') (K+1+k+1) v (Rd.blk (Rd.pS K k (d+1)) n d st).1/\dL w' p ws ps d (Rd.blk (Rd.pS K k (d+1)) n d st).2/\But p w w':=by
 have IH:=Y ih;have zV:=Y h.lt;have Fy:Hid (Rd.blk (Rd.pS K k (d+1)) n d st=((Rd.loop LV (Rd.pS K k (d+1)) n (Rd.op d st)).1,Rd.sh (Rd.loop LV (Rd.pS K k (d+1)) n (Rd.op d st)).2)):=rfl;have hlen:(Rd.op d st).r.length<=4096:=Nat.le_trans (jL d st).1.2 (Nat.le_trans h.suffix.length_le h.len);have hk1:=hk.le (jL d st).1;have hK1:=hK.le (jL d st).1;have hn1:=hn.le (jL d st).1;have hd1:=hd.op hd2;clear ih hk hK hn hd;go_enter func177,ntmps177;go_wp2_with fail;refine(mH w p ws ps d st h (by omega)).mono ?_;rintro e w0 ⟨rfl,h0,hb0⟩;clear h;generalize Rd.op d st=s1 at *;go_wp2;go_loopw[3] (λv wr=>∃(acc:List St) (st':Sr) (n':Nat),Rd.loop LV (Rd.pS K k (d+1)) n s1=(acc++(Rd.loop LV (Rd.pS K k (d+1)) n' st').1,(Rd.loop LV (Rd.pS K k (d+1)) n' st').2)/\Rd.Ok n' st'/\Rd.Ok k st'/\Rd.Ok K st'/\BM (d+1) st'/\(acc.length<=4097/\(st'.f=true\/acc.length+st'.r.length<=4096))/\gJ (YD (K+1+k)) wr w.heap.size 107 8 v acc/\dL wr p ws ps (d+1) st'/\But p w wr) (λ_ wr=>meas ws.length p wr);exact⟨[],s1,n,rfl,hn1,hk1,hK1,hd1,⟨by simp,Or.inr (by simpa using hlen)⟩,gJ.nil _ _ _ _,h0,hb0⟩
 clear h0 hb0 hk1 hK1 hn1 hd1 hlen;obtain⟨acc,st',n',hL,hnk,hk',hK',hd',⟨hacc,hacc'⟩,hown,hR,hnx⟩:=hrel;have HL:=Y hL;have HOW:=Y hown;have HRr:=Y hR;have fT:=Y hnx;obtain⟨rc,hrc⟩:=hR.block;have jD:=Y (And.intro hrc zV.out);clear hL hown hnx hrc;go_wp2_with fail;refine(iF _ p ws ps (d+1) st' hR).mono ?_;rintro e w1 ⟨rfl,h1,hb1⟩;have HR1:=Y h1;have HB1:=Y hb1;clear hR h1 hb1;by_cases h0:(Rd.pk st').toList=[40]
 ·have HC:Hid (LV st'=true):=Y (qy h0);have GR:=HC;have hf':st'.f=false:=EZ HC.out;obtain⟨n',rfl⟩:=hnk.pos hf';rw[hf']at hacc';have uG:acc.length+st'.r.length<=4096:=by simpa using hacc'
  clear hacc';go_wp2_with fail;refine(IH.out _ p ws ps (d+1) st' HR1.out hk' hK' hd' GR.out).mono ?_;rintro e w5 ⟨c0,c1,c2,c3,c4,c5,c6,c7,rfl,hx,LY,hb5⟩;have hown5:=HOW.out.but (og _) jD.out.1 (by decide) (by have:=jD.out.2;omega) (HB1.out.trans hb5);have JI:∀j,u3.ownBlock=some j->j<w1.heap.size:=λj hj=>Nat.lt_of_lt_of_le (HOW.out.lt j hj).2 HB1.out.size;have HAT:=Y (og _ _ _ _ _ (OO (w:=w) (w0:=w1) (w1:=w5) (v:=u3) (by have:=fT.out.size;have:=HB1.out.size;omega) JI) hx);have OT:=Y hx.one;obtain⟨ax,cx,aa,ca,ab,cb,hsh⟩:=hx.shape;simp only[List.cons.injEq,and_true]at hsh;obtain⟨rfl,rfl,rfl,rfl,rfl,rfl,rfl,rfl⟩:=hsh;have rM:=Y hown5;have oK:=Y LY;have eD:=Y ((fT.out.trans HB1.out).trans hb5);have hsz5:=eD.out.size;have oL:Hid (Rd.Lt (Rd.pS K k (d+1) st').2 st'):=Y (by obtain⟨j,rfl⟩:=hk'.pos hf';exact Mg _ _ _ _);clear hown5 JI hx LY hb5
  go_wp2_with (first
   | (at_builtin;refine kM (og _) rfl _ _ 77 107 8 128 _ rfl underlying77 infoSt (by decide) (by decide) (by decide) w.heap.size _ _ rfl (rM.out.below (og _) (aH _ _)) _ _ (Rd.pS K k (d+1) st').1 rfl (VK _ _ _ _ _ _ _ _ _ _) rfl OT.out (og _ _ _ _ _ (kF _ _ _) HAT.out) (by omega) (by simp;omega) ?_;intro g cap w6 hown6 dX;have pQ:=Y hown6;have mI:=Y (((oK.out.below (aH _ _))).grown dX (λj hj=>by have:=(rM.out.lt j hj).1;have:=zV.out;omega));have fD:=Y ((eD.out.alloc _).grown dX (λj hj=>(rM.out.lt j hj).1));clear hown6 dX)
   | fail)
  go_roundw;exact⟨acc++[(Rd.pS K k (d+1) st').1],(Rd.pS K k (d+1) st').2,n',by rw[HL.out,nI HC.out];simp,hnk.lt oL.out,hk'.le oL.out.1,hK'.le oL.out.1,hd'.le oL.out.1,by
   rw[List.length_append,List.length_singleton];rcases oL.out.2 with e|e;·exact⟨by omega,Or.inl e⟩
   ·exact⟨by omega,Or.inr (by omega)⟩,pQ.out,mI.out,fD.out⟩
  exact zU HRr.out mI.out hf' oL.out
 ·have b0:=pG h0;have HC:Hid (LV st'=false):=Y (qz h0);have Vf:Hid (Rd.loop LV (Rd.pS K k (d+1)) n s1=(acc,st')):=Y (by rw[HL.out,rT HC.out];simp);have HE1:=Y (HOW.out.but (og _) jD.out.1 (by decide) (by have:=jD.out.2;omega) HB1.out);go_wp2_with fail;refine(jy _ p ws ps d _ HR1.out (by omega)).mono ?_;rintro e w2 ⟨rfl,h2,hb2⟩;obtain⟨rc1,RP⟩:=HR1.out.block;have HE:=Y (HE1.out.but (og _) RP (by decide) (by have:=jD.out.2;omega) hb2);have RH:=Y (HE.out.sts (by omega));clear RP;go_wp2;go_ret;exact⟨_,rfl,by rw[Fy.out,Vf.out];exact RH.out,by rw[Fy.out,Vf.out];exact h2,(fT.out.trans HB1.out).trans hb2⟩
theorem adi(K k:Nat)(ih:RN K k)(w:World)(p:Nat)(ws:List ByteArray)(ps:List Int)(d:Nat)(st:Sr)(h:dL w p ws ps d st)(hk:Rd.Ok k st)(hK:Rd.Ok K st)(hd:BM d st)(n:Nat)(hn:Rd.Ok n st):Calls prog 83 #[.pointer (some ⟨p,0,none⟩)] w λe w'=>∃v,e=.returned v/\fH (fr w w') (K+1+k+1) v (Rd.loop kY (Rd.pS K k d) n st).1/\dL w' p ws ps d (Rd.loop kY (Rd.pS K k d) n st).2/\But p w w':=by
 have IH:=Y ih;have zV:=Y h.lt;have hlen:st.r.length<=4096:=Nat.le_trans h.suffix.length_le h.len;clear ih;go_enter func83,ntmps83;go_wp2;go_loopw[3] (λv wr=>∃(acc:List St) (st':Sr) (n':Nat),Rd.loop kY (Rd.pS K k d) n st=(acc++(Rd.loop kY (Rd.pS K k d) n' st').1,(Rd.loop kY (Rd.pS K k d) n' st').2)/\Rd.Ok n' st'/\Rd.Ok k st'/\Rd.Ok K st'/\BM d st'/\(acc.length<=4097/\(st'.f=true\/acc.length+st'.r.length<=4096))/\gJ (YD (K+1+k)) wr w.heap.size 107 8 v acc/\dL wr p ws ps d st'/\But p w wr) (λ_ wr=>meas ws.length p wr);exact⟨[],st,n,rfl,hn,hk,hK,hd,⟨by simp,Or.inr (by simpa using hlen)⟩,gJ.nil _ _ _ _,h,But.refl _ _⟩
 clear h hk hK hd hn hlen;obtain⟨acc,st',n',hL,hnk,hk',hK',hd',⟨hacc,hacc'⟩,hown,hR,hnx⟩:=hrel;have HL:=Y hL;have HOW:=Y hown;have HRr:=Y hR;have fT:=Y hnx;obtain⟨rc,hrc⟩:=hR.block;have jD:=Y (And.intro hrc zV.out);clear hL hown hnx hrc;go_wp2_with fail;refine(iF _ p ws ps d st' hR).mono ?_;rintro e w1 ⟨rfl,h1,hb1⟩;have HR1:=Y h1;have HB1:=Y hb1;clear hR h1 hb1;by_cases h0:(Rd.pk st').toList=[40]
 ·have GR:Hid (LV st'=true):=Y (qy h0);go_wp2_with fail;refine(VG _ p ws ps d st' HR1.out).mono ?_;rintro e w2 ⟨rfl,h2,hb2⟩;have HR2:=Y h2;have HB2:=Y (HB1.out.trans hb2);clear h2 hb2;go_wp2_with fail;refine(afV _ _).mono ?_;rintro e w3 ⟨rfl,hw3⟩;subst hw3;have HBC:Hid (kY st'=decide (Rd.cmd (Rh st' 1)≠0)):=Y (by unfold kY;rw[qy h0,Bool.true_and]);obtain⟨b,hb⟩:∃b,b=decide (Rd.cmd (Rh st' 1)≠0):=⟨_,rfl⟩;rw[<-hb]at HBC ⊢;clear hb;cases b;·have HC:=HBC;have HE:=Y (HOW.out.but (og _) jD.out.1 (by decide) (by have:=jD.out.2;omega) HB2.out);have RH:=Y (HE.out.sts (by omega));have Vf:Hid (Rd.loop kY (Rd.pS K k d) n st=(acc,st')):=Y (by rw[HL.out,rT HC.out];simp);go_wp2;go_ret;exact⟨_,rfl,by rw[Vf.out];exact RH.out,by rw[Vf.out];exact HR2.out,fT.out.trans HB2.out⟩
  ·have HC:=HBC;have hf':st'.f=false:=EZ GR.out;obtain⟨n',rfl⟩:=hnk.pos hf';rw[hf']at hacc';have uG:acc.length+st'.r.length<=4096:=by simpa using hacc'
   clear hacc';go_wp2_with fail;refine(IH.out _ p ws ps d st' HR2.out hk' hK' hd' GR.out).mono ?_;rintro e w5 ⟨c0,c1,c2,c3,c4,c5,c6,c7,rfl,hx,LY,hb5⟩;have hown5:=HOW.out.but (og _) jD.out.1 (by decide) (by have:=jD.out.2;omega) (HB2.out.trans hb5);have JI:∀j,u3.ownBlock=some j->j<w3.heap.size:=λj hj=>Nat.lt_of_lt_of_le (HOW.out.lt j hj).2 HB2.out.size;have HAT:=Y (og _ _ _ _ _ (OO (w:=w) (w0:=w3) (w1:=w5) (v:=u3) (by have:=fT.out.size;have:=HB2.out.size;omega) JI) hx);have OT:=Y hx.one;obtain⟨ax,cx,aa,ca,ab,cb,hsh⟩:=hx.shape;simp only[List.cons.injEq,and_true]at hsh;obtain⟨rfl,rfl,rfl,rfl,rfl,rfl,rfl,rfl⟩:=hsh;have rM:=Y hown5;have oK:=Y LY;have eD:=Y ((fT.out.trans HB2.out).trans hb5);have hsz5:=eD.out.size;have oL:Hid (Rd.Lt (Rd.pS K k d st').2 st'):=Y (by obtain⟨j,rfl⟩:=hk'.pos hf';exact Mg _ _ _ _);clear hown5 JI hx LY hb5
   go_wp2_with (first
    | (at_builtin;refine kM (og _) rfl _ _ 77 107 8 128 _ rfl underlying77 infoSt (by decide) (by decide) (by decide) w.heap.size _ _ rfl (rM.out.below (og _) (aH _ _)) _ _ (Rd.pS K k d st').1 rfl (VK _ _ _ _ _ _ _ _ _ _) rfl OT.out (og _ _ _ _ _ (kF _ _ _) HAT.out) (by omega) (by simp;omega) ?_;intro g cap w6 hown6 dX;have pQ:=Y hown6;have mI:=Y (((oK.out.below (aH _ _))).grown dX (λj hj=>by have:=(rM.out.lt j hj).1;have:=zV.out;omega));have fD:=Y ((eD.out.alloc _).grown dX (λj hj=>(rM.out.lt j hj).1));clear hown6 dX)
    | fail)
   go_roundw;exact⟨acc++[(Rd.pS K k d st').1],(Rd.pS K k d st').2,n',by rw[HL.out,nI HC.out];simp,hnk.lt oL.out,hk'.le oL.out.1,hK'.le oL.out.1,hd'.le oL.out.1,by
    rw[List.length_append,List.length_singleton];rcases oL.out.2 with e|e;·exact⟨by omega,Or.inl e⟩
    ·exact⟨by omega,Or.inr (by omega)⟩,pQ.out,mI.out,fD.out⟩
   exact zU HRr.out mI.out hf' oL.out
 ·have b0:=pG h0;have HC:Hid (kY st'=false):=Y (by unfold kY;rw[qz h0];rfl);have HE:=Y (HOW.out.but (og _) jD.out.1 (by decide) (by have:=jD.out.2;omega) HB1.out);have RH:=Y (HE.out.sts (by omega));have Vf:Hid (Rd.loop kY (Rd.pS K k d) n st=(acc,st')):=Y (by rw[HL.out,rT HC.out];simp);go_wp2;go_ret;exact⟨_,rfl,by rw[Vf.out];exact RH.out,by rw[Vf.out];exact HR1.out,fT.out.trans HB1.out⟩
