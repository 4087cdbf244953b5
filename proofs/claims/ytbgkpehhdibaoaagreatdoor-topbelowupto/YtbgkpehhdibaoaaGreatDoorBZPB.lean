/- part -/
import Derived.Test.YtbgkpehhdibaoaaGreatDoorBZPA
import Derived.Lib.AtoiBound
import Derived.Lib.SmallJoins
import Derived.Deep.CutBlock
set_option maxHeartbeats 0
set_option maxRecDepth 99999
namespace Go.Proofs.YtbgkpehhdibaoaaGreatDoor
open Rd
open Go.Proofs.Tryz
open Go.RowKit
variable{n m p d d' i:Nat}{w0 w1 w w' W W':World}{v c0 c1 c2 c3 r0 r1 r2 r3:Value}{c:List Value}{y x:Ex}{l:List Ex}{ws:List aY}{ps:List Int}{T:TypeId}{s:St}{r:Array Value}
theorem Z7(s:aY)(h:s.size<=18):K5 (zu s):=by
 unfold zu;cases ha:Lib.atoi s.data.toList with
 | none=>exact⟨by decide,by decide⟩
 | some n =>have:=Lib.atoi_bound ha (by rw[gM];exact h);exact⟨by simp only[iw];omega,by simp only[iw];omega⟩
theorem Gp(w:World)(p:Nat)(ws:List aY)(ps:List Int)(d:Nat)(st:Sr)(h:dh w p ws ps d st)(s:aY)(hs:s.size<=18):Calls prog 273 #[A s] w λe w'=>∃v,e=dz (.tuple #[O (zu s),v])/\(v=.nilIface\/(∃t x,v=.iface t x)/\zu s=0)/\bG w w':=by
 cases ha:Lib.atoi s.data.toList with
 | some n =>refine(Tryz.strconv_Atoi s n hs ha w).mono ?_;rintro e w' ⟨rfl,t,rfl⟩;exact⟨_,by unfold zu;rw[ha];rfl,aR rfl,Joins.below_bytesWorld _ _ _ _ (bE _)⟩
 | none=>
  obtain⟨_,_,_,_,_,_,⟨g,tp,x,t,fz,h4,h5,h6⟩,_⟩:=h;refine(Tryz.strconv_Atoi_err_var s hs ha tp x w (by unfold World.var?;rw[h4];simp[h6])).mono ?_;rintro e w' ⟨N,rfl,_,_,hb⟩;have e0:zu s=0:=by unfold zu;rw[ha];rfl
  exact⟨_,by rw[e0],aV ⟨⟨_,_,rfl⟩,e0⟩,hb⟩
theorem badN_eq(s:aY):Wp s=(decide (6<s.size)||(decide (1<s.size)&&((s.data.toList.getD 0 0).toNat==48))):=by
 unfold Wp;have e:(s.data.toList.getD 0 0==48)=((s.data.toList.getD 0 0).toNat==48):=by
  generalize s.data.toList.getD 0 0=c;rw[sK];simp only[beq_iff_eq];constructor;·rintro rfl;rfl
  ·intro h;exact UInt8.toNat_inj.1 h
 rw[e]
theorem Ot(w:World)(p:Nat)(ws:List aY)(ps:List Int)(d:Nat)(st:Sr)(h:dh w p ws ps d st):Calls prog 244 #[iO p] w λe w'=>e=dz (O (zu (Rd.pk (Rd.nu st))))/\dh w' p ws ps d (Rd.tk (Rd.nu st))/\But p w w':=by
 have HN:Hid (Rd.nu st=if Wp (Rd.pk st)then Rd.fl st else st):=rfl;have HF:Hid (Rd.pk (Rd.fl st)=⟨#[]⟩):=rfl;have HB:=I (badN_eq (Rd.pk st));have hsz:(Rd.pk st).size<=4096:=Fq h 0;go_enter func244,ntmps244;go_wp2_with fail;refine(gK w p ws ps d st h).mono ?_;rintro e w1 ⟨rfl,h1,hb1⟩;clear h;obtain⟨x,hx⟩:=bC (Rd.pk st);have HX:=I hx;rw[<-hx]at HN HB hsz ⊢;clear hx;cases hbad:Wp x
 ·have Ou:Hid (Rd.nu st=st):=I (by rw[HN,hbad];rfl);have hb':=HB.out;rw[hbad]at hb';have h6:¬6<x.size:=by intro hh;rw[gq hh]at hb';cases hb'
  have h6':¬((x.size:Int) > 6):=by omega
  by_cases h2:1<x.size
  ·have hz:¬(x[0]'aX).toNat=48:=by intro hh;rw[byte_at x 0 aX,gq h2,hh]at hb';simp at hb'
   have h2':(x.size:Int) > 1:=by omega
   have hd6:decide ((6:Int)<(x.size:Int))=false:=gG aX;have hz8:(((x[0]'aX).toNat:Int)==48)=false:=by rw[beq_eq_false_iff_ne];omega
   clear hb' hbad;go_wp2_with fail;refine(iq w1 p ws ps d st h1).mono ?_;rintro e w2 ⟨rfl,h3,hb3⟩;rw[<-HX];go_wp2_with fail;refine(Gp w2 p ws ps d _ h3 x aX).mono ?_;rintro e w3 ⟨v,rfl,hv,hb4⟩;obtain⟨HR,wE⟩:=bU (h3.below hb4) ((hb1.trans hb3).trans (But.of_below hb4));clear hb4 h3 h1;obtain⟨z,hz'⟩:∃z,z=zu x:=⟨_,rfl⟩;have HZ:=I hz';rw[<-hz']at hv ⊢;clear hz';rcases hv with rfl|⟨⟨t,y,rfl⟩,hz0⟩;·go_wp2;go_ret;exact⟨bT (by rw[Ou.out,<-HX];exact HZ),by rw[Ou.out];exact HR,wE⟩
   ·subst hz0;go_wp2;go_ret;exact⟨bT (by rw[Ou.out,<-HX];exact HZ),by rw[Ou.out];exact HR,wE⟩
  ·have h2':¬((x.size:Int) > 1):=by omega
   clear hb' hbad;go_wp2_with fail;refine(iq w1 p ws ps d st h1).mono ?_;rintro e w2 ⟨rfl,h3,hb3⟩;rw[<-HX];go_wp2_with fail;refine(Gp w2 p ws ps d _ h3 x aX).mono ?_;rintro e w3 ⟨v,rfl,hv,hb4⟩;obtain⟨HR,wE⟩:=bU (h3.below hb4) ((hb1.trans hb3).trans (But.of_below hb4));clear hb4 h3 h1;obtain⟨z,hz'⟩:∃z,z=zu x:=⟨_,rfl⟩;have HZ:=I hz';rw[<-hz']at hv ⊢;clear hz';rcases hv with rfl|⟨⟨t,y,rfl⟩,hz0⟩;·go_wp2;go_ret;exact⟨bT (by rw[Ou.out,<-HX];exact HZ),by rw[Ou.out];exact HR,wE⟩
   ·subst hz0;go_wp2;go_ret;exact⟨bT (by rw[Ou.out,<-HX];exact HZ),by rw[Ou.out];exact HR,wE⟩
 ·have Ou:Hid (Rd.nu st=Rd.fl st):=I (by rw[HN,hbad];rfl);have hb':=HB.out;rw[hbad]at hb';have HA:=I (λ(W:World) (st':Sr) (hR:dh W p ws ps d st')=>Gp W p ws ps d st' hR ⟨#[]⟩ bO);have HZ:Hid (zu ⟨#[]⟩=0):=rfl;by_cases h6:6<x.size
  ·have h6':(x.size:Int) > 6:=by omega
   clear hb' hbad;go_wp2_with fail;refine(kY w1 p ws ps d st h1).mono ?_;rintro e w2 ⟨rfl,h3,hb3⟩;go_wp2_with fail;refine(iq w2 p ws ps d _ h3).mono ?_;rintro e w3 ⟨rfl,h4,hb4⟩;rw[HF];go_wp2_with fail;refine(HA w3 _ h4).mono ?_;rintro e w4 ⟨v,rfl,hv,hb5⟩;obtain⟨HR,wE⟩:=bU (h4.below hb5) (((hb1.trans hb3).trans hb4).trans (But.of_below hb5));rw[HZ];clear hb5 h4 h3 h1;rcases hv with rfl|⟨⟨t,y,rfl⟩,hz0⟩;·go_wp2;go_ret;exact⟨bT (by rw[Ou.out,HF,HZ]),by rw[Ou.out];exact HR,wE⟩
   ·clear hz0;go_wp2;go_ret;exact⟨bT (by rw[Ou.out,HF,HZ]),by rw[Ou.out];exact HR,wE⟩
  ·have h6':¬((x.size:Int) > 6):=by omega
   rw[gG h6,Bool.false_or]at hb';obtain⟨k1,k2⟩:=kX.1 hb'.symm;have h2:=jw k1;have h2':(x.size:Int) > 1:=by omega
   have hz:(x[0]'aX).toNat=48:=by rw[byte_at x 0 aX]at k2;simpa using k2
   have hd6:decide ((6:Int)<(x.size:Int))=false:=gG aX;have hz8:(((x[0]'aX).toNat:Int)==48)=true:=by rw[beq_iff_eq];omega
   clear hb' hbad k1 k2;go_wp2_with fail;refine(kY w1 p ws ps d st h1).mono ?_;rintro e w2 ⟨rfl,h3,hb3⟩;go_wp2_with fail;refine(iq w2 p ws ps d _ h3).mono ?_;rintro e w3 ⟨rfl,h4,hb4⟩;rw[HF];go_wp2_with fail;refine(HA w3 _ h4).mono ?_;rintro e w4 ⟨v,rfl,hv,hb5⟩;obtain⟨HR,wE⟩:=bU (h4.below hb5) (((hb1.trans hb3).trans hb4).trans (But.of_below hb5));rw[HZ];clear hb5 h4 h3 h1;rcases hv with rfl|⟨⟨t,y,rfl⟩,hz0⟩;·go_wp2;go_ret;exact⟨bT (by rw[Ou.out,HF,HZ]),by rw[Ou.out];exact HR,wE⟩
   ·clear hz0;go_wp2;go_ret;exact⟨bT (by rw[Ou.out,HF,HZ]),by rw[Ou.out];exact HR,wE⟩
section
variable {α : Type} {At : World → List Value → α → Prop} {w : World} {ops : Array Oper} {rest : List Oper} {o : Oper} {a : Act} {Q : Exit → Act → World → Prop}
theorem jQ(hm:Eu At)(hgd:o.guard=none)(s x:Operand)(t e k bytes:Nat)(z:Value)(ho:o.op=.call { callee:=.builtin .append,args:=#[s,x],argTypes:=#[t,t] })(ht:prog.underlying t=some (.slice e))(hinfo:(prog.info? e).map (λi=>(i.zero,i.size,i.bytes))=some (some z,k,bytes))(hzs:z.cells.size=k)(hk:0<k)(hby:bytes<=1024)(n:Nat)(v:Value)(l:List α)(hs:a.eval s=v)(hown:fI At w n e k v l)(B:Nat)(c:List Value)(y:α)(hx:a.eval x=.slice (some ⟨B,0,none⟩) 1 1)(hc:∀(j:Nat) u,c[j]?=some u->w.cell? ⟨B,j,none⟩=some u)(hck:c.length=k)(h1:∀u∈c,u.oneCell'=true)(hat:At (only (λb=>decide (n<=b)&&decide (v.ownBlock≠some b)) w) c y)(hl:l.length<=8192)(hbase:n<=w.heap.size)(h:∀g cap w',fI At w' n e k (.slice (some ⟨g,0,none⟩) (l.length+1) cap) (l++[y])->w.grownBy w' v.ownBlock->wpList prog ops Q rest (a.put o.dst (.slice (some ⟨g,0,none⟩) (l.length+1) cap)) w'):wpList prog ops Q (o::rest) a w:=by obtain⟨iS,Ak,hz0,hz1,hz2⟩:=info_parts hinfo;obtain⟨cs,hr,k1,k2,k3⟩:=hown;refine wpList_append_lies w hgd s x t ho n e iS z k bytes ht Ak hz0 hz1 hz2 hzs hk v l.length cs.flatten hs hr ⟨B,0,none⟩ 1 1 c hx (by rw[hck,uq]) (λj u hu=>by rw[Addr.add_lit,eD];exact hc j u hu) h1 (by decide) (by unfold maxLen;omega) (bF (zA (show l.length+1<=8193 by omega) hby) (by decide)) hbase w.heap.size rfl ?_;intro g cap w' h1' h2 h3 _;exact h g cap w' (fI.push (At:=At) hm ⟨k1,k2,k3⟩ rfl hck hat h1' h2 h3) h2
variable {K : Act → World → Prop} {E : Prop}
theorem yN(hm:Eu At)(hgd:o.guard=none)(s x:Operand)(t e k bytes:Nat)(z:Value)(ho:o.op=.call { callee:=.builtin .append,args:=#[s,x],argTypes:=#[t,t] })(ht:prog.underlying t=some (.slice e))(hinfo:(prog.info? e).map (λi=>(i.zero,i.size,i.bytes))=some (some z,k,bytes))(hzs:z.cells.size=k)(hk:0<k)(hby:bytes<=1024)(n:Nat)(v:Value)(l:List α)(hs:a.eval s=v)(hown:fI At w n e k v l)(B:Nat)(c:List Value)(y:α)(hx:a.eval x=.slice (some ⟨B,0,none⟩) 1 1)(hc:∀(j:Nat) u,c[j]?=some u->w.cell? ⟨B,j,none⟩=some u)(hck:c.length=k)(h1:∀u∈c,u.oneCell'=true)(hat:At (only (λb=>decide (n<=b)&&decide (v.ownBlock≠some b)) w) c y)(hl:l.length<=8192)(hbase:n<=w.heap.size)(h:∀g cap w',fI At w' n e k (.slice (some ⟨g,0,none⟩) (l.length+1) cap) (l++[y])->w.grownBy w' v.ownBlock->K (a.put o.dst (.slice (some ⟨g,0,none⟩) (l.length+1) cap)) w'):if Region.wanted o (yielded ops a.tmps)=true then Oper.wp prog o a w K Q else E:=by obtain⟨iS,Ak,hz0,hz1,hz2⟩:=info_parts hinfo;obtain⟨cs,hr,k1,k2,k3⟩:=hown;refine step_append_lies w hgd s x t ho n e iS z k bytes ht Ak hz0 hz1 hz2 hzs hk v l.length cs.flatten hs hr ⟨B,0,none⟩ 1 1 c hx (by rw[hck,uq]) (λj u hu=>by rw[Addr.add_lit,eD];exact hc j u hu) h1 (by decide) (by unfold maxLen;omega) (bF (zA (show l.length+1<=8193 by omega) hby) (by decide)) hbase w.heap.size rfl ?_;intro g cap w' h1' h2 h3 _;exact h g cap w' (fI.push (At:=At) hm ⟨k1,k2,k3⟩ rfl hck hat h1' h2 h3) h2
end
def fr(w w':World):World:=only (λb=>decide (w.heap.size<=b)) w'
theorem Lr(h:n<=w0.heap.size)(hv:∀k,v.ownBlock=some k->k<w0.heap.size):Sub (fr w0 w1) (only (λb=>decide (n<=b)&&decide (v.ownBlock≠some b)) w1):=λa x hx=>by obtain⟨h1,h2⟩:=bM.1 hx;have hle:=jw h1;refine bM.2 ⟨kX.2 ⟨gq (bF h hle),gq (λe=>?_)⟩,h2⟩;have:=hv _ e;omega
theorem Ls(h:w.heap.size<=w0.heap.size)(hv:∀k,v.ownBlock=some k->k<w0.heap.size):Sub (fr w0 w1) (only (λb=>decide (w.heap.size<=b)&&decide (v.ownBlock≠some b)) w1):=λa x hx=>by obtain⟨h1,h2⟩:=bM.1 hx;have hle:=jw h1;refine bM.2 ⟨kX.2 ⟨gq (bF h hle),gq (λe=>?_)⟩,h2⟩;have:=hv _ e;omega
def WO(m:Nat)(w:World)(c:List Value)(x:Ex):Prop:=∃c0 c1 c2 c3,c=[c0,c1,c2,c3]/\gT w m c0 c1 c2 c3 x
theorem WO.sub(hs:Sub w w')(h:WO m w c y):WO m w' c y:=by obtain⟨c0,c1,c2,c3,e,h⟩:=h;exact⟨c0,c1,c2,c3,e,h.sub hs⟩
theorem jX(m:Nat):Eu (WO m):=λ_ _ _ _ hs h=>h.sub hs
theorem gT.one(h:gT w m c0 c1 c2 c3 x):∀u∈[c0,c1,c2,c3],u.oneCell'=true:=by obtain⟨a,cap,rfl,rfl,rfl,rfl⟩:=h.shape;intro u hu;simp at hu;rcases hu with rfl|rfl|rfl|rfl<;>rfl
theorem Lu:(prog.info? 107).map (λi=>(i.zero,i.size,i.bytes))=some (some (.agg #[O 0,O 0,A ⟨#[]⟩,J]),4,56):=by kernel_rfl
theorem Lv(w:World)(c0 c1 c2 c3:Value)(t:TypeId):∀(j:Nat) u,[c0,c1,c2,c3][j]?=some u->(w.alloc (.cells #[c0,c1,c2,c3] t)).cell? (X w.heap.size j)=some u:=by intro j u hu;have hj:=(dK.1 hu).1;have hj':j<4:=hj;rw[aj (aZ w (.cells #[c0,c1,c2,c3] t))];simpa using hu
theorem fI.exsN(h:fI (WO m) w' n 107 4 v l)(hl:l.length<=9223372036854775807):uZ (only (λb=>decide (n<=b)) w') m v l:=by
 rcases h.shape with⟨rfl,rfl⟩|⟨g,cap,rfl,_,hg,_⟩;·exact⟨none,0,0,0,rfl,λh=>aM h dx,by simp,λi y hy=>by simp at hy⟩
 ·refine⟨_,g,0,cap,rfl,λ_=>rfl,hl,λi y hy=>?_⟩;obtain⟨c,hc,hcell,_,c0,c1,c2,c3,rfl,hx⟩:=h.cell hy;have hs:∀j (hj:j<4),(only (λb=>decide (n<=b)) w').cell? (X g (0+i*4+j))=some ([c0,c1,c2,c3][j]):=λj hj=>by refine bM.2 ⟨gq hg,?_⟩;rw[eD,hcell j hj];exact bD (by simpa using hj)
  refine⟨c0,c1,c2,c3,hs 0 bO,hs 1 bO,hs 2 bO,hs 3 bO,hx.sub (λa u hu=>?_)⟩;obtain⟨b1,b2⟩:=bM.1 hu;exact bM.2 ⟨(kX.1 b1).1,b2⟩
theorem fI.exs(h:fI (WO m) w' w.heap.size 107 4 v l)(hl:l.length<=9223372036854775807):uZ (fr w w') m v l:=h.exsN hl
theorem uZ.sub(hb:Sub w w')(h:uZ w m v l):uZ w' m v l:=by obtain⟨a,b,off,cap,e,h0,hl,h1⟩:=h;refine⟨a,b,off,cap,e,h0,hl,λi y hy=>?_⟩;obtain⟨e0,e1,e2,e3,g0,g1,g2,g3,hx⟩:=h1 i y hy;exact⟨e0,e1,e2,e3,hb _ _ g0,hb _ _ g1,hb _ _ g2,hb _ _ g3,hx.sub hb⟩
def meas(n p:Nat)(w:World):Nat:=match w.cell? ⟨p,4,none⟩with
 | some (.bool true)=>0
 | _=>match w.cell? ⟨p,2,none⟩with
  | some (.int _ z)=>1+(n - z.toNat)
  | _=>0
theorem UK{st:Sr}(h:dh w p ws ps d st):meas ws.length p w=if st.f then 0 else 1+st.r.length:=by
 obtain⟨_,_,_,_,_,q2,_,q4,_⟩:=h.cells;have hl:=h.suffix.length_le;unfold meas;rw[q4,q2];cases st.f;·simp only[pO,if_false];omega
 ·rfl
theorem xR{st st':Sr}(h:dh w p ws ps d st)(h':dh w' p ws ps d' st')(hf:st.f=false)(hl:Rd.Lt st' st):meas ws.length p w'<meas ws.length p w:=by
 rw[UK h,UK h',hf];simp only[pO,if_false];split;·omega
 ·rename_i hf';rcases hl.2 with e|e;·exact aM e hf'
  ·omega
def zH(d:Nat)(st:Sr):Prop:=d<=30/\(st.f=true\/d<=20)
theorem zH.le{a b:Sr}(h:zH d b)(hl:Le a b):zH d a:=⟨h.1,h.2.elim (λe=>aR (hl.1 e)) aV⟩
theorem zH.op{st:Sr}(h:zH d st)(h2:d<=29):zH (d+1) (Rd.op d st):=by
 refine⟨by omega,?_⟩;rcases h.2 with e|e;·exact aR ((jd d st).1.1 e)
 ·by_cases h20:d=20;·left;refine(FV _ _).1.1 ?_;unfold Rd.mx;rw[aL h20];rfl
  ·exact aV aX
def UL(k:Nat):Prop:=∀(w:World) (p:Nat) (ws:List aY) (ps:List Int) (d:Nat) (st:Sr),dh w p ws ps d st->Rd.Ok k st->zH d st->
 Calls prog 201 #[.pointer (some ⟨p,0,none⟩)] w λe w'=>∃c0 c1 c2 c3,e=.returned (.agg #[c0,c1,c2,c3])/\gT (fr w w') (k+1) c0 c1 c2 c3 (pE k d st).1/\dh w' p ws ps d (pE k d st).2/\But p w w'
theorem jM(P:Nat->Bool)(w:World)(o:Obj):Sub (only P w) (only P (w.alloc o)):=λa v hv=>by obtain⟨h1,h2⟩:=bM.1 hv;exact bM.2 ⟨h1,aD h2 (aH _ _)⟩
theorem dh.block{st:Sr}(h:dh w p ws ps d st):∃c,w.heap[p]?=some (.cells c 119 (0,0)):=by obtain⟨aw,cw,vs,h1,_⟩:=h;exact⟨_,h1⟩
theorem args_of(k:Nat)(ih:UL k)(w:World)(p:Nat)(ws:List ByteArray)(ps:List Int)(d:Nat)(st:Sr)(h:dh w p ws ps d st)(hk:Rd.Ok k st)(hd:zH d st)(n:Nat)(hn:Rd.Ok n st):Calls prog 272 #[.pointer (some ⟨p,0,none⟩)] w λe w'=>∃v,e=.returned v/\uZ (fr w w') (k+1) v (Rd.loop Rd.argc (pE k d) n st).1/\dh w' p ws ps d (Rd.loop Rd.argc (pE k d) n st).2/\But p w w':=by
 have IH:=I ih;have AQ:=I h.lt;have hlen:st.r.length<=4096:=Nat.le_trans h.suffix.length_le h.len;clear ih;go_enter func272,ntmps272;go_wp2;go_loopw[3] (λv wr=>∃(acc:List Ex) (st':Sr) (n':Nat),Rd.loop Rd.argc (pE k d) n st=(acc++(Rd.loop Rd.argc (pE k d) n' st').1,(Rd.loop Rd.argc (pE k d) n' st').2)/\Rd.Ok n' st'/\Rd.Ok k st'/\zH d st'/\(acc.length<=4097/\(st'.f=true\/acc.length+st'.r.length<=4096))/\fI (WO (k+1)) wr w.heap.size 107 4 v acc/\dh wr p ws ps d st'/\But p w wr) (λ_ wr=>meas ws.length p wr);case atStart=>exact⟨[],st,n,rfl,hn,hk,hd,⟨by simp,Or.inr (by simpa using hlen)⟩,fI.nil _ _ _ _,h,But.refl _ _⟩
 case round=>
  obtain⟨acc,st',n',hL,hnk,hk',hd',⟨hacc,hacc'⟩,hown,hR,hnx⟩:=hrel;have HL:=I hL;have HOW:=I hown;have HRr:=I hR;have fO:=I hnx;obtain⟨rc,hrc⟩:=hR.block;have kF:=I (And.intro hrc AQ.out);clear hL hown hnx hrc h hk hd hn hlen;go_wp2_with fail;refine(gK _ p ws ps d st' hR).mono ?_;rintro e w1 ⟨rfl,h1,hb1⟩;have HR1:=I h1;have HB1:=I hb1;clear hR h1 hb1;by_cases h0:(Rd.pk st').toList=[40]
  ·have HC:Hid (Rd.argc st'=true):=I (by unfold Rd.argc;rw[oD h0];rfl);have hf':st'.f=false:=Ur HC.out;obtain⟨n',rfl⟩:=hnk.pos hf';rw[hf']at hacc';have rH:acc.length+st'.r.length<=4096:=by simpa using hacc'
   clear hacc';go_wp2_with fail;refine(IH.out _ p ws ps d st' HR1.out hk' hd').mono ?_;rintro e w5 ⟨c0,c1,c2,c3,rfl,hx,I7,hb5⟩;have hown5:=HOW.out.but (jX _) kF.out.1 (by decide) (by have:=kF.out.2;omega) (HB1.out.trans hb5);have Gq:∀j,u3.ownBlock=some j->j<w1.heap.size:=λj hj=>Nat.lt_of_lt_of_le (HOW.out.lt j hj).2 HB1.out.size;have HAT:=I (WO.sub (Ls (w:=w) (w0:=w1) (w1:=w5) (v:=u3) (by have:=fO.out.size;have:=HB1.out.size;omega) Gq) ⟨c0,c1,c2,c3,rfl,hx⟩);have Lx:=I hx.one;obtain⟨ax,cx,rfl,rfl,rfl,rfl⟩:=hx.shape;have qb:=I hown5;have sV:=I I7;have d9:=I ((fO.out.trans HB1.out).trans hb5);have hsz5:=d9.out.size;have lX:=I (kL k d st');clear hown5 Gq hx I7 hb5
   go_wp2_with (first
    | (at_builtin;refine jQ (jX _) rfl _ _ 105 107 4 56 _ rfl underlying105 Lu (by decide) (by decide) (by decide) w.heap.size _ _ rfl (qb.out.below (jX _) (aH _ _)) _ _ (pE k d st').1 rfl (Lv _ _ _ _ _ _) rfl Lx.out (WO.sub (jM _ _ _) HAT.out) (by omega) (by simp;omega) ?_;intro g cap w6 hown6 dZ;have nJ:=I hown6;have lg:=I (((sV.out.below (aH _ _))).grown dZ (λj hj=>by have:=(qb.out.lt j hj).1;have:=AQ.out;omega));have dX:=I ((d9.out.alloc _).grown dZ (λj hj=>(qb.out.lt j hj).1));clear hown6 dZ)
    | fail)
   go_roundw;case rel=>exact⟨acc++[(pE k d st').1],(pE k d st').2,n',by rw[HL.out,qm HC.out];simp,hnk.lt lX.out,hk'.le lX.out.1,hd'.le lX.out.1,by
    rw[List.length_append,List.length_singleton];rcases lX.out.2 with e|e;·exact⟨by omega,Or.inl e⟩
    ·exact⟨by omega,Or.inr (by omega)⟩,nJ.out,lg.out,dX.out⟩
   case measure=>exact xR HRr.out lg.out hf' lX.out
  ·have b0:=nG h0;go_wp2_with fail;refine(gK _ p ws ps d st' HR1.out).mono ?_;rintro e w2 ⟨rfl,h2,hb2⟩;have HR2:=I h2;have HB2:=I (HB1.out.trans hb2);clear h2 hb2;go_wp2_with fail;refine(wh _ _).mono ?_;rintro e w3 ⟨rfl,hw3⟩;subst hw3;obtain⟨b,hb⟩:∃b,b=Rd.plain (Rd.pk st'):=⟨_,rfl⟩;have HBP:=I hb;rw[<-hb];clear hb;cases b;·have HC:Hid (Rd.argc st'=false):=I (by unfold Rd.argc;rw[oG h0,<-HBP.out];rfl);have HE:=I (HOW.out.but (jX _) kF.out.1 (by decide) (by have:=kF.out.2;omega) HB2.out);have Ov:=I (fI.exs (w:=w) HE.out (by omega));have Q0:Hid (Rd.loop Rd.argc (pE k d) n st=(acc,st')):=I (by rw[HL.out,qo HC.out];simp);go_wp2;go_ret;exact⟨_,rfl,by rw[Q0.out];exact Ov.out,by rw[Q0.out];exact HR2.out,fO.out.trans HB2.out⟩
   ·have HC:Hid (Rd.argc st'=true):=I (by unfold Rd.argc;rw[<-HBP.out,Bool.or_true]);have hf':st'.f=false:=Ur HC.out;obtain⟨n',rfl⟩:=hnk.pos hf';rw[hf']at hacc';have rH:acc.length+st'.r.length<=4096:=by simpa using hacc'
    clear hacc';go_wp2_with fail;refine(IH.out _ p ws ps d st' HR2.out hk' hd').mono ?_;rintro e w5 ⟨c0,c1,c2,c3,rfl,hx,I7,hb5⟩;have hown5:=HOW.out.but (jX _) kF.out.1 (by decide) (by have:=kF.out.2;omega) (HB2.out.trans hb5);have Gq:∀j,u3.ownBlock=some j->j<w3.heap.size:=λj hj=>Nat.lt_of_lt_of_le (HOW.out.lt j hj).2 HB2.out.size;have HAT:=I (WO.sub (Ls (w:=w) (w0:=w3) (w1:=w5) (v:=u3) (by have:=fO.out.size;have:=HB2.out.size;omega) Gq) ⟨c0,c1,c2,c3,rfl,hx⟩);have Lx:=I hx.one;obtain⟨ax,cx,rfl,rfl,rfl,rfl⟩:=hx.shape;have qb:=I hown5;have sV:=I I7;have d9:=I ((fO.out.trans HB2.out).trans hb5);have hsz5:=d9.out.size;have lX:=I (kL k d st');clear hown5 Gq hx I7 hb5
    go_wp2_with (first
     | (at_builtin;refine jQ (jX _) rfl _ _ 105 107 4 56 _ rfl underlying105 Lu (by decide) (by decide) (by decide) w.heap.size _ _ rfl (qb.out.below (jX _) (aH _ _)) _ _ (pE k d st').1 rfl (Lv _ _ _ _ _ _) rfl Lx.out (WO.sub (jM _ _ _) HAT.out) (by omega) (by simp;omega) ?_;intro g cap w6 hown6 dZ;have nJ:=I hown6;have lg:=I (((sV.out.below (aH _ _))).grown dZ (λj hj=>by have:=(qb.out.lt j hj).1;have:=AQ.out;omega));have dX:=I ((d9.out.alloc _).grown dZ (λj hj=>(qb.out.lt j hj).1));clear hown6 dZ)
     | fail)
    go_roundw;case rel=>exact⟨acc++[(pE k d st').1],(pE k d st').2,n',by rw[HL.out,qm HC.out];simp,hnk.lt lX.out,hk'.le lX.out.1,hd'.le lX.out.1,by
     rw[List.length_append,List.length_singleton];rcases lX.out.2 with e|e;·exact⟨by omega,Or.inl e⟩
     ·exact⟨by omega,Or.inr (by omega)⟩,nJ.out,lg.out,dX.out⟩
    case measure=>exact xR HRr.out lg.out hf' lX.out
theorem two_new(w:World)(o1 o2:Obj):((w.alloc o1).alloc o2).heap[w.heap.size]?=some o1/\((w.alloc o1).alloc o2).heap[w.heap.size+1]?=some o2/\((w.alloc o1).alloc o2).heap.size=w.heap.size+2:=by
 have e:(w.alloc o1).heap.size=w.heap.size+1:=by simp
 refine⟨dw (aZ w o1) o2,?_,by simp⟩;have:=aZ (w.alloc o1) o2;rw[e]at this;exact this
structure Loc(w:World)(p:Nat)(W:World)(T:TypeId)(r c:Array Value):Prop where
 res:W.heap[w.heap.size]?=some (.cells r T (0,0))
 loc:W.heap[w.heap.size+1]?=some (.cells c T (0,0))
 but:But p w W
 size:w.heap.size+2<=W.heap.size
 wF:p<w.heap.size
section
variable {w : World} {p : Nat} {W W' : World} {T : TypeId} {r c : Array Value}
theorem Loc.start(w:World)(p:Nat)(T:TypeId)(r c:Array Value)(hp:p<w.heap.size):Loc w p ((w.alloc (.cells r T (0,0))).alloc (.cells c T (0,0))) T r c:=by obtain⟨h1,h2,h3⟩:=two_new w (.cells r T (0,0)) (.cells c T (0,0));exact⟨h1,h2,But.of_below (up (aH _ _) (aH _ _)),by rw[h3];exact bE _,hp⟩
theorem Loc.step(h:Loc w p W T r c)(hb:But p W W'):Loc w p W' T r c:=
 ⟨hb.at (by have:=h.wF;omega) h.res,hb.at (by have:=h.wF;omega) h.loc,h.but.trans hb,bF h.size hb.size,h.wF⟩
theorem Loc.set(h:Loc w p W T r c)(i:Nat)(v:Value):Loc w p (W.setCell (X (w.heap.size+1) i) v) T r (c.setIfInBounds i v):=
 ⟨bI h.res dx _,aO h.loc i v,h.but.set (aV dx) v,by simp only[World.setCell,Cr];exact h.size,h.wF⟩
theorem Loc.oH(h:Loc w p W T r c)(i:Nat)(v:Value):Loc w p (W.setCell (X w.heap.size i) v) T (r.setIfInBounds i v) c:=
 ⟨aO h.res i v,bI h.loc dx _,h.but.set (aV dx) v,by simp only[World.setCell,Cr];exact h.size,h.wF⟩
theorem Loc.grown{row:Option Nat}(h:Loc w p W T r c)(hg:W.grownBy W' row)(hr:∀k,row=some k->w.heap.size+2<=k):Loc w p W' T r c:=
 ⟨by rw[hg.block _ (by have:=h.size;omega) (λe=>by have:=hr _ e.symm;omega)];exact h.res,by rw[hg.block _ (by have:=h.size;omega) (λe=>by have:=hr _ e.symm;omega)];exact h.loc,
  h.but.grown hg (λk hk=>by have:=hr k hk;omega),bF h.size hg.size,h.wF⟩
theorem Loc.alloc(h:Loc w p W T r c)(o:Obj):Loc w p (W.alloc o) T r c:=h.step (But.of_below (aH _ _))
theorem Loc.cell(h:Loc w p W T r c){i:Nat}{v:Value}(hv:c[i]?=some v):W.cell? (X (w.heap.size+1) i)=some v/\W.frozen? (X (w.heap.size+1) i)=false:=⟨(aj h.loc i).trans hv,aG h.loc i⟩
theorem Loc.cB(h:Loc w p W T r c){i:Nat}{v:Value}(hv:r[i]?=some v):W.cell? (X w.heap.size i)=some v/\W.frozen? (X w.heap.size i)=false:=⟨(aj h.res i).trans hv,aG h.res i⟩
theorem Loc.rd{ws:List aY}{ps:List Int}{d:Nat}{st:Sr}(h:Loc w p W T r c)(hR:dh W p ws ps d st)(i:Nat)(v:Value):dh (W.setCell (X (w.heap.size+1) i) v) p ws ps d st:=hR.set (by have:=h.wF;simp;omega) v
theorem Loc.Jm{ws:List aY}{ps:List Int}{d:Nat}{st:Sr}(h:Loc w p W T r c)(hR:dh W p ws ps d st)(i:Nat)(v:Value):dh (W.setCell (X w.heap.size i) v) p ws ps d st:=hR.set (by have:=h.wF;simp;omega) v
end
def pG(W:World)(b:Nat)(c0 c1 c2 c3:Value):World:=(((W.setCell ⟨b,0,none⟩ c0).setCell ⟨b,1,none⟩ c1).setCell ⟨b,2,none⟩ c2).setCell ⟨b,3,none⟩ c3
theorem Loc.Ow{c:Array Value}{st:Sr}(h:Loc w p W T #[r0,r1,r2,r3] c)(hR:dh W p ws ps d st)(c0 c1 c2 c3:Value):(∃Wf,Wf=pG W w.heap.size c0 c1 c2 c3/\Wf.cell? (X w.heap.size 0)=some c0/\Wf.cell? (X w.heap.size 1)=some c1/\Wf.cell? (X w.heap.size 2)=some c2/\Wf.cell? (X w.heap.size 3)=some c3)/\But p w (pG W w.heap.size c0 c1 c2 c3)/\dh (pG W w.heap.size c0 c1 c2 c3) p ws ps d st/\Sub (only (λb=>decide (w.heap.size+2<=b)) W) (fr w (pG W w.heap.size c0 c1 c2 c3)):=by have h0:=h.oH 0 c0;have h1:=h0.oH 1 c1;have h2:=h1.oH 2 c2;have h3:=h2.oH 3 c3;refine⟨⟨_,rfl,(h3.cB (i:=0) rfl).1,(h3.cB (i:=1) rfl).1,(h3.cB (i:=2) rfl).1,(h3.cB (i:=3) rfl).1⟩,h3.but,h2.Jm (h1.Jm (h0.Jm (h.Jm hR 0 c0) 1 c1) 2 c2) 3 c3,λa v hv=>?_⟩;obtain⟨k1,k2⟩:=bM.1 hv;have hle:=jw k1;refine bM.2 ⟨gq aX,?_⟩;unfold pG;rw[jJ (um _ _ _ _ (by simp only;omega)),jJ (um _ _ _ _ (by simp only;omega)),jJ (um _ _ _ _ (by simp only;omega)),jJ (um _ _ _ _ (by simp only;omega))];exact k2
theorem gT.mk{kd n:Int}{s:aY}(h:uZ W m v l)(hs:s.size<=4096)(h1:K5 kd)(h2:K5 n):gT W (m+1) (O kd) (O n) (A s) v ⟨kd,n,s,l⟩:=by obtain⟨a,b,off,cap,rfl,h0,hl,hel⟩:=h;exact⟨rfl,rfl,rfl,by unfold maxLen;simp only;omega,h1,h2,a,b,off,cap,rfl,h0,hl,hel⟩
theorem LA(W:World)(m:Nat):uZ W m (J) []:=⟨none,0,0,0,rfl,λh=>aM h dx,by simp,λi y hy=>by simp at hy⟩
theorem jR{a:Addr}(ha:a.block<n)(x:Value):Sub (only (λb=>decide (n<=b)) W) (only (λb=>decide (n<=b)) (W.setCell a x)):=λb v hv=>by obtain⟨h1,h2⟩:=bM.1 hv;refine bM.2 ⟨h1,?_⟩;have hle:=jw h1;rw[jJ (w:=W) (um _ _ _ _ aX)];exact h2
theorem nY{st:Sr}(h:dh w p ws ps d st):(Rd.gF st).1.size<=4096:=by
 show(Rd.pk (Rd.nm st)).size<=4096;unfold Rd.nm;split;·exact Fq h 0
 ·exact bL _
theorem dh.qJ{st:Sr}(h:dh w p ws ps d st):dh w.drew p ws ps d st:=h.keep (λ_ _=>rfl)
theorem But.qJ(h:But p w w'):But p w w'.drew:=⟨h.os,h.tape,h.output,h.size,h.block⟩
theorem Loc.qJ{c:Array Value}(h:Loc w p W T r c):Loc w p W.drew T r c:=h.step (But.refl _ _).qJ
theorem Ox(k:Nat)(ih:UL k)(w:World)(p:Nat)(ws:List aY)(ps:List Int)(d:Nat)(st:Sr)(h:dh w p ws ps d st)(hk:Rd.Ok (k+1) st)(hd:zH d st)(yt:d<=20):Calls prog 242 #[iO p] w λe w'=>∃c0 c1 c2 c3,e=dz (.agg #[c0,c1,c2,c3])/\gT (fr w w') (k+2) c0 c1 c2 c3 (Rd.cE (pE k (d+1)) k d st).1/\dh w' p ws ps d (Rd.cE (pE k (d+1)) k d st).2/\But p w w':=by
 obtain⟨J6,kF⟩:=bU (Loc.start w p 107 #[O 0,O 0,A ⟨#[]⟩,J] #[O 0,O 0,A ⟨#[]⟩,J] h.lt) (h.below (up (aH w (aW #[O 0,O 0,A ⟨#[]⟩,J] 107)) (aH _ (aW #[O 0,O 0,A ⟨#[]⟩,J] 107))))
 have uf:Hid (Rd.cE (pE k (d+1)) k d st=if opc (Rd.pk (Rd.op d st))then opE (pE k (d+1)) (Rd.op d st)
  else if Rd.is (Rd.pk (Rd.op d st)) [99,97,108,108]then caE (pE k (d+1)) k (Rd.tk (Rd.op d st))
  else (⟨0,0,⟨#[]⟩,[]⟩,Rd.sh (Rd.fl (Rd.op d st)))):=rfl
 have IH:=I ih;have hd1:=hd.1;go_enter func242,ntmps242;go_wp2_with fail;generalize ((w.alloc (aW #[O 0,O 0,A ⟨#[]⟩,J] 107)).alloc (aW #[O 0,O 0,A ⟨#[]⟩,J] 107))=W0 at *;refine(kZ W0 p ws ps d st kF aX).mono ?_;rintro e w1 ⟨rfl,h1,hb1⟩;have CF:=I (J6.step hb1);clear hb1 h ih;go_wp2_with fail;refine(gK w1 p ws ps _ _ h1).mono ?_;rintro e w2 ⟨rfl,h2,hb2⟩;obtain⟨HL2,HR2⟩:=bU (CF.step hb2) h2;have HX:Hid (∀b,b=Rd.pk (Rd.op d st)->b.size<=4096):=I (λb hb=>by rw[hb];exact Fq h1 0);clear hb2 h1 h2;have qI:=I (jd d st);have jh:=I (hk.lt qI);have HD1:Hid (zH (d+1) (Rd.op d st)):=I (hd.op aX);obtain⟨s1,hs1⟩:=bC (Rd.op d st);rw[<-hs1]at uf HR2 HX qI jh HD1 ⊢;have DT:=I hs1;clear hs1 hk hd;obtain⟨x,hx⟩:=bC (Rd.pk s1);have HXE:=I hx;rw[<-hx]at uf HX ⊢;clear hx;go_wp2_with fail;refine(Wz _ x).mono ?_;rintro e w3 ⟨rfl,hw3⟩;subst hw3;obtain⟨b,hb⟩:=bC (opc x);rw[<-hb]at uf ⊢;clear hb;cases b
 ·rw[aJ dx]at uf;by_cases hc:x.toList=[99,97,108,108]
  ·rw[oD hc,aL rfl]at uf;go_wp2_with fail;refine(iq _ p ws ps _ _ HR2).mono ?_;rintro e w4 ⟨rfl,h4,hb4⟩;have yO:=I (HL2.step hb4);obtain⟨u0,z0⟩:=yO.cell (i:=0) rfl;have yu:Hid (Loc w p (w4.setCell (X (w.heap.size+1) 0) (O 4)) 107 #[O 0,O 0,A ⟨#[]⟩,J] #[O 4,O 0,A ⟨#[]⟩,J]):=I (yO.set 0 (O 4));have sV:=I (yO.rd h4 0 (O 4));clear hb4 h4;go_wp2_with fail;clear u0 z0;generalize w4.setCell (X (w.heap.size+1) 0) (O 4)=W5 at *;refine(jW _ p ws ps _ _ sV).mono ?_;rintro e w6 ⟨rfl,h6,hb6⟩;have LC:Hid ((Rd.gF (Rd.tk s1)).1.size<=4096):=I (nY sV);have wu:=I (yu.step hb6);obtain⟨u2,z2⟩:=wu.cell (i:=2) rfl;have Ez:Hid (Loc w p (w6.setCell (X (w.heap.size+1) 2) (A (Rd.gF (Rd.tk s1)).1)) 107 #[O 0,O 0,A ⟨#[]⟩,J] #[O 4,O 0,A (Rd.gF (Rd.tk s1)).1,J]):=I (wu.set 2 (A (Rd.gF (Rd.tk s1)).1));have wG:=I (wu.rd h6 2 (A (Rd.gF (Rd.tk s1)).1));have HK7:Hid (Rd.Ok k (Rd.gF (Rd.tk s1)).2):=I (jh.le ((ig _).1.trans (gI _).1));have HD7:Hid (zH (d+1) (Rd.gF (Rd.tk s1)).2):=I (HD1.le ((ig _).1.trans (gI _).1));have HCE2:Hid (Rd.cE (pE k (d+1)) k d st=(⟨4,0,(Rd.gF (Rd.tk s1)).1,(Rd.loop Rd.argc (pE k (d+1)) k (Rd.gF (Rd.tk s1)).2).1⟩,Rd.sh (Rd.loop Rd.argc (pE k (d+1)) k (Rd.gF (Rd.tk s1)).2).2)):=uf;clear hb6 h6;have uf:=HCE2;generalize Rd.gF (Rd.tk s1)=nm at *;obtain⟨nn,s3⟩:=nm;simp only at LC Ez wG HK7 HD7 uf u2 ⊢;go_wp2_with fail;clear u2 z2;generalize w6.setCell (X (w.heap.size+1) 2) (A nn)=W7 at *;refine(args_of k IH W7 p ws ps (d+1) s3 wG HK7 HD7 k HK7).mono ?_;rintro e w8 ⟨v,rfl,qZ,Gr,nK⟩;have kS:=I (Ez.step nK);obtain⟨u3,z3⟩:=kS.cell (i:=3) rfl;have vO:Hid (uZ (only (λb=>decide (w.heap.size+2<=b)) w8) (k+1) v _):=I (qZ.sub (eG Ez.size));have yP:=I Gr;clear nK qZ Gr;obtain⟨av,cv,hv⟩:∃a c,v=Y a (Rd.loop Rd.argc (pE k (d+1)) k s3).1.length c:=by obtain⟨a,_,_,c,e,_⟩:=vO.out;exact⟨a,c,e⟩
   subst hv;generalize Rd.loop Rd.argc (pE k (d+1)) k s3=lp at *;obtain⟨ll,s4⟩:=lp;simp only at vO kS yP uf ⊢;have J7:Hid (Loc w p (w8.setCell (X (w.heap.size+1) 3) (Y av ll.length cv)) 107 #[O 0,O 0,A ⟨#[]⟩,J] #[O 4,O 0,A nn,Y av ll.length cv]):=I (kS.set 3 (Y av ll.length cv));have j6:=I (kS.rd yP 3 (Y av ll.length cv));have Jo:Hid (uZ (only (λb=>decide (w.heap.size+2<=b)) (w8.setCell (X (w.heap.size+1) 3) (Y av ll.length cv))) (k+1) (Y av ll.length cv) ll):=I (vO.sub (jR dx _));go_wp2_with fail;refine(iP _ p ws ps d _ j6 aX).mono ?_;rintro e w10 ⟨rfl,h10,ru⟩;obtain⟨lq,Z8⟩:=bU (J7.step ru) h10;have Ov:Hid (uZ (only (λb=>decide (w.heap.size+2<=b)) w10) (k+1) (Y av ll.length cv) ll):=I (Jo.sub (ru.sub (gG (by have:=lq.wF;omega))));clear h10 ru;obtain⟨u0,z0⟩:=lq.cell (i:=0) rfl;obtain⟨u1,z1⟩:=lq.cell (i:=1) rfl;obtain⟨u2,z2⟩:=lq.cell (i:=2) rfl;obtain⟨u3,z3⟩:=lq.cell (i:=3) rfl;obtain⟨r0,y0⟩:=lq.cB (i:=0) rfl;obtain⟨r1,y1⟩:=lq.cB (i:=1) rfl;obtain⟨r2,y2⟩:=lq.cB (i:=2) rfl;obtain⟨r3,y3⟩:=lq.cB (i:=3) rfl;go_wp2_with fail;obtain⟨⟨Wf,hWf,f0,f1,f2,f3⟩,kC,nL,kG⟩:=lq.Ow Z8 (O 4) (O 0) (A nn) (Y av ll.length cv);unfold pG at hWf kC nL kG;rw[<-hWf]at kC nL kG ⊢;clear hWf u0 u1 u2 u3 z0 z1 z2 z3 r0 r1 r2 r3 y0 y1 y2 y3;refine bV (v:=.agg #[O 4,O 0,A nn,(Y av ll.length cv)]) (by simp[results,results242,go_sem,f0,f1,f2,f3]) rfl ?_;refine⟨_,_,_,_,rfl,?_,?_,kC⟩;·rw[uf];exact gT.mk (Ov.sub kG) LC ⟨by decide,by decide⟩ ⟨by decide,by decide⟩
   ·rw[uf];exact nL
  ·rw[oG hc,aJ dx]at uf;have bc:=nG hc;go_wp2_with fail;refine(kY _ p ws ps _ _ HR2).mono ?_;rintro e w4 ⟨rfl,h4,hb4⟩;obtain⟨yO,HR4⟩:=bU (HL2.step hb4) h4;clear hb4 h4;go_wp2_with fail;refine(iP _ p ws ps d _ HR4 aX).mono ?_;rintro e w10 ⟨rfl,h10,ru⟩;obtain⟨lq,Z8⟩:=bU (yO.step ru) h10;have Ov:Hid (uZ (only (λb=>decide (w.heap.size+2<=b)) w10) (k+1) (J) []):=I ((LA (only (λb=>decide (w.heap.size+2<=b)) w4) (k+1)).sub (ru.sub (gG (by have:=lq.wF;omega))));clear h10 ru;obtain⟨u0,z0⟩:=lq.cell (i:=0) rfl;obtain⟨u1,z1⟩:=lq.cell (i:=1) rfl;obtain⟨u2,z2⟩:=lq.cell (i:=2) rfl;obtain⟨u3,z3⟩:=lq.cell (i:=3) rfl;obtain⟨r0,y0⟩:=lq.cB (i:=0) rfl;obtain⟨r1,y1⟩:=lq.cB (i:=1) rfl;obtain⟨r2,y2⟩:=lq.cB (i:=2) rfl;obtain⟨r3,y3⟩:=lq.cB (i:=3) rfl;go_wp2_with fail;obtain⟨⟨Wf,hWf,f0,f1,f2,f3⟩,kC,nL,kG⟩:=lq.Ow Z8 (O 0) (O 0) (A ⟨#[]⟩) (J);unfold pG at hWf kC nL kG;rw[<-hWf]at kC nL kG ⊢;clear hWf u0 u1 u2 u3 z0 z1 z2 z3 r0 r1 r2 r3 y0 y1 y2 y3;refine bV (v:=.agg #[O 0,O 0,A ⟨#[]⟩,(J)]) (by simp[results,results242,go_sem,f0,f1,f2,f3]) rfl ?_;refine⟨_,_,_,_,rfl,?_,?_,kC⟩;·rw[uf];exact gT.mk (Ov.sub kG) (bL _) ⟨by decide,by decide⟩ ⟨by decide,by decide⟩
   ·rw[uf];exact nL
 ·rw[aL rfl]at uf;obtain⟨u0,z0⟩:=HL2.cell (i:=0) rfl;obtain⟨wH,HR3⟩:=bU (HL2.set 0 (O 3)) (HL2.rd HR2 0 (O 3));go_wp2_with fail;clear u0 z0;refine(iq _ p ws ps _ _ HR3).mono ?_;rintro e w4 ⟨rfl,h4,hb4⟩;rw[<-HXE];obtain⟨yO,HR4⟩:=bU (wH.step hb4) h4;obtain⟨u2,z2⟩:=yO.cell (i:=2) rfl;have yu:Hid (Loc w p (w4.setCell (X (w.heap.size+1) 2) (A x)) 107 #[O 0,O 0,A ⟨#[]⟩,J] #[O 3,O 0,A x,J]):=I (yO.set 2 (A x));have sV:=I (yO.rd HR4 2 (A x));clear hb4 h4;go_upto_region 8 with fail;clear u2 z2;generalize w4.setCell (X (w.heap.size+1) 2) (A x)=W5 at *;obtain⟨u3,z3⟩:=yu.cell (i:=3) rfl;have Cb:Hid (Rd.Ok k (Rd.tk s1)):=I (jh.le (gI _).1);have HD5:Hid (zH (d+1) (Rd.tk s1)):=I (HD1.le (gI _).1);have HO5:Hid (fI (WO (k+1)) W5 (w.heap.size+2) 107 4 (J) []):=I (fI.nil _ _ _ _);obtain⟨rc5,Z9⟩:=sV.block;have HRB5:=I Z9;clear Z9;go_cut []from 18 to 24 (λwx=>∃v,Loc w p wx 107 #[O 0,O 0,A ⟨#[]⟩,J] #[O 3,O 0,A x,v]/\fI (WO (k+1)) wx (w.heap.size+2) 107 4 v [(pE k (d+1) (Rd.tk s1)).1]/\dh wx p ws ps (d+1) (pE k (d+1) (Rd.tk s1)).2);case first=>
   go_region_law (first
    | (go_simp;go_at_call 201;refine(IH _ p ws ps (d+1) _ (by repeat(first|exact sV|apply dh.qJ)) Cb HD5).mono ?_;rintro e w6 ⟨c0,c1,c2,c3,rfl,hx6,UM,hb6⟩;have wu:=I ((by repeat(first|exact yu|apply Loc.qJ):Loc w p _ 107 _ _).step hb6);obtain⟨u36,z36⟩:=wu.cell (i:=3) rfl;obtain⟨ax,cx,rfl,rfl,rfl,rfl⟩:=hx6.shape;have LD:=I hx6;have lg:=I UM;have dX:Hid (But p W5 w6):=I ((by repeat(first|exact But.refl _ _|apply But.qJ):But p W5 _).trans hb6);have Al:=I (HO5.but (jX _) HRB5 bO (by have:=wu.wF;omega) dX);have yj:w.heap.size+1<w6.heap.size:=(by have:=wu.size;omega);clear hx6 UM hb6;dsimp only)
    | (refine yN (jX _) cZ _ _ 105 107 4 56 _ cZ underlying105 Lu bO bO bO (w.heap.size+2) _ _ cZ (Al.below (jX _) (aH _ _)) _ _ (pE k (d+1) (Rd.tk s1)).1 cZ (Lv _ _ _ _ _ _) rfl LD.one (jX _ _ _ _ _ ((Lr (w0:=W5) yu.size (λk hk=>(HO5.lt k hk).2)).trans (jM _ _ _)) ⟨_,_,_,_,rfl,LD⟩) dx (by have:=wu.size;simp;omega) ?_;intro g cap w7 jg dL;have Ca:=I jg;have Ez:=I ((wu.alloc _).grown dL (λk hk=>(Al.lt k hk).1));have wG:=I ((lg.below (aH _ _)).grown dL (λk hk=>by have:=(Al.lt k hk).1;have:=wu.wF;omega));obtain⟨u37,z37⟩:=Ez.cell (i:=3) rfl;clear jg dL)
    | fail)
   all_goals go_wp2_with fail;go_meet;case rel=>exact⟨_,Ez.set 3 _,Ca.jK (jX _) dx _,Ez.rd wG 3 _⟩
  case rest=>
   obtain⟨v8,hL8,hO8,Gr⟩:=hcut;clear u3 z3;obtain⟨kS,HO8,yP⟩:=fD hL8 hO8 Gr;have Q5:Hid (Rd.Ok k (pE k (d+1) (Rd.tk s1)).2):=I (Cb.le (kL _ _ _).1);have HD8:Hid (zH (d+1) (pE k (d+1) (Rd.tk s1)).2):=I (HD5.le (kL _ _ _).1);obtain⟨u3,z3⟩:=kS.cell (i:=3) rfl;obtain⟨rc8,Gs⟩:=yP.block;have HRB8:=I Gs;clear Gs hL8 hO8 Gr;go_upto_region 9 with fail
   go_region_law (first
    | (go_simp;go_at_call 201;refine(IH _ p ws ps (d+1) _ (by repeat(first|exact yP|apply dh.qJ)) Q5 HD8).mono ?_;rintro e w6 ⟨c0,c1,c2,c3,rfl,hx6,UM,hb6⟩;have wu:=I ((by repeat(first|exact kS|apply Loc.qJ):Loc w p _ 107 _ _).step hb6);obtain⟨u36,z36⟩:=wu.cell (i:=3) rfl;obtain⟨ax,cx,rfl,rfl,rfl,rfl⟩:=hx6.shape;have LD:=I hx6;have lg:=I UM;have dX:Hid (But p wc w6):=I ((by repeat(first|exact But.refl _ _|apply But.qJ):But p wc _).trans hb6);have Al:=I (HO8.but (jX _) HRB8 bO (by have:=wu.wF;omega) dX);have yj:w.heap.size+1<w6.heap.size:=(by have:=wu.size;omega);clear hx6 UM hb6;dsimp only)
    | (refine yN (jX _) cZ _ _ 105 107 4 56 _ cZ underlying105 Lu bO bO bO (w.heap.size+2) _ _ cZ (Al.below (jX _) (aH _ _)) _ _ (pE k (d+1) (pE k (d+1) (Rd.tk s1)).2).1 cZ (Lv _ _ _ _ _ _) rfl LD.one (jX _ _ _ _ _ ((Lr (w0:=wc) kS.size (λk hk=>(HO8.lt k hk).2)).trans (jM _ _ _)) ⟨_,_,_,_,rfl,LD⟩) dx (by have:=wu.size;simp;omega) ?_;intro g cap w7 jg dL;have Ca:=I jg;have Ez:=I ((wu.alloc _).grown dL (λk hk=>(Al.lt k hk).1));have wG:=I ((lg.below (aH _ _)).grown dL (λk hk=>by have:=(Al.lt k hk).1;have:=wu.wF;omega));obtain⟨u37,z37⟩:=Ez.cell (i:=3) rfl;clear jg dL)
    | fail)
   all_goals
    obtain⟨J7,HO9,j6⟩:=fD (Ez.set 3 (Y (some (X g 0)) 2 cap)) (Ca.jK (jX _) (a:=(X (w.heap.size+1) 3)) dx (Y (some (X g 0)) 2 cap)) (Ez.rd wG 3 (Y (some (X g 0)) 2 cap));clear u37 z37 u36 z36 yj u3 z3;go_wp2_with fail;refine(iP _ p ws ps d _ j6 aX).mono ?_;rintro e w10 ⟨rfl,h10,ru⟩;have lq:=I (J7.step ru);obtain⟨rc9,hrc9⟩:=j6.block;obtain⟨HO10,Z8⟩:=bU (HO9.but (jX _) hrc9 bO (by have:=lq.wF;omega) ru) h10;have Ov:=I (HO10.exsN dx);clear h10 ru hrc9;obtain⟨u0,z0⟩:=lq.cell (i:=0) rfl;obtain⟨u1,z1⟩:=lq.cell (i:=1) rfl;obtain⟨u2,z2⟩:=lq.cell (i:=2) rfl;obtain⟨u3,z3⟩:=lq.cell (i:=3) rfl;obtain⟨r0,y0⟩:=lq.cB (i:=0) rfl;obtain⟨r1,y1⟩:=lq.cB (i:=1) rfl;obtain⟨r2,y2⟩:=lq.cB (i:=2) rfl;obtain⟨r3,y3⟩:=lq.cB (i:=3) rfl;go_wp2_with fail;obtain⟨⟨Wf,hWf,f0,f1,f2,f3⟩,kC,nL,kG⟩:=lq.Ow Z8 (O 3) (O 0) (A x) (Y (some (X g 0)) 2 cap);unfold pG at hWf kC nL kG;rw[<-hWf]at kC nL kG ⊢;clear hWf u0 u1 u2 u3 z0 z1 z2 z3 r0 r1 r2 r3 y0 y1 y2 y3;refine bV (v:=.agg #[O 3,O 0,A x,Y (some (X g 0)) 2 cap]) (by simp[results,results242,go_sem,f0,f1,f2,f3]) rfl ?_;refine⟨_,_,_,_,rfl,?_,?_,kC⟩;·rw[uf];have:=gT.mk (kd:=3) (n:=0) (Ov.sub kG) (HX x rfl) ⟨by decide,by decide⟩ ⟨by decide,by decide⟩;unfold opE;rw[<-HXE];exact this
    ·rw[uf];exact nL
structure Ry(w:World)(p:Nat)(W:World)(T:TypeId)(r:Array Value):Prop where
 res:W.heap[w.heap.size]?=some (.cells r T (0,0))
 but:But p w W
 size:w.heap.size+1<=W.heap.size
 wF:p<w.heap.size
theorem Ry.start(w:World)(p:Nat)(T:TypeId)(r:Array Value)(hp:p<w.heap.size):Ry w p (w.alloc (.cells r T (0,0))) T r:=
 ⟨aZ w _,But.of_below (aH _ _),by simp,hp⟩
theorem Ry.step(h:Ry w p W T r)(hb:But p W W'):Ry w p W' T r:=
 ⟨hb.at (by have:=h.wF;omega) h.res,h.but.trans hb,bF h.size hb.size,h.wF⟩
theorem Ry.cell(h:Ry w p W T r)(hv:r[i]?=some v):W.cell? (X w.heap.size i)=some v/\W.frozen? (X w.heap.size i)=false:=⟨(aj h.res i).trans hv,aG h.res i⟩
theorem Ry.oH(h:Ry w p W T r)(i:Nat)(v:Value):Ry w p (W.setCell (X w.heap.size i) v) T (r.setIfInBounds i v):=
 ⟨aO h.res i v,h.but.set (aV dx) v,by simp only[World.setCell,Cr];exact h.size,h.wF⟩
theorem Ry.rd{st:Sr}(h:Ry w p W T r)(hR:dh W p ws ps d st)(i:Nat)(v:Value):dh (W.setCell (X w.heap.size i) v) p ws ps d st:=hR.set (by have:=h.wF;simp;omega) v
theorem Ry.Ow{st:Sr}(h:Ry w p W T #[r0,r1,r2,r3])(hR:dh W p ws ps d st)(c0 c1 c2 c3:Value):(∃Wf,Wf=pG W w.heap.size c0 c1 c2 c3/\Wf.cell? (X w.heap.size 0)=some c0/\Wf.cell? (X w.heap.size 1)=some c1/\Wf.cell? (X w.heap.size 2)=some c2/\Wf.cell? (X w.heap.size 3)=some c3)/\But p w (pG W w.heap.size c0 c1 c2 c3)/\dh (pG W w.heap.size c0 c1 c2 c3) p ws ps d st/\Sub (only (λb=>decide (w.heap.size+1<=b)) W) (fr w (pG W w.heap.size c0 c1 c2 c3)):=by have h0:=h.oH 0 c0;have h1:=h0.oH 1 c1;have h2:=h1.oH 2 c2;have h3:=h2.oH 3 c3;refine⟨⟨_,rfl,(h3.cell (i:=0) rfl).1,(h3.cell (i:=1) rfl).1,(h3.cell (i:=2) rfl).1,(h3.cell (i:=3) rfl).1⟩,h3.but,h2.rd (h1.rd (h0.rd (h.rd hR 0 c0) 1 c1) 2 c2) 3 c3,λa v hv=>?_⟩;obtain⟨k1,k2⟩:=bM.1 hv;have hle:=jw k1;refine bM.2 ⟨gq aX,?_⟩;unfold pG;rw[jJ (um _ _ _ _ (by simp only;omega)),jJ (um _ _ _ _ (by simp only;omega)),jJ (um _ _ _ _ (by simp only;omega)),jJ (um _ _ _ _ (by simp only;omega))];exact k2
theorem UN(k:Nat)(hC:∀(w:World) (p:Nat) (ws:List aY) (ps:List Int) (d:Nat) (st:Sr),dh w p ws ps d st->Rd.Ok k st->zH d st->d<=20->Rd.is (Rd.pk st) [40]=true->Calls prog 242 #[iO p] w λe w'=>∃c0 c1 c2 c3,e=dz (.agg #[c0,c1,c2,c3])/\gT (fr w w') (k+1) c0 c1 c2 c3 (pE k d st).1/\dh w' p ws ps d (pE k d st).2/\But p w w')(hE:∀d st,Rd.is (Rd.pk st) [40]=false->Rd.Ok k st->pE k d st=if Wo (Rd.pk st)then nuE st else Rd.mW st):UL k:=by
 intro w p ws ps d st h hk hd;obtain⟨HC,HE,UG,kF⟩:=lY hC (hE d st) (Ry.start w p 107 #[O 0,O 0,A ⟨#[]⟩,J] h.lt) (h.below (aH w (aW #[O 0,O 0,A ⟨#[]⟩,J] 107)));clear hC hE;go_enter func201,ntmps201;go_wp2_with fail;generalize (w.alloc (aW #[O 0,O 0,A ⟨#[]⟩,J] 107))=W0 at *;refine(gK W0 p ws ps d st kF).mono ?_;rintro e w1 ⟨rfl,h1,hb1⟩;obtain⟨qI,HR1⟩:=bU (UG.step hb1) h1;have hxs:(Rd.pk st).size<=4096:=Fq h1 0;clear hb1 h h1;obtain⟨x,hx⟩:=bC (Rd.pk st);have HXE:=I hx;rw[<-hx]at HE hxs ⊢;clear hx;by_cases h0:x.toList=[40]
 ·have hp:Rd.is (Rd.pk st) [40]=true:=by rw[<-HXE];exact oD h0
  have hf:st.f=false:=Uq (n:=0) hp dx;have yt:d<=20:=by
   rcases hd.2 with e|e;·rw[hf]at e;cases e
   ·exact e
  go_wp2_with fail;refine(HC _ p ws ps d st HR1 hk hd yt hp).mono ?_;rintro e w2 ⟨c0,c1,c2,c3,rfl,hx2,hR2,hb2⟩;have HS2:=I (qI.step hb2);obtain⟨ax,cx,rfl,rfl,rfl,rfl⟩:=hx2.shape;obtain⟨HX2,HR2⟩:=bU (hx2.sub (eG qI.size)) hR2;clear hx2 hR2 hb2;obtain⟨r0,y0⟩:=HS2.cell (i:=0) rfl;obtain⟨r1,y1⟩:=HS2.cell (i:=1) rfl;obtain⟨r2,y2⟩:=HS2.cell (i:=2) rfl;obtain⟨r3,y3⟩:=HS2.cell (i:=3) rfl;go_wp2_with fail;obtain⟨⟨Wf,hWf,f0,f1,f2,f3⟩,kC,nL,kG⟩:=HS2.Ow HR2 (O (pE k d st).1.kind) (O (pE k d st).1.n) (A (pE k d st).1.name) (Y ax (pE k d st).1.args.length cx);unfold pG at hWf kC nL kG;rw[<-hWf]at kC nL kG ⊢;clear hWf r0 r1 r2 r3 y0 y1 y2 y3;refine bV (v:=.agg #[O (pE k d st).1.kind,O (pE k d st).1.n,A (pE k d st).1.name,Y ax (pE k d st).1.args.length cx]) (by simp[results,results201,go_sem,f0,f1,f2,f3]) rfl ?_;exact⟨_,_,_,_,rfl,HX2.sub kG,nL,kC⟩
 ·have b0:=nG h0;have Q6:=I (HE (oG h0) hk);go_wp2_with fail;refine(Lj _ x (by unfold maxLen;omega)).mono ?_;rintro e w2 ⟨rfl,hw2⟩;subst hw2;obtain⟨b,hb⟩:=bC (Wo x);rw[<-hb]at Q6 ⊢;clear hb;cases b
  ·rw[aJ dx]at Q6;go_wp2_with fail;refine(jW _ p ws ps d st HR1).mono ?_;rintro e w3 ⟨rfl,hR3,hb3⟩;obtain⟨LC,HS2,HR2⟩:=fD (nY HR1) (qI.step hb3) hR3;have WQ:Hid (pE k d st=(⟨2,0,(Rd.gF st).1,[]⟩,(Rd.gF st).2)):=Q6;clear hR3 hb3;obtain⟨r0,y0⟩:=HS2.cell (i:=0) rfl;obtain⟨r1,y1⟩:=HS2.cell (i:=1) rfl;obtain⟨r2,y2⟩:=HS2.cell (i:=2) rfl;obtain⟨r3,y3⟩:=HS2.cell (i:=3) rfl;generalize Rd.gF st=nm at *;obtain⟨nn,s3⟩:=nm;simp only at LC HR2 WQ ⊢;go_wp2_with fail;obtain⟨⟨Wf,hWf,f0,f1,f2,f3⟩,kC,nL,kG⟩:=HS2.Ow HR2 (O 2) (O 0) (A nn) (J);unfold pG at hWf kC nL kG;rw[<-hWf]at kC nL kG ⊢;clear hWf r0 r1 r2 r3 y0 y1 y2 y3;refine bV (v:=.agg #[O 2,O 0,A nn,J]) (by simp[results,results201,go_sem,f0,f1,f2,f3]) rfl ?_;refine⟨_,_,_,_,rfl,?_,?_,kC⟩;·rw[WQ];exact gT.mk (LA _ _) LC ⟨by decide,by decide⟩ ⟨by decide,by decide⟩
   ·rw[WQ];exact nL
  ·rw[aL rfl]at Q6;go_wp2_with fail;refine(Ot _ p ws ps d st HR1).mono ?_;rintro e w3 ⟨rfl,hR3,hb3⟩;have LC:Hid (K5 (zu (Rd.pk (Rd.nu st)))):=I (by
    refine Z7 _ ?_;unfold Rd.nu;split;·exact bL _
    ·rename_i hbad;unfold Wp at hbad;simp only[Gl,gP,not_or]at hbad;omega)
   obtain⟨HS2,HR2⟩:=bU (qI.step hb3) hR3;have WQ:Hid (pE k d st=(⟨1,zu (Rd.pk (Rd.nu st)),⟨#[]⟩,[]⟩,Rd.tk (Rd.nu st))):=Q6;clear hR3 hb3;obtain⟨r0,y0⟩:=HS2.cell (i:=0) rfl;obtain⟨r1,y1⟩:=HS2.cell (i:=1) rfl;obtain⟨r2,y2⟩:=HS2.cell (i:=2) rfl;obtain⟨r3,y3⟩:=HS2.cell (i:=3) rfl;generalize zu (Rd.pk (Rd.nu st))=nn at *;go_wp2_with fail;obtain⟨⟨Wf,hWf,f0,f1,f2,f3⟩,kC,nL,kG⟩:=HS2.Ow HR2 (O 1) (O nn) (A ⟨#[]⟩) (J);unfold pG at hWf kC nL kG;rw[<-hWf]at kC nL kG ⊢;clear hWf r0 r1 r2 r3 y0 y1 y2 y3;refine bV (v:=.agg #[O 1,O nn,A ⟨#[]⟩,J]) (by simp[results,results201,go_sem,f0,f1,f2,f3]) rfl ?_;refine⟨_,_,_,_,rfl,?_,?_,kC⟩;·rw[WQ];exact gT.mk (LA _ _) (bL _) ⟨by decide,by decide⟩ LC
   ·rw[WQ];exact nL
theorem nM:∀k,UL k
 | 0=>by
  refine UN 0 (λw p ws ps d st h hk hd yt hp=>?_) (λd st h hk=>?_)
  ·have hf:=Uq (n:=0) hp dx;rcases hk with e|e;·rw[hf]at e;cases e
   ·omega
  ·have hf:st.f=true:=by
    rcases hk with e|e;·exact e
    ·omega
   have e1:Rd.pk st=⟨#[]⟩:=Cm hf 0;rw[e1];rfl
 | k+1=>by
  refine UN (k+1) (λw p ws ps d st h hk hd yt hp=>?_) (λd st h hk=>?_)
  ·have e:pE (k+1) d st=Rd.cE (pE k (d+1)) k d st:=by simp only[pE];rw[aL hp]
   rw[e];exact Ox k (nM k) w p ws ps d st h hk hd yt
  ·simp only[pE];rw[aJ (by rw[h];simp)]
def UO(m:Nat)(w:World)(c:List Value)(s:St):Prop:=
 ∃e0 e1 e2 e3 va vb,c=[.int .i64 s.kind,.string s.name,e0,e1,e2,e3,va,vb]/\K5 s.kind/\s.name.size<=maxLen/\gT w m e0 e1 e2 e3 s.e/\fB w m va s.a/\fB w m vb s.b
theorem mK(m:Nat):Eu (UO m):=λ_ _ _ _ hs h=>by obtain⟨e0,e1,e2,e3,va,vb,e,h1,h2,h3,h4,h5⟩:=h;exact⟨e0,e1,e2,e3,va,vb,e,h1,h2,h3.sub hs,h4.sub hs,h5.sub hs⟩
theorem UO.shape(h:UO m w c s):∃ax cx aa ca ab cb,c=[O s.kind,A s.name,O s.e.kind,O s.e.n,A s.e.name,Y ax s.e.args.length cx,Y aa s.a.length ca,Y ab s.b.length cb]:=by obtain⟨e0,e1,e2,e3,va,vb,rfl,_,_,h3,h4,h5⟩:=h;obtain⟨ax,cx,rfl,rfl,rfl,rfl⟩:=h3.shape;obtain⟨aa,ca,rfl,_⟩:=h4.shape;obtain⟨ab,cb,rfl,_⟩:=h5.shape;exact⟨ax,cx,aa,ca,ab,cb,rfl⟩
theorem UO.one(h:UO m w c s):∀u∈c,u.oneCell'=true:=by obtain⟨ax,cx,aa,ca,ab,cb,rfl⟩:=h.shape;intro u hu;simp at hu;rcases hu with rfl|rfl|rfl|rfl|rfl|rfl|rfl|rfl<;>rfl
theorem infoSt:(prog.info? 164).map (λi=>(i.zero,i.size,i.bytes))=some (some (.agg #[O 0,A ⟨#[]⟩,O 0,O 0,A ⟨#[]⟩,J,J,J]),8,128):=by kernel_rfl
theorem cells8(w:World)(c0 c1 c2 c3 c4 c5 c6 c7:Value)(t:TypeId):∀(j:Nat) u,[c0,c1,c2,c3,c4,c5,c6,c7][j]?=some u->(w.alloc (.cells #[c0,c1,c2,c3,c4,c5,c6,c7] t)).cell? (X w.heap.size j)=some u:=by intro j u hu;rw[aj (aZ w (.cells #[c0,c1,c2,c3,c4,c5,c6,c7] t))];simpa using hu
theorem rJ(W:World)(m:Nat):fB W (m+1) (J) []:=⟨none,0,0,0,rfl,λh=>aM h dx,by simp,λi y hy=>by simp at hy⟩
theorem fI.sts{l:List St}(h:fI (UO m) w' n 164 8 v l)(hl:l.length<=9223372036854775807):fB (only (λb=>decide (n<=b)) w') (m+1) v l:=by
 rcases h.shape with⟨rfl,rfl⟩|⟨g,cap,rfl,_,hg,_⟩;·exact rJ _ _
 ·refine⟨_,g,0,cap,rfl,λ_=>rfl,hl,λi y hy=>?_⟩;obtain⟨c,hc,hcell,_,e0,e1,e2,e3,va,vb,rfl,k1,k2,hx,ha,hb⟩:=h.cell hy;have hs:∀j (hj:j<8),(only (λb=>decide (n<=b)) w').cell? (X g (0+i*8+j))=some ([O y.kind,A y.name,e0,e1,e2,e3,va,vb][j]):=λj hj=>by refine bM.2 ⟨gq hg,?_⟩;rw[eD,hcell j hj];exact bD (by simpa using hj)
  have hsub:Sub (only (λb=>decide (n<=b)&&decide (some g≠some b)) w') (only (λb=>decide (n<=b)) w'):=λa u hu=>by obtain⟨b1,b2⟩:=bM.1 hu;exact bM.2 ⟨(kX.1 b1).1,b2⟩
  exact⟨k1,k2,e0,e1,e2,e3,va,vb,hs 0 bO,hs 1 bO,hs 2 bO,hs 3 bO,hs 4 bO,hs 5 bO,hs 6 bO,hs 7 bO,hx.sub hsub,ha.sub hsub,hb.sub hsub⟩
def Oy(K k:Nat):Prop:=∀(w:World) (p:Nat) (ws:List aY) (ps:List Int) (d:Nat) (st:Sr),dh w p ws ps d st->Rd.Ok k st->Rd.Ok K st->zH d st->IY st=true->
 Calls prog 241 #[.pointer (some ⟨p,0,none⟩)] w λe w'=>∃c0 c1 c2 c3 c4 c5 c6 c7,e=.returned (.agg #[c0,c1,c2,c3,c4,c5,c6,c7])/\UO (K+1+k) (fr w w') [c0,c1,c2,c3,c4,c5,c6,c7] (Rd.pS K k d st).1/\dh w' p ws ps d (Rd.pS K k d st).2/\But p w w'
theorem Gt(K k:Nat)(ih:Oy K k)(w:World)(p:Nat)(ws:List ByteArray)(ps:List Int)(d:Nat)(st:Sr)(h:dh w p ws ps d st)(hk:Rd.Ok k st)(hK:Rd.Ok K st)(hd:zH d st)(hd2:d<=29)(n:Nat)(hn:Rd.Ok n st):Calls prog 270 #[.pointer (some ⟨p,0,none⟩)] w λe w'=>∃v,e=.returned v/\fB (fr w w') (K+1+k+1) v (Rd.blk (Rd.pS K k (d+1)) n d st).1/\dh w' p ws ps d (Rd.blk (Rd.pS K k (d+1)) n d st).2/\But p w w':=by
 have IH:=I ih;have AQ:=I h.lt;have Fv:Hid (Rd.blk (Rd.pS K k (d+1)) n d st=((Rd.loop IY (Rd.pS K k (d+1)) n (Rd.op d st)).1,Rd.sh (Rd.loop IY (Rd.pS K k (d+1)) n (Rd.op d st)).2)):=rfl;have hlen:(Rd.op d st).r.length<=4096:=Nat.le_trans (jd d st).1.2 (Nat.le_trans h.suffix.length_le h.len);have hk1:=hk.le (jd d st).1;have hK1:=hK.le (jd d st).1;have hn1:=hn.le (jd d st).1;have hd1:=hd.op hd2;clear ih hk hK hn hd;go_enter func270,ntmps270;go_wp2_with fail;refine(kZ w p ws ps d st h (by omega)).mono ?_;rintro e w0 ⟨rfl,h0,hb0⟩;clear h;generalize Rd.op d st=s1 at *;go_wp2;go_loopw[3] (λv wr=>∃(acc:List St) (st':Sr) (n':Nat),Rd.loop IY (Rd.pS K k (d+1)) n s1=(acc++(Rd.loop IY (Rd.pS K k (d+1)) n' st').1,(Rd.loop IY (Rd.pS K k (d+1)) n' st').2)/\Rd.Ok n' st'/\Rd.Ok k st'/\Rd.Ok K st'/\zH (d+1) st'/\(acc.length<=4097/\(st'.f=true\/acc.length+st'.r.length<=4096))/\fI (UO (K+1+k)) wr w.heap.size 164 8 v acc/\dh wr p ws ps (d+1) st'/\But p w wr) (λ_ wr=>meas ws.length p wr);case atStart=>exact⟨[],s1,n,rfl,hn1,hk1,hK1,hd1,⟨by simp,Or.inr (by simpa using hlen)⟩,fI.nil _ _ _ _,h0,hb0⟩
 case round=>
  clear h0 hb0 hk1 hK1 hn1 hd1 hlen;obtain⟨acc,st',n',hL,hnk,hk',hK',hd',⟨hacc,hacc'⟩,hown,hR,hnx⟩:=hrel;have HL:=I hL;have HOW:=I hown;have HRr:=I hR;have fO:=I hnx;obtain⟨rc,hrc⟩:=hR.block;have kF:=I (And.intro hrc AQ.out);clear hL hown hnx hrc;go_wp2_with fail;refine(gK _ p ws ps (d+1) st' hR).mono ?_;rintro e w1 ⟨rfl,h1,hb1⟩;have HR1:=I h1;have HB1:=I hb1;clear hR h1 hb1;by_cases h0:(Rd.pk st').toList=[40]
  ·have HC:Hid (IY st'=true):=I (oD h0);have AU:=HC;have hf':st'.f=false:=Cq HC.out;obtain⟨n',rfl⟩:=hnk.pos hf';rw[hf']at hacc';have rH:acc.length+st'.r.length<=4096:=by simpa using hacc'
   clear hacc';go_wp2_with fail;refine(IH.out _ p ws ps (d+1) st' HR1.out hk' hK' hd' AU.out).mono ?_;rintro e w5 ⟨c0,c1,c2,c3,c4,c5,c6,c7,rfl,hx,I7,hb5⟩;have hown5:=HOW.out.but (mK _) kF.out.1 (by decide) (by have:=kF.out.2;omega) (HB1.out.trans hb5);have Gq:∀j,u3.ownBlock=some j->j<w1.heap.size:=λj hj=>Nat.lt_of_lt_of_le (HOW.out.lt j hj).2 HB1.out.size;have HAT:=I (mK _ _ _ _ _ (Ls (w:=w) (w0:=w1) (w1:=w5) (v:=u3) (by have:=fO.out.size;have:=HB1.out.size;omega) Gq) hx);have Lx:=I hx.one;obtain⟨ax,cx,aa,ca,ab,cb,hsh⟩:=hx.shape;simp only[List.cons.injEq,and_true]at hsh;obtain⟨rfl,rfl,rfl,rfl,rfl,rfl,rfl,rfl⟩:=hsh;have qb:=I hown5;have sV:=I I7;have d9:=I ((fO.out.trans HB1.out).trans hb5);have hsz5:=d9.out.size;have lX:Hid (Rd.Lt (Rd.pS K k (d+1) st').2 st'):=I (by obtain⟨j,rfl⟩:=hk'.pos hf';exact pS_lt _ _ _ _);clear hown5 Gq hx I7 hb5
   go_wp2_with (first
    | (at_builtin;refine jQ (mK _) rfl _ _ 104 164 8 128 _ rfl underlying104 infoSt (by decide) (by decide) (by decide) w.heap.size _ _ rfl (qb.out.below (mK _) (aH _ _)) _ _ (Rd.pS K k (d+1) st').1 rfl (cells8 _ _ _ _ _ _ _ _ _ _) rfl Lx.out (mK _ _ _ _ _ (jM _ _ _) HAT.out) (by omega) (by simp;omega) ?_;intro g cap w6 hown6 dZ;have nJ:=I hown6;have lg:=I (((sV.out.below (aH _ _))).grown dZ (λj hj=>by have:=(qb.out.lt j hj).1;have:=AQ.out;omega));have dX:=I ((d9.out.alloc _).grown dZ (λj hj=>(qb.out.lt j hj).1));clear hown6 dZ)
    | fail)
   go_roundw;case rel=>exact⟨acc++[(Rd.pS K k (d+1) st').1],(Rd.pS K k (d+1) st').2,n',by rw[HL.out,qm HC.out];simp,hnk.lt lX.out,hk'.le lX.out.1,hK'.le lX.out.1,hd'.le lX.out.1,by
    rw[List.length_append,List.length_singleton];rcases lX.out.2 with e|e;·exact⟨by omega,Or.inl e⟩
    ·exact⟨by omega,Or.inr (by omega)⟩,nJ.out,lg.out,dX.out⟩
   case measure=>exact xR HRr.out lg.out hf' lX.out
  ·have b0:=nG h0;have HC:Hid (IY st'=false):=I (oG h0);have Q0:Hid (Rd.loop IY (Rd.pS K k (d+1)) n s1=(acc,st')):=I (by rw[HL.out,qo HC.out];simp);have WH:=I (HOW.out.but (mK _) kF.out.1 (by decide) (by have:=kF.out.2;omega) HB1.out);go_wp2_with fail;refine(iP _ p ws ps d _ HR1.out (by omega)).mono ?_;rintro e w2 ⟨rfl,h2,hb2⟩;obtain⟨rc1,Oz⟩:=HR1.out.block;have HE:=I (WH.out.but (mK _) Oz (by decide) (by have:=kF.out.2;omega) hb2);have Ov:=I (HE.out.sts (by omega));clear Oz;go_wp2;go_ret;exact⟨_,rfl,by rw[Fv.out,Q0.out];exact Ov.out,by rw[Fv.out,Q0.out];exact h2,(fO.out.trans HB1.out).trans hb2⟩
theorem pbody_of(K k:Nat)(ih:Oy K k)(w:World)(p:Nat)(ws:List ByteArray)(ps:List Int)(d:Nat)(st:Sr)(h:dh w p ws ps d st)(hk:Rd.Ok k st)(hK:Rd.Ok K st)(hd:zH d st)(n:Nat)(hn:Rd.Ok n st):Calls prog 200 #[.pointer (some ⟨p,0,none⟩)] w λe w'=>∃v,e=.returned v/\fB (fr w w') (K+1+k+1) v (Rd.loop jZ (Rd.pS K k d) n st).1/\dh w' p ws ps d (Rd.loop jZ (Rd.pS K k d) n st).2/\But p w w':=by
 have IH:=I ih;have AQ:=I h.lt;have hlen:st.r.length<=4096:=Nat.le_trans h.suffix.length_le h.len;clear ih;go_enter func200,ntmps200;go_wp2;go_loopw[3] (λv wr=>∃(acc:List St) (st':Sr) (n':Nat),Rd.loop jZ (Rd.pS K k d) n st=(acc++(Rd.loop jZ (Rd.pS K k d) n' st').1,(Rd.loop jZ (Rd.pS K k d) n' st').2)/\Rd.Ok n' st'/\Rd.Ok k st'/\Rd.Ok K st'/\zH d st'/\(acc.length<=4097/\(st'.f=true\/acc.length+st'.r.length<=4096))/\fI (UO (K+1+k)) wr w.heap.size 164 8 v acc/\dh wr p ws ps d st'/\But p w wr) (λ_ wr=>meas ws.length p wr);case atStart=>exact⟨[],st,n,rfl,hn,hk,hK,hd,⟨by simp,Or.inr (by simpa using hlen)⟩,fI.nil _ _ _ _,h,But.refl _ _⟩
 case round=>
  clear h hk hK hd hn hlen;obtain⟨acc,st',n',hL,hnk,hk',hK',hd',⟨hacc,hacc'⟩,hown,hR,hnx⟩:=hrel;have HL:=I hL;have HOW:=I hown;have HRr:=I hR;have fO:=I hnx;obtain⟨rc,hrc⟩:=hR.block;have kF:=I (And.intro hrc AQ.out);clear hL hown hnx hrc;go_wp2_with fail;refine(gK _ p ws ps d st' hR).mono ?_;rintro e w1 ⟨rfl,h1,hb1⟩;have HR1:=I h1;have HB1:=I hb1;clear hR h1 hb1;by_cases h0:(Rd.pk st').toList=[40]
  ·have AU:Hid (IY st'=true):=I (oD h0);go_wp2_with fail;refine(Rv _ p ws ps d st' HR1.out).mono ?_;rintro e w2 ⟨rfl,h2,hb2⟩;have HR2:=I h2;have HB2:=I (HB1.out.trans hb2);clear h2 hb2;go_wp2_with fail;refine(Jk _ _).mono ?_;rintro e w3 ⟨rfl,hw3⟩;subst hw3;have Y4:Hid (jZ st'=decide (Rd.cmd (N8 st' 1)≠0)):=I (by unfold jZ;rw[oD h0,Bool.true_and]);obtain⟨b,hb⟩:∃b,b=decide (Rd.cmd (N8 st' 1)≠0):=⟨_,rfl⟩;rw[<-hb]at Y4 ⊢;clear hb;cases b;·have HC:=Y4;have HE:=I (HOW.out.but (mK _) kF.out.1 (by decide) (by have:=kF.out.2;omega) HB2.out);have Ov:=I (HE.out.sts (by omega));have Q0:Hid (Rd.loop jZ (Rd.pS K k d) n st=(acc,st')):=I (by rw[HL.out,qo HC.out];simp);go_wp2;go_ret;exact⟨_,rfl,by rw[Q0.out];exact Ov.out,by rw[Q0.out];exact HR2.out,fO.out.trans HB2.out⟩
   ·have HC:=Y4;have hf':st'.f=false:=Cq AU.out;obtain⟨n',rfl⟩:=hnk.pos hf';rw[hf']at hacc';have rH:acc.length+st'.r.length<=4096:=by simpa using hacc'
    clear hacc';go_wp2_with fail;refine(IH.out _ p ws ps d st' HR2.out hk' hK' hd' AU.out).mono ?_;rintro e w5 ⟨c0,c1,c2,c3,c4,c5,c6,c7,rfl,hx,I7,hb5⟩;have hown5:=HOW.out.but (mK _) kF.out.1 (by decide) (by have:=kF.out.2;omega) (HB2.out.trans hb5);have Gq:∀j,u3.ownBlock=some j->j<w3.heap.size:=λj hj=>Nat.lt_of_lt_of_le (HOW.out.lt j hj).2 HB2.out.size;have HAT:=I (mK _ _ _ _ _ (Ls (w:=w) (w0:=w3) (w1:=w5) (v:=u3) (by have:=fO.out.size;have:=HB2.out.size;omega) Gq) hx);have Lx:=I hx.one;obtain⟨ax,cx,aa,ca,ab,cb,hsh⟩:=hx.shape;simp only[List.cons.injEq,and_true]at hsh;obtain⟨rfl,rfl,rfl,rfl,rfl,rfl,rfl,rfl⟩:=hsh;have qb:=I hown5;have sV:=I I7;have d9:=I ((fO.out.trans HB2.out).trans hb5);have hsz5:=d9.out.size;have lX:Hid (Rd.Lt (Rd.pS K k d st').2 st'):=I (by obtain⟨j,rfl⟩:=hk'.pos hf';exact pS_lt _ _ _ _);clear hown5 Gq hx I7 hb5
    go_wp2_with (first
     | (at_builtin;refine jQ (mK _) rfl _ _ 104 164 8 128 _ rfl underlying104 infoSt (by decide) (by decide) (by decide) w.heap.size _ _ rfl (qb.out.below (mK _) (aH _ _)) _ _ (Rd.pS K k d st').1 rfl (cells8 _ _ _ _ _ _ _ _ _ _) rfl Lx.out (mK _ _ _ _ _ (jM _ _ _) HAT.out) (by omega) (by simp;omega) ?_;intro g cap w6 hown6 dZ;have nJ:=I hown6;have lg:=I (((sV.out.below (aH _ _))).grown dZ (λj hj=>by have:=(qb.out.lt j hj).1;have:=AQ.out;omega));have dX:=I ((d9.out.alloc _).grown dZ (λj hj=>(qb.out.lt j hj).1));clear hown6 dZ)
     | fail)
    go_roundw;case rel=>exact⟨acc++[(Rd.pS K k d st').1],(Rd.pS K k d st').2,n',by rw[HL.out,qm HC.out];simp,hnk.lt lX.out,hk'.le lX.out.1,hK'.le lX.out.1,hd'.le lX.out.1,by
     rw[List.length_append,List.length_singleton];rcases lX.out.2 with e|e;·exact⟨by omega,Or.inl e⟩
     ·exact⟨by omega,Or.inr (by omega)⟩,nJ.out,lg.out,dX.out⟩
    case measure=>exact xR HRr.out lg.out hf' lX.out
  ·have b0:=nG h0;have HC:Hid (jZ st'=false):=I (by unfold jZ;rw[oG h0];rfl);have HE:=I (HOW.out.but (mK _) kF.out.1 (by decide) (by have:=kF.out.2;omega) HB1.out);have Ov:=I (HE.out.sts (by omega));have Q0:Hid (Rd.loop jZ (Rd.pS K k d) n st=(acc,st')):=I (by rw[HL.out,qo HC.out];simp);go_wp2;go_ret;exact⟨_,rfl,by rw[Q0.out];exact Ov.out,by rw[Q0.out];exact HR1.out,fO.out.trans HB1.out⟩
end Go.Proofs.YtbgkpehhdibaoaaGreatDoor
