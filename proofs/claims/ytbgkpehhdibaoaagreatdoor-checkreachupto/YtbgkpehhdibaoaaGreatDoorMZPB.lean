/- part -/
import Derived.Test.YtbgkpehhdibaoaaGreatDoorMZPA
import Derived.Lib.AtoiBound
import Derived.Lib.SmallJoins
import Derived.Deep.CutBlock
set_option maxHeartbeats 0
set_option maxRecDepth 99999
namespace Go.Proofs.YtbgkpehhdibaoaaGreatDoor
open Rd
open Go.Proofs.Tryz
open Go.RowKit
variable{w w1 w0 w' W W':World}{a:Addr}{n m p d d' i:Nat}{v c0 c1 c2 c3 r0 r1 r2 r3:Value}{c:List Value}{y x:Ex}{l:List Ex}{ws:List aZ}{ps:List Int}{T:TypeId}{s:St}{r:Array Value}
theorem numV_i64(s:aZ)(h:s.size<=18):LP (Aw s):=by
 unfold Aw;cases ha:Lib.atoi s.data.toList with
 | none=>exact⟨by decide,by decide⟩
 | some n =>have:=Lib.atoi_bound ha (by rw[gI];exact h);exact⟨by simp only[iK];omega,by simp only[iK];omega⟩
theorem IG(w:World)(p:Nat)(ws:List aZ)(ps:List Int)(d:Nat)(st:Sr)(h:dA w p ws ps d st)(s:aZ)(hs:s.size<=18):Calls prog 273 #[A s] w λe w'=>∃v,e=cO (.tuple #[O (Aw s),v])/\(v=.nilIface\/(∃t x,v=.iface t x)/\Aw s=0)/\bG w w':=by
 cases ha:Lib.atoi s.data.toList with
 | some n =>refine(Tryz.strconv_Atoi s n hs ha w).mono ?_;rintro e w' ⟨rfl,t,rfl⟩;exact⟨_,by unfold Aw;rw[ha];rfl,aR rfl,Joins.below_bytesWorld _ _ _ _ (bF _)⟩
 | none=>
  obtain⟨_,_,_,_,_,_,⟨g,tp,x,t,fz,h4,h5,h6⟩,_⟩:=h;refine(Tryz.strconv_Atoi_err_var s hs ha tp x w (by unfold World.var?;rw[h4];simp[h6])).mono ?_;rintro e w' ⟨N,rfl,_,_,hb⟩;have e0:Aw s=0:=by unfold Aw;rw[ha];rfl
  exact⟨_,by rw[e0],aT ⟨⟨_,_,rfl⟩,e0⟩,hb⟩
theorem badN_eq(s:aZ):YU s=(decide (6<s.size)||(decide (1<s.size)&&((s.data.toList.getD 0 0).toNat==48))):=by
 unfold YU;have e:(s.data.toList.getD 0 0==48)=((s.data.toList.getD 0 0).toNat==48):=by
  generalize s.data.toList.getD 0 0=c;rw[qH];simp only[beq_iff_eq];constructor;·rintro rfl;rfl
  ·intro h;exact UInt8.toNat_inj.1 h
 rw[e]
theorem QO(w:World)(p:Nat)(ws:List aZ)(ps:List Int)(d:Nat)(st:Sr)(h:dA w p ws ps d st):Calls prog 244 #[jk p] w λe w'=>e=cO (O (Aw (Rd.pk (Rd.nu st))))/\dA w' p ws ps d (Rd.tk (Rd.nu st))/\But p w w':=by
 have HN:Hid (Rd.nu st=if YU (Rd.pk st)then Rd.fl st else st):=rfl;have HF:Hid (Rd.pk (Rd.fl st)=⟨#[]⟩):=rfl;have HB:=I (badN_eq (Rd.pk st));have hsz:(Rd.pk st).size<=4096:=GY h 0;go_enter func244,ntmps244;go_wp2_with fail;refine(gX w p ws ps d st h).mono ?_;rintro e w1 ⟨rfl,h1,hb1⟩;clear h;obtain⟨x,hx⟩:=bC (Rd.pk st);have HX:=I hx;rw[<-hx]at HN HB hsz ⊢;clear hx;cases hbad:YU x
 ·have QS:Hid (Rd.nu st=st):=I (by rw[HN,hbad];rfl);have hb':=HB.out;rw[hbad]at hb';have h6:¬6<x.size:=by intro hh;rw[fQ hh]at hb';cases hb'
  have h6':¬((x.size:Int) > 6):=by omega
  by_cases h2:1<x.size
  ·have hz:¬(x[0]'aV).toNat=48:=by intro hh;rw[byte_at x 0 aV,fQ h2,hh]at hb';simp at hb'
   have h2':(x.size:Int) > 1:=by omega
   have hd6:decide ((6:Int)<(x.size:Int))=false:=gN aV;have hz8:(((x[0]'aV).toNat:Int)==48)=false:=by rw[beq_eq_false_iff_ne];omega
   clear hb' hbad;go_wp2_with fail;refine(iJ w1 p ws ps d st h1).mono ?_;rintro e w2 ⟨rfl,h3,hb3⟩;rw[<-HX];go_wp2_with fail;refine(IG w2 p ws ps d _ h3 x aV).mono ?_;rintro e w3 ⟨v,rfl,hv,hb4⟩;obtain⟨HR,vY⟩:=bT (h3.below hb4) ((hb1.trans hb3).trans (But.of_below hb4));clear hb4 h3 h1;obtain⟨z,hz'⟩:∃z,z=Aw x:=⟨_,rfl⟩;have HZ:=I hz';rw[<-hz']at hv ⊢;clear hz';rcases hv with rfl|⟨⟨t,y,rfl⟩,hz0⟩;·go_wp2;go_ret;exact⟨bQ (by rw[QS.out,<-HX];exact HZ),by rw[QS.out];exact HR,vY⟩
   ·subst hz0;go_wp2;go_ret;exact⟨bQ (by rw[QS.out,<-HX];exact HZ),by rw[QS.out];exact HR,vY⟩
  ·have h2':¬((x.size:Int) > 1):=by omega
   clear hb' hbad;go_wp2_with fail;refine(iJ w1 p ws ps d st h1).mono ?_;rintro e w2 ⟨rfl,h3,hb3⟩;rw[<-HX];go_wp2_with fail;refine(IG w2 p ws ps d _ h3 x aV).mono ?_;rintro e w3 ⟨v,rfl,hv,hb4⟩;obtain⟨HR,vY⟩:=bT (h3.below hb4) ((hb1.trans hb3).trans (But.of_below hb4));clear hb4 h3 h1;obtain⟨z,hz'⟩:∃z,z=Aw x:=⟨_,rfl⟩;have HZ:=I hz';rw[<-hz']at hv ⊢;clear hz';rcases hv with rfl|⟨⟨t,y,rfl⟩,hz0⟩;·go_wp2;go_ret;exact⟨bQ (by rw[QS.out,<-HX];exact HZ),by rw[QS.out];exact HR,vY⟩
   ·subst hz0;go_wp2;go_ret;exact⟨bQ (by rw[QS.out,<-HX];exact HZ),by rw[QS.out];exact HR,vY⟩
 ·have QS:Hid (Rd.nu st=Rd.fl st):=I (by rw[HN,hbad];rfl);have hb':=HB.out;rw[hbad]at hb';have HA:=I (λ(W:World) (st':Sr) (hR:dA W p ws ps d st')=>IG W p ws ps d st' hR ⟨#[]⟩ bP);have HZ:Hid (Aw ⟨#[]⟩=0):=rfl;by_cases h6:6<x.size
  ·have h6':(x.size:Int) > 6:=by omega
   clear hb' hbad;go_wp2_with fail;refine(lW w1 p ws ps d st h1).mono ?_;rintro e w2 ⟨rfl,h3,hb3⟩;go_wp2_with fail;refine(iJ w2 p ws ps d _ h3).mono ?_;rintro e w3 ⟨rfl,h4,hb4⟩;rw[HF];go_wp2_with fail;refine(HA w3 _ h4).mono ?_;rintro e w4 ⟨v,rfl,hv,hb5⟩;obtain⟨HR,vY⟩:=bT (h4.below hb5) (((hb1.trans hb3).trans hb4).trans (But.of_below hb5));rw[HZ];clear hb5 h4 h3 h1;rcases hv with rfl|⟨⟨t,y,rfl⟩,hz0⟩;·go_wp2;go_ret;exact⟨bQ (by rw[QS.out,HF,HZ]),by rw[QS.out];exact HR,vY⟩
   ·clear hz0;go_wp2;go_ret;exact⟨bQ (by rw[QS.out,HF,HZ]),by rw[QS.out];exact HR,vY⟩
  ·have h6':¬((x.size:Int) > 6):=by omega
   rw[gN h6,Bool.false_or]at hb';obtain⟨k1,k2⟩:=lU.1 hb'.symm;have h2:=iQ k1;have h2':(x.size:Int) > 1:=by omega
   have hz:(x[0]'aV).toNat=48:=by rw[byte_at x 0 aV]at k2;simpa using k2
   have hd6:decide ((6:Int)<(x.size:Int))=false:=gN aV;have hz8:(((x[0]'aV).toNat:Int)==48)=true:=by rw[beq_iff_eq];omega
   clear hb' hbad k1 k2;go_wp2_with fail;refine(lW w1 p ws ps d st h1).mono ?_;rintro e w2 ⟨rfl,h3,hb3⟩;go_wp2_with fail;refine(iJ w2 p ws ps d _ h3).mono ?_;rintro e w3 ⟨rfl,h4,hb4⟩;rw[HF];go_wp2_with fail;refine(HA w3 _ h4).mono ?_;rintro e w4 ⟨v,rfl,hv,hb5⟩;obtain⟨HR,vY⟩:=bT (h4.below hb5) (((hb1.trans hb3).trans hb4).trans (But.of_below hb5));rw[HZ];clear hb5 h4 h3 h1;rcases hv with rfl|⟨⟨t,y,rfl⟩,hz0⟩;·go_wp2;go_ret;exact⟨bQ (by rw[QS.out,HF,HZ]),by rw[QS.out];exact HR,vY⟩
   ·clear hz0;go_wp2;go_ret;exact⟨bQ (by rw[QS.out,HF,HZ]),by rw[QS.out];exact HR,vY⟩
section
variable {α : Type} {At : World → List Value → α → Prop} {w : World} {ops : Array Oper} {rest : List Oper} {o : Oper} {a : Act} {Q : Exit → Act → World → Prop}
theorem kr(hm:Gb At)(hgd:o.guard=none)(s x:Operand)(t e k bytes:Nat)(z:Value)(ho:o.op=.call { callee:=.builtin .append,args:=#[s,x],argTypes:=#[t,t] })(ht:prog.underlying t=some (.slice e))(hinfo:(prog.info? e).map (λi=>(i.zero,i.size,i.bytes))=some (some z,k,bytes))(hzs:z.cells.size=k)(hk:0<k)(hby:bytes<=1024)(n:Nat)(v:Value)(l:List α)(hs:a.eval s=v)(hown:fO At w n e k v l)(B:Nat)(c:List Value)(y:α)(hx:a.eval x=.slice (some ⟨B,0,none⟩) 1 1)(hc:∀(j:Nat) u,c[j]?=some u->w.cell? ⟨B,j,none⟩=some u)(hck:c.length=k)(h1:∀u∈c,u.oneCell'=true)(hat:At (only (λb=>decide (n<=b)&&decide (v.ownBlock≠some b)) w) c y)(hl:l.length<=8192)(hbase:n<=w.heap.size)(h:∀g cap w',fO At w' n e k (.slice (some ⟨g,0,none⟩) (l.length+1) cap) (l++[y])->w.grownBy w' v.ownBlock->wpList prog ops Q rest (a.put o.dst (.slice (some ⟨g,0,none⟩) (l.length+1) cap)) w'):wpList prog ops Q (o::rest) a w:=by obtain⟨iS,BN,hz0,hz1,hz2⟩:=info_parts hinfo;obtain⟨cs,hr,k1,k2,k3⟩:=hown;refine wpList_append_lies w hgd s x t ho n e iS z k bytes ht BN hz0 hz1 hz2 hzs hk v l.length cs.flatten hs hr ⟨B,0,none⟩ 1 1 c hx (by rw[hck,vJ]) (λj u hu=>by rw[Addr.add_lit,eu];exact hc j u hu) h1 (by decide) (by unfold maxLen;omega) (bH (Az (show l.length+1<=8193 by omega) hby) (by decide)) hbase w.heap.size rfl ?_;intro g cap w' h1' h2 h3 _;exact h g cap w' (fO.push (At:=At) hm ⟨k1,k2,k3⟩ rfl hck hat h1' h2 h3) h2
variable {K : Act → World → Prop} {E : Prop}
theorem zZ(hm:Gb At)(hgd:o.guard=none)(s x:Operand)(t e k bytes:Nat)(z:Value)(ho:o.op=.call { callee:=.builtin .append,args:=#[s,x],argTypes:=#[t,t] })(ht:prog.underlying t=some (.slice e))(hinfo:(prog.info? e).map (λi=>(i.zero,i.size,i.bytes))=some (some z,k,bytes))(hzs:z.cells.size=k)(hk:0<k)(hby:bytes<=1024)(n:Nat)(v:Value)(l:List α)(hs:a.eval s=v)(hown:fO At w n e k v l)(B:Nat)(c:List Value)(y:α)(hx:a.eval x=.slice (some ⟨B,0,none⟩) 1 1)(hc:∀(j:Nat) u,c[j]?=some u->w.cell? ⟨B,j,none⟩=some u)(hck:c.length=k)(h1:∀u∈c,u.oneCell'=true)(hat:At (only (λb=>decide (n<=b)&&decide (v.ownBlock≠some b)) w) c y)(hl:l.length<=8192)(hbase:n<=w.heap.size)(h:∀g cap w',fO At w' n e k (.slice (some ⟨g,0,none⟩) (l.length+1) cap) (l++[y])->w.grownBy w' v.ownBlock->K (a.put o.dst (.slice (some ⟨g,0,none⟩) (l.length+1) cap)) w'):if Region.wanted o (yielded ops a.tmps)=true then Oper.wp prog o a w K Q else E:=by obtain⟨iS,BN,hz0,hz1,hz2⟩:=info_parts hinfo;obtain⟨cs,hr,k1,k2,k3⟩:=hown;refine step_append_lies w hgd s x t ho n e iS z k bytes ht BN hz0 hz1 hz2 hzs hk v l.length cs.flatten hs hr ⟨B,0,none⟩ 1 1 c hx (by rw[hck,vJ]) (λj u hu=>by rw[Addr.add_lit,eu];exact hc j u hu) h1 (by decide) (by unfold maxLen;omega) (bH (Az (show l.length+1<=8193 by omega) hby) (by decide)) hbase w.heap.size rfl ?_;intro g cap w' h1' h2 h3 _;exact h g cap w' (fO.push (At:=At) hm ⟨k1,k2,k3⟩ rfl hck hat h1' h2 h3) h2
end
def fr(w w':World):World:=only (λb=>decide (w.heap.size<=b)) w'
theorem NP(ha:a.block<w.heap.size)(x:Value):Sub (fr w w1) (fr w (w1.setCell a x)):=λb v hv=>by obtain⟨h1,h2⟩:=bM.1 hv;refine bM.2 ⟨h1,?_⟩;have hle:=iQ h1;rw[jL (w:=w1) (uE _ _ _ _ aV)];exact h2
theorem NQ(h:n<=w0.heap.size)(hv:∀k,v.ownBlock=some k->k<w0.heap.size):Sub (fr w0 w1) (only (λb=>decide (n<=b)&&decide (v.ownBlock≠some b)) w1):=λa x hx=>by obtain⟨h1,h2⟩:=bM.1 hx;have hle:=iQ h1;refine bM.2 ⟨lU.2 ⟨fQ (bH h hle),fQ (λe=>?_)⟩,h2⟩;have:=hv _ e;omega
theorem NR(h:w.heap.size<=w0.heap.size)(hv:∀k,v.ownBlock=some k->k<w0.heap.size):Sub (fr w0 w1) (only (λb=>decide (w.heap.size<=b)&&decide (v.ownBlock≠some b)) w1):=λa x hx=>by obtain⟨h1,h2⟩:=bM.1 hx;have hle:=iQ h1;refine bM.2 ⟨lU.2 ⟨fQ (bH h hle),fQ (λe=>?_)⟩,h2⟩;have:=hv _ e;omega
def Ze(m:Nat)(w:World)(c:List Value)(x:Ex):Prop:=∃c0 c1 c2 c3,c=[c0,c1,c2,c3]/\gQ w m c0 c1 c2 c3 x
theorem Ze.sub(hs:Sub w w')(h:Ze m w c y):Ze m w' c y:=by obtain⟨c0,c1,c2,c3,e,h⟩:=h;exact⟨c0,c1,c2,c3,e,h.sub hs⟩
theorem kI(m:Nat):Gb (Ze m):=λ_ _ _ _ hs h=>h.sub hs
theorem gQ.one(h:gQ w m c0 c1 c2 c3 x):∀u∈[c0,c1,c2,c3],u.oneCell'=true:=by obtain⟨a,cap,rfl,rfl,rfl,rfl⟩:=h.shape;intro u hu;simp at hu;rcases hu with rfl|rfl|rfl|rfl<;>rfl
theorem NS:(prog.info? 107).map (λi=>(i.zero,i.size,i.bytes))=some (some (.agg #[O 0,O 0,A ⟨#[]⟩,J]),4,56):=by kernel_rfl
theorem NT(w:World)(c0 c1 c2 c3:Value)(t:TypeId):∀(j:Nat) u,[c0,c1,c2,c3][j]?=some u->(w.alloc (.cells #[c0,c1,c2,c3] t)).cell? (X w.heap.size j)=some u:=by intro j u hu;have hj:=(dz.1 hu).1;have hj':j<4:=hj;rw[aj (bD w (.cells #[c0,c1,c2,c3] t))];simpa using hu
theorem fO.exsN(h:fO (Ze m) w' n 107 4 v l)(hl:l.length<=9223372036854775807):wO (only (λb=>decide (n<=b)) w') m v l:=by
 rcases h.shape with⟨rfl,rfl⟩|⟨g,cap,rfl,_,hg,_⟩;·exact⟨none,0,0,0,rfl,λh=>aN h cZ,by simp,λi y hy=>by simp at hy⟩
 ·refine⟨_,g,0,cap,rfl,λ_=>rfl,hl,λi y hy=>?_⟩;obtain⟨c,hc,hcell,_,c0,c1,c2,c3,rfl,hx⟩:=h.cell hy;have hs:∀j (hj:j<4),(only (λb=>decide (n<=b)) w').cell? (X g (0+i*4+j))=some ([c0,c1,c2,c3][j]):=λj hj=>by refine bM.2 ⟨fQ hg,?_⟩;rw[eu,hcell j hj];exact bg (by simpa using hj)
  refine⟨c0,c1,c2,c3,hs 0 bP,hs 1 bP,hs 2 bP,hs 3 bP,hx.sub (λa u hu=>?_)⟩;obtain⟨b1,b2⟩:=bM.1 hu;exact bM.2 ⟨(lU.1 b1).1,b2⟩
theorem fO.exs(h:fO (Ze m) w' w.heap.size 107 4 v l)(hl:l.length<=9223372036854775807):wO (fr w w') m v l:=h.exsN hl
theorem wO.sub(hb:Sub w w')(h:wO w m v l):wO w' m v l:=by obtain⟨a,b,off,cap,e,h0,hl,h1⟩:=h;refine⟨a,b,off,cap,e,h0,hl,λi y hy=>?_⟩;obtain⟨e0,e1,e2,e3,g0,g1,g2,g3,hx⟩:=h1 i y hy;exact⟨e0,e1,e2,e3,hb _ _ g0,hb _ _ g1,hb _ _ g2,hb _ _ g3,hx.sub hb⟩
def meas(n p:Nat)(w:World):Nat:=match w.cell? ⟨p,4,none⟩with
 | some (.bool true)=>0
 | _=>match w.cell? ⟨p,2,none⟩with
  | some (.int _ z)=>1+(n - z.toNat)
  | _=>0
theorem Xo{st:Sr}(h:dA w p ws ps d st):meas ws.length p w=if st.f then 0 else 1+st.r.length:=by
 obtain⟨_,_,_,_,_,q2,_,q4,_⟩:=h.cells;have hl:=h.suffix.length_le;unfold meas;rw[q4,q2];cases st.f;·simp only[qI,if_false];omega
 ·rfl
theorem ze{st st':Sr}(h:dA w p ws ps d st)(h':dA w' p ws ps d' st')(hf:st.f=false)(hl:Rd.Lt st' st):meas ws.length p w'<meas ws.length p w:=by
 rw[Xo h,Xo h',hf];simp only[qI,if_false];split;·omega
 ·rename_i hf';rcases hl.2 with e|e;·exact aN e hf'
  ·omega
def AV(d:Nat)(st:Sr):Prop:=d<=30/\(st.f=true\/d<=20)
theorem AV.le{a b:Sr}(h:AV d b)(hl:Le a b):AV d a:=⟨h.1,h.2.elim (λe=>aR (hl.1 e)) aT⟩
theorem AV.op{st:Sr}(h:AV d st)(h2:d<=29):AV (d+1) (Rd.op d st):=by
 refine⟨by omega,?_⟩;rcases h.2 with e|e;·exact aR ((jv d st).1.1 e)
 ·by_cases h20:d=20;·left;refine(H8 _ _).1.1 ?_;unfold Rd.mx;rw[aL h20];rfl
  ·exact aT aV
def Xp(k:Nat):Prop:=∀(w:World) (p:Nat) (ws:List aZ) (ps:List Int) (d:Nat) (st:Sr),dA w p ws ps d st->Rd.Ok k st->AV d st->
 Calls prog 201 #[.pointer (some ⟨p,0,none⟩)] w λe w'=>∃c0 c1 c2 c3,e=.returned (.agg #[c0,c1,c2,c3])/\gQ (fr w w') (k+1) c0 c1 c2 c3 (pE k d st).1/\dA w' p ws ps d (pE k d st).2/\But p w w'
theorem jZ(P:Nat->Bool)(w:World)(o:Obj):Sub (only P w) (only P (w.alloc o)):=λa v hv=>by obtain⟨h1,h2⟩:=bM.1 hv;exact bM.2 ⟨h1,aC h2 (aH _ _)⟩
theorem dA.block{st:Sr}(h:dA w p ws ps d st):∃c,w.heap[p]?=some (.cells c 119 (0,0)):=by obtain⟨aw,cw,vs,h1,_⟩:=h;exact⟨_,h1⟩
theorem args_of(k:Nat)(ih:Xp k)(w:World)(p:Nat)(ws:List ByteArray)(ps:List Int)(d:Nat)(st:Sr)(h:dA w p ws ps d st)(hk:Rd.Ok k st)(hd:AV d st)(n:Nat)(hn:Rd.Ok n st):Calls prog 272 #[.pointer (some ⟨p,0,none⟩)] w λe w'=>∃v,e=.returned v/\wO (fr w w') (k+1) v (Rd.loop Rd.argc (pE k d) n st).1/\dA w' p ws ps d (Rd.loop Rd.argc (pE k d) n st).2/\But p w w':=by
 have IH:=I ih;have Cw:=I h.lt;have hlen:st.r.length<=4096:=Nat.le_trans h.suffix.length_le h.len;clear ih;go_enter func272,ntmps272;go_wp2;go_loopw[3] (λv wr=>∃(acc:List Ex) (st':Sr) (n':Nat),Rd.loop Rd.argc (pE k d) n st=(acc++(Rd.loop Rd.argc (pE k d) n' st').1,(Rd.loop Rd.argc (pE k d) n' st').2)/\Rd.Ok n' st'/\Rd.Ok k st'/\AV d st'/\(acc.length<=4097/\(st'.f=true\/acc.length+st'.r.length<=4096))/\fO (Ze (k+1)) wr w.heap.size 107 4 v acc/\dA wr p ws ps d st'/\But p w wr) (λ_ wr=>meas ws.length p wr);case atStart=>exact⟨[],st,n,rfl,hn,hk,hd,⟨by simp,Or.inr (by simpa using hlen)⟩,fO.nil _ _ _ _,h,But.refl _ _⟩
 case round=>
  obtain⟨acc,st',n',hL,hnk,hk',hd',⟨hacc,hacc'⟩,hown,hR,hnx⟩:=hrel;have HL:=I hL;have HOW:=I hown;have HRr:=I hR;have dM:=I hnx;obtain⟨rc,hrc⟩:=hR.block;have kY:=I (And.intro hrc Cw.out);clear hL hown hnx hrc h hk hd hn hlen;go_wp2_with fail;refine(gX _ p ws ps d st' hR).mono ?_;rintro e w1 ⟨rfl,h1,hb1⟩;have HR1:=I h1;have HB1:=I hb1;clear hR h1 hb1;by_cases h0:(Rd.pk st').toList=[40]
  ·have HC:Hid (Rd.argc st'=true):=I (by unfold Rd.argc;rw[p9 h0];rfl);have hf':st'.f=false:=WW HC.out;obtain⟨n',rfl⟩:=hnk.pos hf';rw[hf']at hacc';have rV:acc.length+st'.r.length<=4096:=by simpa using hacc'
   clear hacc';go_wp2_with fail;refine(IH.out _ p ws ps d st' HR1.out hk' hd').mono ?_;rintro e w5 ⟨c0,c1,c2,c3,rfl,hx,KJ,hb5⟩;have hown5:=HOW.out.but (kI _) kY.out.1 (by decide) (by have:=kY.out.2;omega) (HB1.out.trans hb5);have II:∀j,u3.ownBlock=some j->j<w1.heap.size:=λj hj=>Nat.lt_of_lt_of_le (HOW.out.lt j hj).2 HB1.out.size;have HAT:=I (Ze.sub (NR (w:=w) (w0:=w1) (w1:=w5) (v:=u3) (by have:=dM.out.size;have:=HB1.out.size;omega) II) ⟨c0,c1,c2,c3,rfl,hx⟩);have NU:=I hx.one;obtain⟨ax,cx,rfl,rfl,rfl,rfl⟩:=hx.shape;have qR:=I hown5;have vZ:=I KJ;have dW:=I ((dM.out.trans HB1.out).trans hb5);have hsz5:=dW.out.size;have mU:=I (lG k d st');clear hown5 II hx KJ hb5
   go_wp2_with (first
    | (at_builtin;refine kr (kI _) rfl _ _ 105 107 4 56 _ rfl underlying105 NS (by decide) (by decide) (by decide) w.heap.size _ _ rfl (qR.out.below (kI _) (aH _ _)) _ _ (pE k d st').1 rfl (NT _ _ _ _ _ _) rfl NU.out (Ze.sub (jZ _ _ _) HAT.out) (by omega) (by simp;omega) ?_;intro g cap w6 hown6 eG;have oG:=I hown6;have mG:=I (((vZ.out.below (aH _ _))).grown eG (λj hj=>by have:=(qR.out.lt j hj).1;have:=Cw.out;omega));have eF:=I ((dW.out.alloc _).grown eG (λj hj=>(qR.out.lt j hj).1));clear hown6 eG)
    | fail)
   go_roundw;case rel=>exact⟨acc++[(pE k d st').1],(pE k d st').2,n',by rw[HL.out,ru HC.out];simp,hnk.lt mU.out,hk'.le mU.out.1,hd'.le mU.out.1,by
    rw[List.length_append,List.length_singleton];rcases mU.out.2 with e|e;·exact⟨by omega,Or.inl e⟩
    ·exact⟨by omega,Or.inr (by omega)⟩,oG.out,mG.out,eF.out⟩
   case measure=>exact ze HRr.out mG.out hf' mU.out
  ·have b0:=nX h0;go_wp2_with fail;refine(gX _ p ws ps d st' HR1.out).mono ?_;rintro e w2 ⟨rfl,h2,hb2⟩;have HR2:=I h2;have HB2:=I (HB1.out.trans hb2);clear h2 hb2;go_wp2_with fail;refine(xO _ _).mono ?_;rintro e w3 ⟨rfl,hw3⟩;subst hw3;obtain⟨b,hb⟩:∃b,b=Rd.plain (Rd.pk st'):=⟨_,rfl⟩;have HBP:=I hb;rw[<-hb];clear hb;cases b;·have HC:Hid (Rd.argc st'=false):=I (by unfold Rd.argc;rw[qb h0,<-HBP.out];rfl);have HE:=I (HOW.out.but (kI _) kY.out.1 (by decide) (by have:=kY.out.2;omega) HB2.out);have QT:=I (fO.exs (w:=w) HE.out (by omega));have TY:Hid (Rd.loop Rd.argc (pE k d) n st=(acc,st')):=I (by rw[HL.out,rz HC.out];simp);go_wp2;go_ret;exact⟨_,rfl,by rw[TY.out];exact QT.out,by rw[TY.out];exact HR2.out,dM.out.trans HB2.out⟩
   ·have HC:Hid (Rd.argc st'=true):=I (by unfold Rd.argc;rw[<-HBP.out,Bool.or_true]);have hf':st'.f=false:=WW HC.out;obtain⟨n',rfl⟩:=hnk.pos hf';rw[hf']at hacc';have rV:acc.length+st'.r.length<=4096:=by simpa using hacc'
    clear hacc';go_wp2_with fail;refine(IH.out _ p ws ps d st' HR2.out hk' hd').mono ?_;rintro e w5 ⟨c0,c1,c2,c3,rfl,hx,KJ,hb5⟩;have hown5:=HOW.out.but (kI _) kY.out.1 (by decide) (by have:=kY.out.2;omega) (HB2.out.trans hb5);have II:∀j,u3.ownBlock=some j->j<w3.heap.size:=λj hj=>Nat.lt_of_lt_of_le (HOW.out.lt j hj).2 HB2.out.size;have HAT:=I (Ze.sub (NR (w:=w) (w0:=w3) (w1:=w5) (v:=u3) (by have:=dM.out.size;have:=HB2.out.size;omega) II) ⟨c0,c1,c2,c3,rfl,hx⟩);have NU:=I hx.one;obtain⟨ax,cx,rfl,rfl,rfl,rfl⟩:=hx.shape;have qR:=I hown5;have vZ:=I KJ;have dW:=I ((dM.out.trans HB2.out).trans hb5);have hsz5:=dW.out.size;have mU:=I (lG k d st');clear hown5 II hx KJ hb5
    go_wp2_with (first
     | (at_builtin;refine kr (kI _) rfl _ _ 105 107 4 56 _ rfl underlying105 NS (by decide) (by decide) (by decide) w.heap.size _ _ rfl (qR.out.below (kI _) (aH _ _)) _ _ (pE k d st').1 rfl (NT _ _ _ _ _ _) rfl NU.out (Ze.sub (jZ _ _ _) HAT.out) (by omega) (by simp;omega) ?_;intro g cap w6 hown6 eG;have oG:=I hown6;have mG:=I (((vZ.out.below (aH _ _))).grown eG (λj hj=>by have:=(qR.out.lt j hj).1;have:=Cw.out;omega));have eF:=I ((dW.out.alloc _).grown eG (λj hj=>(qR.out.lt j hj).1));clear hown6 eG)
     | fail)
    go_roundw;case rel=>exact⟨acc++[(pE k d st').1],(pE k d st').2,n',by rw[HL.out,ru HC.out];simp,hnk.lt mU.out,hk'.le mU.out.1,hd'.le mU.out.1,by
     rw[List.length_append,List.length_singleton];rcases mU.out.2 with e|e;·exact⟨by omega,Or.inl e⟩
     ·exact⟨by omega,Or.inr (by omega)⟩,oG.out,mG.out,eF.out⟩
    case measure=>exact ze HRr.out mG.out hf' mU.out
theorem two_new(w:World)(o1 o2:Obj):((w.alloc o1).alloc o2).heap[w.heap.size]?=some o1/\((w.alloc o1).alloc o2).heap[w.heap.size+1]?=some o2/\((w.alloc o1).alloc o2).heap.size=w.heap.size+2:=by
 have e:(w.alloc o1).heap.size=w.heap.size+1:=by simp
 refine⟨dB (bD w o1) o2,?_,by simp⟩;have:=bD (w.alloc o1) o2;rw[e]at this;exact this
structure Loc(w:World)(p:Nat)(W:World)(T:TypeId)(r c:Array Value):Prop where
 res:W.heap[w.heap.size]?=some (.cells r T (0,0))
 loc:W.heap[w.heap.size+1]?=some (.cells c T (0,0))
 but:But p w W
 size:w.heap.size+2<=W.heap.size
 xS:p<w.heap.size
section
variable {w : World} {p : Nat} {W W' : World} {T : TypeId} {r c : Array Value}
theorem Loc.start(w:World)(p:Nat)(T:TypeId)(r c:Array Value)(hp:p<w.heap.size):Loc w p ((w.alloc (.cells r T (0,0))).alloc (.cells c T (0,0))) T r c:=by obtain⟨h1,h2,h3⟩:=two_new w (.cells r T (0,0)) (.cells c T (0,0));exact⟨h1,h2,But.of_below (up (aH _ _) (aH _ _)),by rw[h3];exact bF _,hp⟩
theorem Loc.step(h:Loc w p W T r c)(hb:But p W W'):Loc w p W' T r c:=
 ⟨hb.at (by have:=h.xS;omega) h.res,hb.at (by have:=h.xS;omega) h.loc,h.but.trans hb,bH h.size hb.size,h.xS⟩
theorem Loc.set(h:Loc w p W T r c)(i:Nat)(v:Value):Loc w p (W.setCell (X (w.heap.size+1) i) v) T r (c.setIfInBounds i v):=
 ⟨bL h.res cZ _,aP h.loc i v,h.but.set (aT cZ) v,by simp only[World.setCell,DY];exact h.size,h.xS⟩
theorem Loc.qd(h:Loc w p W T r c)(i:Nat)(v:Value):Loc w p (W.setCell (X w.heap.size i) v) T (r.setIfInBounds i v) c:=
 ⟨aP h.res i v,bL h.loc cZ _,h.but.set (aT cZ) v,by simp only[World.setCell,DY];exact h.size,h.xS⟩
theorem Loc.grown{row:Option Nat}(h:Loc w p W T r c)(hg:W.grownBy W' row)(hr:∀k,row=some k->w.heap.size+2<=k):Loc w p W' T r c:=
 ⟨by rw[hg.block _ (by have:=h.size;omega) (λe=>by have:=hr _ e.symm;omega)];exact h.res,by rw[hg.block _ (by have:=h.size;omega) (λe=>by have:=hr _ e.symm;omega)];exact h.loc,
  h.but.grown hg (λk hk=>by have:=hr k hk;omega),bH h.size hg.size,h.xS⟩
theorem Loc.alloc(h:Loc w p W T r c)(o:Obj):Loc w p (W.alloc o) T r c:=h.step (But.of_below (aH _ _))
theorem Loc.cell(h:Loc w p W T r c){i:Nat}{v:Value}(hv:c[i]?=some v):W.cell? (X (w.heap.size+1) i)=some v/\W.frozen? (X (w.heap.size+1) i)=false:=⟨(aj h.loc i).trans hv,aG h.loc i⟩
theorem Loc.bZ(h:Loc w p W T r c){i:Nat}{v:Value}(hv:r[i]?=some v):W.cell? (X w.heap.size i)=some v/\W.frozen? (X w.heap.size i)=false:=⟨(aj h.res i).trans hv,aG h.res i⟩
theorem Loc.rd{ws:List aZ}{ps:List Int}{d:Nat}{st:Sr}(h:Loc w p W T r c)(hR:dA W p ws ps d st)(i:Nat)(v:Value):dA (W.setCell (X (w.heap.size+1) i) v) p ws ps d st:=hR.set (by have:=h.xS;simp;omega) v
theorem Loc.K4{ws:List aZ}{ps:List Int}{d:Nat}{st:Sr}(h:Loc w p W T r c)(hR:dA W p ws ps d st)(i:Nat)(v:Value):dA (W.setCell (X w.heap.size i) v) p ws ps d st:=hR.set (by have:=h.xS;simp;omega) v
end
def qE(W:World)(b:Nat)(c0 c1 c2 c3:Value):World:=(((W.setCell ⟨b,0,none⟩ c0).setCell ⟨b,1,none⟩ c1).setCell ⟨b,2,none⟩ c2).setCell ⟨b,3,none⟩ c3
theorem Loc.QU{c:Array Value}{st:Sr}(h:Loc w p W T #[r0,r1,r2,r3] c)(hR:dA W p ws ps d st)(c0 c1 c2 c3:Value):(∃Wf,Wf=qE W w.heap.size c0 c1 c2 c3/\Wf.cell? (X w.heap.size 0)=some c0/\Wf.cell? (X w.heap.size 1)=some c1/\Wf.cell? (X w.heap.size 2)=some c2/\Wf.cell? (X w.heap.size 3)=some c3)/\But p w (qE W w.heap.size c0 c1 c2 c3)/\dA (qE W w.heap.size c0 c1 c2 c3) p ws ps d st/\Sub (only (λb=>decide (w.heap.size+2<=b)) W) (fr w (qE W w.heap.size c0 c1 c2 c3)):=by have h0:=h.qd 0 c0;have h1:=h0.qd 1 c1;have h2:=h1.qd 2 c2;have h3:=h2.qd 3 c3;refine⟨⟨_,rfl,(h3.bZ (i:=0) rfl).1,(h3.bZ (i:=1) rfl).1,(h3.bZ (i:=2) rfl).1,(h3.bZ (i:=3) rfl).1⟩,h3.but,h2.K4 (h1.K4 (h0.K4 (h.K4 hR 0 c0) 1 c1) 2 c2) 3 c3,λa v hv=>?_⟩;obtain⟨k1,k2⟩:=bM.1 hv;have hle:=iQ k1;refine bM.2 ⟨fQ aV,?_⟩;unfold qE;rw[jL (uE _ _ _ _ (by simp only;omega)),jL (uE _ _ _ _ (by simp only;omega)),jL (uE _ _ _ _ (by simp only;omega)),jL (uE _ _ _ _ (by simp only;omega))];exact k2
theorem gQ.mk{kd n:Int}{s:aZ}(h:wO W m v l)(hs:s.size<=4096)(h1:LP kd)(h2:LP n):gQ W (m+1) (O kd) (O n) (A s) v ⟨kd,n,s,l⟩:=by obtain⟨a,b,off,cap,rfl,h0,hl,hel⟩:=h;exact⟨rfl,rfl,rfl,by unfold maxLen;simp only;omega,h1,h2,a,b,off,cap,rfl,h0,hl,hel⟩
theorem NV(W:World)(m:Nat):wO W m (J) []:=⟨none,0,0,0,rfl,λh=>aN h cZ,by simp,λi y hy=>by simp at hy⟩
theorem kC(ha:a.block<n)(x:Value):Sub (only (λb=>decide (n<=b)) W) (only (λb=>decide (n<=b)) (W.setCell a x)):=λb v hv=>by obtain⟨h1,h2⟩:=bM.1 hv;refine bM.2 ⟨h1,?_⟩;have hle:=iQ h1;rw[jL (w:=W) (uE _ _ _ _ aV)];exact h2
theorem pG{st:Sr}(h:dA w p ws ps d st):(Rd.gJ st).1.size<=4096:=by
 show(Rd.pk (Rd.nm st)).size<=4096;unfold Rd.nm;split;·exact GY h 0
 ·exact bI _
theorem dA.rW{st:Sr}(h:dA w p ws ps d st):dA w.drew p ws ps d st:=h.keep (λ_ _=>rfl)
theorem But.rW(h:But p w w'):But p w w'.drew:=⟨h.os,h.tape,h.output,h.size,h.block⟩
theorem Loc.rW{c:Array Value}(h:Loc w p W T r c):Loc w p W.drew T r c:=h.step (But.refl _ _).rW
theorem QV(k:Nat)(ih:Xp k)(w:World)(p:Nat)(ws:List aZ)(ps:List Int)(d:Nat)(st:Sr)(h:dA w p ws ps d st)(hk:Rd.Ok (k+1) st)(hd:AV d st)(zH:d<=20):Calls prog 242 #[jk p] w λe w'=>∃c0 c1 c2 c3,e=cO (.agg #[c0,c1,c2,c3])/\gQ (fr w w') (k+2) c0 c1 c2 c3 (Rd.cE (pE k (d+1)) k d st).1/\dA w' p ws ps d (Rd.cE (pE k (d+1)) k d st).2/\But p w w':=by
 obtain⟨vH,kY⟩:=bT (Loc.start w p 107 #[O 0,O 0,A ⟨#[]⟩,J] #[O 0,O 0,A ⟨#[]⟩,J] h.lt) (h.below (up (aH w (aY #[O 0,O 0,A ⟨#[]⟩,J] 107)) (aH _ (aY #[O 0,O 0,A ⟨#[]⟩,J] 107))))
 have vg:Hid (Rd.cE (pE k (d+1)) k d st=if opc (Rd.pk (Rd.op d st))then opE (pE k (d+1)) (Rd.op d st)
  else if Rd.is (Rd.pk (Rd.op d st)) [99,97,108,108]then caE (pE k (d+1)) k (Rd.tk (Rd.op d st))
  else (⟨0,0,⟨#[]⟩,[]⟩,Rd.sh (Rd.fl (Rd.op d st)))):=rfl
 have IH:=I ih;have hd1:=hd.1;go_enter func242,ntmps242;go_wp2_with fail;generalize ((w.alloc (aY #[O 0,O 0,A ⟨#[]⟩,J] 107)).alloc (aY #[O 0,O 0,A ⟨#[]⟩,J] 107))=W0 at *;refine(lX W0 p ws ps d st kY aV).mono ?_;rintro e w1 ⟨rfl,h1,hb1⟩;have Ea:=I (vH.step hb1);clear hb1 h ih;go_wp2_with fail;refine(gX w1 p ws ps _ _ h1).mono ?_;rintro e w2 ⟨rfl,h2,hb2⟩;obtain⟨HL2,HR2⟩:=bT (Ea.step hb2) h2;have HX:Hid (∀b,b=Rd.pk (Rd.op d st)->b.size<=4096):=I (λb hb=>by rw[hb];exact GY h1 0);clear hb2 h1 h2;have rU:=I (jv d st);have jl:=I (hk.lt rU);have HD1:Hid (AV (d+1) (Rd.op d st)):=I (hd.op aV);obtain⟨s1,hs1⟩:=bC (Rd.op d st);rw[<-hs1]at vg HR2 HX rU jl HD1 ⊢;have DN:=I hs1;clear hs1 hk hd;obtain⟨x,hx⟩:=bC (Rd.pk s1);have HXE:=I hx;rw[<-hx]at vg HX ⊢;clear hx;go_wp2_with fail;refine(Y4 _ x).mono ?_;rintro e w3 ⟨rfl,hw3⟩;subst hw3;obtain⟨b,hb⟩:=bC (opc x);rw[<-hb]at vg ⊢;clear hb;cases b
 ·rw[aJ cZ]at vg;by_cases hc:x.toList=[99,97,108,108]
  ·rw[p9 hc,aL rfl]at vg;go_wp2_with fail;refine(iJ _ p ws ps _ _ HR2).mono ?_;rintro e w4 ⟨rfl,h4,hb4⟩;have Aa:=I (HL2.step hb4);obtain⟨u0,z0⟩:=Aa.cell (i:=0) rfl;have zI:Hid (Loc w p (w4.setCell (X (w.heap.size+1) 0) (O 4)) 107 #[O 0,O 0,A ⟨#[]⟩,J] #[O 4,O 0,A ⟨#[]⟩,J]):=I (Aa.set 0 (O 4));have vZ:=I (Aa.rd h4 0 (O 4));clear hb4 h4;go_wp2_with fail;clear u0 z0;generalize w4.setCell (X (w.heap.size+1) 0) (O 4)=W5 at *;refine(kH _ p ws ps _ _ vZ).mono ?_;rintro e w6 ⟨rfl,h6,hb6⟩;have NW:Hid ((Rd.gJ (Rd.tk s1)).1.size<=4096):=I (pG vZ);have xQ:=I (zI.step hb6);obtain⟨u2,z2⟩:=xQ.cell (i:=2) rfl;have Gh:Hid (Loc w p (w6.setCell (X (w.heap.size+1) 2) (A (Rd.gJ (Rd.tk s1)).1)) 107 #[O 0,O 0,A ⟨#[]⟩,J] #[O 4,O 0,A (Rd.gJ (Rd.tk s1)).1,J]):=I (xQ.set 2 (A (Rd.gJ (Rd.tk s1)).1));have zJ:=I (xQ.rd h6 2 (A (Rd.gJ (Rd.tk s1)).1));have HK7:Hid (Rd.Ok k (Rd.gJ (Rd.tk s1)).2):=I (jl.le ((iH _).1.trans (gV _).1));have HD7:Hid (AV (d+1) (Rd.gJ (Rd.tk s1)).2):=I (HD1.le ((iH _).1.trans (gV _).1));have HCE2:Hid (Rd.cE (pE k (d+1)) k d st=(⟨4,0,(Rd.gJ (Rd.tk s1)).1,(Rd.loop Rd.argc (pE k (d+1)) k (Rd.gJ (Rd.tk s1)).2).1⟩,Rd.sh (Rd.loop Rd.argc (pE k (d+1)) k (Rd.gJ (Rd.tk s1)).2).2)):=vg;clear hb6 h6;have vg:=HCE2;generalize Rd.gJ (Rd.tk s1)=nm at *;obtain⟨nn,s3⟩:=nm;simp only at NW Gh zJ HK7 HD7 vg u2 ⊢;go_wp2_with fail;clear u2 z2;generalize w6.setCell (X (w.heap.size+1) 2) (A nn)=W7 at *;refine(args_of k IH W7 p ws ps (d+1) s3 zJ HK7 HD7 k HK7).mono ?_;rintro e w8 ⟨v,rfl,sV,IJ,oH⟩;have lJ:=I (Gh.step oH);obtain⟨u3,z3⟩:=lJ.cell (i:=3) rfl;have xw:Hid (wO (only (λb=>decide (w.heap.size+2<=b)) w8) (k+1) v _):=I (sV.sub (eX Gh.size));have Ab:=I IJ;clear oH sV IJ;obtain⟨av,cv,hv⟩:∃a c,v=Y a (Rd.loop Rd.argc (pE k (d+1)) k s3).1.length c:=by obtain⟨a,_,_,c,e,_⟩:=xw.out;exact⟨a,c,e⟩
   subst hv;generalize Rd.loop Rd.argc (pE k (d+1)) k s3=lp at *;obtain⟨ll,s4⟩:=lp;simp only at xw lJ Ab vg ⊢;have Mc:Hid (Loc w p (w8.setCell (X (w.heap.size+1) 3) (Y av ll.length cv)) 107 #[O 0,O 0,A ⟨#[]⟩,J] #[O 4,O 0,A nn,Y av ll.length cv]):=I (lJ.set 3 (Y av ll.length cv));have kQ:=I (lJ.rd Ab 3 (Y av ll.length cv));have K5:Hid (wO (only (λb=>decide (w.heap.size+2<=b)) (w8.setCell (X (w.heap.size+1) 3) (Y av ll.length cv))) (k+1) (Y av ll.length cv) ll):=I (xw.sub (kC cZ _));go_wp2_with fail;refine(jd _ p ws ps d _ kQ aV).mono ?_;rintro e w10 ⟨rfl,h10,sW⟩;obtain⟨lY,HR10⟩:=bT (Mc.step sW) h10;have QT:Hid (wO (only (λb=>decide (w.heap.size+2<=b)) w10) (k+1) (Y av ll.length cv) ll):=I (K5.sub (sW.sub (gN (by have:=lY.xS;omega))));clear h10 sW;obtain⟨u0,z0⟩:=lY.cell (i:=0) rfl;obtain⟨u1,z1⟩:=lY.cell (i:=1) rfl;obtain⟨u2,z2⟩:=lY.cell (i:=2) rfl;obtain⟨u3,z3⟩:=lY.cell (i:=3) rfl;obtain⟨r0,y0⟩:=lY.bZ (i:=0) rfl;obtain⟨r1,y1⟩:=lY.bZ (i:=1) rfl;obtain⟨r2,y2⟩:=lY.bZ (i:=2) rfl;obtain⟨r3,y3⟩:=lY.bZ (i:=3) rfl;go_wp2_with fail;obtain⟨⟨Wf,hWf,f0,f1,f2,f3⟩,kV,oJ,kZ⟩:=lY.QU HR10 (O 4) (O 0) (A nn) (Y av ll.length cv);unfold qE at hWf kV oJ kZ;rw[<-hWf]at kV oJ kZ ⊢;clear hWf u0 u1 u2 u3 z0 z1 z2 z3 r0 r1 r2 r3 y0 y1 y2 y3;refine bW (v:=.agg #[O 4,O 0,A nn,(Y av ll.length cv)]) (by simp[results,results242,go_sem,f0,f1,f2,f3]) rfl ?_;refine⟨_,_,_,_,rfl,?_,?_,kV⟩;·rw[vg];exact gQ.mk (QT.sub kZ) NW ⟨by decide,by decide⟩ ⟨by decide,by decide⟩
   ·rw[vg];exact oJ
  ·rw[qb hc,aJ cZ]at vg;have bc:=nX hc;go_wp2_with fail;refine(lW _ p ws ps _ _ HR2).mono ?_;rintro e w4 ⟨rfl,h4,hb4⟩;obtain⟨Aa,HR4⟩:=bT (HL2.step hb4) h4;clear hb4 h4;go_wp2_with fail;refine(jd _ p ws ps d _ HR4 aV).mono ?_;rintro e w10 ⟨rfl,h10,sW⟩;obtain⟨lY,HR10⟩:=bT (Aa.step sW) h10;have QT:Hid (wO (only (λb=>decide (w.heap.size+2<=b)) w10) (k+1) (J) []):=I ((NV (only (λb=>decide (w.heap.size+2<=b)) w4) (k+1)).sub (sW.sub (gN (by have:=lY.xS;omega))));clear h10 sW;obtain⟨u0,z0⟩:=lY.cell (i:=0) rfl;obtain⟨u1,z1⟩:=lY.cell (i:=1) rfl;obtain⟨u2,z2⟩:=lY.cell (i:=2) rfl;obtain⟨u3,z3⟩:=lY.cell (i:=3) rfl;obtain⟨r0,y0⟩:=lY.bZ (i:=0) rfl;obtain⟨r1,y1⟩:=lY.bZ (i:=1) rfl;obtain⟨r2,y2⟩:=lY.bZ (i:=2) rfl;obtain⟨r3,y3⟩:=lY.bZ (i:=3) rfl;go_wp2_with fail;obtain⟨⟨Wf,hWf,f0,f1,f2,f3⟩,kV,oJ,kZ⟩:=lY.QU HR10 (O 0) (O 0) (A ⟨#[]⟩) (J);unfold qE at hWf kV oJ kZ;rw[<-hWf]at kV oJ kZ ⊢;clear hWf u0 u1 u2 u3 z0 z1 z2 z3 r0 r1 r2 r3 y0 y1 y2 y3;refine bW (v:=.agg #[O 0,O 0,A ⟨#[]⟩,(J)]) (by simp[results,results242,go_sem,f0,f1,f2,f3]) rfl ?_;refine⟨_,_,_,_,rfl,?_,?_,kV⟩;·rw[vg];exact gQ.mk (QT.sub kZ) (bI _) ⟨by decide,by decide⟩ ⟨by decide,by decide⟩
   ·rw[vg];exact oJ
 ·rw[aL rfl]at vg;obtain⟨u0,z0⟩:=HL2.cell (i:=0) rfl;obtain⟨xU,HR3⟩:=bT (HL2.set 0 (O 3)) (HL2.rd HR2 0 (O 3));go_wp2_with fail;clear u0 z0;refine(iJ _ p ws ps _ _ HR3).mono ?_;rintro e w4 ⟨rfl,h4,hb4⟩;rw[<-HXE];obtain⟨Aa,HR4⟩:=bT (xU.step hb4) h4;obtain⟨u2,z2⟩:=Aa.cell (i:=2) rfl;have zI:Hid (Loc w p (w4.setCell (X (w.heap.size+1) 2) (A x)) 107 #[O 0,O 0,A ⟨#[]⟩,J] #[O 3,O 0,A x,J]):=I (Aa.set 2 (A x));have vZ:=I (Aa.rd HR4 2 (A x));clear hb4 h4;go_upto_region 8 with fail;clear u2 z2;generalize w4.setCell (X (w.heap.size+1) 2) (A x)=W5 at *;obtain⟨u3,z3⟩:=zI.cell (i:=3) rfl;have wW:Hid (Rd.Ok k (Rd.tk s1)):=I (jl.le (gV _).1);have HD5:Hid (AV (d+1) (Rd.tk s1)):=I (HD1.le (gV _).1);have HO5:Hid (fO (Ze (k+1)) W5 (w.heap.size+2) 107 4 (J) []):=I (fO.nil _ _ _ _);obtain⟨rc5,hrc5⟩:=vZ.block;have HRB5:=I hrc5;clear hrc5;go_cut []from 18 to 24 (λwx=>∃v,Loc w p wx 107 #[O 0,O 0,A ⟨#[]⟩,J] #[O 3,O 0,A x,v]/\fO (Ze (k+1)) wx (w.heap.size+2) 107 4 v [(pE k (d+1) (Rd.tk s1)).1]/\dA wx p ws ps (d+1) (pE k (d+1) (Rd.tk s1)).2);case first=>
   go_region_law (first
    | (go_simp;go_at_call 201;refine(IH _ p ws ps (d+1) _ (by repeat(first|exact vZ|apply dA.rW)) wW HD5).mono ?_;rintro e w6 ⟨c0,c1,c2,c3,rfl,hx6,Xq,hb6⟩;have xQ:=I ((by repeat(first|exact zI|apply Loc.rW):Loc w p _ 107 _ _).step hb6);obtain⟨u36,z36⟩:=xQ.cell (i:=3) rfl;obtain⟨ax,cx,rfl,rfl,rfl,rfl⟩:=hx6.shape;have NY:=I hx6;have mG:=I Xq;have eF:Hid (But p W5 w6):=I ((by repeat(first|exact But.refl _ _|apply But.rW):But p W5 _).trans hb6);have BO:=I (HO5.but (kI _) HRB5 bP (by have:=xQ.xS;omega) eF);have zG:w.heap.size+1<w6.heap.size:=(by have:=xQ.size;omega);clear hx6 Xq hb6;dsimp only)
    | (refine zZ (kI _) dH _ _ 105 107 4 56 _ dH underlying105 NS bP bP bP (w.heap.size+2) _ _ dH (BO.below (kI _) (aH _ _)) _ _ (pE k (d+1) (Rd.tk s1)).1 dH (NT _ _ _ _ _ _) rfl NY.one (kI _ _ _ _ _ ((NQ (w0:=W5) zI.size (λk hk=>(HO5.lt k hk).2)).trans (jZ _ _ _)) ⟨_,_,_,_,rfl,NY⟩) cZ (by have:=xQ.size;simp;omega) ?_;intro g cap w7 iY dK;have BP:=I iY;have Gh:=I ((xQ.alloc _).grown dK (λk hk=>(BO.lt k hk).1));have zJ:=I ((mG.below (aH _ _)).grown dK (λk hk=>by have:=(BO.lt k hk).1;have:=xQ.xS;omega));obtain⟨u37,z37⟩:=Gh.cell (i:=3) rfl;clear iY dK)
    | fail)
   all_goals go_wp2_with fail;go_meet;case rel=>exact⟨_,Gh.set 3 _,BP.jV (kI _) cZ _,Gh.rd zJ 3 _⟩
  case rest=>
   obtain⟨v8,hL8,hO8,IJ⟩:=hcut;clear u3 z3;obtain⟨lJ,HO8,Ab⟩:=fq hL8 hO8 IJ;have T9:Hid (Rd.Ok k (pE k (d+1) (Rd.tk s1)).2):=I (wW.le (lG _ _ _).1);have HD8:Hid (AV (d+1) (pE k (d+1) (Rd.tk s1)).2):=I (HD5.le (lG _ _ _).1);obtain⟨u3,z3⟩:=lJ.cell (i:=3) rfl;obtain⟨rc8,IK⟩:=Ab.block;have HRB8:=I IK;clear IK hL8 hO8 IJ;go_upto_region 9 with fail
   go_region_law (first
    | (go_simp;go_at_call 201;refine(IH _ p ws ps (d+1) _ (by repeat(first|exact Ab|apply dA.rW)) T9 HD8).mono ?_;rintro e w6 ⟨c0,c1,c2,c3,rfl,hx6,Xq,hb6⟩;have xQ:=I ((by repeat(first|exact lJ|apply Loc.rW):Loc w p _ 107 _ _).step hb6);obtain⟨u36,z36⟩:=xQ.cell (i:=3) rfl;obtain⟨ax,cx,rfl,rfl,rfl,rfl⟩:=hx6.shape;have NY:=I hx6;have mG:=I Xq;have eF:Hid (But p wc w6):=I ((by repeat(first|exact But.refl _ _|apply But.rW):But p wc _).trans hb6);have BO:=I (HO8.but (kI _) HRB8 bP (by have:=xQ.xS;omega) eF);have zG:w.heap.size+1<w6.heap.size:=(by have:=xQ.size;omega);clear hx6 Xq hb6;dsimp only)
    | (refine zZ (kI _) dH _ _ 105 107 4 56 _ dH underlying105 NS bP bP bP (w.heap.size+2) _ _ dH (BO.below (kI _) (aH _ _)) _ _ (pE k (d+1) (pE k (d+1) (Rd.tk s1)).2).1 dH (NT _ _ _ _ _ _) rfl NY.one (kI _ _ _ _ _ ((NQ (w0:=wc) lJ.size (λk hk=>(HO8.lt k hk).2)).trans (jZ _ _ _)) ⟨_,_,_,_,rfl,NY⟩) cZ (by have:=xQ.size;simp;omega) ?_;intro g cap w7 iY dK;have BP:=I iY;have Gh:=I ((xQ.alloc _).grown dK (λk hk=>(BO.lt k hk).1));have zJ:=I ((mG.below (aH _ _)).grown dK (λk hk=>by have:=(BO.lt k hk).1;have:=xQ.xS;omega));obtain⟨u37,z37⟩:=Gh.cell (i:=3) rfl;clear iY dK)
    | fail)
   all_goals
    obtain⟨Mc,HO9,kQ⟩:=fq (Gh.set 3 (Y (some (X g 0)) 2 cap)) (BP.jV (kI _) (a:=(X (w.heap.size+1) 3)) cZ (Y (some (X g 0)) 2 cap)) (Gh.rd zJ 3 (Y (some (X g 0)) 2 cap));clear u37 z37 u36 z36 zG u3 z3;go_wp2_with fail;refine(jd _ p ws ps d _ kQ aV).mono ?_;rintro e w10 ⟨rfl,h10,sW⟩;have lY:=I (Mc.step sW);obtain⟨rc9,hrc9⟩:=kQ.block;obtain⟨HO10,HR10⟩:=bT (HO9.but (kI _) hrc9 bP (by have:=lY.xS;omega) sW) h10;have QT:=I (HO10.exsN cZ);clear h10 sW hrc9;obtain⟨u0,z0⟩:=lY.cell (i:=0) rfl;obtain⟨u1,z1⟩:=lY.cell (i:=1) rfl;obtain⟨u2,z2⟩:=lY.cell (i:=2) rfl;obtain⟨u3,z3⟩:=lY.cell (i:=3) rfl;obtain⟨r0,y0⟩:=lY.bZ (i:=0) rfl;obtain⟨r1,y1⟩:=lY.bZ (i:=1) rfl;obtain⟨r2,y2⟩:=lY.bZ (i:=2) rfl;obtain⟨r3,y3⟩:=lY.bZ (i:=3) rfl;go_wp2_with fail;obtain⟨⟨Wf,hWf,f0,f1,f2,f3⟩,kV,oJ,kZ⟩:=lY.QU HR10 (O 3) (O 0) (A x) (Y (some (X g 0)) 2 cap);unfold qE at hWf kV oJ kZ;rw[<-hWf]at kV oJ kZ ⊢;clear hWf u0 u1 u2 u3 z0 z1 z2 z3 r0 r1 r2 r3 y0 y1 y2 y3;refine bW (v:=.agg #[O 3,O 0,A x,Y (some (X g 0)) 2 cap]) (by simp[results,results242,go_sem,f0,f1,f2,f3]) rfl ?_;refine⟨_,_,_,_,rfl,?_,?_,kV⟩;·rw[vg];have:=gQ.mk (kd:=3) (n:=0) (QT.sub kZ) (HX x rfl) ⟨by decide,by decide⟩ ⟨by decide,by decide⟩;unfold opE;rw[<-HXE];exact this
    ·rw[vg];exact oJ
structure UG(w:World)(p:Nat)(W:World)(T:TypeId)(r:Array Value):Prop where
 res:W.heap[w.heap.size]?=some (.cells r T (0,0))
 but:But p w W
 size:w.heap.size+1<=W.heap.size
 xS:p<w.heap.size
theorem UG.start(w:World)(p:Nat)(T:TypeId)(r:Array Value)(hp:p<w.heap.size):UG w p (w.alloc (.cells r T (0,0))) T r:=
 ⟨bD w _,But.of_below (aH _ _),by simp,hp⟩
theorem UG.step(h:UG w p W T r)(hb:But p W W'):UG w p W' T r:=
 ⟨hb.at (by have:=h.xS;omega) h.res,h.but.trans hb,bH h.size hb.size,h.xS⟩
theorem UG.cell(h:UG w p W T r)(hv:r[i]?=some v):W.cell? (X w.heap.size i)=some v/\W.frozen? (X w.heap.size i)=false:=⟨(aj h.res i).trans hv,aG h.res i⟩
theorem UG.qd(h:UG w p W T r)(i:Nat)(v:Value):UG w p (W.setCell (X w.heap.size i) v) T (r.setIfInBounds i v):=
 ⟨aP h.res i v,h.but.set (aT cZ) v,by simp only[World.setCell,DY];exact h.size,h.xS⟩
theorem UG.rd{st:Sr}(h:UG w p W T r)(hR:dA W p ws ps d st)(i:Nat)(v:Value):dA (W.setCell (X w.heap.size i) v) p ws ps d st:=hR.set (by have:=h.xS;simp;omega) v
theorem UG.QU{st:Sr}(h:UG w p W T #[r0,r1,r2,r3])(hR:dA W p ws ps d st)(c0 c1 c2 c3:Value):(∃Wf,Wf=qE W w.heap.size c0 c1 c2 c3/\Wf.cell? (X w.heap.size 0)=some c0/\Wf.cell? (X w.heap.size 1)=some c1/\Wf.cell? (X w.heap.size 2)=some c2/\Wf.cell? (X w.heap.size 3)=some c3)/\But p w (qE W w.heap.size c0 c1 c2 c3)/\dA (qE W w.heap.size c0 c1 c2 c3) p ws ps d st/\Sub (only (λb=>decide (w.heap.size+1<=b)) W) (fr w (qE W w.heap.size c0 c1 c2 c3)):=by have h0:=h.qd 0 c0;have h1:=h0.qd 1 c1;have h2:=h1.qd 2 c2;have h3:=h2.qd 3 c3;refine⟨⟨_,rfl,(h3.cell (i:=0) rfl).1,(h3.cell (i:=1) rfl).1,(h3.cell (i:=2) rfl).1,(h3.cell (i:=3) rfl).1⟩,h3.but,h2.rd (h1.rd (h0.rd (h.rd hR 0 c0) 1 c1) 2 c2) 3 c3,λa v hv=>?_⟩;obtain⟨k1,k2⟩:=bM.1 hv;have hle:=iQ k1;refine bM.2 ⟨fQ aV,?_⟩;unfold qE;rw[jL (uE _ _ _ _ (by simp only;omega)),jL (uE _ _ _ _ (by simp only;omega)),jL (uE _ _ _ _ (by simp only;omega)),jL (uE _ _ _ _ (by simp only;omega))];exact k2
theorem Xr(k:Nat)(hC:∀(w:World) (p:Nat) (ws:List aZ) (ps:List Int) (d:Nat) (st:Sr),dA w p ws ps d st->Rd.Ok k st->AV d st->d<=20->Rd.is (Rd.pk st) [40]=true->Calls prog 242 #[jk p] w λe w'=>∃c0 c1 c2 c3,e=cO (.agg #[c0,c1,c2,c3])/\gQ (fr w w') (k+1) c0 c1 c2 c3 (pE k d st).1/\dA w' p ws ps d (pE k d st).2/\But p w w')(hE:∀d st,Rd.is (Rd.pk st) [40]=false->Rd.Ok k st->pE k d st=if YT (Rd.pk st)then nuE st else Rd.nO st):Xp k:=by
 intro w p ws ps d st h hk hd;obtain⟨HC,HE,UE,kY⟩:=mg hC (hE d st) (UG.start w p 107 #[O 0,O 0,A ⟨#[]⟩,J] h.lt) (h.below (aH w (aY #[O 0,O 0,A ⟨#[]⟩,J] 107)));clear hC hE;go_enter func201,ntmps201;go_wp2_with fail;generalize (w.alloc (aY #[O 0,O 0,A ⟨#[]⟩,J] 107))=W0 at *;refine(gX W0 p ws ps d st kY).mono ?_;rintro e w1 ⟨rfl,h1,hb1⟩;obtain⟨rU,HR1⟩:=bT (UE.step hb1) h1;have hxs:(Rd.pk st).size<=4096:=GY h1 0;clear hb1 h h1;obtain⟨x,hx⟩:=bC (Rd.pk st);have HXE:=I hx;rw[<-hx]at HE hxs ⊢;clear hx;by_cases h0:x.toList=[40]
 ·have hp:Rd.is (Rd.pk st) [40]=true:=by rw[<-HXE];exact p9 h0
  have hf:st.f=false:=WV (n:=0) hp cZ;have zH:d<=20:=by
   rcases hd.2 with e|e;·rw[hf]at e;cases e
   ·exact e
  go_wp2_with fail;refine(HC _ p ws ps d st HR1 hk hd zH hp).mono ?_;rintro e w2 ⟨c0,c1,c2,c3,rfl,hx2,hR2,hb2⟩;have HS2:=I (rU.step hb2);obtain⟨ax,cx,rfl,rfl,rfl,rfl⟩:=hx2.shape;obtain⟨HX2,HR2⟩:=bT (hx2.sub (eX rU.size)) hR2;clear hx2 hR2 hb2;obtain⟨r0,y0⟩:=HS2.cell (i:=0) rfl;obtain⟨r1,y1⟩:=HS2.cell (i:=1) rfl;obtain⟨r2,y2⟩:=HS2.cell (i:=2) rfl;obtain⟨r3,y3⟩:=HS2.cell (i:=3) rfl;go_wp2_with fail;obtain⟨⟨Wf,hWf,f0,f1,f2,f3⟩,kV,oJ,kZ⟩:=HS2.QU HR2 (O (pE k d st).1.kind) (O (pE k d st).1.n) (A (pE k d st).1.name) (Y ax (pE k d st).1.args.length cx);unfold qE at hWf kV oJ kZ;rw[<-hWf]at kV oJ kZ ⊢;clear hWf r0 r1 r2 r3 y0 y1 y2 y3;refine bW (v:=.agg #[O (pE k d st).1.kind,O (pE k d st).1.n,A (pE k d st).1.name,Y ax (pE k d st).1.args.length cx]) (by simp[results,results201,go_sem,f0,f1,f2,f3]) rfl ?_;exact⟨_,_,_,_,rfl,HX2.sub kZ,oJ,kV⟩
 ·have b0:=nX h0;have Ua:=I (HE (qb h0) hk);go_wp2_with fail;refine(NH _ x (by unfold maxLen;omega)).mono ?_;rintro e w2 ⟨rfl,hw2⟩;subst hw2;obtain⟨b,hb⟩:=bC (YT x);rw[<-hb]at Ua ⊢;clear hb;cases b
  ·rw[aJ cZ]at Ua;go_wp2_with fail;refine(kH _ p ws ps d st HR1).mono ?_;rintro e w3 ⟨rfl,hR3,hb3⟩;obtain⟨NW,HS2,HR2⟩:=fq (pG HR1) (rU.step hb3) hR3;have Zf:Hid (pE k d st=(⟨2,0,(Rd.gJ st).1,[]⟩,(Rd.gJ st).2)):=Ua;clear hR3 hb3;obtain⟨r0,y0⟩:=HS2.cell (i:=0) rfl;obtain⟨r1,y1⟩:=HS2.cell (i:=1) rfl;obtain⟨r2,y2⟩:=HS2.cell (i:=2) rfl;obtain⟨r3,y3⟩:=HS2.cell (i:=3) rfl;generalize Rd.gJ st=nm at *;obtain⟨nn,s3⟩:=nm;simp only at NW HR2 Zf ⊢;go_wp2_with fail;obtain⟨⟨Wf,hWf,f0,f1,f2,f3⟩,kV,oJ,kZ⟩:=HS2.QU HR2 (O 2) (O 0) (A nn) (J);unfold qE at hWf kV oJ kZ;rw[<-hWf]at kV oJ kZ ⊢;clear hWf r0 r1 r2 r3 y0 y1 y2 y3;refine bW (v:=.agg #[O 2,O 0,A nn,J]) (by simp[results,results201,go_sem,f0,f1,f2,f3]) rfl ?_;refine⟨_,_,_,_,rfl,?_,?_,kV⟩;·rw[Zf];exact gQ.mk (NV _ _) NW ⟨by decide,by decide⟩ ⟨by decide,by decide⟩
   ·rw[Zf];exact oJ
  ·rw[aL rfl]at Ua;go_wp2_with fail;refine(QO _ p ws ps d st HR1).mono ?_;rintro e w3 ⟨rfl,hR3,hb3⟩;have NW:Hid (LP (Aw (Rd.pk (Rd.nu st)))):=I (by
    refine numV_i64 _ ?_;unfold Rd.nu;split;·exact bI _
    ·rename_i hbad;unfold YU at hbad;simp only[Iw,iA,not_or]at hbad;omega)
   obtain⟨HS2,HR2⟩:=bT (rU.step hb3) hR3;have Zf:Hid (pE k d st=(⟨1,Aw (Rd.pk (Rd.nu st)),⟨#[]⟩,[]⟩,Rd.tk (Rd.nu st))):=Ua;clear hR3 hb3;obtain⟨r0,y0⟩:=HS2.cell (i:=0) rfl;obtain⟨r1,y1⟩:=HS2.cell (i:=1) rfl;obtain⟨r2,y2⟩:=HS2.cell (i:=2) rfl;obtain⟨r3,y3⟩:=HS2.cell (i:=3) rfl;generalize Aw (Rd.pk (Rd.nu st))=nn at *;go_wp2_with fail;obtain⟨⟨Wf,hWf,f0,f1,f2,f3⟩,kV,oJ,kZ⟩:=HS2.QU HR2 (O 1) (O nn) (A ⟨#[]⟩) (J);unfold qE at hWf kV oJ kZ;rw[<-hWf]at kV oJ kZ ⊢;clear hWf r0 r1 r2 r3 y0 y1 y2 y3;refine bW (v:=.agg #[O 1,O nn,A ⟨#[]⟩,J]) (by simp[results,results201,go_sem,f0,f1,f2,f3]) rfl ?_;refine⟨_,_,_,_,rfl,?_,?_,kV⟩;·rw[Zf];exact gQ.mk (NV _ _) (bI _) ⟨by decide,by decide⟩ NW
   ·rw[Zf];exact oJ
theorem oK:∀k,Xp k
 | 0=>by
  refine Xr 0 (λw p ws ps d st h hk hd zH hp=>?_) (λd st h hk=>?_)
  ·have hf:=WV (n:=0) hp cZ;rcases hk with e|e;·rw[hf]at e;cases e
   ·omega
  ·have hf:st.f=true:=by
    rcases hk with e|e;·exact e
    ·omega
   have e1:Rd.pk st=⟨#[]⟩:=DW hf 0;rw[e1];rfl
 | k+1=>by
  refine Xr (k+1) (λw p ws ps d st h hk hd zH hp=>?_) (λd st h hk=>?_)
  ·have e:pE (k+1) d st=Rd.cE (pE k (d+1)) k d st:=by simp only[pE];rw[aL hp]
   rw[e];exact QV k (oK k) w p ws ps d st h hk hd zH
  ·simp only[pE];rw[aJ (by rw[h];simp)]
def Xt(m:Nat)(w:World)(c:List Value)(s:St):Prop:=
 ∃e0 e1 e2 e3 va vb,c=[.int .i64 s.kind,.string s.name,e0,e1,e2,e3,va,vb]/\LP s.kind/\s.name.size<=maxLen/\gQ w m e0 e1 e2 e3 s.e/\eU w m va s.a/\eU w m vb s.b
theorem nI(m:Nat):Gb (Xt m):=λ_ _ _ _ hs h=>by obtain⟨e0,e1,e2,e3,va,vb,e,h1,h2,h3,h4,h5⟩:=h;exact⟨e0,e1,e2,e3,va,vb,e,h1,h2,h3.sub hs,h4.sub hs,h5.sub hs⟩
theorem Xt.shape(h:Xt m w c s):∃ax cx aa ca ab cb,c=[O s.kind,A s.name,O s.e.kind,O s.e.n,A s.e.name,Y ax s.e.args.length cx,Y aa s.a.length ca,Y ab s.b.length cb]:=by obtain⟨e0,e1,e2,e3,va,vb,rfl,_,_,h3,h4,h5⟩:=h;obtain⟨ax,cx,rfl,rfl,rfl,rfl⟩:=h3.shape;obtain⟨aa,ca,rfl,_⟩:=h4.shape;obtain⟨ab,cb,rfl,_⟩:=h5.shape;exact⟨ax,cx,aa,ca,ab,cb,rfl⟩
theorem Xt.one(h:Xt m w c s):∀u∈c,u.oneCell'=true:=by obtain⟨ax,cx,aa,ca,ab,cb,rfl⟩:=h.shape;intro u hu;simp at hu;rcases hu with rfl|rfl|rfl|rfl|rfl|rfl|rfl|rfl<;>rfl
theorem infoSt:(prog.info? 164).map (λi=>(i.zero,i.size,i.bytes))=some (some (.agg #[O 0,A ⟨#[]⟩,O 0,O 0,A ⟨#[]⟩,J,J,J]),8,128):=by kernel_rfl
theorem cells8(w:World)(c0 c1 c2 c3 c4 c5 c6 c7:Value)(t:TypeId):∀(j:Nat) u,[c0,c1,c2,c3,c4,c5,c6,c7][j]?=some u->(w.alloc (.cells #[c0,c1,c2,c3,c4,c5,c6,c7] t)).cell? (X w.heap.size j)=some u:=by intro j u hu;rw[aj (bD w (.cells #[c0,c1,c2,c3,c4,c5,c6,c7] t))];simpa using hu
theorem tJ(W:World)(m:Nat):eU W (m+1) (J) []:=⟨none,0,0,0,rfl,λh=>aN h cZ,by simp,λi y hy=>by simp at hy⟩
theorem fO.sts{l:List St}(h:fO (Xt m) w' n 164 8 v l)(hl:l.length<=9223372036854775807):eU (only (λb=>decide (n<=b)) w') (m+1) v l:=by
 rcases h.shape with⟨rfl,rfl⟩|⟨g,cap,rfl,_,hg,_⟩;·exact tJ _ _
 ·refine⟨_,g,0,cap,rfl,λ_=>rfl,hl,λi y hy=>?_⟩;obtain⟨c,hc,hcell,_,e0,e1,e2,e3,va,vb,rfl,k1,k2,hx,ha,hb⟩:=h.cell hy;have hs:∀j (hj:j<8),(only (λb=>decide (n<=b)) w').cell? (X g (0+i*8+j))=some ([O y.kind,A y.name,e0,e1,e2,e3,va,vb][j]):=λj hj=>by refine bM.2 ⟨fQ hg,?_⟩;rw[eu,hcell j hj];exact bg (by simpa using hj)
  have hsub:Sub (only (λb=>decide (n<=b)&&decide (some g≠some b)) w') (only (λb=>decide (n<=b)) w'):=λa u hu=>by obtain⟨b1,b2⟩:=bM.1 hu;exact bM.2 ⟨(lU.1 b1).1,b2⟩
  exact⟨k1,k2,e0,e1,e2,e3,va,vb,hs 0 bP,hs 1 bP,hs 2 bP,hs 3 bP,hs 4 bP,hs 5 bP,hs 6 bP,hs 7 bP,hx.sub hsub,ha.sub hsub,hb.sub hsub⟩
def QW(K k:Nat):Prop:=∀(w:World) (p:Nat) (ws:List aZ) (ps:List Int) (d:Nat) (st:Sr),dA w p ws ps d st->Rd.Ok k st->Rd.Ok K st->AV d st->KC st=true->
 Calls prog 241 #[.pointer (some ⟨p,0,none⟩)] w λe w'=>∃c0 c1 c2 c3 c4 c5 c6 c7,e=.returned (.agg #[c0,c1,c2,c3,c4,c5,c6,c7])/\Xt (K+1+k) (fr w w') [c0,c1,c2,c3,c4,c5,c6,c7] (Rd.pS K k d st).1/\dA w' p ws ps d (Rd.pS K k d st).2/\But p w w'
theorem IL(K k:Nat)(ih:QW K k)(w:World)(p:Nat)(ws:List ByteArray)(ps:List Int)(d:Nat)(st:Sr)(h:dA w p ws ps d st)(hk:Rd.Ok k st)(hK:Rd.Ok K st)(hd:AV d st)(hd2:d<=29)(n:Nat)(hn:Rd.Ok n st):Calls prog 270 #[.pointer (some ⟨p,0,none⟩)] w λe w'=>∃v,e=.returned v/\eU (fr w w') (K+1+k+1) v (Rd.blk (Rd.pS K k (d+1)) n d st).1/\dA w' p ws ps d (Rd.blk (Rd.pS K k (d+1)) n d st).2/\But p w w':=by
 have IH:=I ih;have Cw:=I h.lt;have Eb:Hid (Rd.blk (Rd.pS K k (d+1)) n d st=((Rd.loop KC (Rd.pS K k (d+1)) n (Rd.op d st)).1,Rd.sh (Rd.loop KC (Rd.pS K k (d+1)) n (Rd.op d st)).2)):=rfl;have hlen:(Rd.op d st).r.length<=4096:=Nat.le_trans (jv d st).1.2 (Nat.le_trans h.suffix.length_le h.len);have hk1:=hk.le (jv d st).1;have hK1:=hK.le (jv d st).1;have hn1:=hn.le (jv d st).1;have hd1:=hd.op hd2;clear ih hk hK hn hd;go_enter func270,ntmps270;go_wp2_with fail;refine(lX w p ws ps d st h (by omega)).mono ?_;rintro e w0 ⟨rfl,h0,hb0⟩;clear h;generalize Rd.op d st=s1 at *;go_wp2;go_loopw[3] (λv wr=>∃(acc:List St) (st':Sr) (n':Nat),Rd.loop KC (Rd.pS K k (d+1)) n s1=(acc++(Rd.loop KC (Rd.pS K k (d+1)) n' st').1,(Rd.loop KC (Rd.pS K k (d+1)) n' st').2)/\Rd.Ok n' st'/\Rd.Ok k st'/\Rd.Ok K st'/\AV (d+1) st'/\(acc.length<=4097/\(st'.f=true\/acc.length+st'.r.length<=4096))/\fO (Xt (K+1+k)) wr w.heap.size 164 8 v acc/\dA wr p ws ps (d+1) st'/\But p w wr) (λ_ wr=>meas ws.length p wr);case atStart=>exact⟨[],s1,n,rfl,hn1,hk1,hK1,hd1,⟨by simp,Or.inr (by simpa using hlen)⟩,fO.nil _ _ _ _,h0,hb0⟩
 case round=>
  clear h0 hb0 hk1 hK1 hn1 hd1 hlen;obtain⟨acc,st',n',hL,hnk,hk',hK',hd',⟨hacc,hacc'⟩,hown,hR,hnx⟩:=hrel;have HL:=I hL;have HOW:=I hown;have HRr:=I hR;have dM:=I hnx;obtain⟨rc,hrc⟩:=hR.block;have kY:=I (And.intro hrc Cw.out);clear hL hown hnx hrc;go_wp2_with fail;refine(gX _ p ws ps (d+1) st' hR).mono ?_;rintro e w1 ⟨rfl,h1,hb1⟩;have HR1:=I h1;have HB1:=I hb1;clear hR h1 hb1;by_cases h0:(Rd.pk st').toList=[40]
  ·have HC:Hid (KC st'=true):=I (p9 h0);have BQ:=HC;have hf':st'.f=false:=DX HC.out;obtain⟨n',rfl⟩:=hnk.pos hf';rw[hf']at hacc';have rV:acc.length+st'.r.length<=4096:=by simpa using hacc'
   clear hacc';go_wp2_with fail;refine(IH.out _ p ws ps (d+1) st' HR1.out hk' hK' hd' BQ.out).mono ?_;rintro e w5 ⟨c0,c1,c2,c3,c4,c5,c6,c7,rfl,hx,KJ,hb5⟩;have hown5:=HOW.out.but (nI _) kY.out.1 (by decide) (by have:=kY.out.2;omega) (HB1.out.trans hb5);have II:∀j,u3.ownBlock=some j->j<w1.heap.size:=λj hj=>Nat.lt_of_lt_of_le (HOW.out.lt j hj).2 HB1.out.size;have HAT:=I (nI _ _ _ _ _ (NR (w:=w) (w0:=w1) (w1:=w5) (v:=u3) (by have:=dM.out.size;have:=HB1.out.size;omega) II) hx);have NU:=I hx.one;obtain⟨ax,cx,aa,ca,ab,cb,hsh⟩:=hx.shape;simp only[List.cons.injEq,and_true]at hsh;obtain⟨rfl,rfl,rfl,rfl,rfl,rfl,rfl,rfl⟩:=hsh;have qR:=I hown5;have vZ:=I KJ;have dW:=I ((dM.out.trans HB1.out).trans hb5);have hsz5:=dW.out.size;have mU:Hid (Rd.Lt (Rd.pS K k (d+1) st').2 st'):=I (by obtain⟨j,rfl⟩:=hk'.pos hf';exact pS_lt _ _ _ _);clear hown5 II hx KJ hb5
   go_wp2_with (first
    | (at_builtin;refine kr (nI _) rfl _ _ 104 164 8 128 _ rfl underlying104 infoSt (by decide) (by decide) (by decide) w.heap.size _ _ rfl (qR.out.below (nI _) (aH _ _)) _ _ (Rd.pS K k (d+1) st').1 rfl (cells8 _ _ _ _ _ _ _ _ _ _) rfl NU.out (nI _ _ _ _ _ (jZ _ _ _) HAT.out) (by omega) (by simp;omega) ?_;intro g cap w6 hown6 eG;have oG:=I hown6;have mG:=I (((vZ.out.below (aH _ _))).grown eG (λj hj=>by have:=(qR.out.lt j hj).1;have:=Cw.out;omega));have eF:=I ((dW.out.alloc _).grown eG (λj hj=>(qR.out.lt j hj).1));clear hown6 eG)
    | fail)
   go_roundw;case rel=>exact⟨acc++[(Rd.pS K k (d+1) st').1],(Rd.pS K k (d+1) st').2,n',by rw[HL.out,ru HC.out];simp,hnk.lt mU.out,hk'.le mU.out.1,hK'.le mU.out.1,hd'.le mU.out.1,by
    rw[List.length_append,List.length_singleton];rcases mU.out.2 with e|e;·exact⟨by omega,Or.inl e⟩
    ·exact⟨by omega,Or.inr (by omega)⟩,oG.out,mG.out,eF.out⟩
   case measure=>exact ze HRr.out mG.out hf' mU.out
  ·have b0:=nX h0;have HC:Hid (KC st'=false):=I (qb h0);have TY:Hid (Rd.loop KC (Rd.pS K k (d+1)) n s1=(acc,st')):=I (by rw[HL.out,rz HC.out];simp);have Y8:=I (HOW.out.but (nI _) kY.out.1 (by decide) (by have:=kY.out.2;omega) HB1.out);go_wp2_with fail;refine(jd _ p ws ps d _ HR1.out (by omega)).mono ?_;rintro e w2 ⟨rfl,h2,hb2⟩;obtain⟨rc1,QX⟩:=HR1.out.block;have HE:=I (Y8.out.but (nI _) QX (by decide) (by have:=kY.out.2;omega) hb2);have QT:=I (HE.out.sts (by omega));clear QX;go_wp2;go_ret;exact⟨_,rfl,by rw[Eb.out,TY.out];exact QT.out,by rw[Eb.out,TY.out];exact h2,(dM.out.trans HB1.out).trans hb2⟩
theorem pbody_of(K k:Nat)(ih:QW K k)(w:World)(p:Nat)(ws:List ByteArray)(ps:List Int)(d:Nat)(st:Sr)(h:dA w p ws ps d st)(hk:Rd.Ok k st)(hK:Rd.Ok K st)(hd:AV d st)(n:Nat)(hn:Rd.Ok n st):Calls prog 200 #[.pointer (some ⟨p,0,none⟩)] w λe w'=>∃v,e=.returned v/\eU (fr w w') (K+1+k+1) v (Rd.loop kK (Rd.pS K k d) n st).1/\dA w' p ws ps d (Rd.loop kK (Rd.pS K k d) n st).2/\But p w w':=by
 have IH:=I ih;have Cw:=I h.lt;have hlen:st.r.length<=4096:=Nat.le_trans h.suffix.length_le h.len;clear ih;go_enter func200,ntmps200;go_wp2;go_loopw[3] (λv wr=>∃(acc:List St) (st':Sr) (n':Nat),Rd.loop kK (Rd.pS K k d) n st=(acc++(Rd.loop kK (Rd.pS K k d) n' st').1,(Rd.loop kK (Rd.pS K k d) n' st').2)/\Rd.Ok n' st'/\Rd.Ok k st'/\Rd.Ok K st'/\AV d st'/\(acc.length<=4097/\(st'.f=true\/acc.length+st'.r.length<=4096))/\fO (Xt (K+1+k)) wr w.heap.size 164 8 v acc/\dA wr p ws ps d st'/\But p w wr) (λ_ wr=>meas ws.length p wr);case atStart=>exact⟨[],st,n,rfl,hn,hk,hK,hd,⟨by simp,Or.inr (by simpa using hlen)⟩,fO.nil _ _ _ _,h,But.refl _ _⟩
 case round=>
  clear h hk hK hd hn hlen;obtain⟨acc,st',n',hL,hnk,hk',hK',hd',⟨hacc,hacc'⟩,hown,hR,hnx⟩:=hrel;have HL:=I hL;have HOW:=I hown;have HRr:=I hR;have dM:=I hnx;obtain⟨rc,hrc⟩:=hR.block;have kY:=I (And.intro hrc Cw.out);clear hL hown hnx hrc;go_wp2_with fail;refine(gX _ p ws ps d st' hR).mono ?_;rintro e w1 ⟨rfl,h1,hb1⟩;have HR1:=I h1;have HB1:=I hb1;clear hR h1 hb1;by_cases h0:(Rd.pk st').toList=[40]
  ·have BQ:Hid (KC st'=true):=I (p9 h0);go_wp2_with fail;refine(UD _ p ws ps d st' HR1.out).mono ?_;rintro e w2 ⟨rfl,h2,hb2⟩;have HR2:=I h2;have HB2:=I (HB1.out.trans hb2);clear h2 hb2;go_wp2_with fail;refine(KZ _ _).mono ?_;rintro e w3 ⟨rfl,hw3⟩;subst hw3;have HBC:Hid (kK st'=decide (Rd.cmd (Qt st' 1)≠0)):=I (by unfold kK;rw[p9 h0,Bool.true_and]);obtain⟨b,hb⟩:∃b,b=decide (Rd.cmd (Qt st' 1)≠0):=⟨_,rfl⟩;rw[<-hb]at HBC ⊢;clear hb;cases b;·have HC:=HBC;have HE:=I (HOW.out.but (nI _) kY.out.1 (by decide) (by have:=kY.out.2;omega) HB2.out);have QT:=I (HE.out.sts (by omega));have TY:Hid (Rd.loop kK (Rd.pS K k d) n st=(acc,st')):=I (by rw[HL.out,rz HC.out];simp);go_wp2;go_ret;exact⟨_,rfl,by rw[TY.out];exact QT.out,by rw[TY.out];exact HR2.out,dM.out.trans HB2.out⟩
   ·have HC:=HBC;have hf':st'.f=false:=DX BQ.out;obtain⟨n',rfl⟩:=hnk.pos hf';rw[hf']at hacc';have rV:acc.length+st'.r.length<=4096:=by simpa using hacc'
    clear hacc';go_wp2_with fail;refine(IH.out _ p ws ps d st' HR2.out hk' hK' hd' BQ.out).mono ?_;rintro e w5 ⟨c0,c1,c2,c3,c4,c5,c6,c7,rfl,hx,KJ,hb5⟩;have hown5:=HOW.out.but (nI _) kY.out.1 (by decide) (by have:=kY.out.2;omega) (HB2.out.trans hb5);have II:∀j,u3.ownBlock=some j->j<w3.heap.size:=λj hj=>Nat.lt_of_lt_of_le (HOW.out.lt j hj).2 HB2.out.size;have HAT:=I (nI _ _ _ _ _ (NR (w:=w) (w0:=w3) (w1:=w5) (v:=u3) (by have:=dM.out.size;have:=HB2.out.size;omega) II) hx);have NU:=I hx.one;obtain⟨ax,cx,aa,ca,ab,cb,hsh⟩:=hx.shape;simp only[List.cons.injEq,and_true]at hsh;obtain⟨rfl,rfl,rfl,rfl,rfl,rfl,rfl,rfl⟩:=hsh;have qR:=I hown5;have vZ:=I KJ;have dW:=I ((dM.out.trans HB2.out).trans hb5);have hsz5:=dW.out.size;have mU:Hid (Rd.Lt (Rd.pS K k d st').2 st'):=I (by obtain⟨j,rfl⟩:=hk'.pos hf';exact pS_lt _ _ _ _);clear hown5 II hx KJ hb5
    go_wp2_with (first
     | (at_builtin;refine kr (nI _) rfl _ _ 104 164 8 128 _ rfl underlying104 infoSt (by decide) (by decide) (by decide) w.heap.size _ _ rfl (qR.out.below (nI _) (aH _ _)) _ _ (Rd.pS K k d st').1 rfl (cells8 _ _ _ _ _ _ _ _ _ _) rfl NU.out (nI _ _ _ _ _ (jZ _ _ _) HAT.out) (by omega) (by simp;omega) ?_;intro g cap w6 hown6 eG;have oG:=I hown6;have mG:=I (((vZ.out.below (aH _ _))).grown eG (λj hj=>by have:=(qR.out.lt j hj).1;have:=Cw.out;omega));have eF:=I ((dW.out.alloc _).grown eG (λj hj=>(qR.out.lt j hj).1));clear hown6 eG)
     | fail)
    go_roundw;case rel=>exact⟨acc++[(Rd.pS K k d st').1],(Rd.pS K k d st').2,n',by rw[HL.out,ru HC.out];simp,hnk.lt mU.out,hk'.le mU.out.1,hK'.le mU.out.1,hd'.le mU.out.1,by
     rw[List.length_append,List.length_singleton];rcases mU.out.2 with e|e;·exact⟨by omega,Or.inl e⟩
     ·exact⟨by omega,Or.inr (by omega)⟩,oG.out,mG.out,eF.out⟩
    case measure=>exact ze HRr.out mG.out hf' mU.out
  ·have b0:=nX h0;have HC:Hid (kK st'=false):=I (by unfold kK;rw[qb h0];rfl);have HE:=I (HOW.out.but (nI _) kY.out.1 (by decide) (by have:=kY.out.2;omega) HB1.out);have QT:=I (HE.out.sts (by omega));have TY:Hid (Rd.loop kK (Rd.pS K k d) n st=(acc,st')):=I (by rw[HL.out,rz HC.out];simp);go_wp2;go_ret;exact⟨_,rfl,by rw[TY.out];exact QT.out,by rw[TY.out];exact HR1.out,dM.out.trans HB1.out⟩
end Go.Proofs.YtbgkpehhdibaoaaGreatDoor
