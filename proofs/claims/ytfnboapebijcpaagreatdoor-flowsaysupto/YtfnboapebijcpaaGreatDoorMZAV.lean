/- Walks over package flow: commands. -/
import Derived.Test.YtfnboapebijcpaaGreatDoorMZAT
set_option maxHeartbeats 16000000
set_option maxRecDepth 100000
namespace Go.Proofs.YtfnboapebijcpaaGreatDoor
open Fl Rn
open Go.Proofs.Tryz
open Go.RowKit Go.Maps Go.WideMaps
theorem jh{β:Type}{f:St->List β}{l:List St}{j:Nat}{s:St}(h:l[j]?=some s):(l.take (j+1)).flatMap f=(l.take j).flatMap f++f s:=by obtain⟨hj,rfl⟩:=dG.1 h;rw[lI hj,jD];simp
theorem wm{β:Type}{f:St->List β}(l:List St)(j:Nat):((l.take j).flatMap f).length<=(l.flatMap f).length:=by
 conv=>rhs;rw[<-kW j l]
 rw[jD,aP];omega
theorem IY(m:Nat)(ih:CmOk m):CmOk (m+1):=by
 intro w0 w b q nl dn bG sets ve cons sinks vc vs vp pc v l hP hB hh hpn hls hlc;have nL:=hide ih;have HP:=hide hP;obtain⟨a,ba,off,cap,rfl,ha0,hl63,hel⟩:=hP.2.2.1;obtain⟨ap,cp,rfl⟩:=bq.form hh;obtain⟨np,hnp⟩:=aG ((Fl.nums nl pc.1).length);have wM:=hide hnp;rw[<-hnp];obtain⟨na,hna⟩:=aG l.length;have kZ:=hide hna;rw[<-hna]at ha0 hl63 ⊢;have gF:=hide hel;have uF:=hide ha0;have dH:=hide (aB w (.cells #[.slice ap np cp,.int .i64 pc.2] 355));have iC:=hide (aJ w (.cells #[.slice ap np cp,.int .i64 pc.2] 355));have EU:=hide (hB.below dH);have GQ:=hide (fE.below hh dH);have HPN:=hide hpn;have mU:=hide hls;have HLC:=hide hlc;obtain⟨F,hF⟩:∃F:Nat->List Sk,F=λj=>(l.take j).flatMap λs=>q.c.Qn m s pc:=⟨_,rfl⟩;obtain⟨G,hG⟩:∃G:Nat->List Cn,G=λj=>(l.take j).flatMap λs=>q.c.OU m s pc:=⟨_,rfl⟩;have xY:Hid (q.c.wQ (m+1) l pc=l.flatMap λs=>q.c.Qn m s pc):=hide rfl;have D9:Hid (q.c.uP (m+1) l pc=l.flatMap λs=>q.c.OU m s pc):=hide rfl;have qZ:Hid (F 0=[]/\G 0=[]):=hide (by rw[hF,hG];exact⟨rfl,rfl⟩);have Qg:Hid (∀j s,l[j]?=some s->F (j+1)=F j++q.c.Qn m s pc/\G (j+1)=G j++q.c.OU m s pc):=hide (λj s hs=>by rw[hF,hG];exact⟨jh hs,jh hs⟩);have zC:Hid (∀j,(F j).length<=(q.c.wQ (m+1) l pc).length/\(G j).length<=(q.c.uP (m+1) l pc).length):=hide (λj=>by rw[hF,hG];exact⟨wm l j,wm l j⟩);have wR:Hid (F na=q.c.wQ (m+1) l pc/\G na=q.c.uP (m+1) l pc):=hide (by rw[hF,hG,kZ,xY,D9];simp only;rw[gG];exact⟨rfl,rfl⟩);clear hel ha0 hna ih hF hG hB hh hpn hls hlc hnp hP;go_enter func260,ntmps260;go_wp2_with fail;generalize w.alloc (.cells #[.slice ap np cp,.int .i64 pc.2] 355)=W at *;go_loopw[10] (λi wr=>∃(j:Nat) (VB vs':Value),j<=na/\i=.int .i64 j/\l7 w0 wr b q nl (cons++(G j).map (iI nl)) (sinks++(F j).map (dA nl)) VB vs'/\Kx w0.heap.size JV W wr) (λi _=>na - (intOf i).toNat);case atStart=>exact⟨0,_,_,bJ _,rfl,by rw[qZ.1,qZ.2,iK,bX,iK,bX];exact EU,Kx.refl _⟩
 case round=>
  obtain⟨j,VB,vs',hj,rfl,hbu,hkx⟩:=hrel;have Lr:=hide hbu;have IW:=hide hkx;have EN:=hide (hkx.box iC rfl);by_cases hjl:j<na
  ·obtain⟨s,hs⟩:∃s,l[j]?=some s:=⟨_,aU (by rw[<-kZ];exact hjl)⟩;obtain⟨-,-,e0,e1,e2,e3,va,vb,g0,g1,g2,g3,g4,g5,g6,g7,hxe,hxa,hxb⟩:=gF j s hs;have M6:=hide (HP.one (gD hs) hxe hxa hxb);obtain⟨ae,ce,rfl,rfl,rfl,rfl⟩:=hxe.shape;obtain⟨aa,ca,rfl,-⟩:=hxa.shape;obtain⟨ab,cb,rfl,-⟩:=hxb.shape;obtain rfl:=uF (by omega);replace g0:=aA g0 hbu.base;replace g1:=aA g1 hbu.base;replace g2:=aA g2 hbu.base;replace g3:=aA g3 hbu.base;replace g4:=aA g4 hbu.base;replace g5:=aA g5 hbu.base;replace g6:=aA g6 hbu.base;replace g7:=aA g7 hbu.base;have t0:=(aj EN 0).trans rfl;have t1:=(aj EN 1).trans rfl;have zp:w.heap.size<wr.heap.size:=block_lt EN;have RG:=hide (aB wr (.cells #[.int .i64 s.kind,.string s.name,.int .i64 s.e.kind,.int .i64 s.e.n,.string s.e.name,.slice ae s.e.args.length ce,.slice aa s.a.length ca,.slice ab s.b.length cb] 144));obtain⟨uO,Am⟩:=Qg j s hs;have HC:=hide (OV m nL w0 (wr.alloc (.cells #[.int .i64 s.kind,.string s.name,.int .i64 s.e.kind,.int .i64 s.e.n,.string s.e.name,.slice ae s.e.args.length ce,.slice aa s.a.length ca,.slice ab s.b.length cb] 144)) b q nl dn bG sets ve _ _ VB vs' _ pc s _ _ _ _ _ _ M6 (hbu.below RG) (fE.below (hkx.hgB GQ) RG) HPN (by
    have h1:=(zC (j+1)).1;rw[uO,aP]at h1;have h2:=mU.out;rw[aP,cB];omega) (by
    have h1:=(zC (j+1)).2;rw[Am,aP]at h1;have h2:=HLC.out;rw[aP,cB];omega))
   rw[<-wM]at HC;have bR:Hid (sinks++(F (j+1)).map (dA nl)=(sinks++(F j).map (dA nl))++(q.c.Qn m s pc).map (dA nl)/\cons++(G (j+1)).map (iI nl)=(cons++(G j).map (iI nl))++(q.c.OU m s pc).map (iI nl)):=hide (by rw[uO,Am,cZ,bE,cZ,bE];exact⟨rfl,rfl⟩);clear hbu hkx hxe hxa hxb hs uO Am;go_wp2_with fail;refine HC.mono ?_;rintro e w5 ⟨rfl,jr⟩;obtain⟨vc5,vs5,GU,Ls⟩:=jr.out;rw[<-bR.1,<-bR.2]at GU;have VD:=hide GU;have YZ:=hide (IW.trans ((Kx.of_below RG).trans Ls));clear jr GU Ls;go_wp2_with fail;go_roundw;case rel=>exact⟨j+1,_,_,by omega,by go_num,VD,YZ⟩
   case measure=>simp[intOf];omega
  ·obtain rfl:j=na:=by omega
   rw[wR.1,wR.2]at Lr;clear hbu hkx;go_wp2_with fail;go_end0;exact⟨rfl,hide ⟨_,_,Lr,(Kx.of_below dH).trans IW⟩⟩
theorem LM:∀m,CmOk m:=by
 intro m;induction m with
 | zero=>intro w0 w b q nl dn bG sets ve cons sinks vc vs vp pc v l hP;exact False.elim hP.2.2.1
 | succ m ih=>exact IY m ih
theorem shl1:∀j:Fin 5,IntKind.i64.wrap ((2:Int) ^ (j:Nat))=((2 ^ (j:Nat):Nat):Int):=by decide +kernel
theorem shl2:∀j:Fin 5,wrap64 ((2:Int) ^ (j:Nat))=((2 ^ (j:Nat):Nat):Int):=by decide +kernel
theorem yS{W:World}{B:Nat}{t:TypeId}{r0 r1 r2 r3 r4 r5 r6:Value}(h:W.heap[B]?=some (.cells #[r0,r1,r2,r3,r4,r5,r6] t (0,0)))(c0 c1 c2 c3 c4 c5 c6:Value):
  (((((((W.setCell ⟨B,0,none⟩ c0).setCell ⟨B,1,none⟩ c1).setCell ⟨B,2,none⟩ c2).setCell ⟨B,3,none⟩ c3).setCell ⟨B,4,none⟩ c4).setCell ⟨B,5,none⟩ c5).setCell ⟨B,6,none⟩ c6).heap[B]?=some (.cells #[c0,c1,c2,c3,c4,c5,c6] t (0,0)):=by

 have t0:(W.setCell ⟨B,0,none⟩ c0).heap[B]?=some (.cells #[c0,r1,r2,r3,r4,r5,r6] t (0,0)):=aQ h 0 c0
 have t1:((W.setCell ⟨B,0,none⟩ c0).setCell ⟨B,1,none⟩ c1).heap[B]?=some (.cells #[c0,c1,r2,r3,r4,r5,r6] t (0,0)):=aQ t0 1 c1
 have t2:=aQ t1 2 c2
 have t3:=aQ t2 3 c3
 have t4:=aQ t3 4 c4
 have t5:=aQ t4 5 c5
 have t6:=aQ t5 6 c6
 simpa using t6
theorem gP.old{α:Type}{At:World->List Value->α->Prop}{w:World}{n n' e k:Nat}{v:Value}{l:List α}(h:gP At w n e k v l)(hn:n'<=n):gP At w n' e k v l:=by
 obtain⟨cs,⟨h0,h1⟩,h2⟩:=h;refine⟨cs,⟨h0,?_⟩,h2⟩;rcases h1 with h1|⟨g,cap,cur,hv,hg,r⟩;·exact Or.inl h1
 ·exact Or.inr ⟨g,cap,cur,hv,bS hn hg,r⟩
def muP:Obj->Bool
 | .cells _ t _=>t==74
 | _=>false
structure FuPre(w:World)(q:Sp)(nl:List ByteArray)(dn:ByteArray->Option Value)(bG:Value)(sets:Int)(ve:Value)(m:Nat)(f:Fu)(vb e0 e1 e2 e3:Value):Prop where
 body:JW w q nl dn bG sets ve m vb f.body
 res:vU w q nl dn bG sets ve m e0 e1 e2 e3 f.result
 par:f.params.length<=4
theorem O5(m:Nat)(w:World)(q:Sp)(nl:List ByteArray)(dn:ByteArray->Option Value)(an:Option Addr)(nn cn:Nat)(sets:Int)(ae:Option Addr)(ne ce:Nat)(f:Fu)(vp vb e0 e1 e2 e3:Value)(hP:FuPre w q nl dn (.slice an nn cn) sets (.slice ae ne ce) m f vb e0 e1 e2 e3)(hpar:Strs w vp f.params)(hls:((q.c.wQ m f.body ([],q.c.low))++q.c.iX m f.result ([],q.c.low)).length<=16777216)(hlc:f.params.length+(q.c.uP m f.body ([],q.c.low)).length<=16777216):Calls prog 189 #[.pointer (some ⟨q.p,0,none⟩),.agg #[.string f.name,vp,vb,e0,e1,e2,e3]] w λe w'=>∃vc vs vf,e=.returned (.agg #[.slice an nn cn,vc,vs,vf,.int .i64 0,.int .i64 (q.c.hg m f.result).2,.slice ae ne ce])/\Hid (gP Qm w' w.heap.size 179 4 vc ((List.range f.params.length).map (qF q.c.low)++(q.c.uP m f.body ([],q.c.low)).map (iI nl))/\gP Uh w' w.heap.size 193 6 vs ((q.c.wQ m f.body ([],q.c.low)++q.c.iX m f.result ([],q.c.low)).map (dA nl))/\fE w' nl vf (q.c.hg m f.result)/\Below w.heap.size w w'):=by
 have HP:=hide hP;obtain⟨ap,bp,op,cp,rfl,-⟩:=hpar;obtain⟨ab,cb,rfl,-⟩:=hP.body.2.2.1.shape;obtain⟨ar,cr,rfl,rfl,rfl,rfl⟩:=hP.res.2.2.1.shape;obtain⟨W,hW,k0,k1,hsz,hBW⟩:=yN w (.cells #[.string f.name,.slice ap f.params.length cp,.slice ab f.body.length cb,.int .i64 f.result.kind,.int .i64 f.result.n,.string f.result.name,.slice ar f.result.args.length cr] 132) (.cells #[.slice none 0 0,.slice none 0 0,.slice none 0 0,.slice none 0 0,.int .i64 0,.int .i64 0,.slice none 0 0] 74);obtain⟨np,hnp⟩:=aG f.params.length;have wM:=hide hnp;have WJ:np<=4:=by rw[hnp];exact hP.par
 rw[<-hnp]at hlc k0 hW ⊢;have gB:=hide k0;have iC:=hide k1;have eO:=hide hBW;have mU:=hide hls;have HLC:=hide hlc;have Ud:=hide (hP.res.1.below hBW);have F7:=hide hsz;obtain⟨W1,hW1⟩:=aG (W.alloc (.cells #[.pointer (some ⟨q.p,0,none⟩),.slice none 0 0,.slice none 0 0] 353));have HB1:Hid (Below W.heap.size W W1):=hide (by rw[hW1];exact aB _ _);have HBU1:Hid (l7 W W1 W.heap.size q nl [] [] (.slice none 0 0) (.slice none 0 0)):=hide ⟨by rw[hW1];exact aJ _ _,bM _,gP.nil _ _ _ _,gP.nil _ _ _ _,HB1⟩;have HF1:=hide (aN k0 HB1);have q1:=(aj HF1 1).trans rfl;clear hP k0 k1 hBW hls hlc hnp hsz;rw[hW1]at q1;subst hW;go_enter func189,ntmps189;go_wp2_with fail;generalize (w.alloc (.cells #[.string f.name,.slice ap np cp,.slice ab f.body.length cb,.int .i64 f.result.kind,.int .i64 f.result.n,.string f.result.name,.slice ar f.result.args.length cr] 132)).alloc (.cells #[.slice none 0 0,.slice none 0 0,.slice none 0 0,.slice none 0 0,.int .i64 0,.int .i64 0,.slice none 0 0] 74)=W at *;rw[<-hW1];rw[<-F7];clear hW1 q1;go_loopw[15] (λi wr=>∃(j:Nat) (VB:Value),j<=np/\i=.int .i64 j/\l7 W wr W.heap.size q nl ((List.range j).map (qF q.c.low)) [] VB (.slice none 0 0)/\Kx W.heap.size JV W1 wr) (λi _=>np - (intOf i).toNat);case atStart=>exact⟨0,_,bJ _,rfl,HBU1,Kx.refl _⟩
 case round=>
  obtain⟨j,VB,hj,rfl,hbu,hkx⟩:=hrel;have Lr:=hide hbu;have IW:=hide hkx;by_cases hjl:j<np
  ·obtain⟨ak,ck,OT⟩:=hbu.cons.form;rw[cB,qE]at OT;subst OT;have HF:Hid (∀wx,Below wr.heap.size wr wx->wx.cell? ⟨W.heap.size,1,none⟩=some (.slice ak j ck)/\wx.cell? ⟨q.p,2,none⟩=some (.int .i64 q.c.low)):=hide λwx hx=>by have hb:=hbu.below hx;exact⟨hb.cells.2.1,((Ud.below hb.base).cells).2.2.1⟩
   have hsh:=shl1 ⟨j,by omega⟩;have hsh2:=shl2 ⟨j,by omega⟩;simp only at hsh hsh2;have hj0:(0:Int)<=(j:Int):=by omega
   have hj64:(j:Int)<=64:=by omega
   clear hbu hkx;go_wp2_with fail;refine bg [some false,some false,some false,some false,some true,some false,some false,some false,some false,some false,some false,some true,some false,some false,none,none,none,none,none] 16 (λw'=>w'.cell? ⟨W.heap.size,1,none⟩=some (.slice ak j ck)/\w'.cell? ⟨q.p,2,none⟩=some (.int .i64 q.c.low)) 5 (by kernel_rfl) (by kernel_rfl) (λ_ _ d _ _ h=>(by cases d<;>exact h)) (HF _ (aK (aX _ _))) ?_;dsimp only[dO];repeat(first|(refine dx (v:=?_) (by rfl) ?_ ?_;rotate_left 1;(focus(intro w;go_simp;try(with_reducible rfl)));simp only[Act.put,eU,dJ,dQ])|(refine dz (v:=?_) (by rfl) ?_ ?_;rotate_left 1;(focus(intro w hSw;go_simp;try(with_reducible rfl)));simp only[Act.put,eU,dJ,dQ]))
   refine bQ ?_;refine aF (i:=14) (by kernel_rfl) (by rfl) (λK hK=>?_);go_simp;refine hK _ _ (λ_=>HF _ (aK (aB _ _))) ?_;clear hK K;have dH:Hid (Below wr.heap.size wr (wr.alloc (.cells #[.int .i64 (j:Nat),.slice none 0 0,.int .i64 ((2:Int) ^ j),.int .i64 q.c.low] 179)).drew):=hide (aK (aB wr _));have HXB:Hid ((wr.alloc (.cells #[.int .i64 (j:Nat),.slice none 0 0,.int .i64 ((2:Int) ^ j),.int .i64 q.c.low] 179)).drew.heap[wr.heap.size]?=some (.cells #[.int .i64 (j:Nat),.slice none 0 0,.int .i64 ((2:Int) ^ j),.int .i64 q.c.low] 179 (0,0))):=hide (aJ wr (.cells #[.int .i64 (j:Nat),.slice none 0 0,.int .i64 ((2:Int) ^ j),.int .i64 q.c.low] 179));have ig:=hide (Lr.below dH);generalize (wr.alloc (.cells #[.int .i64 (j:Nat),.slice none 0 0,.int .i64 ((2:Int) ^ j),.int .i64 q.c.low] 179)).drew=W7 at *;refine aF (i:=15) (by kernel_rfl) (by rfl) (λK hK=>?_);refine jy (At:=Qm) (by rfl) _ _ 69 179 4 48 _ (by rfl) underlying69 ET (by decide) (by decide) (by decide) W.heap.size _ ((List.range j).map (qF q.c.low)) (by rfl) ig.cons wr.heap.size [.int .i64 (j:Nat),.slice none 0 0,.int .i64 ((2:Int) ^ j),.int .i64 q.c.low] (qF q.c.low j) (by rfl) (λi u hu=>(aj HXB i).trans (by simpa using hu)) rfl (by simp[Value.oneCell']) ⟨.slice none 0 0,bq.nil _,by simp[qF]⟩ (by rw[cB,qE];omega) ig.base.size (λwy c y hg hc=>hc.mono λv l hi=>hi.grown hg (λk e=>by obtain⟨cur,hcur⟩:=ig.cons.typ k e;exact⟨cur,_,hcur,by decide⟩)) ?_;intro g8 CU w8 fU bV kg;obtain⟨gM,jQ,gQ⟩:=ig.Ui fU bV;rw[cB,qE]at jQ gQ ⊢;have iq:=hide gM;have qd:=hide jQ;have uI:=hide ((Kx.of_below dH).trans gQ);have r2:=(aj iq 1).trans rfl;have z2:=aD iq 1;have D7:Hid (w8.cell? ⟨W.heap.size,1,none⟩=some (.slice ak j ck)/\w8.cell? ⟨q.p,2,none⟩=some (.int .i64 q.c.low)):=hide (by have hq:=Ud.below ig.base;have hk:w8.heap[q.p]?=W7.heap[q.p]?:=bV.block _ (block_lt hq.blk) (λe=>by obtain⟨cur,hcur⟩:=ig.cons.typ _ e.symm;rw[hq.blk]at hcur;simp at hcur);exact⟨(aj gM 1).trans rfl,(aj (hk.trans hq.blk) 2).trans rfl⟩);clear fU bV kg gM jQ gQ;refine hK _ _ (λ_=>D7) ?_;clear hK K;simp only[Act.put,eU];refine aF (i:=16) (by kernel_rfl) (by rfl) (λK hK=>?_);go_simp;refine hK _ _ (λh=>absurd (h.symm.trans (by kernel_rfl)) dK) ?_;clear hK K;refine aF (i:=17) (by kernel_rfl) (by rfl) (λK hK=>?_);go_simp;refine hK _ _ (λh=>absurd (h.symm.trans (by kernel_rfl)) dK) ?_;clear hK K;refine aF (i:=18) (by kernel_rfl) (by rfl) (λK hK=>?_);go_simp;refine hK _ _ (λh=>absurd (h.symm.trans (by kernel_rfl)) dK) ?_;clear hK K;refine bB (by kernel_rfl) ?_ _;go_wp2_with fail;go_roundw;case rel=>exact⟨j+1,_,by omega,by go_num,by rw[rA,cZ];exact qd,IW.trans uI⟩
   case measure=>simp[intOf];omega
  ·obtain rfl:j=np:=by omega
   have hlow:=((Ud.below hbu.base).cells).2.2.1;have Rm:=hide (hkx.box HF1 rfl);have dH:=hide (aB wr (.cells #[.slice none 0 0,.int .i64 q.c.low] 355));have HXB:=hide (aJ wr (.cells #[.slice none 0 0,.int .i64 q.c.low] 355));have HLW:=hide (HP.res.2.1.low);have HC:=hide (LM m W (wr.alloc (.cells #[.slice none 0 0,.int .i64 q.c.low] 355)) W.heap.size q nl dn _ sets _ _ [] VB (.slice none 0 0) (.slice none 0 0) ([],q.c.low) _ f.body ⟨HP.body.1.below eO,HP.body.2.1,HP.body.2.2.1.below eO,HP.body.2.2.2⟩ (hbu.below dH) (fE.nil _ _ _) HLW (by
    have:=mU.out;simp only[aP,r9]at this ⊢;omega) (by
    have:=HLC.out;simp only[cB,qE]at this ⊢;omega))
   have b2:=(aj Rm 2).trans rfl;have zf:w.heap.size<wr.heap.size:=block_lt Rm;clear hbu hkx;go_wp2_with fail;refine HC.mono ?_;rintro e w5 ⟨rfl,jr⟩;obtain⟨vc5,vs5,GU,Ls⟩:=jr.out;have VD:=hide GU;have U0:=hide (Ls.box (aN Rm dH) rfl);have Av:=hide (Ls.box HXB rfl);have Qj:=hide (rX m W w5 W.heap.size q nl dn _ sets _ _ _ vc5 vs5 (.slice none 0 0) ([],q.c.low) _ _ _ _ f.result (HP.res.below eO) GU (fE.nil _ _ _) (by have:=mU.out;simp only[aP,cB,r9]at this ⊢;omega));have b3:=(aj U0 3).trans rfl;have b4:=(aj U0 4).trans rfl;have b5:=(aj U0 5).trans rfl;have b6:=(aj U0 6).trans rfl;have t0:=(aj Av 0).trans rfl;have t1:=(aj Av 1).trans rfl;clear jr GU Ls HC b2 hlow zf;go_wp2_with fail;refine Qj.mono ?_;rintro e w6 ⟨rfl,vV⟩;obtain⟨vs6,Ew,Lv⟩:=vV.out;rw[ug,<-cZ]at Ew;have Ey:=hide Ew;have KJ:=hide (Lv.box U0 rfl);have HC3:=hide (vW m w6 q nl dn _ sets _ _ _ _ _ f.result (HP.res.below (up eO Ew.base)));clear b3 b4 b5 b6 t0 t1 vV Ew Lv Qj;have b3:=(aj KJ 3).trans rfl;have b4:=(aj KJ 4).trans rfl;have b5:=(aj KJ 5).trans rfl;have b6:=(aj KJ 6).trans rfl;go_wp2_with fail;refine HC3.mono ?_;rintro e w7 ⟨vf,rfl,lQ⟩;obtain⟨hg7,jT⟩:=lQ.out;have HG7:=hide hg7;have ig:=hide (Ey.below jT);obtain⟨a7,c7,rfl⟩:=bq.form hg7;generalize (Fl.nums nl (q.c.hg m f.result).1).length=n7 at *;obtain⟨h2,hh2⟩:=aG ((q.c.hg m f.result).2);have HH2:=hide hh2;rw[<-hh2];clear b3 b4 b5 b6 lQ jT hg7 HC3 hh2;go_wp2_with fail;have VO:=hide (aB w7 (.cells #[.slice a7 n7 c7,.int .i64 h2] 355));have HXB7:=hide (aJ w7 (.cells #[.slice a7 n7 c7,.int .i64 h2] 355));obtain⟨ac5,cc5,hvc5⟩:=ig.cons.form;obtain⟨as6,cs6,hvs6⟩:=ig.sinks.form;generalize hlc:((List.range j).map (qF q.c.low)++(q.c.uP m f.body ([],q.c.low)).map (iI nl)).length=nc at *;generalize hlsn:((q.c.wQ m f.body ([],q.c.low)++q.c.iX m f.result ([],q.c.low)).map (dA nl)).length=ns at *;subst hvc5 hvs6;have zG:Hid (∀wx,Below (w7.alloc (.cells #[.slice a7 n7 c7,.int .i64 h2] 355)).heap.size (w7.alloc (.cells #[.slice a7 n7 c7,.int .i64 h2] 355)) wx->wx.cell? ⟨q.p,5,none⟩=some (.slice an nn cn)/\wx.cell? ⟨W.heap.size,1,none⟩=some (.slice ac5 nc cc5)/\wx.cell? ⟨W.heap.size,2,none⟩=some (.slice as6 ns cs6)/\wx.cell? ⟨w7.heap.size,0,none⟩=some (.slice a7 n7 c7)/\wx.cell? ⟨w7.heap.size,1,none⟩=some (.int .i64 h2)/\wx.cell? ⟨q.p,9,none⟩=some (.slice ae ne ce)):=hide λwx hx=>by have hb:=ig.below (up VO hx);have hc:=(Ud.below hb.base).cells;have h2:=aN HXB7 hx;exact⟨hc.2.2.2.2.2.1,hb.cells.2.1,hb.cells.2.2,(aj h2 0).trans rfl,(aj h2 1).trans rfl,hc.2.2.2.2.2.2.2.2.2⟩
   generalize hW9:w7.alloc (.cells #[.slice a7 n7 c7,.int .i64 h2] 355)=W9 at *;clear hW9;refine bg [some false,some false,some false,some true,some false,some false,some false,some true,some false,some false,some false,some true,some false,some true,some true,none,some false,some false,some false,some true,none,none] 21 (λw'=>w'.cell? ⟨q.p,5,none⟩=some (.slice an nn cn)/\w'.cell? ⟨W.heap.size,1,none⟩=some (.slice ac5 nc cc5)/\w'.cell? ⟨W.heap.size,2,none⟩=some (.slice as6 ns cs6)/\w'.cell? ⟨w7.heap.size,0,none⟩=some (.slice a7 n7 c7)/\w'.cell? ⟨w7.heap.size,1,none⟩=some (.int .i64 h2)/\w'.cell? ⟨q.p,9,none⟩=some (.slice ae ne ce)) 3 (by kernel_rfl) (by kernel_rfl) (λ_ _ d _ _ h=>(by cases d<;>exact h)) (zG _ (aK (aX _ _))) ?_;dsimp only[dO];repeat(first|(refine dx (v:=?_) (by rfl) ?_ ?_;rotate_left 1;(focus(intro w;go_simp;try(with_reducible rfl)));simp only[Act.put,eU,dJ,dQ])|(refine dz (v:=?_) (by rfl) ?_ ?_;rotate_left 1;(focus(intro w hSw;go_simp;try(with_reducible rfl)));simp only[Act.put,eU,dJ,dQ]))
   refine bQ ?_;refine aF (i:=15) (by kernel_rfl) (by rfl) (λK hK=>?_);go_simp;go_at_call 263;refine(CP _ _ _).mono ?_;rintro e w8 ⟨rfl,qR⟩;have xg:=hide (up (aK (aX W9.heap.size W9)) qR);clear qR;dsimp only;refine hK _ _ (λ_=>zG _ xg) ?_;clear hK K;refine aF (i:=20) (by kernel_rfl) (by rfl) (λK hK=>?_);go_simp;refine hK _ _ (λ_=>zG _ xg) ?_;clear hK K;have HB79:=hide (up VO xg);have LB:=hide (ig.below HB79);have iG:=hide (aN iC LB.base);have r0:=(aj iG 0).trans rfl;have r1:=(aj iG 1).trans rfl;have r2:=(aj iG 2).trans rfl;have r3:=(aj iG 3).trans rfl;have r4:=(aj iG 4).trans rfl;have r5:=(aj iG 5).trans rfl;have r6:=(aj iG 6).trans rfl;have z0:=aD iG 0;have z1:=aD iG 1;have z2:=aD iG 2;have z3:=aD iG 3;have z4:=aD iG 4;have z5:=aD iG 5;have z6:=aD iG 6;refine aF (i:=21) (by kernel_rfl) (by rfl) (λK hK=>?_);go_simp;refine hK _ _ (λh=>absurd (h.symm.trans (by kernel_rfl)) dK) ?_;clear hK K;refine bB (by kernel_rfl) ?_ _;go_wp2_with fail;have hs:=yS iG (.slice an nn cn) (.slice ac5 nc cc5) (.slice as6 ns cs6) (.slice a7 n7 c7) (.int .i64 0) (.int .i64 h2) (.slice ae ne ce);have f0:=(aj hs 0).trans rfl;have f1:=(aj hs 1).trans rfl;have f2:=(aj hs 2).trans rfl;have f3:=(aj hs 3).trans rfl;have f4:=(aj hs 4).trans rfl;have f5:=(aj hs 5).trans rfl;have f6:=(aj hs 6).trans rfl;have hkx:Kx w.heap.size muP w8 (((((((w8.setCell ⟨w.heap.size+1,0,none⟩ (.slice an nn cn)).setCell ⟨w.heap.size+1,1,none⟩ (.slice ac5 nc cc5)).setCell ⟨w.heap.size+1,2,none⟩ (.slice as6 ns cs6)).setCell ⟨w.heap.size+1,3,none⟩ (.slice a7 n7 c7)).setCell ⟨w.heap.size+1,4,none⟩ (.int .i64 0)).setCell ⟨w.heap.size+1,5,none⟩ (.int .i64 h2)).setCell ⟨w.heap.size+1,6,none⟩ (.slice ae ne ce)):=by have t1:=aQ iG 0 (.slice an nn cn);have t2:=aQ t1 1 (.slice ac5 nc cc5);have t3:=aQ t2 2 (.slice as6 ns cs6);have t4:=aQ t3 3 (.slice a7 n7 c7);have t5:=aQ t4 4 (.int .i64 0);have t6:=aQ t5 5 (.int .i64 h2);exact(Kx.set iG rfl (bP _) 0 _).trans ((Kx.set t1 rfl (bP _) 1 _).trans ((Kx.set t2 rfl (bP _) 2 _).trans ((Kx.set t3 rfl (bP _) 3 _).trans ((Kx.set t4 rfl (bP _) 4 _).trans ((Kx.set t5 rfl (bP _) 5 _).trans (Kx.set t6 rfl (bP _) 6 _))))))
   refine bodyPost_ret (v:=.agg #[.slice an nn cn,.slice ac5 nc cc5,.slice as6 ns cs6,.slice a7 n7 c7,.int .i64 0,.int .i64 h2,.slice ae ne ce]) (by simp[results,results189,go_sem,f0,f1,f2,f3,f4,f5,f6]) rfl ⟨.slice ac5 nc cc5,.slice as6 ns cs6,.slice a7 n7 c7,by rw[HH2],hide ⟨?_,?_,?_,?_⟩⟩;·exact gP.old (LB.cons.keep (λ_ _ _ hj=>hkx.at hj rfl) λc y hc=>hc.mono λv l hi=>hkx.cells (λ_ _=>rfl) hi) eO.size
   ·exact gP.old (LB.sinks.keep (λ_ _ _ hj=>hkx.at hj rfl) λc y hc=>hc.mono λv l hi=>hkx.cells (λ_ _=>rfl) hi) eO.size
   ·exact hkx.cells (λ_ _=>rfl) (fE.below HG7 HB79)
   ·exact(up eO LB.base).trans (hkx.below (up eO LB.base).size)
def AB:Obj->Bool
 | .cells _ t _=>t==299||t==9
 | .map _ _=>true
 | _=>false
structure gX(w0 w:World)(q:Sp)(nl:List ByteArray)(dn:ByteArray->Option Value)(kc:Nat)(bG:Value)(sets:Nat)(ve:Value)(E:List ByteArray):Prop where
 blk:w.heap[q.p]?=some (.cells #[q.vn,q.vl,.int .i64 q.c.low,.string q.c.md,.map (some q.ml),bG,.map (some q.mn),.map (some q.mc),.int .i64 sets,ve] 299 (0,0))
 new:w0.heap.size<=q.p/\w0.heap.size<=q.ml/\w0.heap.size<=q.mn/\w0.heap.size<=q.mc
 levels:oG w q.ml 1048576 (λs=>(q.c.kX s).map λn:Nat=>(n:Int))
 numbers:oG w q.mn nl.length (λs=>(Fl.idx nl s).map λn:Nat=>(n:Int))
 called:xu w q.mc kc sc0 dn
 bO:∀s v,dn s=some v->xw w0 v (q.c.bO s)
 xV:∀s,(dn s).isSome=true->∀t∈(q.c.bO s).dF,t∈E
 nodup:nl.Nodup
 names:Own w w0.heap.size bG nl
 fM:Own w w0.heap.size ve E
 apart:bG.ownBlock=none\/bG.ownBlock≠ve.ownBlock
 maps:q.ml≠q.mn/\q.ml≠q.mc/\q.mn≠q.mc
 base:Below w0.heap.size w0 w
structure G9(w0 w:World)(q:Sp)(nl:List ByteArray)(dn:ByteArray->Option Value)(kc:Nat)(bG:Value)(sets:Nat)(ve:Value)(E:List ByteArray):Prop where
 blk:w.heap[q.p]?=some (.cells #[q.vn,q.vl,.int .i64 q.c.low,.string q.c.md,.map (some q.ml),bG,.map (some q.mn),.map (some q.mc),.int .i64 sets,ve] 299 (0,0))
 new:w0.heap.size<=q.p/\w0.heap.size<=q.ml/\w0.heap.size<=q.mn/\w0.heap.size<=q.mc
 levels:oG w q.ml 1048576 (λs=>(q.c.kX s).map λn:Nat=>(n:Int))
 called:xu w q.mc kc sc0 dn
 bO:∀s v,dn s=some v->xw w0 v (q.c.bO s)
 xV:∀s,(dn s).isSome=true->∀t∈(q.c.bO s).dF,t∈E
 nodup:nl.Nodup
 names:Own w w0.heap.size bG nl
 fM:Own w w0.heap.size ve E
 apart:bG.ownBlock=none\/bG.ownBlock≠ve.ownBlock
 maps:q.ml≠q.mn/\q.ml≠q.mc/\q.mn≠q.mc
 base:Below w0.heap.size w0 w
section
variable {w0 w w' : World} {q : Sp} {nl : List ByteArray} {dn : ByteArray → Option Value} {kc : Nat} {bG : Value} {sets : Nat} {ve : Value} {E : List ByteArray}
theorem gX.below(h:gX w0 w q nl dn kc bG sets ve E)(hb:Below w.heap.size w w'):gX w0 w' q nl dn kc bG sets ve E:=
 ⟨aN h.blk hb,h.new,h.levels.below hb,h.numbers.below hb,h.called.below hb,h.bO,h.xV,h.nodup,own_below h.names hb,own_below h.fM hb,h.apart,h.maps,up h.base hb⟩
theorem G9.below(h:G9 w0 w q nl dn kc bG sets ve E)(hb:Below w.heap.size w w'):G9 w0 w' q nl dn kc bG sets ve E:=
 ⟨aN h.blk hb,h.new,h.levels.below hb,h.called.below hb,h.bO,h.xV,h.nodup,own_below h.names hb,own_below h.fM hb,h.apart,h.maps,up h.base hb⟩
theorem gX.cells(h:gX w0 w q nl dn kc bG sets ve E):w.cell? ⟨q.p,0,none⟩=some q.vn/\w.cell? ⟨q.p,1,none⟩=some q.vl/\w.cell? ⟨q.p,2,none⟩=some (.int .i64 q.c.low)/\w.cell? ⟨q.p,3,none⟩=some (.string q.c.md)/\w.cell? ⟨q.p,4,none⟩=some (.map (some q.ml))/\
  w.cell? ⟨q.p,5,none⟩=some bG/\w.cell? ⟨q.p,6,none⟩=some (.map (some q.mn))/\w.cell? ⟨q.p,7,none⟩=some (.map (some q.mc))/\w.cell? ⟨q.p,8,none⟩=some (.int .i64 sets)/\w.cell? ⟨q.p,9,none⟩=some ve:=
 ⟨(aj h.blk 0).trans rfl,(aj h.blk 1).trans rfl,(aj h.blk 2).trans rfl,(aj h.blk 3).trans rfl,(aj h.blk 4).trans rfl,(aj h.blk 5).trans rfl,(aj h.blk 6).trans rfl,(aj h.blk 7).trans rfl,(aj h.blk 8).trans rfl,(aj h.blk 9).trans rfl⟩
theorem Own.typ{B:Nat}{v:Value}{l:List ByteArray}(h:Own w B v l):∀j,v.ownBlock=some j->∃cur,w.heap[j]?=some (.cells cur 9 (0,0)):=λj hj=>by
 rcases h.2 with⟨rfl,_⟩|⟨g,cap,cur,rfl,_,hh,_⟩;·simp[Value.ownBlock]at hj
 ·simp[Value.ownBlock]at hj;subst hj;exact⟨cur,hh⟩
theorem Own.lt{B:Nat}{v:Value}{l:List ByteArray}(h:Own w B v l):∀j,v.ownBlock=some j->B<=j/\j<w.heap.size:=World.ownsRow.lt h
theorem Own.iA{B:Nat}{v:Value}{l:List ByteArray}(h:Own w B v l):∃a c,v=.slice a l.length c:=by
 rcases h.2 with⟨h1,h2⟩|⟨g,cap,cur,h1,_⟩;·exact⟨none,0,by rw[h1,h2]⟩
 ·exact⟨_,_,h1⟩
theorem Own.keep{B:Nat}{v:Value}{l:List ByteArray}(h:Own w B v l)(hb:∀j cur,v.ownBlock=some j->w.heap[j]?=some (.cells cur 9 (0,0))->w'.heap[j]?=some (.cells cur 9 (0,0))):Own w' B v l:=by
 obtain⟨h0,h1⟩:=h;refine⟨h0,?_⟩;rcases h1 with h1|⟨g,cap,cur,hv,hg,hh,r⟩;·exact Or.inl h1
 ·exact Or.inr ⟨g,cap,cur,hv,hg,hb g cur (by rw[hv];rfl) hh,r⟩
theorem G9.Zj{w1:World}{v':Value}{s:ByteArray}(h:G9 w0 w q nl dn kc bG sets ve E)(hown:Own w1 w0.heap.size v' (nl++[s]))(hg:w.grownBy w1 bG.ownBlock)(hl:∀k,v'.ownBlock=some k->bG.ownBlock=some k\/w.heap.size<=k)(hs:s∉nl)(hnum:oG w q.mn (nl.length+1) (λt=>(Fl.idx (nl++[s]) t).map λn:Nat=>(n:Int))):w1.heap[q.p]?=some (.cells #[q.vn,q.vl,.int .i64 q.c.low,.string q.c.md,.map (some q.ml),bG,.map (some q.mn),.map (some q.mc),.int .i64 sets,ve] 299 (0,0))/\gX w0 (w1.setCell ⟨q.p,5,none⟩ v') q (nl++[s]) dn kc v' sets ve E/\Kx w0.heap.size AB w (w1.setCell ⟨q.p,5,none⟩ v'):=by
 have hne:∀(p:Nat) cs t,w.heap[p]?=some (.cells cs t (0,0))->(t≠9\/bG.ownBlock≠some p)->w1.heap[p]?=some (.cells cs t (0,0)):=λp cs t hp ht=>by
  rw[hg.block p (block_lt hp) (λe=>?_)];·exact hp
  ·rcases ht with ht|ht;·obtain⟨cur,hc⟩:=h.names.typ p e.symm;rw[hp]at hc;simp at hc;exact ht hc.2
   ·exact ht e.symm
 have hmp:∀(p:Nat) es cl,w.heap[p]?=some (.map es cl)->w1.heap[p]?=w.heap[p]?:=λp es cl hp=>hg.block p (block_lt hp) (λe=>by obtain⟨cur,hc⟩:=h.names.typ p e.symm;rw[hp]at hc;cases hc);have hb1:=hne q.p _ _ h.blk (Or.inl (by decide));have hst:∀(p:Nat) o,w1.heap[p]?=some o->p≠q.p->(w1.setCell ⟨q.p,5,none⟩ v').heap[p]?=some o:=λp o hp hq=>aV hp hq v';have LP:∀(p:Nat) es cl,w.heap[p]?=some (.map es cl)->(w1.setCell ⟨q.p,5,none⟩ v').heap[p]?=w.heap[p]?:=λp es cl hp=>by rw[hp];refine hst p _ ((hmp p es cl hp).trans hp) (λe=>?_);subst e;rw[h.blk]at hp;cases hp
 have hstr:∀(p:Nat) cs,w1.heap[p]?=some (.cells cs 9 (0,0))->(w1.setCell ⟨q.p,5,none⟩ v').heap[p]?=some (.cells cs 9 (0,0)):=λp cs hp=>hst p _ hp (λe=>by subst e;rw[hb1]at hp;simp at hp);have hkx:Kx w0.heap.size AB w w1:=Kx.grown hg λk e=>⟨(h.names.lt k e).1,λo ho=>by obtain⟨cur,hc⟩:=h.names.typ k e;rw[ho]at hc;cases hc;rfl⟩;have rW:Kx w0.heap.size AB w1 (w1.setCell ⟨q.p,5,none⟩ v'):=Kx.set hb1 rfl h.new.1 5 _;obtain⟨e1,c1,m1⟩:=h.levels.isMap;obtain⟨e2,c2,m2⟩:=hnum.isMap;obtain⟨e3,c3,m3⟩:=h.called.isMap;refine⟨hb1,⟨aQ hb1 5 _,h.new,h.levels.same (LP _ _ _ m1),?_,h.called.same (LP _ _ _ m3),h.bO,h.xV,?_,?_,?_,?_,h.maps,?_⟩,hkx.trans rW⟩;·rw[aP,iJ];exact hnum.same (LP _ _ _ m2)
 ·rw[Lh];exact⟨h.nodup,by simp,λa ha b hb=>by rw[iy]at hb;subst hb;exact λe=>hs (e ▸ ha)⟩
 ·exact hown.keep (λj cur _ hj=>hstr j cur hj)
 ·exact h.fM.keep (λj cur hv hj=>hstr j cur (hne j _ _ hj (by
   rcases h.apart with ha|ha;·right;rw[ha];simp
   ·right;rw[<-hv];exact ha)))
 ·cases hv':v'.ownBlock with
  | none=>exact Or.inl rfl
  | some k=>
   right;intro e;rcases hl k hv' with h1|h1
   ·rcases h.apart with ha|ha;·rw[ha]at h1;cases h1
    ·exact ha (h1.trans e)
   ·have:=(h.fM.lt k e.symm).2;omega
 ·exact h.base.trans ((hkx.trans rW).below h.base.size)
theorem gX.Ut{w1:World}{v':Value}{F:List ByteArray}(h:gX w0 w q nl dn kc bG sets ve E)(hown:Own w1 w0.heap.size v' (E++F))(hg:w.grownBy w1 ve.ownBlock)(hl:∀k,v'.ownBlock=some k->ve.ownBlock=some k\/w.heap.size<=k):w1.heap[q.p]?=some (.cells #[q.vn,q.vl,.int .i64 q.c.low,.string q.c.md,.map (some q.ml),bG,.map (some q.mn),.map (some q.mc),.int .i64 sets,ve] 299 (0,0))/\gX w0 (w1.setCell ⟨q.p,9,none⟩ v') q nl dn kc bG sets v' (E++F)/\Kx w0.heap.size AB w (w1.setCell ⟨q.p,9,none⟩ v'):=by
 have hne:∀(p:Nat) cs t,w.heap[p]?=some (.cells cs t (0,0))->(t≠9\/ve.ownBlock≠some p)->w1.heap[p]?=some (.cells cs t (0,0)):=λp cs t hp ht=>by
  rw[hg.block p (block_lt hp) (λe=>?_)];·exact hp
  ·rcases ht with ht|ht;·obtain⟨cur,hc⟩:=h.fM.typ p e.symm;rw[hp]at hc;simp at hc;exact ht hc.2
   ·exact ht e.symm
 have hmp:∀(p:Nat) es cl,w.heap[p]?=some (.map es cl)->w1.heap[p]?=w.heap[p]?:=λp es cl hp=>hg.block p (block_lt hp) (λe=>by obtain⟨cur,hc⟩:=h.fM.typ p e.symm;rw[hp]at hc;cases hc);have hb1:=hne q.p _ _ h.blk (Or.inl (by decide));have hst:∀(p:Nat) o,w1.heap[p]?=some o->p≠q.p->(w1.setCell ⟨q.p,9,none⟩ v').heap[p]?=some o:=λp o hp hq=>aV hp hq v';have LP:∀(p:Nat) es cl,w.heap[p]?=some (.map es cl)->(w1.setCell ⟨q.p,9,none⟩ v').heap[p]?=w.heap[p]?:=λp es cl hp=>by rw[hp];refine hst p _ ((hmp p es cl hp).trans hp) (λe=>?_);subst e;rw[h.blk]at hp;cases hp
 have hstr:∀(p:Nat) cs,w1.heap[p]?=some (.cells cs 9 (0,0))->(w1.setCell ⟨q.p,9,none⟩ v').heap[p]?=some (.cells cs 9 (0,0)):=λp cs hp=>hst p _ hp (λe=>by subst e;rw[hb1]at hp;simp at hp);have hkx:Kx w0.heap.size AB w w1:=Kx.grown hg λk e=>⟨(h.fM.lt k e).1,λo ho=>by obtain⟨cur,hc⟩:=h.fM.typ k e;rw[ho]at hc;cases hc;rfl⟩;have rW:Kx w0.heap.size AB w1 (w1.setCell ⟨q.p,9,none⟩ v'):=Kx.set hb1 rfl h.new.1 9 _;obtain⟨e1,c1,m1⟩:=h.levels.isMap;obtain⟨e2,c2,m2⟩:=h.numbers.isMap;obtain⟨e3,c3,m3⟩:=h.called.isMap;refine⟨hb1,⟨aQ hb1 9 _,h.new,h.levels.same (LP _ _ _ m1),h.numbers.same (LP _ _ _ m2),h.called.same (LP _ _ _ m3),h.bO,λs hs t ht=>cK.2 (Or.inl (h.xV s hs t ht)),h.nodup,?_,?_,?_,h.maps,?_⟩,hkx.trans rW⟩
 ·exact h.names.keep (λj cur hv hj=>hstr j cur (hne j _ _ hj (by
   rcases h.apart with ha|ha;·rw[ha]at hv;cases hv
   ·right;rw[<-hv];exact Ne.symm ha)))
 ·exact hown.keep (λj cur _ hj=>hstr j cur hj)
 ·cases hn':bG.ownBlock with
  | none=>exact Or.inl rfl
  | some k=>
   right;intro e;rcases hl k e.symm with h1|h1
   ·rcases h.apart with ha|ha;·rw[ha]at hn';cases hn'
    ·exact ha (hn'.trans h1.symm)
   ·have:=(h.names.lt k hn').2;omega
 ·exact h.base.trans ((hkx.trans rW).below h.base.size)
end
theorem idx_put{nl:List ByteArray}{s:ByteArray}(hn:nl.Nodup)(hs:s∉nl):(λt=>(Fl.idx (nl++[s]) t).map λn:Nat=>(n:Int))=Rn.put (λt=>(Fl.idx nl t).map λn:Nat=>(n:Int)) s nl.length:=by
 have hn2:(nl++[s]).Nodup:=by rw[Lh];exact⟨hn,by simp,λa ha b hb=>by rw[iy]at hb;subst hb;exact λe=>hs (e ▸ ha)⟩
 funext t;unfold Rn.put;cases ht:aI.aZ t s with
 | true =>have:=key_eq ht;subst this;rw[Ra hn2 (i:=nl.length) (by rw[uf (bM _),CF];rfl)];simp
 | false=>
  have hne:t≠s:=λe=>by subst e;rw[dX.2 rfl]at ht;cases ht
  by_cases hm:t∈nl;·rw[Ub hn2 hm];simp
  ·rw[Ap (nl:=nl++[s]) (by simp[hm,hne])];simp[Ap hm]
theorem gX.VP{w0 w6 w8 w9:World}{o:Obj}{q:Sp}{nl:List ByteArray}{dn:ByteArray->Option Value}{kc:Nat}{an:Option Addr}{nn cn:Nat}{sets:Nat}{ve:Value}{E:List ByteArray}{s:ByteArray}{g9 RH:Nat}(hb:Below w8.heap.size w8 (w8.alloc o))(hbl:w8.heap[q.p]?=some (.cells #[q.vn,q.vl,.int .i64 q.c.low,.string q.c.md,.map (some q.ml),.slice an nn cn,.map (some q.mn),.map (some q.mc),.int .i64 sets,ve] 299 (0,0)))(h6:gX w0 w6 q nl dn kc (.slice an nn cn) sets ve E)(hlv:oG w8 q.ml 1048576 (λs=>(q.c.kX s).map λn:Nat=>(n:Int)))(how:oG w8 q.mn (nl.length+1) (Rn.put (λt=>(Fl.idx nl t).map λn:Nat=>(n:Int)) s nn))(hca:xu w8 q.mc kc sc0 dn)(hnm:Own w8 w0.heap.size (.slice an nn cn) nl)(hef:Own w8 w0.heap.size ve E)(hbs:Below w0.heap.size w0 w8)(hnn:nn=nl.length)(hs:s∉nl)(hown:w9.ownsRow w0.heap.size 9 1 (.slice (some ⟨g9,0,none⟩) (nl.length+1) RH) (nl.length+1) (nl.map Value.string++[.string s]))(hgrow:(w8.alloc o).grownBy w9 (Value.slice an nn cn).ownBlock)(He:(Value.slice an nn cn).ownBlock=some g9\/g9=(w8.alloc o).heap.size):w9.heap[q.p]?=some (.cells #[q.vn,q.vl,.int .i64 q.c.low,.string q.c.md,.map (some q.ml),.slice an nn cn,.map (some q.mn),.map (some q.mc),.int .i64 sets,ve] 299 (0,0))/\gX w0 (w9.setCell ⟨q.p,5,none⟩ (.slice (some ⟨g9,0,none⟩) (nl.length+1) RH)) q (nl++[s]) dn kc (.slice (some ⟨g9,0,none⟩) (nl.length+1) RH) sets ve E/\Kx w0.heap.size AB (w8.alloc o) (w9.setCell ⟨q.p,5,none⟩ (.slice (some ⟨g9,0,none⟩) (nl.length+1) RH)):=by
 subst hnn;rw[<-idx_put h6.nodup hs]at how;obtain⟨D,hD,hD2⟩:=how;have hnum:oG w8 q.mn (nl.length+1) (λt=>(Fl.idx (nl++[s]) t).map λn:Nat=>(n:Int)):=⟨D,hD,hD2⟩;have hX:G9 w0 w8 q nl dn kc (.slice an nl.length cn) sets ve E:=⟨hbl,h6.new,hlv,hca,h6.bO,h6.xV,h6.nodup,hnm,hef,h6.apart,h6.maps,hbs⟩;refine G9.Zj (hX.below hb) ?_ hgrow (λk hk=>?_) hs (hnum.below hb);·unfold Own;rw[aP,cZ];exact hown
 ·simp[Value.ownBlock]at hk;subst hk;rcases He with h1|h1;·exact Or.inl h1
  ·exact Or.inr (by rw[h1];exact bM _)
theorem Hf(w0 w:World)(q:Sp)(nl:List ByteArray)(dn:ByteArray->Option Value)(kc:Nat)(bG:Value)(sets:Nat)(ve:Value)(E:List ByteArray)(s:ByteArray)(h:gX w0 w q nl dn kc bG sets ve E)(hs:s∉nl)(hz:s.size<=maxLen)(hl:nl.length<=1048576):Calls prog 256 #[.pointer (some ⟨q.p,0,none⟩),.string s] w λe w'=>e=.returned (.tuple #[])/\Hid (∃EB,gX w0 w' q (nl++[s]) dn kc EB sets ve E/\Kx w0.heap.size AB w w'):=by
 obtain⟨an,cn,WO⟩:=h.names.iA;obtain⟨nn,hnn⟩:=aG nl.length;have Zk:=hide hnn;rw[<-hnn]at WO hl;subst WO;have HN:=hide h;have HS:=hide hs;have HZ:=hide hz;obtain⟨c0,c1,c2,c3,c4,c5,c6,-⟩:=h.cells;replace c5:=aM c5;replace c6:=aM c6;clear h hs c0 c1 c2 c3 c4 hnn;go_enter func256,ntmps256;go_wp2_with fail;refine eF 10 (by kernel_rfl) (by kernel_rfl) ?_;dsimp only[List.take,List.drop];repeat(quiet_step (fail))
 refine wpQuiet_nil ?_;intro w6 hw';obtain⟨⟨nq,osq⟩,hw''⟩:=hw';have dB:Hid (Below w.heap.size w w6):=hide (by rw[hw''];exact aS w nq osq);have IX:=HN.below dB;have iM:=hide IX;obtain⟨w8,hrun,how,hgr⟩:=IX.numbers.put (s:=s) (v:=(nn:Int)) (by rw[<-Zk];unfold maxLen;omega) HZ (by unfold Qr;omega);have HOW:=hide how;have HGR:=hide hgr;clear hw'' c5 c6 how hgr IX;have D8:Hid (Kx w0.heap.size AB w6 w8):=hide (Kx.grown HGR λk e=>by injection e with e;subst e;obtain⟨es,cl,hm⟩:=iM.numbers.isMap;exact⟨iM.new.2.2.1,λo ho=>by rw[hm]at ho;cases ho;rfl⟩);have hcell:∀(p:Nat) cs t,w6.heap[p]?=some (.cells cs t (0,0))->w8.heap[p]?=some (.cells cs t (0,0)):=λp cs t hp=>by
  rw[HGR.block p (block_lt hp) (λe=>?_)];·exact hp
  ·injection e with e;subst e;obtain⟨es,cl,hm⟩:=iM.numbers.isMap;rw[hp]at hm;cases hm
 have HBL8:=hide (hcell _ _ _ iM.blk);have HNM8:Hid (Own w8 w0.heap.size (.slice an nn cn) nl):=hide (iM.names.keep λj cur _ hj=>hcell _ _ _ hj);have HEF8:Hid (Own w8 w0.heap.size ve E):=hide (iM.fM.keep λj cur _ hj=>hcell _ _ _ hj);have HLV8:=hide (iM.levels.kept HGR (by have:=iM.maps.1;simp;exact this));have HCA8:=hide (iM.called.kept HGR (by have:=iM.maps.2.2;simp;exact λe=>this e.symm));have HBS8:=hide (iM.base.trans (D8.below iM.base.size));clear hcell;have p5:=(aj HBL8 5).trans rfl;have z5:=aD HBL8 5;have zq:q.p<w8.heap.size:=block_lt HBL8;have dH:=hide (aB w8 (.cells #[.string s] 9));have HXB:=hide (aJ w8 (.cells #[.string s] 9));have HOX:=hide (own_below HNM8 dH)
 go_wp2_with (first
  | (at_builtin;refine fV rfl _ _ 22 9 1 16 _ rfl underlying22 qo (by decide) (by decide) w0.heap.size _ _ _ rfl HOX (some ⟨w8.heap.size,0,none⟩) w8.heap.size 0 1 1 [.string s] rfl (λ_=>rfl) rfl (λj u hu=>by rw[fT];exact(aj HXB j).trans (by simpa using hu)) (by simp[Value.oneCell']) (by unfold maxLen;rw[<-Zk];omega) (by rw[<-Zk];omega) (bS HBS8.size dH.size) ?_;intro v9 w9 jM jR Vf WR;have IC:=hide jM;have HGR9:=hide jR;have HP9:=hide (WR (by decide));obtain⟨g9,RH,rfl,AJ⟩:=WR (by decide);have HLIE9:=hide AJ;have AL:=hide (gX.VP dH HBL8 iM HLV8 HOW HCA8 HNM8 HEF8 HBS8 Zk HS jM jR AJ);have q5:=(aj AL.1 5).trans rfl;have y5:=aD AL.1 5;clear jM jR Vf WR AJ)
  | fail)
 go_end0;exact⟨rfl,hide ⟨_,AL.2.1,(Kx.of_below dB).trans (D8.trans ((Kx.of_below dH).trans AL.2.2))⟩⟩
end Go.Proofs.YtfnboapebijcpaaGreatDoor
