/- The sinks of an expression, the document's side. -/
import Derived.Test.YtfnboapebijcpaaGreatDoorMZBJ
set_option maxHeartbeats 16000000
set_option maxRecDepth 100000
namespace Go.Proofs.YtfnboapebijcpaaGreatDoor
open Fl Sv
open Go.Proofs.Tryz
open Go.RowKit Go.Maps Go.WideMaps
theorem Fl.Kl{β:Type}{f:Ex->List β}{g:Ex->Nat}{l:List Ex}(hf:∀x∈l,(f x).length<=g x){j:Nat}(h:j<l.length):((l.take j).flatMap f).length+g l[j]<=(l.map g).sum:=by
 rw[Fl.dZ];have h1:=dU (l:=l.take j) λx hx=>hf x (nS hx);have e:l=l.take j++(l[j]::l.drop (j+1)):=by rw[<-JM h,kW]
 have h2:(l.map g).sum=((l.take j).map g).sum+(g l[j]+((l.drop (j+1)).map g).sum):=by
  conv=>lhs;rw[e]
  rw[cZ,nT,dN,jE]
 omega
structure SkPre(w0 w:World)(r:Rx)(s:Q4)(nl E:List ByteArray)(cs:List Co)(sk:List Si)(vp:Value)(pc:Hg)(m:Nat)(c0 c1 c2 c3:Value)(x:Ex):Prop where
 rd:lH w0 w r s nl E cs sk
 pcs:Dp w r.p s vp pc.1
 ex:gq w0 m c0 c1 c2 c3 x
 ok:r.c.qc m x
 tg:∀t∈Fl.cls m x,Tg r t
 zn:∀u∈nl,u.size<=maxLen
 ze:∀u∈E,u.size<=maxLen
 ln:nl.length<=1048576
 wt:eu m x<=1048576
 ls:sk.length+2*eu m x<=16777215
 le:E.length+1048576*eu m x<=4398046511103
 he:∀t,(r.c.bO t).dF.length<=1048576
 hu:∀t,∀u∈(r.c.bO t).dF,u.size<=maxLen
def SnOk(m:Nat):Prop:=∀(w0 w:World) (r:Rx) (s:Q4) (nl E:List ByteArray) (cs:List Co) (sk:List Si) (vp:Value) (pc:Hg) (c0 c1 c2 c3:Value) (x:Ex),SkPre w0 w r s nl E cs sk vp pc m c0 c1 c2 c3 x->
 Calls prog 95 #[.pointer (some ⟨r.p,0,none⟩),.agg #[c0,c1,c2,c3],.agg #[vp,.int .i64 0,.int .i64 (pc.2:Nat)]] w λe w'=>e=.returned (.tuple #[])/\Hid (∃s',lH w0 w' r s' nl (Fl.adds E (r.c.iN m x)) cs (sk++(r.c.iX m x pc).map (dA nl))/\Fq r.p s s' w w')
theorem SX(m:Nat)(ih:SnOk m):SnOk (m+1):=by
 intro w0 w r s nl E cs sk vp pc c0 c1 c2 c3 x hP;have nL:=hide ih;have HP:=hide hP;obtain⟨a,b,off,cap,rfl,rfl,rfl,rfl,hnm,hl63,ha0,hel⟩:=hP.ex.args;have gF:=hide hel;obtain⟨na,hna⟩:=aG x.args.length;have kZ:=hide hna;rw[<-hna]at ha0 hl63 ⊢;have uF:=hide ha0;obtain⟨pa,-,-,pq,hvp,-⟩:=hP.pcs.strs;obtain⟨pn,hpn⟩:=aG pc.1.length;rw[<-hpn]at hvp;subst hvp;obtain⟨W,hW,k0,k1,hsz,hBW⟩:=yN w (.cells #[.int .i64 x.kind,.int .i64 x.n,.string x.name,.slice a na cap] 129) (.cells #[.slice pa pn pq,.int .i64 0,.int .i64 (pc.2:Nat)] 181);have eO:=hide hBW;have gB:=hide k0;have iC:=hide k1;have HRW:=hide (hP.rd.below hBW);have HPW:=hide (hP.pcs.below hBW);have BN:Hid (w.heap.size≠r.p/\¬s.has w.heap.size):=hide ⟨by have:=block_lt hP.rd.blk;omega,λe=>by have:=hP.rd.lt e;omega⟩;have uO:Hid (w.heap.size+1≠r.p/\¬s.has (w.heap.size+1)):=hide ⟨by have:=block_lt hP.rd.blk;omega,λe=>by have:=hP.rd.lt e;omega⟩;have mU:Hid (sk.length+2*(x.args.map (eu m)).sum+8<=16777215/\E.length+1048576*(x.args.map (eu m)).sum+1048576*4<=4398046511103/\(x.args.map (eu m)).sum<=1048576):=hide (by have h1:=hP.ls;have h2:=hP.le;have h3:=hP.wt;simp only[eu]at h1 h2 h3;omega);have HSK:Hid (r.c.iX (m+1) x pc=(x.args.flatMap λy=>r.c.iX m y pc)++if x.kind=4 then r.c.ER (r.c.hg m) x x.args.length++[Fl.sk pc (r.c.bO x.name).pc x.name true]else []):=hide rfl;have Ay:Hid (r.c.iN (m+1) x=x.args.flatMap (r.c.iN m)++if x.kind=4 then (r.c.bO x.name).dF else []):=hide rfl;have sI:=hide hP.ok;clear hel ha0 hna hpn hsz k0 k1 hBW ih hP;go_enter func95,ntmps95;go_upto_region 1 with fail;rw[<-hW];clear hW;go_wp2_with fail;go_loopw[6] (λi wr=>∃(j:Nat) (s8:Q4),j<=na/\i=.int .i64 j/\Hid (lH w0 wr r s8 nl (Fl.adds E ((x.args.take j).flatMap (r.c.iN m))) cs (sk++((x.args.take j).flatMap λy=>r.c.iX m y pc).map (dA nl))/\Fq r.p s s8 W wr)) (λi _=>na - (intOf i).toNat);case atStart=>exact⟨0,s,bJ _,rfl,hide ⟨by simp only[vJ,Gh,iK,bX,jq];exact HRW,Fq.of_below (aX _ _)⟩⟩
 case round=>
  obtain⟨j,s8,hj,rfl,HI⟩:=hrel;have HX:=hide (HI.2.at gB BN.1 BN.2);have HY:=hide (HI.2.at iC uO.1 uO.2);have EN:=hide (HPW.keep HI.2);have x3:=(aj HX 3).trans rfl;by_cases hjl:j<na
  ·have hjm:j<x.args.length:=by rw[<-kZ];exact hjl
   obtain⟨e0,e1,e2,e3,g0,g1,g2,g3,hxa⟩:=gF j _ (aU hjm);have HC:=hide (λwx (hx:Below wr.heap.size wr wx)=>nL w0 wx r s8 nl _ cs _ (.slice pa pn pq) pc _ _ _ _ _ ⟨HI.1.below hx,EN.below hx,hxa,sI.2.2.2 _ (fI hjm),λt ht=>HP.tg t (by simp only[Fl.cls,cK,dS];exact Or.inr ⟨_,fI hjm,ht⟩),HP.zn,λu hu=>by
    rcases aY.1 hu with h|h;·exact HP.ze u h
    ·obtain⟨y,hy,h⟩:=dS.1 h;exact Fl.Env.lW HP.hu h,HP.ln,by
    have h1:=wW (g:=eu m) (fI hjm);have h2:=mU.2.2;omega,by
    have h1:=Kl (f:=λy=>r.c.iX m y pc) (g:=λy=>2*eu m y) (λy hy=>oP r.c m y pc (sI.2.2.2 y hy)) hjm;rw[jw]at h1;have h2:=mU.1;rw[aP,cB];omega,by
    have h0:=bN ((x.args.take j).flatMap (r.c.iN m)) E;have h1:=Kl (f:=r.c.iN m) (g:=λy=>1048576*eu m y) (λy _=>Fl.Env.oN HP.he m y) hjm;rw[jw]at h1;have h2:=mU.2.1;omega,HP.he,HP.hu⟩)
   have Wh:Fl.adds (Fl.adds E ((x.args.take j).flatMap (r.c.iN m))) (r.c.iN m x.args[j])=Fl.adds E ((x.args.take (j+1)).flatMap (r.c.iN m)):=by rw[Fl.iT hjm,aT]
   have Wi:sk++((x.args.take j).flatMap λy=>r.c.iX m y pc).map (dA nl)++(r.c.iX m x.args[j] pc).map (dA nl)=sk++((x.args.take (j+1)).flatMap λy=>r.c.iX m y pc).map (dA nl):=by rw[Fl.iT hjm,cZ,bE]
   rw[Wh,Wi]at HC;clear Wh Wi;obtain⟨ay,cy,rfl,rfl,rfl,rfl⟩:=hxa.shape;obtain rfl:=uF (by omega);replace g0:=aM (aA g0 HI.1.base);replace g1:=aM (aA g1 HI.1.base);replace g2:=aM (aA g2 HI.1.base);replace g3:=aM (aA g3 HI.1.base);have p0:=aM ((aj HY 0).trans rfl);have p1:=aM ((aj HY 1).trans rfl);have p2:=aM ((aj HY 2).trans rfl);generalize x.args[j].kind=yk at *;generalize x.args[j].n=yn at *;generalize x.args[j].name=Vx at *;generalize x.args[j].args.length=yl at *;clear hxa;go_wp2_with fail;replace x3:=aM x3;refine eF 7 (by kernel_rfl) (by kernel_rfl) ?_;dsimp only[List.take,List.drop];repeat(quiet_step (fail))
   refine wpQuiet_nil ?_;intro w6 hw';obtain⟨⟨nq,osq⟩,hw''⟩:=hw';have hb6:Below wr.heap.size wr w6:=by rw[hw''];exact aS wr nq osq
   have HC6:=hide (HC w6 hb6);have Xe:=hide (HI.2.trans (Fq.of_below hb6));clear hw'' hb6 g0 g1 g2 g3 x3 p0 p1 p2 HC;go_wp2_with fail;refine HC6.mono ?_;rintro e w9 ⟨rfl,lS⟩;obtain⟨s9,uS,lX⟩:=lS.out;have uy:=hide (And.intro uS (Xe.trans lX));clear lS uS lX HC6;go_wp2_with fail;go_roundw;case rel=>exact⟨j+1,s9,by omega,by go_num,uy⟩
   case measure=>simp[intOf];omega
  ·obtain rfl:j=na:=by omega
   have HT:Hid (x.args.take j=x.args):=hide (by rw[kZ,gG]);rw[HT]at HI;have x0:=(aj HX 0).trans rfl;by_cases h4:x.kind=4
   ·have hk4:(x.kind != 4)=false:=by simp[h4]
    obtain⟨h4a,hsc⟩:=sI.2.2.1 h4;have xY:Hid (r.c.iX (m+1) x pc=(x.args.flatMap λy=>r.c.iX m y pc)++(r.c.ER (r.c.hg m) x x.args.length++[Fl.sk pc (r.c.bO x.name).pc x.name true])):=hide (by rw[HSK,if_pos h4]);have D9:Hid (r.c.iN (m+1) x=x.args.flatMap (r.c.iN m)++(r.c.bO x.name).dF):=hide (by rw[Ay,if_pos h4]);have V3:=hide (HP.tg x.name (by simp[Fl.cls,h4]));have HC:=hide (xX w0 wr r _ _ _ _ x.name HI.1.ok HI.1.base HI.1.rc V3);obtain⟨E1,hE1⟩:=aG (Fl.adds E (x.args.flatMap (r.c.iN m)));obtain⟨jC,MJ⟩:=aG (sk++(x.args.flatMap λy=>r.c.iX m y pc).map (dA nl));have WZ:=hide hE1;have M6:=hide MJ;have uL:Hid (jC.length+8<=16777215/\E1.length+1048576*4<=4398046511103/\∀u∈E1,u.size<=maxLen):=hide (by
     have h1:=mU.out;refine⟨?_,?_,λu hu=>?_⟩;·rw[MJ,aP,cB,Fl.dZ];have h2:=dU (l:=x.args) λy hy=>oP r.c m y pc (sI.2.2.2 y hy);rw[jw]at h2;omega
     ·rw[hE1];have h0:=bN (x.args.flatMap (r.c.iN m)) E;rw[Fl.dZ]at h0;have h2:=dU (l:=x.args) λy _=>Fl.Env.oN (c:=r.c) HP.he m y;rw[jw]at h2;omega
     ·rw[hE1]at hu;rcases aY.1 hu with h|h;·exact HP.ze u h
      ·obtain⟨y,hy,h⟩:=dS.1 h;exact Fl.Env.lW HP.hu h)
    rw[<-hE1,<-MJ]at HI;have HBN:Hid ((r.c.bO x.name).bounds.length=j):=hide (by rw[hsc.bounds,kZ]);have x2:=(aj HX 2).trans rfl;have hj4:j<=4:=by rw[kZ];exact h4a
    clear h4 hsc hE1 MJ h4a;go_wp2_with fail;refine HC.mono ?_;rintro e w5 ⟨v5,rfl,jr⟩;obtain⟨hS5,hb5⟩:=jr.out;obtain⟨vb,ve',rfl,⟨ab,bb,ob,cb,rfl,hab,-,hbel⟩,⟨ae,be,oe,ce,rfl,hae,-,-,heel⟩⟩:=hS5;have pO:=hide hbel;have HHAB:=hide hab;have HHAE:=hide hae;have HEEL:=hide heel;have xB:=hide (HI.1.below hb5);have SE:=hide (HI.2.trans (Fq.of_below hb5));obtain⟨nb,hnb⟩:=aG ((r.c.bO x.name).bounds.length);obtain⟨ne,hne⟩:=aG ((r.c.bO x.name).dF.length);have HNB0:Hid (nb=j):=hide (by rw[hnb];exact HBN);have pF:=hide hne;rw[<-hnb,<-hne];rw[<-hnb]at HHAB;rw[<-hne]at HHAE HEEL;clear jr hb5 hbel hab hae heel hnb hne x0 x2 x3 HC;go_upto_region 7 with fail;have HXB:=hide (aJ w5 (.cells #[.string (r.c.bO x.name).fn,.int .i64 (r.c.bO x.name).mask,.int .i64 (r.c.bO x.name).level,.slice ab nb cb,.int .i64 (r.c.bO x.name).pc,.slice ae ne ce] 170));have dH:=hide (aB w5 (.cells #[.string (r.c.bO x.name).fn,.int .i64 (r.c.bO x.name).mask,.int .i64 (r.c.bO x.name).level,.slice ab nb cb,.int .i64 (r.c.bO x.name).pc,.slice ae ne ce] 170));generalize w5.alloc (.cells #[.string (r.c.bO x.name).fn,.int .i64 (r.c.bO x.name).mask,.int .i64 (r.c.bO x.name).level,.slice ab nb cb,.int .i64 (r.c.bO x.name).pc,.slice ae ne ce] 170)=W6 at *;have lZ:=hide (xB.below dH);have Xe:=hide (SE.trans (Fq.of_below dH));have nR:Hid (w5.heap.size≠r.p/\¬s8.has w5.heap.size):=hide ⟨by have:=block_lt xB.blk;omega,λe=>by have:=xB.lt e;omega⟩;generalize w5.heap.size=SB at *;go_wp2_with fail;go_loopw[8] (λi wr=>∃(t:Nat) (s9:Q4),t<=j/\i=.int .i64 t/\Hid (lH w0 wr r s9 nl E1 cs (jC++(r.c.ER (r.c.hg m) x t).map (dA nl))/\Fq r.p s8 s9 W6 wr)) (λi _=>j - (intOf i).toNat);case atStart=>exact⟨0,s8,bJ _,rfl,hide ⟨by unfold Fl.Env.ER;simp only[List.range_zero,iK,bX];exact lZ,Fq.of_below (aX _ _)⟩⟩
    case round=>
     obtain⟨t,s9,ht,rfl,HJ⟩:=hrel;have PV:=hide (Xe.trans HJ.2);have Mh:=hide (PV.at gB BN.1 BN.2);have R4:=hide (HJ.2.at HXB nR.1 nR.2);have Zk:Hid (¬s9.has w.heap.size):=hide (λe=>by
      rcases PV.fresh _ e with e|e;·exact BN.2 e
      ·have:=block_lt gB;omega)
     have tQ:Hid (¬s9.has SB):=hide (λe=>by
      rcases HJ.2.fresh _ e with e|e;·exact nR.2 e
      ·have:=block_lt HXB;omega)
     have WQ:Hid ((jC++(r.c.ER (r.c.hg m) x t).map (dA nl)).length<=16777215):=hide (by rw[aP,cB];unfold Fl.Env.ER;rw[cB,qE];have:=uL.1;omega);have x3:=(aj Mh 3).trans rfl;by_cases htl:t<j
     ·have VE:t<x.args.length:=by rw[<-kZ];exact htl
      obtain⟨e0,e1,e2,e3,g0,g1,g2,g3,hxa⟩:=gF t _ (aU VE);obtain⟨ay,cy,rfl,rfl,rfl,rfl⟩:=hxa.shape;obtain rfl:=uF (by omega);obtain rfl:=HHAB (by have:=HNB0.out;omega);obtain⟨bd,hbd⟩:=aG ((r.c.bO x.name).bounds.getD t 0);have hbg:(r.c.bO x.name).bounds[t]?=some bd:=by rw[hbd,List.getD,aU (by rw[HBN];exact htl)];rfl
      have HG:=hide (And.intro g0 (And.intro g1 (And.intro g2 (And.intro g3 (pO t _ hbg)))));have Lu:Hid (r.c.ER (r.c.hg m) x (t+1)=r.c.ER (r.c.hg m) x t++[Fl.sk (r.c.hg m x.args[t]) bd x.name false]):=hide (by unfold Fl.Env.ER;rw[rA,cZ,hbd,List.map_singleton,List.getD,aU VE];rfl);have Nb:Hid (∀wx,Below wr.heap.size wr wx->Calls prog 96 #[.pointer (some ⟨r.p,0,none⟩),.agg #[.int .i64 x.args[t].kind,.int .i64 x.args[t].n,.string x.args[t].name,.slice ay x.args[t].args.length cy]] wx λe w'=>∃v,e=.returned (.agg #[v,.int .i64 0,.int .i64 ((r.c.hg m x.args[t]).2:Nat)])/\Hid (Own w' wx.heap.size v (r.c.hg m x.args[t]).1/\Below wx.heap.size wx w')):=hide λwx hx =>wE m wx r _ _ _ _ _ _ _ _ _ ⟨(HJ.1.below hx).rc,hxa.below (HJ.1.below hx).base,sI.2.2.2 _ (fI VE),λu hu=>HP.tg u (by simp only[Fl.cls,cK,dS];exact Or.inr ⟨_,fI VE,hu⟩),by have h1:=wW (g:=eu m) (fI VE);have h2:=mU.2.2;omega⟩;have rY:Hid ((∀u∈(r.c.hg m x.args[t]).1,u.size<=maxLen)/\(r.c.hg m x.args[t]).1.length<=9223372036854775807):=hide ⟨Fl.Env.tV (sI.2.2.2 _ (fI VE)),by have h0:=Fl.Env.nN (sI.2.2.2 _ (fI VE));have h1:=wW (g:=eu m) (fI VE);have h2:=mU.2.2;omega⟩;have TS:Hid (∀wx,Below wr.heap.size wr wx->wx.cell? ⟨w.heap.size,3,none⟩=some (.slice (some ⟨b,off,none⟩) j cap)/\wx.cell? ⟨b,off+t*4,none⟩=some (.int .i64 x.args[t].kind)/\wx.cell? ⟨b,off+t*4+1,none⟩=some (.int .i64 x.args[t].n)/\wx.cell? ⟨b,off+t*4+2,none⟩=some (.string x.args[t].name)/\wx.cell? ⟨b,off+t*4+3,none⟩=some (.slice ay x.args[t].args.length cy)/\wx.cell? ⟨SB,3,none⟩=some (.slice (some ⟨bb,ob,none⟩) nb cb)/\wx.cell? ⟨bb,ob+t,none⟩=some (.int .i64 bd)/\wx.cell? ⟨w.heap.size,2,none⟩=some (.string x.name)):=hide λwx hx=>by have hb:=(HJ.1.below hx).base;obtain⟨g0,g1,g2,g3,u0⟩:=HG.out;exact⟨(aj (aN Mh hx) 3).trans rfl,aA g0 hb,aA g1 hb,aA g2 hb,aA g3 hb,(aj (aN R4 hx) 3).trans rfl,aA u0 hb,(aj (aN Mh hx) 2).trans rfl⟩
      obtain⟨hx,hhx⟩:=aG (r.c.hg m x.args[t]);rw[<-hhx]at Lu Nb rY;generalize x.args[t].kind=yk at *;generalize x.args[t].n=yn at *;generalize x.args[t].name=Vx at *;generalize x.args[t].args.length=yl at *;have it0:(0:Int)<=(t:Int):=by omega
      have it1:(t:Int)<(j:Int):=by omega
      have it2:(t:Int)<(nb:Int):=by have:=HNB0.out;omega
      clear g0 g1 g2 g3 hxa hbg hbd hhx;go_wp2_with fail;clear x3;have xP:Hid (Below wr.heap.size wr wr):=hide (aX _ _)
      go_region_held3 (λw'=>w'.cell? ⟨w.heap.size,3,none⟩=some (.slice (some ⟨b,off,none⟩) j cap)/\w'.cell? ⟨b,off+t*4,none⟩=some (.int .i64 yk)/\w'.cell? ⟨b,off+t*4+1,none⟩=some (.int .i64 yn)/\w'.cell? ⟨b,off+t*4+2,none⟩=some (.string Vx)/\w'.cell? ⟨b,off+t*4+3,none⟩=some (.slice ay yl cy)/\w'.cell? ⟨SB,3,none⟩=some (.slice (some ⟨bb,ob,none⟩) nb cb)/\w'.cell? ⟨bb,ob+t,none⟩=some (.int .i64 bd)/\w'.cell? ⟨w.heap.size,2,none⟩=some (.string x.name)) (first|exact je|(refine TS _ ?_;repeat(first|exact dw|exact xP|apply aK)))
       (first
        | (go_at_call 96;refine(Nb _ (by repeat(first|exact xP|apply aK))).mono ?_;rintro e w7 ⟨vy,rfl,lQ⟩;obtain⟨hy7,jT⟩:=lQ.out;obtain⟨a7,c7,hv7⟩:=hy7.iA;obtain⟨q7,oQ⟩:=aG hx.1.length;rw[<-oQ]at hv7;subst hv7;have dw:Hid (Below wr.heap.size wr w7):=hide (up (w:=wr) (by repeat(first|exact xP|apply aK)) jT);have HC6:=hide (tY w0 w7 r s9 nl E1 cs _ (.slice a7 q7 c7) hx bd x.name false (HJ.1.below dw) (hy7.strs rY.1 rY.2) HP.zn HP.ln WQ);clear lQ jT hy7 oQ)
        | (go_at_call 183;refine HC6.mono ?_;rintro e w8 ⟨rfl,vY⟩;obtain⟨s10,hr8,hq8⟩:=vY.out;have Ey:Hid (lH w0 w8 r s10 nl E1 cs (jC++(r.c.ER (r.c.hg m) x (t+1)).map (dA nl))):=hide (by rw[Lu,cZ,<-bE];exact hr8);have lX:=(Fq.of_below dw).trans hq8;have Y2:=hide (HJ.2.trans lX);have je:Hid (w8.cell? ⟨w.heap.size,3,none⟩=some (.slice (some ⟨b,off,none⟩) j cap)/\w8.cell? ⟨b,off+t*4,none⟩=some (.int .i64 yk)/\w8.cell? ⟨b,off+t*4+1,none⟩=some (.int .i64 yn)/\w8.cell? ⟨b,off+t*4+2,none⟩=some (.string Vx)/\w8.cell? ⟨b,off+t*4+3,none⟩=some (.slice ay yl cy)/\w8.cell? ⟨SB,3,none⟩=some (.slice (some ⟨bb,ob,none⟩) nb cb)/\w8.cell? ⟨bb,ob+t,none⟩=some (.int .i64 bd)/\w8.cell? ⟨w.heap.size,2,none⟩=some (.string x.name)):=hide (by obtain⟨g0,g1,g2,g3,u0⟩:=HG.out;have hb:=hr8.base;have n1:=lX.at Mh BN.1 Zk;have n2:=lX.at R4 nR.1 tQ;exact⟨(aj n1 3).trans rfl,aA g0 hb,aA g1 hb,aA g2 hb,aA g3 hb,(aj n2 3).trans rfl,aA u0 hb,(aj n1 2).trans rfl⟩);clear vY hr8 hq8 lX))
      all_goals
       go_wp2_with fail;go_roundw;case rel=>exact⟨t+1,_,by omega,by go_num,hide ⟨Ey,Y2⟩⟩
       case measure=>simp[intOf];omega
     ·obtain rfl:t=j:=by omega
      have HY9:=hide (PV.at iC uO.1 uO.2);have HP9:=hide (HPW.keep PV);have p0:=(aj HY9 0).trans rfl;have p1:=(aj HY9 1).trans rfl;have p2:=(aj HY9 2).trans rfl;have q4:=(aj R4 4).trans rfl;have x2:=(aj Mh 2).trans rfl;have HC:=hide (tY w0 wr r s9 nl E1 cs _ (.slice pa pn pq) pc (r.c.bO x.name).pc x.name true HJ.1 HP9.strs HP.zn HP.ln WQ);go_wp2_with fail;refine HC.mono ?_;rintro e w8 ⟨rfl,vY⟩;obtain⟨s10,hr8,hq8⟩:=vY.out;obtain⟨sk2,hsk2⟩:=aG (jC++(r.c.ER (r.c.hg m) x t).map (dA nl)++[dA nl (Fl.sk pc (r.c.bO x.name).pc x.name true)]);have HSK2:=hide hsk2;rw[<-hsk2]at hr8;have Uq:=hide hr8;have HQ8:=hide (HJ.2.trans hq8);clear vY hr8 hq8 hsk2 p0 p1 p2 q4 x2 HC x3;go_wp2_with fail;go_loopw[9] (λi wr=>∃(u:Nat) (s11:Q4),u<=ne/\i=.int .i64 u/\Hid (lH w0 wr r s11 nl (Fl.adds E1 ((r.c.bO x.name).dF.take u)) cs sk2/\Fq r.p s8 s11 W6 wr)) (λi _=>ne - (intOf i).toNat);case atStart=>exact⟨0,s10,bJ _,rfl,hide ⟨by rw[vJ,jq];exact Uq,HQ8⟩⟩
      case round=>
       obtain⟨u,s11,hu,rfl,HM⟩:=hrel;have hne6:ne<=1048576:=by rw[pF];exact HP.he _
       have vC:=hide (HM.2.at HXB nR.1 nR.2);have q5:=(aj vC 5).trans rfl;by_cases TQ:u<ne
       ·have g0:=aA (HEEL u TQ) HM.1.base;have hum:u<(r.c.bO x.name).dF.length:=by rw[<-pF];exact TQ
        have ee:(r.c.bO x.name).dF.getD u ByteArray.empty=(r.c.bO x.name).dF[u]:=by rw[List.getD,aU hum];rfl
        rw[ee]at g0;obtain rfl:=HHAE (by omega);have HUL:Hid (u<ne):=hide TQ;have HC:=hide (tX w0 wr r s11 nl _ cs sk2 (r.c.bO x.name).dF[u] HM.1 (λv hv=>by
         rcases aY.1 hv with h|h;·exact uL.2.2 v h
         ·exact HP.hu _ v (nS h)) (by
         have h0:=bN ((r.c.bO x.name).dF.take u) E1;have h1:=uL.2.1;have h2:=HP.he x.name;rw[d9]at h0;omega))
        have e2:Fl.add (Fl.adds E1 ((r.c.bO x.name).dF.take u)) (r.c.bO x.name).dF[u]=Fl.adds E1 ((r.c.bO x.name).dF.take (u+1)):=by rw[iY,aU hum,sj,aT,mG,jq]
        rw[e2]at HC;generalize (r.c.bO x.name).dF[u]=ef at *;clear e2 ee;go_wp2_with fail;refine HC.mono ?_;rintro e w9 ⟨rfl,lS⟩;obtain⟨s12,uS,lX⟩:=lS.out;have HM9:=hide (And.intro uS (HM.2.trans lX));clear lS uS lX g0 q5 HC;go_wp2_with fail;go_roundw;case rel=>exact⟨u+1,s12,by have:=HUL.out;omega,by go_num,HM9⟩
        case measure=>have:=HUL.out;simp[intOf];omega
       ·obtain rfl:u=ne:=by omega
        have Q9:Hid ((r.c.bO x.name).dF.take u=(r.c.bO x.name).dF):=hide (by rw[pF,gG]);go_wp2_with fail;go_end0;refine⟨rfl,hide ⟨s11,?_,(Fq.of_below eO).trans (Xe.trans HM.2)⟩⟩;have h1:=HM.1;rw[Q9,HSK2,WZ,M6,<-aT,<-D9]at h1;rw[xY,cZ,cZ,<-bE,<-bE,List.map_singleton,<-kZ];exact h1
   ·have hk4:(x.kind != 4)=true:=by simp[h4]
    have xY:Hid (r.c.iX (m+1) x pc=x.args.flatMap λy=>r.c.iX m y pc):=hide (by rw[HSK,if_neg h4,bX]);have D9:Hid (r.c.iN (m+1) x=x.args.flatMap (r.c.iN m)):=hide (by rw[Ay,if_neg h4,bX]);clear h4;go_wp2_with fail;refine bodyPost_ret (results_none rfl _ _ _) rfl ?_;exact⟨rfl,hide ⟨s8,by rw[xY,D9];exact HI.1,(Fq.of_below eO).trans HI.2⟩⟩
theorem oW:∀m,SnOk m:=by
 intro m;induction m with
 | zero=>intro w0 w r s nl E cs sk vp pc c0 c1 c2 c3 x hP;exact False.elim hP.ex
 | succ m ih=>exact SX m ih
end Go.Proofs.YtfnboapebijcpaaGreatDoor
