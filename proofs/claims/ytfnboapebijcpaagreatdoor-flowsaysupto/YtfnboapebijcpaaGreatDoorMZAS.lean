/- Walks over package names: InOrder: diagnostics -/
import Derived.Test.YtfnboapebijcpaaGreatDoorMZAP
set_option maxHeartbeats 16000000
set_option maxRecDepth 100000
namespace Go.Proofs.YtfnboapebijcpaaGreatDoor
open bC aI
open Go.Proofs.Tryz
open Go.RowKit
theorem YR{w:World}{base g n cap:Nat}{l:List Dg}{cs:List (List Value)}(h:w.ownsRow base 43 3 (.slice (some ⟨g,0,none⟩) n cap) n cs.flatten)(hn:n=l.length)(hcs:cs.length=l.length)(hat:∀(i:Nat) c y,cs[i]?=some c->l[i]?=some y->lY c y):lM w g l:=by
 have hk:∀c∈cs,c.length=3:=λc hc=>by obtain⟨i,hi,rfl⟩:=eX.1 hc;have:=hat i _ _ (aU hi) (aU (by omega));rw[this];rfl
 have hget:=λ(i:Nat) (c:List Value) (hc:cs[i]?=some c) (j:Nat) (hj:j<3)=>Tt h (by omega) hk hc hj;rcases h.2 with⟨h1,_⟩|⟨g',cap',cur,h1,_,hh,_,_,hsz,_⟩;·simp at h1
 ·simp at h1;obtain⟨rfl,rfl⟩:=h1;refine⟨cur,hh,by rw[hsz,<-hn];omega,λi d hd=>?_⟩;have hi:i<cs.length:=by rw[hcs];exact(dG.1 hd).1
  have hc:=aU hi;have e:=hat i _ d hc hd;have g0:=hget i _ hc 0 (by decide);have g1:=hget i _ hc 1 (by decide);have g2:=hget i _ hc 2 (by decide);rw[aj hh,e]at g0 g1 g2;exact⟨g0,g1,g2⟩
theorem Rq(w:World)(v:Value)(l:List Dg)(h:xL w v l)(hl:l.length<=16777216):Calls prog 162 #[v] w λe w'=>∃v',e=.returned v'/\Hid (Below w.heap.size w w'/\((v'=.slice none 0 0/\l=[])\/∃g cap,v'=.slice (some ⟨g,0,none⟩) l.length cap/\l.length<=cap/\w.heap.size<=g/\lM w' g l)):=by
 obtain⟨a,b,off,cap,rfl,h0,-,hel⟩:=h;cases a with
 | none=>
  have hz:l=[]:=by
   cases l with
   | nil=>rfl
   | cons y r=>exact absurd (h0 (by simp)) (by simp)
  subst hz;clear h0 hel;have hnil:∀w c,(binOp .eql 37 (.slice none 0 c) (.slice none 0 0)).run prog w=.ok (.bool true) w:=λw c=>Lib.run_eql_slice_nil w 37 43 none 0 c 0 0 underlying37;go_enter func162,ntmps162;go_wp2_with fail;go_ret;exact⟨_,rfl,hide ⟨aX _ _,Or.inl (by simp)⟩⟩
 | some ad=>
  obtain⟨cs,k1,k2,k3,k4⟩:=Xj (At:=lY) (w:=w) (b:=b) (off:=off) (k:=3) (l:=l) (by decide) (λi y hy=>by
   obtain⟨g0,g1,g2⟩:=hel i y hy;refine⟨_,rfl,λj u hu=>?_,rfl⟩;match j,hu with
   | 0,hu=>simp at hu;subst hu;exact g0
   | 1,hu=>simp at hu;subst hu;exact g1
   | 2,hu=>simp at hu;subst hu;exact g2
   | j+3,hu=>simp at hu)
  have zC:Hid (cs.flatten.length=l.length*3):=hide (by rw[pE cs k2,k1]);have iC:=hide k1;have HK3:=hide k3;have dH:=hide (aB w (.cells #[] 43));have HK4:Hid (∀(j:Nat) u,cs.flatten[j]?=some u->(w.alloc (.cells #[] 43)).cell? ⟨b,off+j,none⟩=some u):=hide λj u hu=>aA (k4 j u hu) dH;have TH:Hid (∀u∈cs.flatten,u.oneCell'=true):=hide λu hu=>by obtain⟨c,hc,hu'⟩:=List.mem_flatten.1 hu;obtain⟨i,hi,rfl⟩:=eX.1 hc;exact(k3 i _ _ (aU hi) (aU (by omega))).one u hu'
  have HH0:=hide h0;obtain⟨nl,hnl⟩:=aG l.length;rw[<-hnl]at zC HH0 iC hl ⊢;have Iw:=hide hnl;have HL:=hide hl;clear hnl hl h0 hel k1 k2 k3 k4;have hnil:∀w n c,(binOp .eql 37 (.slice (some ad) n c) (.slice none 0 0)).run prog w=.ok (.bool false) w:=λw n c=>Lib.run_eql_slice_nil w 37 43 (some ad) n c 0 0 underlying37;have HOW:=hide (Je w 43 3);go_enter func162,ntmps162
  go_wp2_with (first
   | (at_builtin;refine fV rfl _ _ 37 43 3 40 _ rfl underlying37 kL (by decide) (by decide) w.heap.size _ 0 [] rfl HOW (some ad) b off nl cap cs.flatten rfl HH0 zC HK4 TH (by have:=HL.out;unfold maxLen;omega) (by have:=HL.out;omega) dH.size ?_;intro v7 w7 qy pK Et hp7;have HO7:=hide qy;have YQ:=hide Et;have HP7:=hide hp7;have iw:=hide (Below.grown dH pK dH.size (λk e=>by have:=(HOW.lt k e).1;omega));clear qy pK Et hp7)
   | fail)
  go_ret;refine⟨_,rfl,hide ⟨iw,Or.inr ?_⟩⟩;have ho:=HO7.out;rw[fT,ug]at ho;have hrow:=ho.2;rcases hrow with⟨h1,h2⟩|⟨g,cap',cur,h1,hg,hh,hc,_⟩;·exfalso;have h3:=(YQ h2).symm.trans h1;injection h3 with h4;cases h4
  ·rw[h1]at ho;exact⟨g,cap',h1,hc,hg,YR ho Iw (by rw[iC,Iw]) HK3⟩
theorem Lp(w:World)(c:Nat):Calls prog 165 #[.slice none 0 c] w λe w'=>e=.returned (.slice none 0 c)/\w'=w:=by go_enter func165,ntmps165;go_wp2;go_ret;exact⟨rfl,rfl⟩
theorem lM.dgsN{w:World}{g c n:Nat}{l:List Dg}(h:lM w g l)(hn:n=l.length)(hl:l.length<=9223372036854775807):xL w (.slice (some ⟨g,0,none⟩) n c) l:=by subst hn;exact⟨_,g,0,c,rfl,λ_=>rfl,hl,λi d hd=>by rw[fT];exact h.cell hd⟩
theorem OO(w:World)(v:Value)(l:List Dg)(h:xL w v l)(hl:l.length<=16777216):Calls prog 79 #[v] w λe w'=>∃u,e=.returned u/\xL w' u (aI.once l)/\Below w.heap.size w w':=by
 have HC:=hide (Rq w v l h hl);obtain⟨a,b,off,cap,rfl,-⟩:=h;have HL:=hide hl;obtain⟨fl,hfl⟩:=aG l.length;have zC:=hide hfl;rw[<-hfl]at HC ⊢;clear hl hfl;go_enter func79,ntmps79;go_wp2_with fail;refine HC.mono ?_;rintro e w1 ⟨v1,rfl,OJ⟩;obtain⟨hb1,h1⟩:=OJ.out;clear OJ;have HB1:=hide hb1;clear hb1 HC;rcases h1 with⟨rfl,hnil⟩|⟨g,c1,rfl,hcp,hg,hrow⟩;·have HN:=hide hnil;clear hnil;go_wp2_with fail;refine(QY _ _ _).mono ?_;rintro e w2 ⟨rfl,hw2⟩;subst hw2;go_wp2_with fail;refine(Lp _ _).mono ?_;rintro e w3 ⟨rfl,hw3⟩;subst hw3;go_wp2_with fail;go_ret;exact⟨_,rfl,by rw[HN];show xL _ _ [];exact⟨none,0,0,0,rfl,λh=>absurd h (by simp),by simp,λi d hd=>by simp at hd⟩,HB1⟩
 ·have xq:=hide hrow;have HG:=hide hg;clear hrow hg;go_wp2_with fail;refine(Vg w1 w.heap.size g fl c1 l xq zC HG HL).mono ?_;rintro e w2 ⟨rfl,s,hsl,hsm,hss,hrow,hb2⟩;have HSL:=hide hsl;have XO:=hide hsm;have HSS:=hide hss;have kD:=hide hrow;have HB2:=hide (HB1.trans hb2);clear hsl hsm hss hrow hb2;go_wp2_with fail;refine(Lj w2 w.heap.size g fl c1 s kD (by rw[HSL];exact zC) hcp HG (by rw[zC];exact HL)).mono ?_;rintro e w3 ⟨c3,rfl,hrow,hb3⟩;have HE:Hid (aI.once l=zF s):=hide (Yr HSS XO (λ_=>Iff.rfl)).symm;have HROW3:=hide hrow;have HB3:=hide (HB2.trans hb3);have HPL:Hid ((zF s).length<=9223372036854775807):=hide (by have h1:=cpt_len s;rw[HSL]at h1;have:=HL.out;omega);obtain⟨pl,hpl⟩:=aG ((zF s).length);have HP:=hide hpl;rw[<-hpl];clear hrow hb3 hpl;go_wp2_with fail;go_ret;exact⟨_,rfl,by rw[HE];exact HROW3.dgsN HP HPL,HB3⟩
theorem yP{W0 x:World}{o:Obj}(h:Hid (Below W0.heap.size W0 x)):Hid (Below W0.heap.size W0 (x.alloc o)):=hide (h.alloc h.size o)
theorem iU{W0 x:World}(h:Hid (Below W0.heap.size W0 x)):Hid (Below W0.heap.size W0 x.drew):=hide h.drew
namespace aI
def BJ(names:List ByteArray)(x:Mo)(known:List Mo)(m:Nat):List Dg:=[imD x known,twD x,lvD names x m,clD x known m].flatten
def JR(E:Int)(names:List ByteArray)(x:Mo)(known:List Mo)(m:Nat):List Dg:=if E=0 then once (BJ names x known m)else []
end aI
theorem Oj.drew{w:World}{n:Nat}{v:Value}{ls:List (List Dg)}(h:Oj w n v ls):Oj w.drew n v ls:=by obtain⟨b,off,cap,e,h16,h1⟩:=h;refine⟨b,off,cap,e,h16,λi l hl=>?_⟩;obtain⟨vi,g0,g1⟩:=h1 i l hl;exact⟨vi,g0,g1.below (aX _ _).drew⟩
theorem YS{w:World}{n:Nat}{v0 v1 v2 v3:Value}{l0 l1 l2 l3:List Dg}(h0:bI lY w n 43 3 v0 l0)(h1:bI lY w n 43 3 v1 l1)(h2:bI lY w n 43 3 v2 l2)(h3:bI lY w n 43 3 v3 l3):∀(i:Nat) v l,[v0,v1,v2,v3][i]?=some v->[l0,l1,l2,l3][i]?=some l->bI lY w n 43 3 v l:=λi v l hv hl=>by
 match i,hv,hl with
 | 0,hv,hl=>simp at hv hl;subst hv hl;exact h0
 | 1,hv,hl=>simp at hv hl;subst hv hl;exact h1
 | 2,hv,hl=>simp at hv hl;subst hv hl;exact h2
 | 3,hv,hl=>simp at hv hl;subst hv hl;exact h3
 | i+4,hv,hl=>simp at hv
theorem Rs(m:Nat)(w:World)(vn vl vi vv vf vk:Value)(names:List ByteArray)(x:Mo)(known:List Mo)(E:Int)(hN:Strs w vn names)(h:jK w m (.agg #[.string x.name,vi,vv,vf]) x)(hK:kV w m vk known)(hC:DX w vi vf)(hform:∀wx,Below w.heap.size w wx->Calls prog 72 #[.agg #[vn,vl],.agg #[.string x.name,vi,vv,vf],vk] wx λe w'=>e=.returned (.int .i64 E)/\Below wx.heap.size wx w')(hlv:x.vars.length<=1048576)(hlf:x.aR.length<=1048576)(IG:x.imports.length<=1048576)(hlen:(BJ names x known m).length<=16777216):Calls prog 15 #[.agg #[vn,vl],.agg #[.string x.name,vi,vv,vf],vk] w λe w'=>∃u,e=.returned (.tuple #[u,.int .i64 E])/\xL w' u (JR E names x known m)/\Below w.heap.size w w':=by
 have HN:=hide hN;have HM:=hide h;have HK:=hide hK;have HMC:=hide hC;obtain⟨hI,hV,hF⟩:=h.split;obtain⟨an,bn,on,cn,rfl,-⟩:=hN;obtain⟨ai,bi,oi,ci,rfl,-⟩:=hI;obtain⟨av,bv,ov,cv,rfl,-⟩:=hV;obtain⟨af,bf,of,cf,rfl,-⟩:=hF;obtain⟨ak,bk,ok,ck,rfl,-⟩:=hK;have HFO:=hide hform;obtain⟨D1,hD1⟩:=aG (imD x known);obtain⟨D2,hD2⟩:=aG (twD x);obtain⟨D3,hD3⟩:=aG (lvD names x m);obtain⟨D4,hD4⟩:=aG (clD x known m);have HPL:Hid (BJ names x known m=[D1,D2,D3,D4].flatten):=hide (by rw[hD1,hD2,hD3,hD4];rfl);rw[HPL]at hlen;have kK:=hide hlen;have Wy:Hid (D1.length<=16777216/\D2.length<=16777216/\D3.length<=16777216/\D4.length<=16777216):=hide (by simp only[qx,vO,bX,aP]at hlen;refine⟨?_,?_,?_,?_⟩<;>omega);have Jl:=hide (λwx vk' va (hS:XR wx m x known (.slice ai x.imports.length ci) (.slice av x.vars.length cv) (.slice af x.aR.length cf) vk' va)=>Ep m wx x known _ _ _ vk' va hS (by rw[<-hD1];exact Wy.1));have Qj:=hide (λwx (hb:Below w.heap.size w wx)=>Gr m wx _ _ _ x (HM.below hb) (HMC.below hb) hlv hlf (by rw[<-hD2];exact Wy.2.1));have HC3:=hide (λwx (hb:Below w.heap.size w wx)=>Gi m wx _ vl _ _ _ names x (HN.below hb) (HM.below hb) (by rw[<-hD3];exact Wy.2.2.1));have HC4:=hide (λwx vk' va (hS:XR wx m x known (.slice ai x.imports.length ci) (.slice av x.vars.length cv) (.slice af x.aR.length cf) vk' va)=>IK m wx x known _ _ _ vk' va hS (by rw[<-hD4];exact Wy.2.2.2));rw[<-hD1]at Jl;rw[<-hD2]at Qj;rw[<-hD3]at HC3;rw[<-hD4]at HC4;have uH:=hide (λwx (hb:Below w.heap.size w wx)=>zW m wx _ _ _ _ x known (HM.below hb) (HK.below hb) IG);have Eh:=hide (hC.fus);generalize x.imports.length=ni at *;generalize x.vars.length=nv at *;generalize x.aR.length=nf at *;generalize known.length=nk at *;generalize names.length=nn at *;obtain⟨b0,b1,hb0⟩:=al2 w (.cells #[.slice an nn cn,vl] 34) (.cells #[.string x.name,.slice ai ni ci,.slice av nv cv,.slice af nf cf] 26);have HB0:=hide b0;have HB1:=hide b1;have Qh:=hide hb0;have q0:=(aj b0 0).trans (rfl:_=some (Value.slice an nn cn));have q1:=(aj b0 1).trans (rfl:_=some vl);have r0:=(aj b1 0).trans (rfl:_=some (Value.string x.name));have r1:=(aj b1 1).trans (rfl:_=some (Value.slice ai ni ci));have r2:=(aj b1 2).trans (rfl:_=some (Value.slice av nv cv));have r3:=(aj b1 3).trans (rfl:_=some (Value.slice af nf cf));obtain⟨PD,hPD⟩:=aG (JR E names x known m);have HPP:=hide hPD;rw[<-hPD];clear h hC hform hlen hD1 hD2 hD3 hD4 b0 b1 hb0 hPD;go_enter func15,ntmps15;go_wp2_with fail;generalize ((w.alloc (.cells #[.slice an nn cn,vl] 34)).alloc (.cells #[.string x.name,.slice ai ni ci,.slice av nv cv,.slice af nf cf] 26))=W0 at *;refine(HFO _ Qh).mono ?_;rintro e w1 ⟨rfl,hb1⟩;have HB2:=hide (up Qh hb1);replace q0:=aA q0 hb1;replace q1:=aA q1 hb1;replace r0:=aA r0 hb1;replace r1:=aA r1 hb1;replace r2:=aA r2 hb1;replace r3:=aA r3 hb1;clear hb1;by_cases hE:E=0
 ·subst hE;have HPD:Hid (JR 0 names x known m=aI.once [D1,D2,D3,D4].flatten):=hide (by unfold JR;rw[if_pos rfl,HPL]);go_wp2_with fail;refine(uH _ HB2).mono ?_;rintro e w2 ⟨va,rfl,hints,hb2⟩;have Yf:=hide hints;obtain⟨aa,ba,oa,ca,rfl,-⟩:=hints;generalize (x.imports.map λs=>oI (jk known s)).length=nat at *;have HB3:=hide (up HB2 hb2);have HQ:=hide (And.intro (aA q0 hb2) (And.intro (aA q1 hb2) (And.intro (aA r0 hb2) (And.intro (aA r1 hb2) (And.intro (aA r2 hb2) (aA r3 hb2))))));have HSV:Hid (XR w2 m x known (.slice ai ni ci) (.slice av nv cv) (.slice af nf cf) (.slice ak nk ck) (.slice aa nat ca)):=hide ⟨HM.below HB3,HK.below HB3,Yf,Eh⟩;clear q0 q1 r0 r1 r2 r3 hb2;go_wp2_with fail;have WH:=hide (aB w2 (.cells #[.string x.name,.slice ai ni ci,.slice av nv cv,.slice af nf cf,.slice ak nk ck,.slice aa nat ca] 147));have hs:=U4 w2 (.string x.name) (.slice ai ni ci) (.slice av nv cv) (.slice af nf cf) (.slice ak nk ck) (.slice aa nat ca) 147;have HF:Hid (∀wx,Hid (Below (w2.alloc (.cells #[.string x.name,.slice ai ni ci,.slice av nv cv,.slice af nf cf,.slice ak nk ck,.slice aa nat ca] 147)).heap.size (w2.alloc (.cells #[.string x.name,.slice ai ni ci,.slice av nv cv,.slice af nf cf,.slice ak nk ck,.slice aa nat ca] 147)) wx)->wx.cell? ⟨w.heap.size,0,none⟩=some (.slice an nn cn)/\wx.cell? ⟨w.heap.size,1,none⟩=some vl/\wx.cell? ⟨w.heap.size+1,0,none⟩=some (.string x.name)/\wx.cell? ⟨w.heap.size+1,1,none⟩=some (.slice ai ni ci)/\wx.cell? ⟨w.heap.size+1,2,none⟩=some (.slice av nv cv)/\wx.cell? ⟨w.heap.size+1,3,none⟩=some (.slice af nf cf)/\wx.cell? ⟨w2.heap.size,0,none⟩=some (.string x.name)/\wx.cell? ⟨w2.heap.size,1,none⟩=some (.slice ai ni ci)/\wx.cell? ⟨w2.heap.size,2,none⟩=some (.slice av nv cv)/\wx.cell? ⟨w2.heap.size,3,none⟩=some (.slice af nf cf)/\wx.cell? ⟨w2.heap.size,4,none⟩=some (.slice ak nk ck)/\wx.cell? ⟨w2.heap.size,5,none⟩=some (.slice aa nat ca)):=hide (λwx h=>⟨aA (aA HQ.1 WH) h,aA (aA HQ.2.1 WH) h,aA (aA HQ.2.2.1 WH) h,aA (aA HQ.2.2.2.1 WH) h,aA (aA HQ.2.2.2.2.1 WH) h,aA (aA HQ.2.2.2.2.2 WH) h,aA (hs 0 _ rfl) h,aA (hs 1 _ rfl) h,aA (hs 2 _ rfl) h,aA (hs 3 _ rfl) h,aA (hs 4 _ rfl) h,aA (hs 5 _ rfl) h⟩);have HSV4:=hide (HSV.below WH);have qY:=hide (up HB3 WH);clear hs HQ WH;generalize (w2.alloc (.cells #[.string x.name,.slice ai ni ci,.slice av nv cv,.slice af nf cf,.slice ak nk ck,.slice aa nat ca] 147))=W4 at *;have xP:Hid (Below W4.heap.size W4 W4):=hide (aX _ _);obtain⟨F,hF⟩:∃F,F=([D1,D2,D3,D4]:List (List Dg)).flatten:=⟨_,rfl⟩;have QM:=hide hF;clear hF
  go_region_held3 (λwx=>wx.cell? ⟨w.heap.size,0,none⟩=some (.slice an nn cn)/\wx.cell? ⟨w.heap.size,1,none⟩=some vl/\wx.cell? ⟨w.heap.size+1,0,none⟩=some (.string x.name)/\wx.cell? ⟨w.heap.size+1,1,none⟩=some (.slice ai ni ci)/\wx.cell? ⟨w.heap.size+1,2,none⟩=some (.slice av nv cv)/\wx.cell? ⟨w.heap.size+1,3,none⟩=some (.slice af nf cf)/\
   wx.cell? ⟨w2.heap.size,0,none⟩=some (.string x.name)/\wx.cell? ⟨w2.heap.size,1,none⟩=some (.slice ai ni ci)/\wx.cell? ⟨w2.heap.size,2,none⟩=some (.slice av nv cv)/\wx.cell? ⟨w2.heap.size,3,none⟩=some (.slice af nf cf)/\wx.cell? ⟨w2.heap.size,4,none⟩=some (.slice ak nk ck)/\wx.cell? ⟨w2.heap.size,5,none⟩=some (.slice aa nat ca))
   ((refine HF _ ?_;repeat(first|exact HW9|exact HW8|exact HW7|exact HW6|exact HW5|exact xP|apply iU|apply yP)))
   (first
    | (go_at_call 75;refine(Jl _ _ _ (HSV4.below (fC (by repeat(first|exact xP|apply iU))))).mono ?_;rintro e w5 ⟨u5,rfl,TT,hb5⟩;obtain⟨a5,c5,rfl⟩:=TT.form;have HW5:Hid (Below W4.heap.size W4 w5):=hide (up (w:=W4) (fC (by repeat(first|exact xP|apply iU))) hb5);have HU5:=hide TT;clear TT hb5)
    | (go_at_call 76;refine(Qj _ (up qY (fC (by repeat(first|exact HW5|apply iU))))).mono ?_;rintro e w6 ⟨u6,rfl,Yi,hb6⟩;obtain⟨a6,c6,rfl⟩:=Yi.form;have HW6:Hid (Below W4.heap.size W4 w6):=hide (up (w:=W4) (fC (by repeat(first|exact HW5|apply iU))) hb6);have HU6:=hide Yi;have HV5:=hide (HU5.below (show Below w5.heap.size w5 w6 from hb6));clear Yi hb6)
    | (go_at_call 77;refine(HC3 _ (up qY (fC (by repeat(first|exact HW6|apply iU))))).mono ?_;rintro e w7 ⟨u7,rfl,Yj,jT⟩;obtain⟨a7,c7,rfl⟩:=Yj.form;have HW7:Hid (Below W4.heap.size W4 w7):=hide (up (w:=W4) (fC (by repeat(first|exact HW6|apply iU))) jT);have HU7:=hide Yj;have Av:=hide (HV5.below (show Below w6.heap.size w6 w7 from jT));have HX6:=hide (HU6.below (show Below w6.heap.size w6 w7 from jT));clear Yj jT)
    | (go_at_call 78;refine(HC4 _ _ _ (HSV4.below (fC (by repeat(first|exact HW7|apply iU))))).mono ?_;rintro e w8 ⟨u8,rfl,hu8,qR⟩;obtain⟨a8,c8,rfl⟩:=hu8.form;have HW8:Hid (Below W4.heap.size W4 w8):=hide (up (w:=W4) (fC (by repeat(first|exact HW7|apply iU))) qR);have HU8:=hide hu8;have CR:=hide (Av.below (show Below w7.heap.size w7 w8 from qR));have Ue:=hide (HX6.below (show Below w7.heap.size w7 w8 from qR));have sK:=hide (HU7.below (show Below w7.heap.size w7 w8 from qR));clear hu8 qR)
    | (go_at_call 74;have HDS:Hid (Oj (w8.alloc (.cells #[.slice a5 D1.length c5,.slice a6 D2.length c6,.slice a7 D3.length c7,.slice a8 D4.length c8] 37)) W4.heap.size (.slice (some ⟨w8.heap.size,0,none⟩) 4 4) [D1,D2,D3,D4]):=hide (JG w8 W4.heap.size 37 [.slice a5 D1.length c5,.slice a6 D2.length c6,.slice a7 D3.length c7,.slice a8 D4.length c8] [D1,D2,D3,D4] rfl (by simp) (YS (CR.old (bM _)) (Ue.old HW5.size) (sK.old HW6.size) (HU8.old HW7.size)));refine(DV _ W4.heap.size _ [D1,D2,D3,D4] (by repeat(first|exact HDS|apply Oj.drew)) kK).mono ?_;rintro e w9 ⟨u9,rfl,hu9,nG⟩;rw[<-QM]at hu9;have HW9:Hid (Below W4.heap.size W4 w9):=hide (up (w:=W4) (fC (by repeat(first|exact HW8|apply iU|apply yP))) nG);have HU9:=hide (hu9.old (show W4.heap.size<=_ from (fC (by repeat(first|exact HW8|apply iU|apply yP)):Below W4.heap.size W4 _).size));obtain⟨a9,c9,rfl⟩:=hu9.form;clear hu9 nG))
  all_goals have HLF:Hid (F.length<=16777216):=hide (by rw[QM];exact kK);have kI:=hide (up qY HW9);have HOF:Hid (PD=aI.once F):=hide (by rw[HPP,HPD,QM]);clear HU5 HU6 HU7 HU8 HV5 Av HX6 CR Ue sK HW5 HW6 HW7 HW8;have HDG:=hide (HU9.dgs (by have:=HLF.out;omega));clear HU9;go_wp2_with fail;refine(OO w9 _ F HDG HLF).mono ?_;rintro e Rt ⟨u11,rfl,hu11,vX⟩;rw[<-HOF]at hu11;have HU11:=hide hu11;have HB11:=hide (up kI vX);obtain⟨a11,b11,o11,c11,rfl,-⟩:=hu11;generalize PD.length=pl at *;clear vX;go_wp2_with fail;refine bodyPost_ret (v:=.tuple #[.slice a11 pl c11,.int .i64 0]) (by simp[results,results15,go_sem]) rfl ?_;exact⟨_,rfl,HU11,HB11⟩
 ·have hE':(E==0)=false:=by simp[hE]
  have HPD:Hid (JR E names x known m=[]):=hide (by unfold JR;rw[if_neg hE]);clear hE;go_wp2_with fail;refine bodyPost_ret (v:=.tuple #[.slice none 0 0,.int .i64 E]) (by simp[results,results15,go_sem]) rfl ?_;exact⟨_,rfl,by rw[HPP,HPD];exact⟨none,0,0,0,rfl,λh=>absurd h (by simp),by simp,λi d hd=>by simp at hd⟩,HB2⟩
namespace aI
theorem yQ{l:List ByteArray}{s:ByteArray}{i:Nat}(h:bD l s=(i:Int)):l.getD i ByteArray.empty=s:=by
 unfold bD at h;cases hf:(List.range l.length).find? (BQ l s)with
 | none=>rw[hf]at h;simp at h
 | some j=>
  rw[hf]at h;have hji:j=i:=by simp at h;omega
  subst hji;have:=Fg hf;unfold BQ at this;rw[beq_iff_eq]at this;exact(toList_inj this).symm
theorem GR(x:Mo)(k:Nat)(call:ByteArray)(known:List Mo):(tgt x k call known).2.2=(fO x k call known).2.2/\((tgt x k call known).2.2=true->tgt x k call known=fO x k call known):=by
 cases hd:fB call with
 | none=>
  have e:fO x k call known=KI (-1) x.aR call k:=by simp[fO,hd]
  rw[e];unfold KI;cases hf:sZ x.aR call k with
  | none=>rw[Jg hd hf];exact⟨rfl,λh=>by simp at h⟩
  | some i=>rw[Nq hd hf];exact⟨rfl,λ_=>rfl⟩
 | some d=>
  rcases mD x.imports (bC.preS call)with hi|⟨i,hi,_⟩
  ·have e:fO x k call known=(0,0,false):=by simp[fO,hd,hi]
   rw[e,Nr hd (by rw[hi];rfl)];exact⟨rfl,λh=>by simp at h⟩
  ·have hs:=yQ hi;have hi0:decide (0<=bD x.imports (bC.preS call))=true:=by rw[hi];simp
   cases hm:jk known (bC.preS call)with
   | none =>rw[zX hd hi (by rw[hs];exact hm),Tv hd hi0 hm];exact⟨rfl,λh=>by simp at h⟩
   | some a=>
    obtain⟨y,hy,_⟩:=zY hm;rw[EM hd hi (by rw[hs];exact hm) hy];unfold KI;cases hf:sZ y.aR (jW call) y.aR.length with
    | none=>rw[Ns hd hi0 hm hy hf];exact⟨rfl,λh=>by simp at h⟩
    | some j=>rw[Xm hd hi0 hm hy hf];exact⟨rfl,λ_=>rfl⟩
end aI
namespace aI
theorem Vy(m:Nat):∀(x y:Ex),y∈calls m x↔y∈dL m x:=by
 induction m with
 | zero=>intro x y;simp[calls,dL]
 | succ m ih=>
  intro x y;simp only[calls,dL,cK,dS];constructor
  ·rintro(⟨a,ha,hy⟩|h);·exact Or.inr ⟨a,ha,(ih a y).1 hy⟩
   ·exact Or.inl h
  ·rintro(h|⟨a,ha,hy⟩);·exact Or.inr h
   ·exact Or.inl ⟨a,ha,(ih a y).2 hy⟩
def rC(x:Mo)(known:List Mo)(k:Nat)(fn:ByteArray)(y:Ex):List Dg:=if (tgt x k y.name known).2.2=false then [⟨4,fn,y.name⟩]else match KM x known (tgt x k y.name known)with
 | some g=>if g.params.length=y.args.length then []else [⟨5,fn,y.name⟩]
 | none=>[]
theorem YT(x:Mo)(known:List Mo)(k:Nat)(fn:ByteArray)(y:Ex):rC x known k fn y=iN x known k fn y:=by
 obtain⟨h1,h2⟩:=GR x k y.name known;cases ht:(tgt x k y.name known).2.2 with
 | false=>
  rw[ht]at h1;have hc:code x known k y.name y.args.length=4:=by unfold code;rw[if_pos h1.symm]
  unfold rC iN;rw[if_pos ht,hc,if_neg (by decide)]
 | true=>
  rw[ht]at h1;have hp:=h2 ht;cases hf:KM x known (fO x k y.name known)with
  | none=>
   have hc:code x known k y.name y.args.length=0:=by unfold code;rw[if_neg (by rw[<-h1];simp),hf]
   unfold rC iN;rw[if_neg (by rw[ht];simp),hp,hf,hc,if_pos rfl]
  | some g=>
   by_cases hg:g.params.length=y.args.length
   ·have hc:code x known k y.name y.args.length=0:=by unfold code;rw[if_neg (by rw[<-h1];simp),hf];simp only;rw[if_pos hg]
    unfold rC iN;rw[if_neg (by rw[ht];simp),hp,hf,hc,if_pos rfl];simp only;rw[if_pos hg]
   ·have hc:code x known k y.name y.args.length=5:=by unfold code;rw[if_neg (by rw[<-h1];simp),hf];simp only;rw[if_neg hg]
    unfold rC iN;rw[if_neg (by rw[ht];simp),hp,hf,hc,if_neg (by decide)];simp only;rw[if_neg hg]
end aI
namespace aI
def rI(x:Mo)(known:List Mo)(i:Nat)(s:ByteArray):List Dg:=(if (!(known.any λy=>aZ y.name s)||aZ s x.name)=true then [⟨1,⟨#[]⟩,s⟩]else [])++(if zD (x.imports.take i) s=true then [⟨2,⟨#[]⟩,s⟩]else [])
def rV(names:List ByteArray)(x:Mo)(i:Nat)(v:Va):List Dg:=kX names ⟨#[]⟩ v.level++upto (DU x.vars λ_ u=>if aZ u.name v.name=true then [(⟨2,⟨#[]⟩,v.name⟩:Dg)]else []) i
def rVs(names:List ByteArray)(x:Mo):List Dg:=upto (DU x.vars (rV names x)) x.vars.length
def rF6(x:Mo)(k:Nat)(f:Fu):List Dg:=upto (DU x.aR λ_ g=>if aZ g.name f.name=true then [(⟨2,⟨#[]⟩,f.name⟩:Dg)]else []) k
def rF8(names:List ByteArray)(m:Nat)(f:Fu):List Dg:=(all m f.body).flatMap (lC names f.name)
def rF9(x:Mo)(known:List Mo)(m k:Nat)(f:Fu):List Dg:=(calls m f.result++(all m f.body).flatMap λs=>calls m s.e).flatMap (rC x known k f.name)
def rFs(names:List ByteArray)(x:Mo)(known:List Mo)(m:Nat):List Dg:=upto (DU x.aR λk f=>rF6 x k f++ru f.name f.params++rF8 names m f++rF9 x known m k f) x.aR.length
def YU(x:Mo)(known:List Mo):List Dg:=upto (DU x.imports (rI x known)) x.imports.length
theorem wS{α:Type}{l:List α}{f:Nat->α->List Dg}{d:Dg}:d∈upto (DU l f) l.length↔∃(i:Nat) (x:α),l[i]?=some x/\d∈f i x:=by
 rw[Gl];constructor;·rintro⟨i,hi,hd⟩;rw[gI (aU hi)]at hd;exact⟨i,_,aU hi,hd⟩
 ·rintro⟨i,x,hx,hd⟩;exact⟨i,(dG.1 hx).1,by rw[gI hx];exact hd⟩
theorem OP(known:List Mo)(s:ByteArray):(!(known.any λy=>aZ y.name s))=(jk known s).isNone:=by
 cases hm:jk known s with
 | some a =>obtain⟨y,hy,hs⟩:=zY hm;have:(known.any λy=>aZ y.name s)=true:=Cv.2 ⟨y,gD hy,hs⟩;rw[this];rfl
 | none=>
  have:(known.any λy=>aZ y.name s)=false:=by rw[List.any_eq_false];intro y hy hs;obtain⟨i,hi,rfl⟩:=eX.1 hy;unfold jk at hm;rw[xH]at hm;have:=hm i (j6.2 hi);rw[aU hi]at this;exact this hs
  rw[this];rfl
theorem ES(l:List ByteArray)(s:ByteArray):zD l s=true↔s∈l:=by
 unfold zD;rw[decide_eq_true_iff];constructor
 ·intro h;rcases mD l s with hi|⟨i,hi,hil⟩;·rw[hi]at h;omega
  ·have:=yQ hi;rw[List.getD_eq_getElem?_getD,List.getElem?_eq_getElem hil]at this;rw[<-this];exact List.getElem_mem hil
 ·intro h;rcases mD l s with hi|⟨i,hi,hil⟩
  ·exfalso;unfold bD at hi;cases hf:(List.range l.length).find? (BQ l s)with
   | some j=>rw[hf]at hi;simp at hi
   | none =>rw[List.find?_eq_none]at hf;obtain⟨i,hi',rfl⟩:=List.mem_iff_getElem.1 h;have:=hf i (List.mem_range.2 hi');unfold BQ at this;simp[List.getD_eq_getElem?_getD,hi']at this
  ·rw[hi];omega
theorem Uf{fn:ByteArray}{l:List ByteArray}{d:Dg}:d∈ru fn l↔∃(i:Nat) (s:ByteArray),l[i]?=some s/\s∈l.take i/\d=⟨2,fn,s⟩:=by
 unfold ru;rw[wS];constructor
 ·rintro⟨i,s,hs,hd⟩;split at hd;·rename_i h;exact⟨i,s,hs,(ES _ _).1 h,by simpa using hd⟩
  ·simp at hd
 ·rintro⟨i,s,hs,h,rfl⟩;exact⟨i,s,hs,by rw[if_pos ((ES _ _).2 h)];simp⟩
theorem wT{α:Type}{l:List α}{nm:α->ByteArray}{i:Nat}{v:α}(hi:l[i]?=some v){d:Dg}:d∈upto (DU l λ_ u=>if aZ (nm u) (nm v)=true then [(⟨2,⟨#[]⟩,nm v⟩:Dg)]else []) i↔nm v∈(l.map nm).take i/\d=⟨2,⟨#[]⟩,nm v⟩:=by
 have hil:i<=l.length:=zS (dG.1 hi).1;rw[Gl];constructor
 ·rintro⟨k,hk,hd⟩;have hkl:k<l.length:=by omega
  rw[gI (aU hkl)]at hd;split at hd;·rename_i h;have e:nm l[k]=nm v:=toList_inj (by unfold aZ at h;rwa[beq_iff_eq]at h);refine⟨?_,by simpa using hd⟩;rw[<-e,<-List.map_take];exact qC.2 ⟨l[k],List.mem_take_iff_getElem.2 ⟨k,by omega,rfl⟩,rfl⟩
  ·simp at hd
 ·rintro⟨h,rfl⟩;rw[<-List.map_take]at h;obtain⟨u,hu,e⟩:=qC.1 h;obtain⟨k,hk,rfl⟩:=List.mem_take_iff_getElem.1 hu;refine⟨k,by omega,?_⟩;rw[gI (aU (by omega)),if_pos (by unfold aZ;rw[beq_iff_eq,e])];simp
theorem JU{α:Type}{l:List α}{nm:α->ByteArray}{d:Dg}:d∈ru ⟨#[]⟩ (l.map nm)↔∃(i:Nat) (v:α),l[i]?=some v/\nm v∈(l.map nm).take i/\d=⟨2,⟨#[]⟩,nm v⟩:=by
 rw[Uf];constructor
 ·rintro⟨i,s,hs,h,e⟩;rw[rF]at hs;cases hv:l[i]? with
  | none=>rw[hv]at hs;simp at hs
  | some v=>rw[hv]at hs;simp at hs;subst hs;exact⟨i,v,hv,h,e⟩
 ·rintro⟨i,v,hv,h,e⟩;exact⟨i,nm v,by rw[rF,hv];rfl,h,e⟩
theorem mem_rIs(x:Mo)(known:List Mo)(d:Dg):d∈YU x known↔d∈imD x known\/d∈ru ⟨#[]⟩ x.imports:=by
 unfold YU imD;rw[wS,wS,Uf];constructor
 ·rintro⟨i,s,hs,hd⟩;unfold rI at hd;rcases cK.1 hd with hd|hd;·rw[OP,Bool.or_comm]at hd;exact Or.inl ⟨i,s,hs,hd⟩
  ·split at hd;·rename_i h;exact Or.inr ⟨i,s,hs,(ES _ _).1 h,by simpa using hd⟩
   ·simp at hd
 ·rintro(⟨i,s,hs,hd⟩|⟨i,s,hs,h,rfl⟩);·refine⟨i,s,hs,?_⟩;unfold rI;rw[OP,Bool.or_comm];exact cK.2 (Or.inl hd)
  ·refine⟨i,s,hs,?_⟩;unfold rI;exact cK.2 (Or.inr (by rw[if_pos ((ES _ _).2 h)];simp))
theorem mem_rVs(names:List ByteArray)(x:Mo)(d:Dg):d∈rVs names x↔(d∈x.vars.flatMap λv=>kX names ⟨#[]⟩ v.level)\/d∈ru ⟨#[]⟩ (x.vars.map (·.name)):=by
 unfold rVs;rw[wS,JU,dS];constructor
 ·rintro⟨i,v,hv,hd⟩;unfold rV at hd;rcases cK.1 hd with hd|hd;·exact Or.inl ⟨v,gD hv,hd⟩
  ·exact Or.inr ⟨i,v,hv,(wT (nm:=(·.name)) hv).1 hd⟩
 ·rintro(⟨v,hv,hd⟩|⟨i,v,hv,hd⟩);·obtain⟨i,hi,rfl⟩:=eX.1 hv;exact⟨i,_,aU hi,cK.2 (Or.inl hd)⟩
  ·exact⟨i,v,hv,cK.2 (Or.inr ((wT (nm:=(·.name)) hv).2 hd))⟩
theorem Ug(x:Mo)(known:List Mo)(m k:Nat)(f:Fu)(d:Dg):d∈rF9 x known m k f↔d∈(jN m f).flatMap (iN x known k f.name):=by
 unfold rF9 jN;simp only[dS,cK,YT,Vy];constructor;·rintro⟨y,hy,hd⟩;exact⟨y,hy.symm,hd⟩
 ·rintro⟨y,hy,hd⟩;exact⟨y,hy.symm,hd⟩
theorem YV(names:List ByteArray)(x:Mo)(known:List Mo)(m:Nat)(d:Dg):d∈YU x known++rVs names x++rFs names x known m↔d∈BJ names x known m:=by
 have hF:d∈rFs names x known m↔d∈ru ⟨#[]⟩ (x.aR.map (·.name))\/(d∈x.aR.flatMap λf=>ru f.name f.params)\/(d∈x.aR.flatMap λf=>(all m f.body).flatMap (lC names f.name))\/d∈clD x known m:=by
  unfold rFs clD;rw[wS,wS,JU,dS,dS];constructor
  ·rintro⟨k,f,hf,hd⟩;rcases cK.1 hd with hd|hd
   ·rcases cK.1 hd with hd|hd
    ·rcases cK.1 hd with hd|hd;·exact Or.inl ⟨k,f,hf,(wT (nm:=(·.name)) hf).1 hd⟩
     ·exact Or.inr (Or.inl ⟨f,gD hf,hd⟩)
    ·exact Or.inr (Or.inr (Or.inl ⟨f,gD hf,hd⟩))
   ·exact Or.inr (Or.inr (Or.inr ⟨k,f,hf,(Ug x known m k f d).1 hd⟩))
  ·rintro(⟨k,f,hf,hd⟩|⟨f,hf,hd⟩|⟨f,hf,hd⟩|⟨k,f,hf,hd⟩);·exact⟨k,f,hf,cK.2 (Or.inl (cK.2 (Or.inl (cK.2 (Or.inl ((wT (nm:=(·.name)) hf).2 hd))))))⟩
   ·obtain⟨k,hk,rfl⟩:=eX.1 hf;exact⟨k,_,aU hk,cK.2 (Or.inl (cK.2 (Or.inl (cK.2 (Or.inr hd)))))⟩
   ·obtain⟨k,hk,rfl⟩:=eX.1 hf;exact⟨k,_,aU hk,cK.2 (Or.inl (cK.2 (Or.inr hd)))⟩
   ·exact⟨k,f,hf,cK.2 (Or.inr ((Ug x known m k f d).2 hd))⟩
 unfold BJ twD lvD;simp only[qx,vO,bX,cK];rw[mem_rIs,mem_rVs,hF];generalize (d∈imD x known)=a;generalize (d∈ru ⟨#[]⟩ x.imports)=b;generalize (d∈ru ⟨#[]⟩ (x.vars.map (·.name)))=c;generalize (d∈ru ⟨#[]⟩ (x.aR.map (·.name)))=e;generalize (d∈x.vars.flatMap λv=>kX names ⟨#[]⟩ v.level)=f;generalize (d∈x.aR.flatMap λf=>ru f.name f.params)=g;generalize (d∈x.aR.flatMap λf=>(all m f.body).flatMap (lC names f.name))=h;generalize (d∈clD x known m)=i;constructor;·rintro(((h|h)|(h|h))|h|h|h|h)<;>simp[h]
 ·rintro(h|((h|h|h)|h)|(h|h)|h)<;>simp[h]
theorem Vz(names:List ByteArray)(x:Mo)(known:List Mo)(m:Nat):once (YU x known++rVs names x++rFs names x known m)=once (BJ names x known m):=
 yw (FZ _) (FZ _) λd=>by rw[zV,zV,YV]
end aI
namespace bC
def CS(s:ByteArray):ByteArray:=brk [⟨#[105,109,112,111,114,116]⟩,s]
def VA(v:Va):ByteArray:=brk [⟨#[118,97,114]⟩,v.name,v.level]
end bC
namespace bC
end bC
end Go.Proofs.YtfnboapebijcpaaGreatDoor
