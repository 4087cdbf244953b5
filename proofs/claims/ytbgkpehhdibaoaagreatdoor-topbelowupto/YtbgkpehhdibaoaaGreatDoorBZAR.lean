/- part -/
import Derived.Test.YtbgkpehhdibaoaaGreatDoorBZAO
import Derived.Test.YtbgkpehhdibaoaaGreatDoorBZAP
set_option maxHeartbeats 0
set_option maxRecDepth 99999
namespace Go.Proofs.YtbgkpehhdibaoaaGreatDoor
open bN Rn Sv
open Go.Proofs.Tryz
open Go.RowKit
namespace bN
def oK(s:ByteArray):Bool:=dP s.data.toList
def XB(v:Va):Bool:=oK v.name&&oK v.level
def XC(m:Nat)(f:Fu):Bool:=oK f.name&&mG m f.body&&kN m f.result&&f.params.all oK
def Q8(m:Nat)(f:Fu):Int:=if 4<f.params.length then 2 else if XC m f then 0 else 5
def uP(m:Nat):List Fu->Int
 | []=>0
 | f::l=>if Q8 m f=0 then uP m l else Q8 m f
def step(b:UInt8):Int:=if b=40 then 1 else if b=41 then -1 else 0
def wP(t:ByteArray):Nat->Int
 | 0=>0
 | j+1=>wP t j+step (t.data.getD j 0)
def Bj(t:ByteArray):Bool:=(List.range t.size).any λj=>decide (20<wP t (j+1))
def sI(m:Nat)(x:Mo):Int:=
 if 8<x.imports.length\/8<x.vars.length\/8<x.bg.length then 2
 else if ((oK x.name&&x.imports.all oK)&&x.vars.all XB)=false then 5
 else if uP m x.bg≠0 then uP m x.bg
 else if Bj (moT m x)then 2 else 0
end bN
variable{m j:Nat}{t:aY}
theorem Vb:∀{l:List Fu} {k:Nat} {y:Fu},(∀(d:Nat) (z:Fu),d<k->l[d]?=some z->Q8 m z=0)->l[k]?=some y->Q8 m y≠0->uP m l=Q8 m y
 | [],k,y,_,h,_=>by simp at h
 | f::l,0,y,_,h,h0=>by simp only[List.getElem?_cons_zero,Option.some.injEq]at h;subst h;simp only[uP];rw[aJ h0]
 | f::l,k+1,y,ha,h,h0=>by have:=ha 0 f aX rfl;simp only[uP];rw[aL this];exact Vb (k:=k) (λd z hd hz=>ha (d+1) z aX (by simpa using hz)) (by simpa using h) h0
theorem Ku:∀{l:List Fu},(∀(d:Nat) (z:Fu),l[d]?=some z->Q8 m z=0)->uP m l=0
 | [],_=>rfl
 | f::l,ha=>by simp only[uP];rw[aL (ha 0 f rfl)];exact Ku (λd z hz=>ha (d+1) z (by simpa using hz))
theorem Pf(t:aY)(j:Nat)(h:j<t.size):wP t (j+1)=wP t j+bN.step t[j]:=by
 have e:t.data.getD j 0=t[j]:=by have:j<t.data.size:=h;unfold Array.getD;rw[dif_pos this];rfl
 simp only[wP,e]
theorem deepB_at(hj:j<t.size)(h:20<wP t (j+1)):Bj t=true:=
 OG.2 ⟨j,jr.2 hj,gq h⟩
theorem XD(h:∀j,j<t.size->¬20<wP t (j+1)):Bj t=false:=by unfold Bj;rw[List.any_eq_false];intro j hj;simpa using h j (jr.1 hj)
namespace Rn
structure Rel(nm:List (ByteArray × ByteArray))(ρ:Y5->Y5->Prop):Prop where
 refl:∀s,ρ s s
 trans:∀{s t u},ρ s t->ρ t u->ρ s u
 gt:∀m o n s,ρ s (Rn.gt nm m o n s).2
 pt:∀m o n x s,ρ s (Rn.pt nm m o n x s).2
 burn:∀s s1,burn s=some s1->ρ s s1
 pr:∀s d,ρ s { s with pr:=s.pr++[d] }
section
variable {nm : List (ByteArray × ByteArray)} {ρ : Y5 → Y5 → Prop} (U : Rel nm ρ)
include U
end
end Rn
theorem boxC(w:World)(vn vl:Value)(a b c d:Value)(W:World)(hW:W=(w.alloc (aW #[vn,vl] 25)).alloc (aW #[a,b,c,d] 261)):W.heap[w.heap.size]?=some (aW #[vn,vl] 25)/\W.heap[w.heap.size+1]?=some (aW #[a,b,c,d] 261)/\bG w W:=by subst hW;refine⟨dw (aZ w _) _,?_,((bP _ _).alloc (bE _) _).alloc dx _⟩;have h:=aZ (w.alloc (aW #[vn,vl] 25)) (aW #[a,b,c,d] 261);rw[show(w.alloc (aW #[vn,vl] 25)).heap.size=w.heap.size+1 by simp]at h;exact h
theorem CZ(w:World)(vn vl:Value)(ss:List aY)(n:Nat)(c:Co)(vf:Value)(hS:Strs w vn ss)(hF:Ints w vf c.fr)(_hn:n<=40):Calls prog 219 #[.agg #[vn,vl],O n,.agg #[O c.to,vf,O c.mask,O c.level]] w λe w'=>e=dz (.bool (Jq ss.length n c))/\bG w w':=by
 obtain⟨ct,cf,cm,cl⟩:=c;simp only at hF ⊢;obtain⟨E,hE⟩:=bC (Jq ss.length n ⟨ct,cf,cm,cl⟩);have HE:=I hE;rw[<-hE];obtain⟨ad,bl,off,cap,rfl,-,hl,-,-⟩:=hS;obtain⟨N,hN⟩:=bC ss.length;have HN:=I hN;rw[<-hN]at hl ⊢;obtain⟨fa,fb,fo,fc,rfl,hf0,hfl,hfe⟩:=hF;obtain⟨len,hlen⟩:=bC cf.length;have XE:=I hlen;rw[<-hlen]at hf0 hfl ⊢;obtain⟨W,hW⟩:=bC ((w.alloc (aW #[Y ad N cap,vl] 25)).alloc (aW #[O ct,Y fa len fc,O cm,O cl] 261));obtain⟨b0,b1,hB⟩:=boxC w _ _ _ _ _ _ W hW;obtain⟨q0,q1⟩:=iV b0;obtain⟨q2,q3,q4,q5⟩:=Mq b1;obtain⟨H0,H1,HB,zO,ug⟩:=rO b0 b1 hB hfe hf0;clear b0 b1 hB hfe hf0 hE hN hlen;go_enter func219,ntmps219;go_wp2_with fail;try rw[<-hW]
 clear hW;go_loop [12] (λi=>∃k:Nat,k<=len/\i=O k/\∀f∈cf.take k,rz n f=true) (λi=>len - (intOf i).toNat);case atStart=>exact⟨0,bL _,rfl,by simp⟩
 case round=>
  obtain⟨k,hk,rfl,hall⟩:=hrel;have HA:=I hall;clear hall;by_cases hlt:k<len
  ·obtain⟨f,hf⟩:∃f,cf[k]?=some f:=⟨_,bD (by rw[<-XE];exact hlt)⟩;have cf':=aD (zO k f hf) HB;obtain rfl:=ug aX;have HFK:=I hf;clear hf;go_wp2_with fail;refine(wN W n f).mono ?_;rintro e w' ⟨rfl,rfl⟩;cases hv:rz n f;·go_wp2_with fail;go_ret;refine⟨aP ?_,HB⟩;rw[HE,Jq,Ar.2 ⟨f,eT HFK,by simp[hv]⟩];rfl
   ·go_wp2_with fail;go_round;case rel=>exact⟨k+1,by omega,by go_num,λg hg=>by
     rw[gy,HFK]at hg;rcases bZ.1 hg with h|h;·exact HA g h
     ·simp at h;subst h;exact hv⟩
    case measure=>simp[intOf];omega
  ·have fF:Hid (cf.all (rz n)=true):=I (iB.2 λf hf=>HA f (by rw[fU (by rw[<-XE];omega)];exact hf));go_wp2_with fail;refine(wN W n ct).mono ?_;rintro e w' ⟨rfl,rfl⟩;cases hv:rz n ct;·go_wp2_with fail;go_ret;exact⟨aP (by rw[HE,Jq,fF,hv];rfl),HB⟩
   ·go_wp2_with fail;refine(Eb w' ad vl N cap cm cl).mono ?_;rintro e w2 ⟨rfl,hb2⟩;have HB2:=I (up HB hb2);clear hb2;cases hb:yw N cm cl;·go_wp2_with fail;go_ret;exact⟨aP (by rw[HE,Jq,fF,hv,<-HN,hb];rfl),HB2⟩
    ·go_wp2_with fail;go_ret;exact⟨aP (by rw[HE,Jq,fF,hv,<-HN,hb];rfl),HB2⟩
namespace Sv
def GX(N:Nat)(n:Int)(cs:List Co):Int:=if n<0 then 1 else if 40<n then 1 else if 1000<cs.length then 2 else if cs.all (Jq N n.toNat)then 0 else 1
end Sv
theorem Vd(w:World)(vn vl:Value)(W:World)(hW:W=w.alloc (aW #[vn,vl] 25)):W.heap[w.heap.size]?=some (aW #[vn,vl] 25)/\bG w W:=by subst hW;exact⟨aZ w _,aH w _⟩
theorem EK(w:World)(vn vl vc:Value)(ss:List aY)(ni:Int)(cs:List Co)(hS:Strs w vn ss)(hC:Ko w vc cs):Calls prog 171 #[.agg #[vn,vl],O ni,vc] w λe w'=>e=dz (O (GX ss.length ni cs))/\bG w w':=by
 have HS:=I hS;obtain⟨E,hE⟩:=bC (GX ss.length ni cs);have HE:=I hE;rw[<-hE];obtain⟨W,hW⟩:=bC (w.alloc (aW #[vn,vl] 25));obtain⟨b0,hB⟩:=Vd w vn vl W hW;obtain⟨H0,HB⟩:=bU b0 hB;obtain⟨a,b,off,cap,rfl,h0,hl,hel⟩:=hC;obtain⟨len,hlen⟩:=bC cs.length;have XE:=I hlen;rw[<-hlen]at h0 hl ⊢;obtain⟨lK,Ef⟩:=bU hel h0;clear b0 hB hS hE hel h0 hlen;by_cases hn0:ni<0;·have HX:Hid (E=1):=I (by rw[HE,GX,aL hn0]);go_enter func171,ntmps171;go_wp2_with fail;go_ret;exact⟨bT HX.symm,by rw[<-hW];exact HB⟩
 ·by_cases hn1:40<ni;·have HX:Hid (E=1):=I (by rw[HE,GX,aJ hn0,aL hn1]);go_enter func171,ntmps171;go_wp2_with fail;go_ret;exact⟨bT HX.symm,by rw[<-hW];exact HB⟩
  ·obtain⟨n,rfl⟩:∃n:Nat,ni=n:=⟨ni.toNat,by omega⟩;by_cases hbig:1000<len;·have HX:Hid (E=2):=I (by rw[HE,GX,aJ hn0,aJ hn1,aL (by rw[<-XE];exact hbig)]);go_enter func171,ntmps171;go_wp2_with fail;go_ret;exact⟨bT HX.symm,by rw[<-hW];exact HB⟩
   ·have HX:Hid (E=if cs.all (Jq ss.length n)then 0 else 1):=I (by rw[HE,GX,aJ hn0,aJ hn1,aJ (by rw[<-XE];exact hbig)];rfl);go_enter func171,ntmps171;go_wp2_with fail;try rw[<-hW]
    clear hW;go_loopw[20] (λi wx=>∃k:Nat,k<=len/\i=O k/\bG W wx/\∀f∈cs.take k,Jq ss.length n f=true) (λi _=>len - (intOf i).toNat);case atStart=>exact⟨0,bL _,rfl,bP _ _,by simp⟩
    case round=>
     obtain⟨k,hk,rfl,hbw,hall⟩:=hrel;obtain⟨HA,HW⟩:=bU hall hbw;clear hall hbw;by_cases hlt:k<len
     ·obtain⟨f,hf⟩:∃f,cs[k]?=some f:=⟨_,bD (by rw[<-XE];exact hlt)⟩;have HFK:=I hf;have hbx:=up HB HW;obtain⟨vf,hvf,g0,g1,g2,g3⟩:=lK k f hf;have HVF:=I (hvf.below hbx);obtain⟨g0,g1,g2,g3⟩:=tZ (aD g0 hbx) (aD g1 hbx) (aD g2 hbx) (aD g3 hbx);obtain⟨fa,fb,fo,fc,rfl,-⟩:=hvf;obtain rfl:=Ef aX;have p0:=dw (aU H0 HW) (aW #[O f.to,Y fa f.fr.length fc,O f.mask,O f.level] 261);obtain⟨q0,q1⟩:=iV p0;obtain⟨dQ,HWX,HVX⟩:=fD (up hbx (aH wr (aW #[O f.to,Y fa f.fr.length fc,O f.mask,O f.level] 261))) (up HW (aH wr (aW #[O f.to,Y fa f.fr.length fc,O f.mask,O f.level] 261))) (HVF.below (aH wr (aW #[O f.to,Y fa f.fr.length fc,O f.mask,O f.level] 261)));clear hf hbx p0;go_wp2_with fail;refine(CZ _ vn vl ss n f _ (HS.below dQ) HVX aX).mono ?_;rintro e w2 ⟨rfl,hb2⟩;have HW2:=I (up HWX hb2);clear hb2;cases hv:Jq ss.length n f;·go_wp2_with fail;go_ret;refine⟨bT ?_,up HB HW2⟩;rw[HX,Ar.2 ⟨f,eT HFK,by simp[hv]⟩];rfl
      ·go_wp2_with fail;go_roundw;case rel=>exact⟨k+1,by omega,by go_num,HW2,λg hg=>by
        rw[gy,HFK]at hg;rcases bZ.1 hg with h|h;·exact HA g h
        ·simp at h;subst h;exact hv⟩
       case measure=>simp[intOf];omega
     ·have fF:Hid (cs.all (Jq ss.length n)=true):=I (iB.2 λf hf=>HA f (by rw[fU (by rw[<-XE];omega)];exact hf));go_wp2_with fail;go_ret;exact⟨bT (by rw[HX,fF];rfl),up HB HW⟩
end Go.Proofs.YtbgkpehhdibaoaaGreatDoor
