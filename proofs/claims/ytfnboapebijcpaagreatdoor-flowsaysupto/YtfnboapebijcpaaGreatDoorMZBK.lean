/- What a body does, the document's side: plain facts. -/
import Derived.Test.YtfnboapebijcpaaGreatDoorMEW
set_option maxHeartbeats 16000000
set_option maxRecDepth 100000
namespace Go.Proofs.YtfnboapebijcpaaGreatDoor
open bC aI
open Go.Proofs.Tryz
open Go.RowKit Go.Maps Go.WideMaps
theorem moE_par4{m:Nat}{x:Mo}(h:qA m x=0){f:Fu}(hf:f∈x.aR):f.params.length<=4:=by
 unfold qA at h;by_cases h2:8<x.imports.length\/8<x.vars.length\/8<x.aR.length;·rw[if_pos h2]at h;omega
 ·rw[if_neg h2]at h;by_cases h3:((dP x.name&&x.imports.all dP)&&x.vars.all Es)=false;·rw[if_pos h3]at h;omega
  ·rw[if_neg h3]at h;by_cases h4:qQ m x.aR≠0;·rw[if_pos h4]at h;exact absurd h h4
   ·have h5:=AP (Classical.not_not.1 h4) f hf;unfold Gq at h5;by_cases h6:4<f.params.length;·rw[if_pos h6]at h5;omega
    ·omega
namespace Fl
def Env.Bh(c:Env):Nat->List St->List ByteArray
 | 0,_=>[]
 | m+1,l=>l.flatMap λs=>c.kJ m s.e++c.iN m s.e++c.nA s++Env.Bh c m s.a++Env.Bh c m s.b
def Env.dfC(c:Env)(m:Nat)(s:St):List ByteArray:=c.kJ m s.e++c.iN m s.e++c.nA s++c.Bh m s.a++c.Bh m s.b
section
variable {c : Env}
theorem Env.cnS_succ(m:Nat)(l:List St)(pc:Hg):c.uP (m+1) l pc=l.flatMap λs=>c.OU m s pc:=rfl
theorem Env.MK:∀{m:Nat} {l:List St} {v:ByteArray},v∈c.Bh m l↔v∈c.Na m l
 | 0,_,_=>by simp[Env.Bh,Env.Na]
 | m+1,l,v=>by have ih:=λy:List St=>Env.MK (m:=m) (l:=y) (v:=v);simp only[Env.Bh,Env.Na,dS,cK,ih,Env.Fa]
theorem Env.UJ(s:St):(c.nA s).length<=1:=by
 unfold Env.nA Env.CO;split;·split<;>simp
 ·split<;>simp
theorem Env.SY(hs:∀s,(c.bO s).dF.length<=1048576):∀(m:Nat) (x:Ex),(c.kJ m x).length+(c.iN m x).length<=1048576*eu m x
 | 0,_=>by simp[Env.kJ,Env.iN]
 | m+1,x=>by
  simp only[Env.kJ,Env.iN,eu,aP,dZ];have h1:=dU (l:=x.args) λy _=>Env.SY hs m y;rw[jw]at h1;have h0:(x.args.map λy=>(c.kJ m y).length+(c.iN m y).length).sum=(x.args.map λy=>(c.kJ m y).length).sum+(x.args.map λy=>(c.iN m y).length).sum:=by
   induction x.args with
   | nil=>rfl
   | cons y l ih=>simp only[dN,jE];omega
  have h2:(if x.kind=2 then c.CO ⟨#[114,58]⟩ x.name else []).length+(if x.kind=4 then (c.bO x.name).dF else []).length<=1048576:=by
   have h3:=hs x.name;by_cases k2:x.kind=2
   ·have k4:¬x.kind=4:=by omega
    rw[if_pos k2,if_neg k4];have:(c.CO ⟨#[114,58]⟩ x.name).length<=1:=by unfold Env.CO;split<;>simp
    simp only[r9];omega
   ·rw[if_neg k2];split;·simp only[r9];omega
    ·simp
  omega
theorem Env.PW(hm:c.md.size<=8){s:St}(hs:s.name.size<=8){v:ByteArray}(hv:v∈c.nA s):v.size<=maxLen:=by
 unfold Env.nA Env.CO at hv;split at hv
 ·split at hv;·rw[iy]at hv;subst hv;rw[Kk];have:(⟨#[119,58]⟩:ByteArray).size=2:=rfl;unfold maxLen;omega
  ·simp at hv
 ·split at hv;·rw[iy]at hv;subst hv;rw[ko];have:(⟨#[112,58]⟩:ByteArray).size=2:=rfl;unfold maxLen;omega
  ·simp at hv
theorem Env.Bj(hs:∀s,(c.bO s).dF.length<=1048576):∀(m:Nat) (l:List St),(c.Bh m l).length<=1048576*bK m l
 | 0,_=>by simp[Env.Bh]
 | m+1,l=>by simp only[Env.Bh,bK,dZ];refine bS (dU (g:=λs:St=>1048576*(s.name.size+3+eu m s.e+bK m s.a+bK m s.b)) λs _=>?_) (by rw[jw];exact Mx _ (bP _));have h1:=Env.SY hs m s.e;have h3:=Env.UJ (c:=c) s;have h4:=Env.Bj hs m s.a;have h5:=Env.Bj hs m s.b;simp only[aP];omega
theorem Env.wF(hm:c.md.size<=8)(hu:∀s,∀u∈(c.bO s).dF,u.size<=maxLen):∀{m:Nat} {l:List St} {v:ByteArray},c.uE m l->v∈c.Bh m l->v.size<=maxLen
 | 0,_,_,_,hv=>by simp[Env.Bh]at hv
 | m+1,l,v,hl,hv=>by
  simp only[Env.Bh,dS,cK]at hv;obtain⟨s,hs,hv⟩:=hv;obtain⟨h1,h2,_,_,h5,h6⟩:=hl s hs;rcases hv with(((hv|hv)|hv)|hv)|hv;·exact Env.kG hm h2 hv
  ·exact Env.lW hu hv
  ·exact Env.PW hm h1 hv
  ·exact Env.wF hm hu h5 hv
  ·exact Env.wF hm hu h6 hv
theorem Env.PX{s:St}(hs:s.name.size<=8){v:ByteArray}(hv:v∈c.jZ s):v.size<=maxLen:=by
 unfold Env.jZ Env.BI at hv;split at hv
 ·split at hv;·simp at hv
  ·rw[iy]at hv;subst hv;unfold maxLen;omega
 ·simp at hv
theorem Env.wG:∀{m:Nat} {l:List St} {v:ByteArray},c.uE m l->v∈c.kR m l->v.size<=maxLen
 | 0,_,_,_,hv=>by simp[Env.kR]at hv
 | m+1,l,v,hl,hv=>by
  simp only[Env.kR,dS,cK]at hv;obtain⟨s,hs,hv⟩:=hv;obtain⟨h1,h2,_,_,h5,h6⟩:=hl s hs;rcases hv with((hv|hv)|hv)|hv;·exact bS (Env.jS h2 hv) (by decide)
  ·exact Env.PX h1 hv
  ·exact Env.wG h5 hv
  ·exact Env.wG h6 hv
theorem Env.Dq:∀{m:Nat} {x:Ex} {pc:Hg} {s:Sk} {v:ByteArray},c.qc m x->s∈c.iX m x pc->v∈s.vs->v∈pc.1\/v∈c.fQ m x
 | 0,_,_,_,_,hx,_,_=>False.elim hx
 | m+1,x,pc,s,v,hx,hs,hv=>by
  simp only[Env.iX,cK,dS]at hs;rcases hs with⟨y,hy,hs⟩|hs
  ·rcases Env.Dq (hx.2.2.2 y hy) hs hv with h|h;·exact Or.inl h
   ·refine Or.inr ?_;simp only[Env.fQ,cK,dS];exact Or.inr ⟨y,hy,h⟩
  ·split at hs
   ·simp only[cK,iy,Env.ER,qC,j6]at hs;rcases hs with⟨i,hi,rfl⟩|rfl;·refine Or.inr ?_;simp only[Env.fQ,cK,dS];exact Or.inr ⟨_,kE hi,Env.JO (hx.2.2.2 _ (kE hi)) hv⟩
    ·exact Or.inl hv
   ·simp at hs
def Pre(nl NL:List ByteArray):Prop:=∃t,NL=nl++t
theorem Pre.add{nl a b NL:List ByteArray}(h:Pre (adds nl (a++b)) NL):Pre (adds nl a) NL:=by obtain⟨t,rfl⟩:=h;rw[aT];obtain⟨u,hu⟩:=OE b (adds nl a);exact⟨u++t,by rw[hu,bE]⟩
theorem Pre.self{nl a NL:List ByteArray}(h:Pre (adds nl a) NL):Pre nl NL:=Pre.add (a:=[]) (b:=a) h
theorem Bl{nl NL:List ByteArray}(hN:NL.Nodup)(h:Pre nl NL){s:Sk}(hs:∀v∈s.vs,v∈nl):dA nl s=dA NL s:=by obtain⟨t,rfl⟩:=h;unfold dA;rw[OG hN hs]
theorem sF{nl NL:List ByteArray}(hN:NL.Nodup)(h:Pre nl NL){l:List Sk}(hs:∀s∈l,∀v∈s.vs,v∈nl):l.map (dA nl)=l.map (dA NL):=KE λs h'=>Bl hN h (hs s h')
theorem toCo_pre{nl NL:List ByteArray}(hN:NL.Nodup)(h:Pre nl NL){s:Cn}(ht:s.to∈nl)(hs:∀v∈s.vs,v∈nl):iI nl s=iI NL s:=by obtain⟨t,rfl⟩:=h;unfold iI;rw[OG hN hs,Ub hN ht]
theorem Wo{nl:List ByteArray}(hn:nl.Nodup){s:ByteArray}(h:s∈nl):bD nl s=((idx nl s).getD 0:Nat):=by
 have h0:=Db.2 h;obtain⟨i,hi⟩:∃i:Nat,bD nl s=i:=⟨(bD nl s).toNat,by omega⟩;have hl:i<nl.length:=by
  rcases Pk nl s with h1|h1;·omega
  ·rw[h1]at h;cases h
 have h1:=yQ hi;rw[List.getD,aU hl,kr]at h1;rw[hi,Ra hn (i:=i) (by rw[aU hl,h1]),kr]
end
structure Room(nl E:List ByteArray)(cn sn k:Nat):Prop where
 zn:∀u∈nl,u.size<=maxLen
 ze:∀u∈E,u.size<=maxLen
 ln:nl.length+k<=1048576
 le:E.length+1048576*k<=4398046511103
 lc:cn+k<=16777215
 ls:sn+2*k<=16777215
theorem Room.step{nl E a b:List ByteArray}{cn sn k k1 k2 dc ds:Nat}(h:Room nl E cn sn k)(za:∀u∈a,u.size<=maxLen)(zb:∀u∈b,u.size<=maxLen)(la:a.length<=k1)(lb:b.length<=1048576*k1)(hc:dc<=k1)(hs:ds<=2*k1)(hk:k1+k2<=k):Room (adds nl a) (adds E b) (cn+dc) (sn+ds) k2:=by
 have h1:=bN a nl;have h2:=bN b E;have h3:=h.ln;have h4:=h.le;have h5:=h.lc;have h6:=h.ls;refine⟨λu hu=>?_,λu hu=>?_,by omega,by omega,by omega,by omega⟩
 ·rcases aY.1 hu with h'|h';·exact h.zn u h'
  ·exact za u h'
 ·rcases aY.1 hu with h'|h';·exact h.ze u h'
  ·exact zb u h'
theorem Room.less{nl E:List ByteArray}{cn sn k k2:Nat}(h:Room nl E cn sn k)(hk:k2<=k):Room nl E cn sn k2:=⟨h.zn,h.ze,by have:=h.ln;omega,by have:=h.le;omega,by have:=h.lc;omega,by have:=h.ls;omega⟩
theorem Km{m:Nat}{l:List St}{j:Nat}{s:St}(hs:l[j]?=some s):bK (m+1) (l.take j)+uj m s<=bK (m+1) l:=by
 obtain⟨h,rfl⟩:=dG.1 hs;have e:l=l.take j++(l[j]::l.drop (j+1)):=by rw[<-JM h,kW]
 have h2:(l.map (uj m)).sum=((l.take j).map (uj m)).sum+(uj m l[j]+((l.drop (j+1)).map (uj m)).sum):=by
  conv=>lhs;rw[e]
  rw[cZ,nT,dN,jE]
 have h3:∀l:List St,bK (m+1) l=(l.map (uj m)).sum+1:=λ_=>rfl;rw[h3,h3];omega
section
variable {c : Env}
theorem Env.Wp{m:Nat}{l:List St}(h:c.uE (m+1) l)(j:Nat):c.uE (m+1) (l.take j):=λs hs=>h s (nS hs)
theorem room_at{m:Nat}{l:List St}{nl E:List ByteArray}{cn sn:Nat}(h:Room nl E cn sn (bK (m+1) l))(hok:c.uE (m+1) l)(hm:c.md.size<=8)(he:∀s,(c.bO s).dF.length<=1048576)(hu:∀s,∀u∈(c.bO s).dF,u.size<=maxLen)(pc:Hg){j:Nat}{s:St}(hs:l[j]?=some s):Room (adds nl ((l.take j).flatMap (c.sO m))) (adds E ((l.take j).flatMap (c.dfC m))) (cn+((l.take j).flatMap λs=>c.OU m s pc).length) (sn+((l.take j).flatMap λs=>c.Qn m s pc).length) (uj m s):=by have ho:=Env.Wp hok j;refine h.step (k1:=bK (m+1) (l.take j)) (λu hu'=>Env.wG ho hu') (λu hu'=>Env.wF hm hu ho hu') (Bc c (m+1) (l.take j)) (Env.Bj he (m+1) (l.take j)) ?_ (Bf c (m+1) (l.take j) pc ho) (Km hs);have h1:=MC c (m+1) (l.take j) pc;have h2:=Bd c (m+1) (l.take j);rw[Env.cnS_succ]at h1;omega
theorem Env.nm1_len(s:St):(c.jZ s).length<=1:=by
 unfold Env.jZ;split;·exact E9 c _
 ·simp
theorem Env.cn1_len(s:St)(h:Hg):(c.qb s h).length<=1:=by
 unfold Env.qb Env.WL;split;·split<;>simp
 ·simp
theorem Env.sk1_len(s:St)(h:Hg):(c.jC s h).length<=1:=by
 unfold Env.jC Env.WK;split;·split<;>simp
 ·split<;>simp
theorem wH{m:Nat}{s:St}{nl E:List ByteArray}{cn sn:Nat}(h:Room nl E cn sn (uj m s))(h1:s.name.size<=8)(h2:c.qc m s.e)(hm:c.md.size<=8)(he:∀s,(c.bO s).dF.length<=1048576)(hu:∀s,∀u∈(c.bO s).dF,u.size<=maxLen)(pc H:Hg):Room (adds nl (c.fQ m s.e++c.jZ s)) (adds E (c.kJ m s.e++c.iN m s.e++c.nA s)) (cn+(c.qb s H).length) (sn+((c.iX m s.e pc).length+(c.jC s H).length)) (bK m s.a+bK m s.b):=by
 have a1:=mM c m s.e;have a2:=Env.nm1_len (c:=c) s;have a3:=Env.SY he m s.e;have a5:=Env.UJ (c:=c) s;have a6:=Env.cn1_len (c:=c) s H;have a7:=oP c m s.e pc h2;have a8:=Env.sk1_len (c:=c) s H;refine h.step (k1:=s.name.size+3+eu m s.e) (λu hu'=>?_) (λu hu'=>?_) ?_ ?_ ?_ ?_ ?_
 ·rcases cK.1 hu' with h'|h';·exact bS (Env.jS h2 h') (by decide)
  ·exact Env.PX h1 h'
 ·rcases cK.1 hu' with h'|h'
  ·rcases cK.1 h' with h'|h';·exact Env.kG hm h2 h'
   ·exact Env.lW hu h'
  ·exact Env.PW hm h1 h'
 ·rw[aP];omega
 ·rw[aP,aP];omega
 ·omega
 ·omega
 ·unfold uj;omega
theorem wZ{m:Nat}{l:List St}{nl E:List ByteArray}{cn sn k:Nat}(h:Room nl E cn sn (bK m l+k))(hok:c.uE m l)(hm:c.md.size<=8)(he:∀s,(c.bO s).dF.length<=1048576)(hu:∀s,∀u∈(c.bO s).dF,u.size<=maxLen)(pc:Hg):Room (adds nl (c.kR m l)) (adds E (c.Bh m l)) (cn+(c.uP m l pc).length) (sn+(c.wQ m l pc).length) k:=by refine h.step (k1:=bK m l) (λu hu'=>Env.wG hok hu') (λu hu'=>Env.wF hm hu hok hu') (Bc c m l) (Env.Bj he m l) ?_ (Bf c m l pc hok) (bM _);rw[MC];exact Bd c m l
end
end Fl
end Go.Proofs.YtfnboapebijcpaaGreatDoor
