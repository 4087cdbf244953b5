/- part -/
import Derived.Test.YtbgkpehhdibaoaaGreatDoorBZAW
import Derived.Deep.CutRange
set_option maxHeartbeats 0
set_option maxRecDepth 99999
namespace Go.Proofs.YtbgkpehhdibaoaaGreatDoor
open bJ
open Go.Proofs.Tryz
open Go.RowKit
theorem Mx(m:Nat)(w:World)(vi vv vf vk:Value)(x:Mo)(known:List Mo)(k:Nat)(call:aY)(h:iY w m (.agg #[A x.name,vi,vv,vf]) x)(hK:nD w m vk known)(hC:Gy vf)(hk:k<=x.bg.length)(hc:call.size<=maxLen)(WK:x.imports.length<=1048576):Calls prog 187 #[.agg #[A x.name,vi,vv,vf],O k,A call,vk] w λe w'=>e=dz (.tuple #[O (iQ x k call known).1,O (iQ x k call known).2.1,.bool (iQ x k call known).2.2])/\bG w w':=by have HM:=I h;have HK:=I hK;have vC:=I (λwx (hb:bG w wx)=>AO m wx _ _ _ _ x known (h.below hb) (hK.below hb) WK);have HST:=I (λwx (hb:bG w wx) va (hI:Ints wx va (x.imports.map λs=>oI (dI known s)))=>DY m wx x known vi vv vf vk va k call ⟨h.below hb,hK.below hb,hI,hC⟩ hk hc);have dQ:=λi v hv=>boxD w #[A x.name,vi,vv,vf] 58 i v hv;have HB0:=I (aH w (aW #[A x.name,vi,vv,vf] 58));obtain⟨r0,r1,r2,r3⟩:=tZ (dQ 0 _ rfl) (dQ 1 _ rfl) (dQ 2 _ rfl) (dQ 3 _ rfl);obtain⟨R,hR⟩:=bC (iQ x k call known);rw[<-hR]at HST ⊢;obtain⟨hI,hV,hF⟩:=h.split;obtain⟨ai,bi,oi,ci,rfl,-⟩:=hI;obtain⟨av,bv,ov,cv,rfl,-⟩:=hV;obtain⟨af,bf,of,cf,rfl,-⟩:=hF;obtain⟨ak,bk,ok,ck,rfl,-⟩:=hK;generalize x.imports.length=ni at *;generalize x.vars.length=nv at *;generalize x.bg.length=nf at *;generalize known.length=nk at *;clear h hC hR;go_enter func187,ntmps187;go_wp2_with fail;refine(vC _ HB0).mono ?_;rintro e w1 ⟨va,rfl,hints,hb1⟩;obtain⟨HIN,HB1⟩:=bU hints (up HB0 hb1);clear r0 r1 r2 r3 hb1 hints;go_wp2_with fail;refine(HST _ HB1 _ HIN).mono ?_;rintro e w2 ⟨rfl,hb2⟩;have HB2:=I (up HB1 hb2);clear hb2;go_wp2_with fail;go_ret3;exact⟨rfl,HB2⟩
open Go.Maps
end Go.Proofs.YtbgkpehhdibaoaaGreatDoor
