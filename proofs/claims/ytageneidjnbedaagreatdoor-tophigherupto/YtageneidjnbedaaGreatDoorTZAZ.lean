import Derived.Test.YtageneidjnbedaaGreatDoorTZAW
import Derived.Deep.CutRange
set_option maxHeartbeats 0
set_option maxRecDepth 99999
namespace Go.Proofs.YtageneidjnbedaaGreatDoor
open bO
open Go.Proofs.Tryz
open Go.RowKit
theorem Ed(m:Nat)(w:bI)(f g b q:aC)(x:Mo)(known:List Mo)(k:Nat)(a:aS)(h:jl w m (.agg #[A x.name,f,g,b]) x)(l:jN w m q known)(y:uL b)(K:k<=x.bq.length)(I:a.size<=maxLen)(L:x.imports.length<=1048576):aD 258 #[.agg #[A x.name,f,g,b],O k,A a,q] w λn w'=>n=dz (.tuple #[O (fF x k a known).1,O (fF x k a known).2.1,.bool (fF x k a known).2.2])/\bK w w':=by have U:=Y (λd (e:bK w d)=>Dm m d _ _ _ _ x known (h.below e) (l.below e) L);have u:=Y (λd (e:bK w d) va (p:Ints d va (x.imports.map λs=>oI<|dQ known s))=>GN m d x known f g b q va k a ⟨h.below e,l.below e,p,y⟩ K I);have j:=λi v M=>apY w #[A x.name,f,g,b] 47 i v M;have r:=Y<|aH w<|aY #[A x.name,f,g,b] 47;obtain⟨N,P,Q,S⟩:=rY (j 0 _ rfl) (j 1 _ rfl) (j 2 _ rfl) (j 3 _ rfl);obtain⟨R,z⟩:=aV<|fF x k a known;rw[<-z]at u ⊢;obtain⟨p,H,G⟩:=h.split;obtain⟨ai,bi,oi,ci,rfl,-⟩:=p;obtain⟨av,bv,ov,cv,rfl,-⟩:=H;obtain⟨Z,bf,of,cf,rfl,-⟩:=G;obtain⟨ak,bk,ok,ck,rfl,-⟩:=l;generalize x.imports.length=ni at *;generalize x.vars.length=nv at *;generalize x.bq.length=nf at *;generalize known.length=nk at *;clear h y z;go_enter func258,ntmps258;go_wp2_with fail;refine(U _ r).mono ?_;rintro n w1 ⟨va,rfl,D,B⟩;obtain⟨F,t⟩:=bV D<|up r B;clear N P Q S B D;go_wp2_with fail;refine(u _ t _ F).mono ?_;rintro n w2 ⟨rfl,C⟩;have E:=Y<|up t C;clear C;go_wp2;go_ret3;exact⟨rfl,E⟩
open Go.Maps
