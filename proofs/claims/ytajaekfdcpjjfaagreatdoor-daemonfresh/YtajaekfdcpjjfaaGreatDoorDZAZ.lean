import Derived.Test.YtajaekfdcpjjfaaGreatDoorDZAW
import Derived.Deep.CutRange
set_option maxHeartbeats 0
set_option maxRecDepth 99999
namespace Go.Proofs.YtajaekfdcpjjfaaGreatDoor
open bO
open Go.Proofs.Tryz
open Go.RowKit
theorem Ed(m:Nat)(w:bI)(f g b p:aC)(x:Mo)(known:List Mo)(k:Nat)(a:aS)(d:jl w m (.agg #[A x.name,f,g,b]) x)(j:jN w m p known)(u:uL b)(I:k<=x.bq.length)(H:a.size<=maxLen)(K:x.imports.length<=1048576):aD 196 #[.agg #[A x.name,f,g,b],O k,A a,p] w λl w'=>l=dz (.tuple #[O (fF x k a known).1,O (fF x k a known).2.1,.bool (fF x k a known).2.2])/\bK w w':=by have S:=Y (λc (e:bK w c)=>Dm m c _ _ _ _ x known (d.below e) (j.below e) K);have t:=Y (λc (e:bK w c) o (n:Ints c o (x.imports.map λs=>oI<|dQ known s))=>GN m c x known f g b p o k a ⟨d.below e,j.below e,n,u⟩ I H);have h:=λi v L=>apY w #[A x.name,f,g,b] 89 i v L;have q:=Y<|aH w<|aY #[A x.name,f,g,b] 89;obtain⟨M,N,P,Q⟩:=rY (h 0 _ rfl) (h 1 _ rfl) (h 2 _ rfl) (h 3 _ rfl);obtain⟨R,y⟩:=aV<|fF x k a known;rw[<-y]at t ⊢;obtain⟨n,G,F⟩:=d.split;obtain⟨Z,bi,oi,ci,rfl,-⟩:=n;obtain⟨av,bv,ov,cv,rfl,-⟩:=G;obtain⟨W,bf,of,cf,rfl,-⟩:=F;obtain⟨ak,bk,ok,ck,rfl,-⟩:=j;generalize x.imports.length=ni at *;generalize x.vars.length=nv at *;generalize x.bq.length=nf at *;generalize known.length=nk at *;clear d u y;go_enter func196,ntmps196;go_wp2_with fail;refine(S _ q).mono ?_;rintro l w1 ⟨o,rfl,C,z⟩;obtain⟨E,r⟩:=bV C<|up q z;clear M N P Q z C;go_wp2_with fail;refine(t _ r _ E).mono ?_;rintro l w2 ⟨rfl,B⟩;have D:=Y<|up r B;clear B;go_wp2;go_ret3;exact⟨rfl,D⟩
open Go.Maps
