import Derived.Test.YtageneidjnbedaaGreatDoorTZAW
import Derived.Test.YtageneidjnbedaaGreatDoorTZAR
set_option maxHeartbeats 0
set_option maxRecDepth 99999
namespace Go.Proofs.YtageneidjnbedaaGreatDoor
open bS
open Go.Proofs.Tryz
open Go.RowKit
namespace bO
end bO
namespace bS
def moX(m:Nat)(x:Mo):ByteArray:=brk [[⟨#[109,111,100,117,108,101]⟩,x.name],x.imports.map FY,x.vars.map vaX,x.bq.map (fuX m)].flatten
end bS
theorem Y6{α:Type}{f:ByteArray->α->ByteArray}{g:α->ByteArray}:∀(l:List α) (acc:ByteArray),(∀y∈l,∀acc,(f acc y).data.toList=acc.data.toList++32::(g y).data.toList)->
 (l.foldl f acc).data.toList=acc.data.toList++Lib.joinTail [32] ((l.map g).map (·.data.toList))
 | [],acc,_=>by simp[Lib.joinTail]
 | y::l,acc,h=>by rw[pz,Y6 l _ (λb a=>h b<|by simp[a]),h y cK,fZ,fZ,tail_cons];simp
theorem ahT(acc s:ByteArray):(Ru acc s).data.toList=acc.data.toList++32::(FY s).data.toList:=by unfold Ru FY;rw[jk];simp[Lib.join_cons,Lib.joinTail]
theorem akG(acc:ByteArray)(v:Va):(vaT acc v).data.toList=acc.data.toList++32::(vaX v).data.toList:=by unfold vaT vaX;rw[jk];simp[Lib.join_cons,Lib.joinTail]
theorem akH{m:Nat}{x:Mo}(b:x.bq≠[]->m≠0):moX m x=moT m x:=by
 apply iQ;unfold moX moT moF moV moI moH;have a:[[(⟨#[109,111,100,117,108,101]⟩:ByteArray),x.name],x.imports.map FY,x.vars.map vaX,x.bq.map<|fuX m].flatten=⟨#[109,111,100,117,108,101]⟩::x.name::(x.imports.map FY++(x.vars.map vaX++x.bq.map (fuX m))):=by simp
 rw[a,jk,iN,Y6 (g:=fuX m) x.bq _ (λy d acc=>akD (b<|List.ne_nil_of_mem d) acc y),Y6 (g:=vaX) x.vars _ (λy _ acc=>akG acc y),Y6 (g:=FY) x.imports _ (λy _ acc=>ahT acc y),fZ,Lib.join_cons,fZ,tail_cons,gX,rQ,gX,rQ,iN];simp
theorem aw2(m:Nat)(w:bI)(v:aC)(x:Mo)(h:jl w m v x)(U:∀f∈x.bq,bS.j6 m f.body=true/\bS.jo m f.result=true)(G:xH m x<=1365000)(V:Tab w):aD 46 #[v] w λd w'=>d=dz (A<|moT m x)/\bK w w':=by
 have ao:=axR h G;obtain⟨vi,vv,vf,rfl,aq,D,E,s⟩:=h;have au:x.name.size+2+nJ x.imports+VE x.vars+BK m x.bq<=1365000:=G;have S:x.bq≠[]->m≠0:=by rintro ap rfl;obtain⟨a,b,off,cap,_,_,_,am⟩:=s;obtain⟨f,hf⟩:∃f,x.bq[0]?=some f:=⟨_,aZ<|vO.2 ap⟩;obtain⟨_,vp,vb,e0,e1,e2,e3,_,_,_,_,_,_,_,_,ar,_⟩:=am 0 f hf;exact ar
 have F:=akH S;obtain⟨j,ci,rfl,aA⟩:=D.shape;obtain⟨k,p,rfl⟩:∃a c,vv=X a x.vars.length c:=by obtain⟨a,_,_,c,d,_⟩:=E;exact⟨a,c,d⟩
 obtain⟨i,l,rfl⟩:∃a c,vf=X a x.bq.length c:=by obtain⟨a,_,_,c,d,_⟩:=s;exact⟨a,c,d⟩
 have r:=Y<|aH w<|aY #[A x.name,X j x.imports.length ci,X k x.vars.length p,X i x.bq.length l] 47;obtain⟨q0,q1,q2,q3⟩:=rY (am6 w (A x.name) (X j x.imports.length ci) (X k x.vars.length p) (X i x.bq.length l) 47) (am7 w (A x.name) (X j x.imports.length ci) (X k x.vars.length p) (X i x.bq.length l) 47) (am8 w (A x.name) (X j x.imports.length ci) (X k x.vars.length p) (X i x.bq.length l) 47)<|am9 w (A x.name) (X j x.imports.length ci) (X k x.vars.length p) (X i x.bq.length l) 47
 have ae:J (∀W,J (bK w W)->aD 65 #[X j x.imports.length ci] W λd w'=>∃a n c,d=dz (X a n c)/\Strs w' (X a n c) (x.imports.map FY)/\bK W w'):=
  λW q=>awQ W _ x.imports (D.below q) bC
 have ag:J (∀W,J (bK w W)->aD 66 #[X k x.vars.length p] W λd w'=>∃a n c,d=dz (X a n c)/\Strs w' (X a n c) (x.vars.map vaX)/\bK W w'):=
  λW q=>axA W _ x.vars (E.below q) bC
 have ad:J (∀W,J (bK w W)->aD 67 #[X i x.bq.length l] W λd w'=>∃a n c,d=dz (X a n c)/\Strs w' (X a n c) (x.bq.map<|fuX m)/\bK W w'):=
  λW q=>axB m W _ x.bq (s.below q) U bC<|V.below q
 have Z:J (∀W v,awo W v [[⟨#[109,111,100,117,108,101]⟩,x.name],x.imports.map FY,x.vars.map vaX,x.bq.map<|fuX m]->aD 64 #[v] W λd w'=>d=dz (A<|moT m x)/\bK W w'):=λW v h=>by have:=avR W v _ h (by show(moX m x).size<=_;rw[F];omega);rw[show bS.brk [[⟨#[109,111,100,117,108,101]⟩,x.name],x.imports.map FY,x.vars.map vaX,x.bq.map<|fuX m].flatten=moT m x from F]at this;exact this
 clear au G F S ao D E s U V;generalize x.imports.length=I at *;generalize x.vars.length=K at *;generalize x.bq.length=H at *;go_enter func46,ntmps46;go_wp2_with fail;generalize (w.alloc<|aY #[A x.name,X j I ci,X k K p,X i H l] 47)=e at *
 have HF:J (∀g,J (bK e g)->J (bK e g)/\bJ g w.heap.size 0=some (A x.name)/\bJ g w.heap.size 1=some (X j I ci)/\bJ g w.heap.size 2=some (X k K p)/\bJ g w.heap.size 3=some (X i H l)):=
  λg h=>⟨h,aG q0 h,aG q1 h,aG q2 h,aG q3 h⟩
 have t:J (bK e e):=Y<|bQ _ _;clear q0 q1 q2 q3
 go_region_held3 (λg=>J (bK e g)/\bJ g w.heap.size 0=some (A x.name)/\bJ g w.heap.size 1=some (X j I ci)/\bJ g w.heap.size 2=some (X k K p)/\bJ g w.heap.size 3=some (X i H l))
  ((refine HF _ ?_;repeat(first|exact L|exact P|exact y|exact B|exact t|apply avQ|apply avP)))
  (first
   | (go_at_call 65;refine(ae _<|Y<|up r<|gT<|by repeat(first|exact t|apply avQ|apply avP)).mono ?_;rintro d aw ⟨x1,n1,c1,rfl,M,u⟩;have B:J (bK e aw):=Y (up (w:=e) (gT<|by repeat(first|exact t|apply avQ|apply avP)) u);have aa:=Y u;have ah:=Y M;clear u M)
   | (go_at_call 66;refine(ag _<|Y<|up r<|gT<|by repeat(first|exact B|apply avQ|apply avP)).mono ?_;rintro d ax ⟨x2,n2,c2,rfl,Q,z⟩;have y:J (bK e ax):=Y (up (w:=e) (gT<|by repeat(first|exact B|apply avQ|apply avP)) z);have ab:=Y z;have al:=Y Q;clear z Q)
   | (go_at_call 67;refine(ad _<|Y<|up r<|gT<|by repeat(first|exact y|apply avQ|apply avP)).mono ?_;rintro d ay ⟨x3,n3,c3,rfl,R,C⟩;have P:J (bK e ay):=Y (up (w:=e) (gT<|by repeat(first|exact y|apply avQ|apply avP)) C);have ac:=Y C;have ak:=Y R;clear C R)
   | (go_at_call 64;refine(Z _ _ ?_).mono ?_;(refine azx cK ?_ ?_ ?_ ?_<;>repeat(first|exact ak|exact al|exact ah|exact awt cK _ _ bM aq|refine Strs.below ?_ ac|refine Strs.below ?_ ab|refine Strs.below ?_ aa|apply Strs.awT|apply Strs.awj));rintro d az ⟨rfl,N⟩;have L:J (bK e az):=Y (up (w:=e) (gT<|by repeat(first|exact P|apply avQ|apply avP)) N);clear N))
 all_goals go_wp2;go_ret;exact⟨rfl,up r L⟩
theorem akI:(prog.info? 31).map (λi=>(i.zero,i.size,i.bytes))=some (some<|.agg #[O 0,O 0],2,16):=by kernel_rfl
theorem ahU:(prog.info? 220).map (λi=>(i.zero,i.size,i.bytes))=some (some<|.int .u64 0,1,8):=by kernel_rfl
theorem aeu(n:Nat)(h:n<=40)(w:bI):(Instr.makeSlice 144 (O (n:Int))<|O (n:Int)).run prog w=.ok (Tc w.heap.size n n) (w.alloc<|.cells (madeCells #[O 0,O 0] (n*2)) 31):=by obtain⟨i,e,b⟩:=yF.1 akI;simp only[pO]at b;obtain⟨g,f,d⟩:=b;have a:=run_make (P:=prog) w 144 31 i _ underlying144 e g .i64 .i64 n n bC (Int.le_refl _) (by rw[d];omega) bC;rw[f,show(Value.agg #[O 0,O 0]).cells=#[O 0,O 0]from rfl]at a;simpa using a
theorem Pd(a z1:aC)(n i:Nat)(g:i<n):(madeCells #[a,z1] (n*2))[i*2]?=some a/\(madeCells #[a,z1] (n*2))[i*2+1]?=some z1:=by
 have e:i*2<n*2:=by omega
 have f:i*2+1<n*2:=by omega
 have b:i*2 % 2=0:=by omega
 have d:(i*2+1) % 2=1:=by omega
 constructor;·simp[madeCells,e,b]
 ·simp[madeCells,f,d]
theorem VP(z:aC)(n i:Nat)(a:i<n):(madeCells #[z] n)[i]?=some z:=by simp[madeCells,a,Nat.mod_one]
theorem aaZ(w:bI)(b a:aC)(n:Nat):jq w ((((w.alloc<|aY #[b,a] 25).alloc (.cells (madeCells #[O 0,O 0] (n*2)) 31)).alloc (.cells (madeCells #[.int .u64 0] n) 220)).alloc (aY #[b,a,Tc (w.heap.size+1) n n,Tc (w.heap.size+1+1) n n] 255)) ⟨w.heap.size+1+1+1,w.heap.size+1,w.heap.size+1+1,n,b,a⟩ (λ_=>(0,0)) (λ_=>0):=by
 have h:(w.alloc<|aY #[b,a] 25).heap.size=w.heap.size+1:=by simp
 obtain⟨e,f,g⟩:=lS (bF (w.alloc<|aY #[b,a] 25)<|.cells (madeCells #[O 0,O 0] (n*2)) 31) (bF ((w.alloc<|aY #[b,a] 25).alloc (.cells (madeCells #[O 0,O 0] (n*2)) 31))<|.cells (madeCells #[.int .u64 0] n) 220)<|bF (((w.alloc<|aY #[b,a] 25).alloc (.cells (madeCells #[O 0,O 0] (n*2)) 31)).alloc (.cells (madeCells #[.int .u64 0] n) 220))<|aY #[b,a,Tc (w.heap.size+1) n n,Tc (w.heap.size+1+1) n n] 255;rw[h]at e;rw[show((w.alloc<|aY #[b,a] 25).alloc (.cells (madeCells #[O 0,O 0] (n*2)) 31)).heap.size=w.heap.size+1+1 by simp]at f;rw[show(((w.alloc<|aY #[b,a] 25).alloc (.cells (madeCells #[O 0,O 0] (n*2)) 31)).alloc (.cells (madeCells #[.int .u64 0] n) 220)).heap.size=w.heap.size+1+1+1 by simp]at g;refine⟨((((bQ _ _).alloc (bG _) _).alloc cK _).alloc (by simp;omega) _).alloc (by simp;omega) _,by show w.heap.size<=w.heap.size+1+1+1;omega,by show w.heap.size<=w.heap.size+1;omega,by show w.heap.size<=w.heap.size+1+1;omega,g,⟨_,bT (bT e _) _,λi d=>Pd _ _ n i d⟩,⟨_,bT f _,λi d=>VP _ n i d⟩⟩
theorem aa0(w:bI)(b a:aC)(n:Nat):jq w ((((w.alloc<|aY #[b,a] 25).alloc (.cells (madeCells #[.int .u64 0] n) 220)).alloc (.cells (madeCells #[O 0,O 0] (n*2)) 31)).alloc (aY #[b,a,Tc (w.heap.size+1+1) n n,Tc (w.heap.size+1) n n] 255)) ⟨w.heap.size+1+1+1,w.heap.size+1+1,w.heap.size+1,n,b,a⟩ (λ_=>(0,0)) (λ_=>0):=by
 have h:(w.alloc<|aY #[b,a] 25).heap.size=w.heap.size+1:=by simp
 obtain⟨e,f,g⟩:=lS (bF (w.alloc<|aY #[b,a] 25)<|.cells (madeCells #[.int .u64 0] n) 220) (bF ((w.alloc<|aY #[b,a] 25).alloc (.cells (madeCells #[.int .u64 0] n) 220))<|.cells (madeCells #[O 0,O 0] (n*2)) 31)<|bF (((w.alloc<|aY #[b,a] 25).alloc (.cells (madeCells #[.int .u64 0] n) 220)).alloc (.cells (madeCells #[O 0,O 0] (n*2)) 31))<|aY #[b,a,Tc (w.heap.size+1+1) n n,Tc (w.heap.size+1) n n] 255;rw[h]at e;rw[show((w.alloc<|aY #[b,a] 25).alloc (.cells (madeCells #[.int .u64 0] n) 220)).heap.size=w.heap.size+1+1 by simp]at f;rw[show(((w.alloc<|aY #[b,a] 25).alloc (.cells (madeCells #[.int .u64 0] n) 220)).alloc (.cells (madeCells #[O 0,O 0] (n*2)) 31)).heap.size=w.heap.size+1+1+1 by simp]at g;refine⟨((((bQ _ _).alloc (bG _) _).alloc cK _).alloc (by simp;omega) _).alloc (by simp;omega) _,by show w.heap.size<=w.heap.size+1+1+1;omega,by show w.heap.size<=w.heap.size+1+1;omega,by show w.heap.size<=w.heap.size+1;omega,g,⟨_,bT f _,λi d=>Pd _ _ n i d⟩,⟨_,bT (bT e _) _,λi d=>VP _ n i d⟩⟩
theorem jq.congr{w0 w:bI}{c:Cf}{V a:Nat->Nat × Nat}{S:Nat->Nat}(h:jq w0 w c V S)(b:V=a):jq w0 w c a S:=by rw[<-b];exact h
theorem apB(w:bI)(f e:aC)(n low:Nat)(E:n<=40):aD 168 #[.agg #[f,e],O n,O low] w λg w'=>∃p b d,g=dz (gK p)/\jq w w' ⟨p,b,d,n,f,e⟩ (λ_=>(0,low)) (λ_=>0):=by
 obtain⟨t,u⟩:=eY (aeu n E)<|run_make_row' (P:=prog) 253 220 (.int .u64 0) 8 underlying253 ahU rfl .i64 .i64 n bC bC;go_enter func168,ntmps168;go_wp2_with fail;go_region_law (fail);all_goals clear t u
 all_goals
  go_wp2_with fail;go_loopw[21] (λi F=>∃k:Nat,k<=n/\i=O k/\∃b d,jq w F ⟨w.heap.size+1+1+1,b,d,n,f,e⟩ (λv=>if v<k then (0,low)else (0,0)) (λ_=>0)) (λi _=>n - (intOf i).toNat);exact⟨0,bN _,rfl,_,_,by first|exact((aaZ w f e n).below (bQ _ _).drew).congr (by funext v;simp)|exact((aa0 w f e n).below (bQ _ _).drew).congr (by funext v;simp)⟩
  obtain⟨k,I,rfl,b,d,a⟩:=hrel;have j:=Y a;by_cases q:k<n
  ·obtain⟨x,y,z,B⟩:=a.cell;obtain⟨r,s,G,H⟩:=a.mJ (i:=k) q;simp only at x y z B r s G H;rw[aI bC]at r s;clear a;go_wp2;go_roundw;case rel=>
    refine⟨k+1,by omega,by go_num,b,d,(j.ad1 q low).congr ?_⟩;funext v;simp only[Sv.put];by_cases g:v=k;·subst g;simp
    ·rw[aI g];by_cases l:v<k;·rw[aK l,aK bC]
     ·rw[aI l,aI bC]
   case measure=>exact gV
  ·clear a;go_wp2;go_ret;exact⟨_,_,_,rfl,by
    obtain rfl:k=n:=by omega
    have h:=j.out;exact⟨h.since,h.pn,h.ln,h.sn,h.blk,by obtain⟨cs,C,D⟩:=h.lab;exact⟨cs,C,λi m=>by have:=D i m;rw[aK m]at this;exact this⟩,h.src⟩⟩
