import Derived.Test.YtiebmbnfedbdeaaGreatDoorTZBX
set_option maxHeartbeats 0
set_option maxRecDepth 99999
namespace Go.Proofs.YtiebmbnfedbdeaaGreatDoor
open Go.Proofs.Tryz
open Go.ChangeShapes Go.WideShapes Go.ChangeAt Go.RowKit Go.Deep Go.Joins
section
variable {H : Type} {enc : TypeId × Value → H} {W : World}
theorem ai8:prog.cellsOf 50=3:=by kernel_rfl
theorem Ic{α:Type}{l:List α}(h:l.length=3):∃a b c,l=[a,b,c]:=by
 match l,h with
 | [a,b,c],_=>exact⟨a,b,c,rfl⟩
theorem ams{α:Type}{l:List α}(h:l.length=1):∃a,l=[a]:=by
 match l,h with
 | [a],_=>exact⟨a,rfl⟩
theorem agI{u:Nat}{v:aC}{d:DataW H}{p:List MemPlace}(K:Value.okWide prog W .any u 28 v)(x:DataW.Trod enc prog W 0 (λ_=>true) true 28 v d p):∃l,yI W v l:=by
 obtain⟨t,Q,c,rfl⟩:=okWide_slice underlying28 K;obtain⟨fuel,e⟩:=x;have B:DataW.trod enc prog W 0 (λ_=>true) true fuel 28 [X t Q c]=some (d,p):=e;obtain⟨a,b,off,len,cap,D,L,y,E,hD,V,z⟩:=kD underlying28 ai8 bM B;have w:∀i,i<len->∃s:Ce,mq s.val/\bJ W b (off+i*3)=some (A s.mod)/\bJ W b (off+i*3+1)=some (A s.name)/\bJ W b (off+i*3+2)=some (O s.val):=by intro i C;obtain⟨n0,cs,d',af,ac,F,k,R,Z⟩:=z i C;obtain⟨xs,n,aa,hx,ab,N,e⟩:=Jw underlying50 R;obtain⟨c,f,g,rfl⟩:=Ic F;obtain⟨y0,y1,y2,rfl⟩:=Ic (by simpa using N);have h:DataW.trod enc prog W 0 (λ_=>true) true n 9 (([c,f,g].drop 0).take (prog.cellsOf 9))=some y0:=e 0 _ rfl;rw[nZ]at h;simp only[List.drop,List.take]at h;have f1:DataW.trod enc prog W 0 (λ_=>true) true n 9 (([c,f,g].drop 1).take (prog.cellsOf 9))=some y1:=e 1 _ rfl;rw[nZ]at f1;simp only[List.drop,List.take]at f1;have j:DataW.trod enc prog W 0 (λ_=>true) true n 3 (([c,f,g].drop 2).take (prog.cellsOf 3))=some y2:=e 2 _ rfl;rw[yH]at j;simp only[List.drop,List.take]at j;obtain⟨S,o,rfl,ad⟩:=Di underlying9 h;obtain⟨s1,q,rfl,ae⟩:=Di underlying9 f1;obtain⟨P,r,rfl,U⟩:=Rs underlying3 j;simp at o q r;subst o q r;exact⟨⟨S,s1,P⟩,Jv U,k 0 bM,k 1 bM,k 2 bM⟩
 obtain⟨l,m,G⟩:=jO len w;exact⟨l,a,b,off,cap,L.trans (by rw[m]),by rw[m];exact y,by rw[m];exact E,λi s I=>G i s I⟩
theorem ab9{k:Nat}{v:aC}{d:DataW H}{p:List MemPlace}(B:Value.okWide prog W .any k 27 v)(n:DataW.Trod enc prog W 0 (λ_=>true) true 27 v d p):∃l,Ints W v l/\∀x∈l,mq x:=by
 obtain⟨j,G,f,rfl⟩:=okWide_slice underlying27 B;obtain⟨fuel,t⟩:=n;have u:DataW.trod enc prog W 0 (λ_=>true) true fuel 27 [X j G f]=some (d,p):=t;obtain⟨a,b,off,len,cap,D,C,o,w,P,L,r⟩:=kD underlying27 yH bM u;have m:∀i,i<len->∃s:Int,mq s/\bJ W b (off+i)=some (O s):=by intro i c;obtain⟨R,cs,d',S,Q,y,q,I,N⟩:=r i c;obtain⟨f,rfl⟩:=ams y;obtain⟨F,g,_,K⟩:=Rs underlying3 I;simp at g;subst g;have:=q 0 bM;rw[Nat.mul_one,sN]at this;exact⟨F,Jv K,this⟩
 obtain⟨l,e,h⟩:=jO len m;refine⟨l,⟨a,b,off,cap,C.trans (by rw[e]),by rw[e];exact o,by rw[e];exact w,λi s z=>(h i s z).2⟩,λx E=>?_⟩;obtain⟨i,c,rfl⟩:=gU.1 E;exact(h i _<|aZ c).1
end
section
variable {H : Type} {enc : TypeId × Value → H} {W : World}
theorem acd{t b:Nat}{v:aC}{d:DataW H}{p:List MemPlace}(k:prog.underlying t=some (.slice b))(i:DataW.Trod enc prog W 0 (λ_=>true) true t v d p)(l:v.cells=#[v]):∀a n c,v=X a n c->n<=c:=by
 obtain⟨fuel,f⟩:=i;have j:DataW.trod enc prog W 0 (λ_=>true) true fuel t [v]=some (d,p):=by rw[l]at f;exact f
 rcases DataW.trod_slice k j with⟨e,_⟩|⟨a,len,cap,m,rest,n,o,e,_,_,q,_⟩;·simp at e;subst e;intro a n c b;injection b with _ g h;omega
 ·simp at e;subst e;intro a n c b;injection b with _ g h;omega
end
