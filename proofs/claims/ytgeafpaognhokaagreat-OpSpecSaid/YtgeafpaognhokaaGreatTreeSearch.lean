/- The library's two binary searches: over kids, over texts. -/
import Derived.Test.YtgeafpaognhokaaGreatG00
set_option maxRecDepth 100000
set_option maxHeartbeats 4000000
namespace Go.Proofs.YtgeafpaognhokaaGreat
open ChangeShapes WideShapes ChangeAt RowKit
namespace Tr
open Sp Rw
structure qL (l:List ByteArray) (x:ByteArray) (lo hi:Nat):Prop where
 low:∀ (i:Nat) (h:i<l.length),i<lo→cK l[i] x
 high:∀ (i:Nat) (h:i<l.length),hi≤i→¬cK l[i] x
theorem qL.start (l:List ByteArray) (x:ByteArray) {n:Nat} (h:l.length=n):qL l x 0 n:=⟨fun _ _ h=>absurd h (Nat.not_lt_zero _),fun i hi hn=>by omega⟩
theorem qL.up {l:List ByteArray} {x:ByteArray} {j hi m:Nat} (h:qL l x j hi) (g:l.Pairwise fun a b=>¬cK b a) (f:m<l.length) (d:cK l[m] x):qL l x (m+1) hi:=
 ⟨fun i hi hlt=>by
  by_cases e:i=m
  ·subst e;exact d
  ·have:=tV.1 g i m hi f (by omega)
   rcases aQ.tri l[i] x with c | c | c
   ·exact c
   ·rw[c]at this;exact absurd d this
   ·exact absurd (aQ.tr _ _ _ d c) this,h.high⟩
theorem qL.down {l:List ByteArray} {x:ByteArray} {e hi m:Nat} (h:qL l x e hi) (j:l.Pairwise fun a b=>¬cK b a) (g:m<l.length) (c:¬cK l[m] x):qL l x e m:=
 ⟨h.low,fun i hi hle=>by
  by_cases f:i=m
  ·subst f;exact c
  ·have:=tV.1 j m i g hi (by omega)
   exact fun d=>c (by
    rcases aQ.tri l[m] l[i]with h3 | h3 | h3
    ·exact aQ.tr _ _ _ h3 d
    ·rw[h3];exact d
    ·exact absurd h3 this)⟩
theorem qL.found {l:List ByteArray} {x:ByteArray} {i:Nat} (h:qL l x i i) (k:l.Pairwise fun a b=>¬cK b a):x∈l↔∃ hi:i<l.length,l[i]=x:=by
 constructor
 ·intro m
  obtain⟨j,e,rfl⟩:=qz m
  have c:i≤j:=by
   rcases rU j i with c | c
   ·exact absurd (h.low j e c) (aQ.irr _)
   ·exact c
  have hi:i<l.length:=by omega
  refine⟨hi,?_⟩
  rcases rU i j with d | d
  ·have f:=tV.1 k i j hi e d
   have g:=h.high i hi (bG)
   rcases aQ.tri l[i] l[j]with h5 | h5 | h5
   ·exact absurd h5 g
   ·exact h5
   ·exact absurd h5 f
  ·have:i=j:=by omega
   subst this;rfl
 ·rintro⟨hi,rfl⟩
  exact bT hi
def keysOf (ks:List (ByteArray×T)):List ByteArray:=ks.map fun k=>k.1
theorem lN (ks:List (ByteArray×T)):(keysOf ks).length=ks.length:=eP _
theorem uD (ks:List (ByteArray×T)) (i:Nat) (h:i<(keysOf ks).length):(keysOf ks)[i]=(ks[i]'(by rwa [lN]at h)).1:=List.getElem_map _
def strs (l:List ByteArray):List Value:=l.map Value.string
theorem jD (l:List ByteArray):∀ u∈strs l,u.oneCell'=true:=by
 intro u hu;obtain⟨x,_,rfl⟩:=dH.1 hu;rfl
theorem D7 (es:List E) (ks:List (ByteArray×T)) (Ae Ak:Option Addr) (ne nk ce ck:Nat) (x:ByteArray) (w:World) (Y:nk≤1000000) (F:aF w w.heap.size (.mk es ks) ⟨Ae,ne,ce⟩ ⟨Ak,nk,ck⟩) (X:(keysOf ks).Pairwise fun a b=>¬cK b a) :
  Calls Tryz.prog 100 #[.slice Ak nk ck,.string x,.func (.func 101) #[] #[]] w fun e w'=>∃ (i:Nat) (f:Bool),e = .returned (.tuple #[.int .i64 i,.bool f])∧((f=true→i<nk∧∀ h:i<ks.length,(ks[i]).1=x)∧(f=false→¬x∈keysOf ks))∧av w w':=by
 have r:ai (ks.length=nk):=(bn F).2;have L:ai (qL (keysOf ks) x 0 nk):=qL.start _ _ (by rw[lN];exact (bn F).2);have W:=ah F;have t:ai ((keysOf ks).Pairwise fun a b=>¬cK b a):=X;clear F X;go_enter Tryz.func100,Tryz.ntmps100;go_wp2_with fail
 go_loopw [9,10] (fun a b wr=>∃ j hi:Nat,a = .int .i64 j∧b = .int .i64 hi∧j≤hi∧hi≤nk∧ai (qL (keysOf ks) x j hi)∧ai (av w wr)) (fun a b _=>(intOf b).toNat-(intOf a).toNat)
 case atStart=>exact⟨0,nk,rfl,rfl,Nat.zero_le _,bG,L,bN⟩
 case round=>
  obtain⟨j,hi,rfl,rfl,hlh,Q,J,d⟩:=hrel
  by_cases hlt:j<hi
  ·have hm1:(j+hi) / 2<nk:=by omega
   obtain⟨b,o,rfl,k,m⟩:=iJ W (by omega)
   have n:(j+hi) / 2<ks.length:=by rw[r.o];omega
   obtain⟨⟨G,R,N⟩,⟨H,S,O⟩,c0,c1,c2,_⟩:=m ((j+hi) / 2) n;dsimp only at c0 c1 c2;have c0:=(d.cell (p:=⟨b,o+(j+hi) / 2*3,none⟩) k).trans c0;have c1:=(d.cell (p:=⟨b,o+(j+hi) / 2*3+1,none⟩) k).trans c1;have c2:=(d.cell (p:=⟨b,o+(j+hi) / 2*3+2,none⟩) k).trans c2;obtain⟨y,v⟩:∃ y,y=(ks[(j+hi) / 2]).1:=⟨_,rfl⟩;rw[← v]at c0
   have u:(j+hi) / 2<(keysOf ks).length:=by rw[lN];exact n
   have q:(keysOf ks)[(j+hi) / 2]=y:=by rw[uD,v]
   clear m v;obtain⟨c,m⟩:∃ c,gu y x=c:=⟨_,rfl⟩;have A:=ah m
   have C:ai (cK (keysOf ks)[(j+hi) / 2] x↔c<0):=ah (by rw[q,← m];exact (j5 _ _).symm)
   clear m q
   by_cases l:c<0
   ·have D:decide (c<0)=true:=aJ l
    have s:=ah (J.up t u (C.2 l));go_wp2_with (go_at_call 101;refine (oG _ _ _ _ _ _ _ _ _).mono ?_;rw[A.o];rintro e U ⟨rfl,g⟩;have d:=ah (d.trans (g.mono d.size));clear g);go_roundw
    case rel=>refine⟨(j+hi) / 2+1,hi,by rw[show ((j:Int)+(hi:Int)) / 2+1=(((j+hi) / 2+1:Nat):Int) by omega],rfl,by omega,Q,s,d⟩
    case measure=>simp[intOf];omega
   ·have D:decide (c<0)=false:=aM l
    have s:=ah (J.down t u (fun h=>l (C.1 h)));go_wp2_with (go_at_call 101;refine (oG _ _ _ _ _ _ _ _ _).mono ?_;rw[A.o];rintro e U ⟨rfl,g⟩;have d:=ah (d.trans (g.mono d.size));clear g);go_roundw
    case rel=>refine⟨j,(j+hi) / 2,rfl,by rw[show ((j:Int)+(hi:Int)) / 2=(((j+hi) / 2:Nat):Int) by omega],by omega,by omega,s,d⟩
    case measure=>simp[intOf];omega
  ·obtain rfl:hi=j:=by omega
   have V:=ah (J.found t)
   by_cases Y:hi<nk
   ·obtain⟨b,o,rfl,k,m⟩:=iJ W (by omega)
    have n:hi<ks.length:=by rw[r.o];omega
    obtain⟨⟨G,R,N⟩,⟨H,S,O⟩,c0,c1,c2,_⟩:=m (hi) n;dsimp only at c0 c1 c2;have c0:=(d.cell (p:=⟨b,o+hi*3,none⟩) k).trans c0;have c1:=(d.cell (p:=⟨b,o+hi*3+1,none⟩) k).trans c1;have c2:=(d.cell (p:=⟨b,o+hi*3+2,none⟩) k).trans c2;obtain⟨y,v⟩:∃ y,y=(ks[hi]).1:=⟨_,rfl⟩;rw[← v]at c0
    have u:hi<(keysOf ks).length:=by rw[lN];exact n
    have q:(keysOf ks)[hi]=y:=by rw[uD,v]
    clear m v;obtain⟨c,m⟩:∃ c,gu y x=c:=⟨_,rfl⟩;have A:=ah m
    have B:ai (c=0↔(keysOf ks)[hi]=x):=ah (by rw[q,← m];exact AB _ _)
    clear m q
    by_cases z:c=0
    ·have D:(c==0)=true:=by simpa using z
     have M:=ah (B.1 z);clear z;go_wp2_with (go_at_call 101;refine (oG _ _ _ _ _ _ _ _ _).mono ?_;rw[A.o];rintro e U ⟨rfl,g⟩;have d:=ah (d.trans (g.mono d.size));clear g);go_ret2;exact⟨hi,true,by simp,⟨fun _=>⟨by omega,fun h=>by have:=M.o;rwa [uD]at this⟩,fun h=>absurd h (by simp)⟩,d⟩
    ·have D:(c==0)=false:=by simpa using z
     have M:ai (¬(keysOf ks)[hi]=x):=fun h=>z (B.2 h);clear z;go_wp2_with (go_at_call 101;refine (oG _ _ _ _ _ _ _ _ _).mono ?_;rw[A.o];rintro e U ⟨rfl,g⟩;have d:=ah (d.trans (g.mono d.size));clear g);go_ret2;exact⟨hi,false,by simp,⟨fun h=>absurd h (by simp),fun _ h=>by obtain⟨_,h⟩:=V.1 h;exact M.o h⟩,d⟩
   ·have D:decide ((hi:Int)<(nk:Int))=false:=aM (by omega)
    go_wp2_with fail;go_ret2;exact⟨hi,false,by simp,⟨fun h=>absurd h (by simp),fun _ h=>by obtain⟨h,_⟩:=V.1 h;rw[lN,r.o]at h;omega⟩,d⟩
theorem D8 (l:List ByteArray) (n:Nat) (A:Option Addr) (c:Nat) (x:ByteArray) (w:World) (J:l.length=n) (Q:n≤1000000) (N:Rd w w.heap.size 1 A n c (strs l)) (O:l.Pairwise fun a b=>¬cK b a) :
  Calls Tryz.prog 173 #[.slice A n c,.string x] w fun e w'=>∃ (i:Nat) (f:Bool),e = .returned (.tuple #[.int .i64 i,.bool f])∧((f=true→x∈l)∧(f=false→¬x∈l))∧av w w':=by
 have r:ai (l.length=n):=J;have F:ai (qL l x 0 n):=qL.start _ _ (J);have M:=ah N;have t:ai (l.Pairwise fun a b=>¬cK b a):=O;clear N O J;go_enter Tryz.func173,Tryz.ntmps173;go_wp2_with fail
 go_loopw [7,8] (fun a b wr=>∃ g hi:Nat,a = .int .i64 g∧b = .int .i64 hi∧g≤hi∧hi≤n∧ai (qL l x g hi)∧ai (av w wr)) (fun a b _=>(intOf b).toNat-(intOf a).toNat)
 case atStart=>exact⟨0,n,rfl,rfl,Nat.zero_le _,bG,F,bN⟩
 case round=>
  obtain⟨g,hi,rfl,rfl,hlh,H,D,q⟩:=hrel
  by_cases hlt:g<hi
  ·have hm1:(g+hi) / 2<n:=by omega
   obtain⟨b,o,rfl,u,m⟩:=M.at_ (by omega)
   have j:(g+hi) / 2<l.length:=by rw[r.o];omega
   obtain⟨y,d⟩:∃ y,l[(g+hi) / 2]=y:=⟨_,rfl⟩;have c0:=(q.cell (p:=⟨b,o+(g+hi) / 2,none⟩) u).trans (m ((g+hi) / 2) (.string y) (by rw[← d];simp[strs,j]));clear m;obtain⟨c,m⟩:∃ c,Op.bytesLess y.toList x.toList=c:=⟨_,rfl⟩;have L:=ah m
   have z:ai (cK l[(g+hi) / 2] x↔c=true):=ah (by rw[d];unfold cK;rw[m])
   clear m d
   by_cases k:c=true
   ·subst k
    have s:=ah (D.up t j (z.2 rfl));go_wp2_with (first | (go_at_call 200;refine (Bc _ _ _ _ L).mono ?_;rintro e v ⟨rfl,rfl⟩) | (go_at_call 201;refine (Bl _ _).mono ?_;rintro e v ⟨rfl,rfl⟩));go_roundw
    case rel=>refine⟨(g+hi) / 2+1,hi,by rw[show ((g:Int)+(hi:Int)) / 2+1=(((g+hi) / 2+1:Nat):Int) by omega],rfl,by omega,H,s,q⟩
    case measure=>simp[intOf];omega
   ·obtain rfl:c=false:=by simpa using k
    clear k;have s:=ah (D.down t j (fun h=>by have:=z.1 h;simp at this));go_wp2_with (first | (go_at_call 200;refine (Bc _ _ _ _ L).mono ?_;rintro e v ⟨rfl,rfl⟩) | (go_at_call 201;refine (Bl _ _).mono ?_;rintro e v ⟨rfl,rfl⟩));go_roundw
    case rel=>refine⟨g,(g+hi) / 2,rfl,by rw[show ((g:Int)+(hi:Int)) / 2=(((g+hi) / 2:Nat):Int) by omega],by omega,by omega,s,q⟩
    case measure=>simp[intOf];omega
  ·obtain rfl:hi=g:=by omega
   have C:=ah (D.found t)
   by_cases Q:hi<n
   ·obtain⟨b,o,rfl,u,m⟩:=M.at_ (by omega)
    have j:hi<l.length:=by rw[r.o];omega
    obtain⟨y,d⟩:∃ y,l[hi]=y:=⟨_,rfl⟩;have c0:=(q.cell (p:=⟨b,o+hi,none⟩) u).trans (m (hi) (.string y) (by rw[← d];simp[strs,j]));clear m
    by_cases B:y=x
    ·subst B
     have G:=ah d;clear d;go_wp2_with (first | (go_at_call 200;refine (Bc _ _ _ _ rfl).mono ?_;rintro e v ⟨rfl,rfl⟩) | (go_at_call 201;refine (Bl _ _).mono ?_;rintro e v ⟨rfl,rfl⟩));go_ret2;exact⟨hi,true,by simp,⟨fun _=>C.2 ⟨j,G⟩,fun h=>absurd h (by simp)⟩,q⟩
    ·have G:ai (¬l[hi]=x):=by rw[d];exact B
     have hne:(y.toList==x.toList)=false:=by
      rw[gP];exact fun h=>B (qB h)
     clear d B;go_wp2_with (first | (go_at_call 200;refine (Bc _ _ _ _ rfl).mono ?_;rintro e v ⟨rfl,rfl⟩) | (go_at_call 201;refine (Bl _ _).mono ?_;rintro e v ⟨rfl,rfl⟩));go_ret2;exact⟨hi,false,by simp,⟨fun h=>absurd h (by simp),fun _ h=>by obtain⟨_,h⟩:=C.1 h;exact G.o h⟩,q⟩
   ·have f1:decide ((hi:Int)<(n:Int))=false:=aM (by omega)
    go_wp2_with fail;go_ret2;exact⟨hi,false,by simp,⟨fun h=>absurd h (by simp),fun _ h=>by obtain⟨h,_⟩:=C.1 h;rw[r.o]at h;omega⟩,q⟩
end Tr
end Go.Proofs.YtgeafpaognhokaaGreat
