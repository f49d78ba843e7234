/- Texts of the lower layers, and of layer 9, put together. -/
import Derived.Test.YtgeafpaognhokaaGreatG00
import Derived.Test.YtgeafpaognhokaaGreatG60
import Derived.Test.YtgeafpaognhokaaGreatOpFull
namespace Go.Proofs.YtgeafpaognhokaaGreat
set_option maxRecDepth 100000
set_option maxHeartbeats 4000000
section
open ChangeShapes WideShapes ChangeAt RowKit
namespace Cs
open Tr Cx Sp Rw Classical
def uo (k:ByteArray):Bool:=decide (30<k.size)||decide (d_ k=0)
def qa (k:ByteArray):Bool:=!decide (d_ k=5)
theorem FR {l:List ByteArray} : l.any uo=true↔∃ k∈l,30<k.size∨d_ k=0:=by
 rw[List.any_eq_true];unfold uo;exact exists_congr fun k=>and_congr Iff.rfl (by rw[Bool.or_eq_true,eG,eG])
theorem zS {l:List ByteArray} {m:Nat} (hl:l.length=m+1):(l.take m).any qa=true↔∃ (i:Nat) (h:i<l.length),i+1<l.length∧d_ l[i]≠5:=by
 rw[List.any_eq_true];unfold qa;constructor
 ·rintro⟨k,c,a⟩
  obtain⟨i,hi,rfl⟩:=qz c;rw[l7]at hi;refine⟨i,by omega,by omega,?_⟩;rw[List.getElem_take]at a
  simpa using a
 ·rintro⟨i,hi,h1,a⟩
  have b:i<(l.take m).length:=by rw[l7];omega
  refine⟨(l.take m)[i],bT b,?_⟩;rw[List.getElem_take]
  simpa using a
theorem Ep (key:ByteArray) (w:World):Calls Tryz.prog 85 #[.string key] w fun e w'=>e = .returned (.bool (uo key))∧w'=w:=by
 obtain⟨d,b⟩:∃ k,d_ key=k:=⟨_,rfl⟩;have H:=fun W=>ah (nT key W);rw[b]at H
 by_cases a:30<key.size
 ·have f:decide ((30:Int)<(key.size:Int))=true:=aJ (by omega)
  have c:uo key=true:=by unfold uo;rw[aJ a];rfl
  rw[c];clear a c b;go_enter Tryz.func85,Tryz.ntmps85;go_wp2_with fail;go_ret;exact⟨rfl,rfl⟩
 ·have f:decide ((30:Int)<(key.size:Int))=false:=aM (by omega)
  have c:uo key=decide (d=0):=by unfold uo;rw[aM a,b];rfl
  rw[c]
  have g:((d:Int)==0)=decide (d=0):=by rw[jI,beq_iff_eq,eG];omega
  clear a c b;go_enter Tryz.func85,Tryz.ntmps85;go_wp2_with fail;refine (H _).o.mono ?_;rintro e w' ⟨rfl,rfl⟩;go_wp2_with fail;go_ret;exact⟨Dt.aj (by first | exact g | rfl),rfl⟩
theorem Bn (key:ByteArray) (w:World):Calls Tryz.prog 86 #[.string key] w fun e w'=>e = .returned (.bool (qa key))∧w'=w:=by
 obtain⟨c,a⟩:∃ k,d_ key=k:=⟨_,rfl⟩;have H:=fun W=>ah (nT key W);rw[a]at H
 have b:qa key=((c:Int) != 5):=by unfold qa;rw[a,jI,bne_iff_ne,Bool.not_eq_true',Ea];omega
 rw[b];clear a b;go_enter Tryz.func86,Tryz.ntmps86;go_wp2_with fail;refine (H _).o.mono ?_;rintro e w' ⟨rfl,rfl⟩;go_wp2_with fail;go_ret;exact⟨rfl,rfl⟩
set_option maxHeartbeats 1000000 in
theorem A9 (l:List ByteArray) (n:Nat) (A:Option Addr) (c:Nat) (w:World) (z:Bool) (h:l.any uo=z) (hn:n≤1000000) (B:Rd w w.heap.size 1 A n c (strs l)) :
  Calls Tryz.prog 132 #[.slice A n c,.func (.func 85) #[] #[]] w fun e w'=>∃ r:Int,e = .returned (.int .i64 r)∧(decide (0≤r)=z)∧w'=w:=by
 have D:=ah (bM B);have G:=ah B;have q:=ah h;clear B h;go_enter Tryz.func132,Tryz.ntmps132;go_wp2_with fail
 go_loopw [8] (fun i wr=>∃ k:Nat,k≤n∧i = .int .i64 k∧ai (∀ x∈l.take k,uo x=false)∧wr=w) (fun i _=>n-(intOf i).toNat)
 case atStart=>exact⟨0,by omega,rfl,fun x g=>by simp at g,rfl⟩
 case round=>
  obtain⟨k,hk,rfl,C,rfl⟩:=hrel
  by_cases v:k<n
  ·have j:k<l.length:=by rw[D.o];exact v
   obtain⟨b,o,rfl,hb,u⟩:=G.at_ (by omega);obtain⟨x,g⟩:∃ x,x=l[k]:=⟨_,rfl⟩;have cx:=u k (.string x) (by rw[g];simp[Tr.strs,j])
   have m:l.take (k+1)=l.take k++[x]:=by rw[g];exact dZ j
   have f:x∈l:=by rw[g];exact bT j
   have s:=fun W=>ah (Ep x W)
   cases h:uo x with
   | false=>
    rw[h]at s
    have t:ai (∀ x∈l.take (k+1),uo x=false):=fun y p=>by
     rw[m]at p
     rcases fO.1 p with p | p
     ·exact C.o y p
     ·rw[eX.1 p];exact h
    clear u g m f h;go_wp2_with (go_at_call 85;refine (s _).o.mono ?_;rintro e w' ⟨rfl,rfl⟩);go_roundw
    case rel=>exact⟨k+1,by omega,by go_num,t,by first | rfl | trivial⟩
    case measure=>simp[intOf];omega
   | true=>
    rw[h]at s
    have a:z=true:=by
     rw[← q.o];exact List.any_eq_true.2 ⟨x,f,h⟩
    have d:=ah a;clear u g m f h a;go_wp2_with (go_at_call 85;refine (s _).o.mono ?_;rintro e w' ⟨rfl,rfl⟩);go_ret;exact⟨k,rfl,by rw[d.o];exact aJ (by omega),rfl⟩
  ·obtain rfl:k=n:=by omega
   have a:z=false:=by
    rw[← q.o,List.any_eq_false];intro x g F;have H:=C.o x (by rw[eO (by rw[D.o];omega)];exact g);rw[H]at F
    cases F
   have d:=ah a;clear a;go_wp2_with fail;go_ret;exact⟨-1,rfl,by rw[d.o];rfl,rfl⟩
theorem BQ (l:List ByteArray) (n:Nat) (A:Option Addr) (c:Nat) (w:World) (z:Bool) (b:l.any uo=z) (d:n≤1000000) (a:Rd w w.heap.size 1 A n c (strs l)) :
  Calls Tryz.prog 84 #[.slice A n c,.func (.func 85) #[] #[]] w fun e w'=>e = .returned (.bool z)∧w'=w:=by
 have H:=ah (A9 l n A c w z b d a);clear a b;go_enter Tryz.func84,Tryz.ntmps84;go_wp2_with fail;refine H.mono ?_;rintro e w' ⟨r,rfl,a,rfl⟩;go_wp2_with fail;go_ret;exact⟨Dt.aj (by first | exact a | rfl),rfl⟩
set_option maxHeartbeats 1000000 in
theorem xH (l:List ByteArray) (n:Nat) (A:Option Addr) (c:Nat) (w:World) (z:Bool) (h:l.any qa=z) (hn:n≤1000000) (B:Rd w w.heap.size 1 A n c (strs l)) :
  Calls Tryz.prog 132 #[.slice A n c,.func (.func 86) #[] #[]] w fun e w'=>∃ r:Int,e = .returned (.int .i64 r)∧(decide (0≤r)=z)∧w'=w:=by
 have D:=ah (bM B);have G:=ah B;have q:=ah h;clear B h;go_enter Tryz.func132,Tryz.ntmps132;go_wp2_with fail
 go_loopw [8] (fun i wr=>∃ k:Nat,k≤n∧i = .int .i64 k∧ai (∀ x∈l.take k,qa x=false)∧wr=w) (fun i _=>n-(intOf i).toNat)
 case atStart=>exact⟨0,by omega,rfl,fun x g=>by simp at g,rfl⟩
 case round=>
  obtain⟨k,hk,rfl,C,rfl⟩:=hrel
  by_cases v:k<n
  ·have j:k<l.length:=by rw[D.o];exact v
   obtain⟨b,o,rfl,hb,u⟩:=G.at_ (by omega);obtain⟨x,g⟩:∃ x,x=l[k]:=⟨_,rfl⟩;have cx:=u k (.string x) (by rw[g];simp[Tr.strs,j])
   have m:l.take (k+1)=l.take k++[x]:=by rw[g];exact dZ j
   have f:x∈l:=by rw[g];exact bT j
   have s:=fun W=>ah (Bn x W)
   cases h:qa x with
   | false=>
    rw[h]at s
    have t:ai (∀ x∈l.take (k+1),qa x=false):=fun y p=>by
     rw[m]at p
     rcases fO.1 p with p | p
     ·exact C.o y p
     ·rw[eX.1 p];exact h
    clear u g m f h;go_wp2_with (go_at_call 86;refine (s _).o.mono ?_;rintro e w' ⟨rfl,rfl⟩);go_roundw
    case rel=>exact⟨k+1,by omega,by go_num,t,by first | rfl | trivial⟩
    case measure=>simp[intOf];omega
   | true=>
    rw[h]at s
    have a:z=true:=by
     rw[← q.o];exact List.any_eq_true.2 ⟨x,f,h⟩
    have d:=ah a;clear u g m f h a;go_wp2_with (go_at_call 86;refine (s _).o.mono ?_;rintro e w' ⟨rfl,rfl⟩);go_ret;exact⟨k,rfl,by rw[d.o];exact aJ (by omega),rfl⟩
  ·obtain rfl:k=n:=by omega
   have a:z=false:=by
    rw[← q.o,List.any_eq_false];intro x g F;have H:=C.o x (by rw[eO (by rw[D.o];omega)];exact g);rw[H]at F
    cases F
   have d:=ah a;clear a;go_wp2_with fail;go_ret;exact⟨-1,rfl,by rw[d.o];rfl,rfl⟩
theorem yO (l:List ByteArray) (n:Nat) (A:Option Addr) (c:Nat) (w:World) (z:Bool) (b:l.any qa=z) (d:n≤1000000) (a:Rd w w.heap.size 1 A n c (strs l)) :
  Calls Tryz.prog 84 #[.slice A n c,.func (.func 86) #[] #[]] w fun e w'=>e = .returned (.bool z)∧w'=w:=by
 have H:=ah (xH l n A c w z b d a);clear a b;go_enter Tryz.func84,Tryz.ntmps84;go_wp2_with fail;refine H.mono ?_;rintro e w' ⟨r,rfl,a,rfl⟩;go_wp2_with fail;go_ret;exact⟨Dt.aj (by first | exact a | rfl),rfl⟩
theorem qb (l:List ByteArray) (n:Nat) (A:Option Addr) (c:Nat) (w:World) (z:Int) (F:jk l=z) (hn:n≤1000000) (v:Rd w w.heap.size 1 A n c (strs l)) :
  Calls Tryz.prog 41 #[.slice A n c] w fun e w'=>e = .returned (.int .i64 z)∧w'=w:=by
 have i:=ah (bM v);have s:=ah v;have p:=ah F;clear v F
 by_cases q:n<1
 ·have L:decide ((n:Int)<1)=true:=aJ (by omega)
  obtain rfl:z=1:=by
   rw[← p.o];exact jS (.inl (jE.1 (by rw[i.o];omega)))
  clear q;go_enter Tryz.func41,Tryz.ntmps41;go_wp2_with fail;go_ret;exact⟨rfl,rfl⟩
 have L:decide ((n:Int)<1)=false:=aM (by omega)
 by_cases u:3<n
 ·have M:decide ((3:Int)<(n:Int))=true:=aJ (by omega)
  obtain rfl:z=1:=by
   rw[← p.o];exact jS (.inr (.inl (by rw[i.o];omega)))
  clear q u;go_enter Tryz.func41,Tryz.ntmps41;go_wp2_with fail;go_ret;exact⟨rfl,rfl⟩
 have M:decide ((3:Int)<(n:Int))=false:=aM (by omega);obtain⟨m,rfl⟩:∃ m,n=m+1:=⟨n-1,by omega⟩
 have D:ai (m≤2):=FL
 have f1m:decide ((m:Int)+1<1)=false:=aM (by omega);have f3m:decide (3<(m:Int)+1)=false:=aM (by have:=D.o;omega);obtain⟨G,b⟩:∃ z,l.any uo=z:=⟨_,rfl⟩;have B:=ah (BQ l (m+1) A c w G b (by omega) s)
 cases G with
 | true=>
  obtain rfl:z=1:=by
   rw[← p.o];exact jS (.inr (.inr (FR.1 b)))
  clear q u b;go_enter Tryz.func41,Tryz.ntmps41;go_wp2_with fail;refine B.mono ?_;rintro e w' ⟨rfl,rfl⟩;go_wp2_with fail;go_ret;exact⟨rfl,rfl⟩
 | false=>
  obtain⟨r,d⟩:∃ z,(l.take m).any qa=z:=⟨_,rfl⟩
  have f:m≤c:=by have:=s.cap;omega
  have C:=fun W=>wR A (m+1) c m f W;have hcw:=C w;have H:=ah (yO (l.take m) m A c w r d (by omega) (Br s (by omega)))
  have fw:IntKind.i64.wrap ((m:Int)+1-1)=(m:Int):=by have:=D.o;rw[iN];omega
  have fx:((m:Int)+1-1)=(m:Int):=by omega
  have a:¬(l=[]∨3<l.length∨(∃ k∈l,30<k.size∨d_ k=0)):=by
   rintro (h | h | h)
   ·have t:=i.o;rw[h]at t;cases t
   ·have t:=i.o;omega
   ·rw[← FR,b]at h;cases h
  obtain⟨J,g⟩:∃ x:Int,x=if r=true then 6 else 0:=⟨_,rfl⟩
  have y:z=J:=by
   rw[← p.o,g]
   cases r with
   | true=>rw[if_pos rfl];exact zW a ((zS i).1 d)
   | false=>rw[if_neg (by decide)];exact Dh a (fun h=>by rw[← zS i.o,d]at h;cases h)
  subst y;have j:=ah g;clear q u b d a C f g;go_enter Tryz.func41,Tryz.ntmps41;go_wp2_with fail;refine B.mono ?_;rintro e w' ⟨rfl,rfl⟩;go_wp2_with fail;refine H.mono ?_;rintro e w' ⟨rfl,rfl⟩
  cases r with
  | true=>
   obtain rfl:z=6:=j.o;go_wp2_with fail;go_ret;exact⟨rfl,rfl⟩
  | false=>
   obtain rfl:z=0:=j.o;go_wp2_with fail;go_ret;exact⟨rfl,rfl⟩
end Cs
end
section
open ChangeShapes WideShapes ChangeAt RowKit
namespace Cs
open Tr Cx Sp Rw Classical
theorem CU (a:Int) (k:Nat) (w:World) (z:Bool) (b:decide (dI a k)=z) :
  Calls Tryz.prog 87 #[.int .i64 a,.int .i64 k] w fun e w'=>e = .returned (.bool z)∧av w w':=by
 by_cases d:a=1
 ·subst d
  have c:((k:Int)==1)=z:=by
   rw[← b,jI,beq_iff_eq,eG];unfold dI;omega
  clear b;go_enter Tryz.func87,Tryz.ntmps87;go_wp2_with fail;go_ret;exact⟨rfl,bN⟩
 have f1:(a==1)=false:=by simpa using d
 by_cases f:a=2
 ·subst f
  have c:((k:Int)==1)=z:=by
   rw[← b,jI,beq_iff_eq,eG];unfold dI;omega
  clear b;go_enter Tryz.func87,Tryz.ntmps87;go_wp2_with fail;go_ret;exact⟨rfl,bN⟩
 have f2:(a==2)=false:=by simpa using f
 by_cases g:a=3
 ·subst g
  have c:((k:Int)==2)=z:=by
   rw[← b,jI,beq_iff_eq,eG];unfold dI;omega
  clear b;go_enter Tryz.func87,Tryz.ntmps87;go_wp2_with fail;go_ret;exact⟨rfl,bN⟩
 have f3:(a==3)=false:=by simpa using g
 by_cases h:a=4
 ·subst h
  have c:((k:Int)==2)=z:=by
   rw[← b,jI,beq_iff_eq,eG];unfold dI;omega
  clear b;go_enter Tryz.func87,Tryz.ntmps87;go_wp2_with fail;go_ret;exact⟨rfl,bN⟩
 have f4:(a==4)=false:=by simpa using h
 by_cases i:a=5
 ·subst i
  have c:((k:Int)==3)=z:=by
   rw[← b,jI,beq_iff_eq,eG];unfold dI;omega
  clear b;go_enter Tryz.func87,Tryz.ntmps87;go_wp2_with fail;go_ret;exact⟨rfl,bN⟩
 have f5:(a==5)=false:=by simpa using i
 by_cases j:a=6
 ·subst j
  have c:((k:Int)==4)=z:=by
   rw[← b,jI,beq_iff_eq,eG];unfold dI;omega
  clear b;go_enter Tryz.func87,Tryz.ntmps87;go_wp2_with fail;go_ret;exact⟨rfl,bN⟩
 have f6:(a==6)=false:=by simpa using j
 have f7:(a==7)=z:=by
  rw[← b,jI,beq_iff_eq,eG];unfold dI;omega
 clear b d f g h i j;go_enter Tryz.func87,Tryz.ntmps87;go_wp2_with fail;go_ret;exact⟨rfl,bN⟩
def LQ (a:Int) (s:ByteArray):Prop:=((a=3∨a=4)→iV s)∧(a=6→s.size≤30)∧(¬(a=3∨a=4∨a=6)→s=⟨#[]⟩)
def Na (a v:Int):Prop:=(a=5 → -1099511627776≤v∧v≤1099511627776)∧(a≠5→v=0)
theorem Ia (x:Option Addr) (A y:Nat) (d:Int) (xs:ByteArray) (B:Int) (w:World) (z:Bool) (c:decide (LQ d xs)=z) :
  Calls Tryz.prog 88 #[.agg #[.slice x A y,.int .i64 d,.string xs,.int .i64 B]] w fun e w'=>e = .returned (.bool z)∧av w w':=by
 obtain⟨g,W,v,u,m,-,-,-,-⟩:=zi w (.slice x A y) (.int .i64 d) (.string xs) (.int .i64 B) 27
 have a:ai (Kept [(⟨g,0,none⟩,.slice x A y),(⟨g,1,none⟩,.int .i64 d),(⟨g,2,none⟩,.string xs),(⟨g,3,none⟩,.int .i64 B)] w W):=by
  have F:=Kept.a_ m
  refine (((F.af ?_).af ?_).af ?_).af ?_ <;> (rw[u,v];go_simp)
 have j:=ah v;have b:=ah u;clear v u;clear m
 by_cases f:d=3
 ·subst f
  by_cases l:1≤xs.size
  ·have s:decide ((1:Int)≤(xs.size:Int))=true:=aJ (by omega)
   have k:decide ((xs.size:Int)≤30)=z:=by
    rw[← c,jI,eG,eG];exact⟨fun h=>⟨fun _=>⟨by omega,by omega⟩,fun h=>absurd h (by decide),fun h=>absurd (by decide) h⟩,fun h=>by have f:=(h.1 (by decide)).2;omega⟩
   clear c l;obtain⟨c0,c1,c2,c3,-⟩:=a.cj;rw[b.o,j.o]at c0 c1 c2 c3;go_enter Tryz.func88,Tryz.ntmps88;go_wp2_with fail;go_ret;exact⟨Dt.aj (by first | rfl | assumption),by have h:=a.below;rw[b.o]at h;exact h⟩
  ·have s:decide ((1:Int)≤(xs.size:Int))=false:=aM (by omega)
   have k:false=z:=by
    rw[← c];exact (aM fun h=>by have f:=(h.1 (by decide)).1;omega).symm
   subst k;clear c l;obtain⟨c0,c1,c2,c3,-⟩:=a.cj;rw[b.o,j.o]at c0 c1 c2 c3;go_enter Tryz.func88,Tryz.ntmps88;go_wp2_with fail;go_ret;exact⟨Dt.aj (by first | rfl | assumption),by have h:=a.below;rw[b.o]at h;exact h⟩
 by_cases p:d=4
 ·subst p
  by_cases l:1≤xs.size
  ·have s:decide ((1:Int)≤(xs.size:Int))=true:=aJ (by omega)
   have k:decide ((xs.size:Int)≤30)=z:=by
    rw[← c,jI,eG,eG];exact⟨fun h=>⟨fun _=>⟨by omega,by omega⟩,fun h=>absurd h (by decide),fun h=>absurd (by decide) h⟩,fun h=>by have f:=(h.1 (by decide)).2;omega⟩
   clear c l;obtain⟨c0,c1,c2,c3,-⟩:=a.cj;rw[b.o,j.o]at c0 c1 c2 c3;go_enter Tryz.func88,Tryz.ntmps88;go_wp2_with fail;go_ret;exact⟨Dt.aj (by first | rfl | assumption),by have h:=a.below;rw[b.o]at h;exact h⟩
  ·have s:decide ((1:Int)≤(xs.size:Int))=false:=aM (by omega)
   have k:false=z:=by
    rw[← c];exact (aM fun h=>by have f:=(h.1 (by decide)).1;omega).symm
   subst k;clear c l;obtain⟨c0,c1,c2,c3,-⟩:=a.cj;rw[b.o,j.o]at c0 c1 c2 c3;go_enter Tryz.func88,Tryz.ntmps88;go_wp2_with fail;go_ret;exact⟨Dt.aj (by first | rfl | assumption),by have h:=a.below;rw[b.o]at h;exact h⟩
 by_cases q:d=6
 ·subst q
  have k:decide ((xs.size:Int)≤30)=z:=by
   rw[← c,jI,eG,eG];exact⟨fun h=>⟨fun h=>absurd h (by decide),fun _=>by omega,fun h=>absurd (by decide) h⟩,fun h=>by have f:=h.2.1 rfl;omega⟩
  clear c f p;obtain⟨c0,c1,c2,c3,-⟩:=a.cj;rw[b.o,j.o]at c0 c1 c2 c3;go_enter Tryz.func88,Tryz.ntmps88;go_wp2_with fail;go_ret;exact⟨Dt.aj (by first | rfl | assumption),by have h:=a.below;rw[b.o]at h;exact h⟩
 have f3:(d==3)=false:=by simpa using f
 have f4:(d==4)=false:=by simpa using p
 have f6:(d==6)=false:=by simpa using q
 have i:decide (xs=⟨#[]⟩)=z:=by
  rw[← c];exact decide_eq_decide.2 ⟨fun h=>⟨fun t=>absurd t (by omega),fun t=>absurd t q,fun _=>h⟩,fun h=>h.2.2 (by omega)⟩
 clear c f p q
 by_cases n:xs=⟨#[]⟩
 ·obtain rfl:z=true:=by rw[← i];exact aJ n
  subst n;clear i;obtain⟨c0,c1,c2,c3,-⟩:=a.cj;rw[b.o,j.o]at c0 c1 c2 c3;go_enter Tryz.func88,Tryz.ntmps88;go_wp2_with fail;go_ret;exact⟨Dt.aj (by first | rfl | assumption),by have h:=a.below;rw[b.o]at h;exact h⟩
 ·obtain rfl:z=false:=by rw[← i];exact aM n
  have D:(xs.toList==(ByteArray.mk #[]).toList)=false:=dJ n
  have C:(ByteArray.mk #[]).toList=[]:=by rw[nu]
  have r:=D;rw[C]at r;clear C n i;obtain⟨c0,c1,c2,c3,-⟩:=a.cj;rw[b.o,j.o]at c0 c1 c2 c3;go_enter Tryz.func88,Tryz.ntmps88;go_wp2_with fail;go_ret;exact⟨Dt.aj (by first | rfl | assumption),by have h:=a.below;rw[b.o]at h;exact h⟩
theorem JP (q:Option Addr) (s r:Nat) (i:Int) (xs:ByteArray) (b:Int) (w:World) (z:Bool) (f:decide (Na i b)=z) :
  Calls Tryz.prog 89 #[.agg #[.slice q s r,.int .i64 i,.string xs,.int .i64 b]] w fun e w'=>e = .returned (.bool z)∧av w w':=by
 obtain⟨g,W,p,n,k,-,-,-,-⟩:=zi w (.slice q s r) (.int .i64 i) (.string xs) (.int .i64 b) 27
 have a:ai (Kept [(⟨g,0,none⟩,.slice q s r),(⟨g,1,none⟩,.int .i64 i),(⟨g,2,none⟩,.string xs),(⟨g,3,none⟩,.int .i64 b)] w W):=by
  have u:=Kept.a_ k
  refine (((u.af ?_).af ?_).af ?_).af ?_ <;> (rw[n,p];go_simp)
 have l:=ah p;have c:=ah n;clear p n;clear k
 by_cases j:i=5
 ·subst j
  by_cases d : -1099511627776≤b
  ·have t:decide (-1099511627776≤b)=true:=aJ d
   have m:decide (b≤1099511627776)=z:=by
    rw[← f];exact decide_eq_decide.2 ⟨fun h=>⟨fun _=>⟨d,h⟩,fun h=>absurd rfl h⟩,fun h=>(h.1 rfl).2⟩
   clear f d;obtain⟨c0,c1,c2,c3,-⟩:=a.cj;rw[c.o,l.o]at c0 c1 c2 c3;go_enter Tryz.func89,Tryz.ntmps89;go_wp2_with fail;go_ret;exact⟨Dt.aj (by first | rfl | assumption),by have h:=a.below;rw[c.o]at h;exact h⟩
  ·have t:decide (-1099511627776≤b)=false:=aM d
   have m:false=z:=by
    rw[← f];exact (aM fun h=>d (h.1 rfl).1).symm
   subst m;clear f d;obtain⟨c0,c1,c2,c3,-⟩:=a.cj;rw[c.o,l.o]at c0 c1 c2 c3;go_enter Tryz.func89,Tryz.ntmps89;go_wp2_with fail;go_ret;exact⟨Dt.aj (by first | rfl | assumption),by have h:=a.below;rw[c.o]at h;exact h⟩
 have f5:(i==5)=false:=by simpa using j
 have m:(b==0)=z:=by
  rw[← f,jI,beq_iff_eq,eG];exact⟨fun h=>⟨fun v=>absurd v j,fun _=>h⟩,fun h=>h.2 j⟩
 clear f j;obtain⟨c0,c1,c2,c3,-⟩:=a.cj;rw[c.o,l.o]at c0 c1 c2 c3;go_enter Tryz.func89,Tryz.ntmps89;go_wp2_with fail;go_ret;exact⟨Dt.aj (by first | rfl | assumption),by have h:=a.below;rw[c.o]at h;exact h⟩
theorem rF (p:List ByteArray) (n:Int) (xs:ByteArray) (D:Int) (xA:Option Addr) (V U:Nat) (w:World) (z:Int) (hz:Ee ⟨p,n,xs,D⟩=z) (hn:V≤1000000) (Q:Rd w w.heap.size 1 xA V U (strs p)) :
  Calls Tryz.prog 42 #[.agg #[.slice xA V U,.int .i64 n,.string xs,.int .i64 D]] w fun e w'=>e = .returned (.int .i64 z)∧av w w':=by
 obtain⟨g,W,hg,hW,M,-,-,-,-⟩:=zi w (.slice xA V U) (.int .i64 n) (.string xs) (.int .i64 D) 27
 have c:ai (Kept [(⟨g,0,none⟩,.slice xA V U),(⟨g,1,none⟩,.int .i64 n),(⟨g,2,none⟩,.string xs),(⟨g,3,none⟩,.int .i64 D)] w W):=by
  have h0:=Kept.a_ M
  refine (((h0.af ?_).af ?_).af ?_).af ?_ <;> (rw[hW,hg];go_simp)
 have HG:=ah hg;have HW:=ah hW;clear hg hW;have i:=ah (Q.later M);have B:=ah (bM Q);have Y:=ah hz;clear Q hz M;obtain⟨y,hy⟩:∃ y,jk p=y:=⟨_,rfl⟩;have H:=ah hy;clear hy;obtain⟨c0,c1,c2,c3,-⟩:=c.cj;go_enter Tryz.func42,Tryz.ntmps42;go_wp2_with fail;rw[← HG.o,← HW.o];refine (qb p V xA U W y H hn i).mono ?_;rintro e v1 ⟨rfl,j⟩
 have f:av W v1:=by rw[j];exact bN
 clear j;obtain⟨c,i⟩:=gI f c i;clear f;clear c0 c1 c2 c3
 by_cases R:y=0
 ·subst R
  have G:ai (f_ p):=jT.1 H
  obtain⟨m,rfl⟩:∃ m,V=m+1:=by
   have h2:=G.some;have h3:=B.o
   cases p with
   | nil=>exact absurd rfl h2
   | cons a l=>exact⟨l.length,by rw[← h3];rfl⟩
  have hm3:m≤2:=by have h1:=G.few;have h3:=B.o;omega
  obtain⟨kd,Z⟩:∃ kd,kd=bD p:=⟨_,rfl⟩;obtain⟨ok,Nz⟩:∃ ok,decide (dI n kd)=ok:=⟨_,rfl⟩;have C:=ah Nz;have A:=ah Z;clear Z Nz
  have N:m<p.length:=by rw[B.o];omega
  obtain⟨b,o,rfl,hgl,hc⟩:=gM i (by omega);have q0:=hc m N;have O:bD p=d_ p[m]:=nO N B.o;obtain⟨kk,Ny⟩:∃ x,x=p[m]:=⟨_,rfl⟩;rw[← Ny]at q0 O;have X:=ah O;have c:=ah (c.af q0);clear hc Ny O q0 N
  have fw:IntKind.i64.wrap (m:Int)=(m:Int):=by rw[iN];omega
  have fx:IntKind.i64.wrap ((m:Int)+1-1)=(m:Int):=by rw[iN];omega
  have fy:(m:Int)<(m:Int)+1:=by omega
  obtain⟨c0,c1,c2,c3,c4,-⟩:=c.cj;go_wp2_with fail;clear c0 c1 c2 c3 c4
  cases ok with
  | false=>
   refine Rg (S:=eB _) c.drew.cj (fun d=>?_);obtain⟨t,k,f⟩:=mW v1;obtain⟨c,i⟩:=gI f c i;clear f;rw[← k]at d ⊢;clear k;refine T4 0 10 1 11 2 12 3 13 ?_;refine T4 4 14 5 15 6 16 7 17 ?_;refine T2 8 18 9 19 ?_;refine Tc 10 (fun K r=>?_);go_simp;(go_at_call 13;refine (nT kk t).mono ?_);rw[← X.o,← A.o];rintro e u ⟨rfl,j⟩
   have f:av t u:=by rw[j];exact bN
   clear j;obtain⟨c,i⟩:=gI f c i;clear f;clear d;refine Th r ?_ (fun d=>?_)
   ·exact c.cj
   clear r K;refine Tc 11 (fun K r=>?_);go_simp;(go_at_call 87;refine (CU n kd u false C).mono ?_);rintro e N9 ⟨rfl,f⟩;obtain⟨c,i⟩:=gI f c i;clear f;clear d;refine Th r ?_ (fun d=>?_)
   ·exact c.cj
   clear r K;refine Tk 12 22 ?_;refine Td ?_;clear d
   obtain rfl:z=6:=by
    rw[← Y.o];exact CX H (by rw[← A.o];exact yF C)
   go_wp2_with fail;go_ret;exact⟨rfl,c.below⟩
  | true=>
   refine Rg (S:=eB _) c.drew.cj (fun d=>?_);obtain⟨t,k,f⟩:=mW v1;obtain⟨c,i⟩:=gI f c i;clear f;rw[← k]at d ⊢;clear k;refine T4 0 10 1 11 2 12 3 13 ?_;refine T4 4 14 5 15 6 16 7 17 ?_;refine T2 8 18 9 19 ?_;refine Tc 10 (fun K r=>?_);go_simp;(go_at_call 13;refine (nT kk t).mono ?_);rw[← X.o,← A.o];rintro e u ⟨rfl,j⟩
   have f:av t u:=by rw[j];exact bN
   clear j;obtain⟨c,i⟩:=gI f c i;clear f;clear d;refine Th r ?_ (fun d=>?_)
   ·exact c.cj
   clear r K;refine Tc 11 (fun K r=>?_);go_simp;(go_at_call 87;refine (CU n kd u true C).mono ?_);rintro e N9 ⟨rfl,f⟩;obtain⟨c,i⟩:=gI f c i;clear f;clear d;refine Th r ?_ (fun d=>?_)
   ·exact c.cj
   clear r K;refine Tk 12 22 ?_;refine Td ?_;clear d
   have F:ai (dI n (bD p)):=by rw[← A.o];exact jH C
   have q:=ah (CZ (v:=D) (s:=xs) G F);obtain⟨zt,N8⟩:∃ x,decide (LQ n xs)=x:=⟨_,rfl⟩;obtain⟨zn,N7⟩:∃ x,decide (Na n D)=x:=⟨_,rfl⟩;have L:=ah N8;have J:=ah N7;clear N8 N7;obtain⟨c0,c1,c2,c3,c4,-⟩:=c.cj;go_wp2_with fail;refine (Ia (some ⟨b,o,none⟩) (m+1) U n xs D N9 zt L).mono ?_;rintro e N_ ⟨rfl,f⟩;obtain⟨c,i⟩:=gI f c i;clear f;clear c0 c1 c2 c3 c4
   cases zt with
   | false=>
    obtain rfl:z=1:=by
     rw[← Y.o];exact iG H F fun h=>yF L ⟨(q.1 h).1,(q.1 h).2.1,(q.1 h).2.2.1⟩
    go_wp2_with fail;go_ret;exact⟨rfl,c.below⟩
   | true=>
    obtain⟨c0,c1,c2,c3,c4,-⟩:=c.cj;go_wp2_with fail;refine (JP (some ⟨b,o,none⟩) (m+1) U n xs D N_ zn J).mono ?_;rintro e v15 ⟨rfl,f⟩;obtain⟨c,i⟩:=gI f c i;clear f;clear c0 c1 c2 c3 c4
    cases zn with
    | false=>
     obtain rfl:z=1:=by
      rw[← Y.o];exact iG H F fun h=>yF J (q.1 h).2.2.2
     go_wp2_with fail;go_ret;exact⟨rfl,c.below⟩
    | true=>
     obtain rfl:z=0:=by
      rw[← Y.o];have h1:=jH L.o;have h2:=jH J.o;exact mY (q.2 ⟨h1.1,h1.2.1,h1.2.2,h2⟩)
     go_wp2_with fail;go_ret;exact⟨rfl,c.below⟩
 ·obtain rfl:z=y:=by
   rw[← Y.o,← H.o];exact CY (by rw[H.o];exact R)
  have f0:(z != 0)=true:=by simpa using R
  go_wp2_with fail;go_ret;exact⟨rfl,c.below⟩
end Cs
end
end Go.Proofs.YtgeafpaognhokaaGreat
