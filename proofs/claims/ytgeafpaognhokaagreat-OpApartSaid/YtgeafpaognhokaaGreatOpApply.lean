/- Changes: what a change of a tree is: the document's. -/
import Derived.Test.YtgeafpaognhokaaGreatG00
import Derived.Test.YtgeafpaognhokaaGreatOpFull
import Derived.Test.YtgeafpaognhokaaGreatG60
import Derived.Test.YtgeafpaognhokaaGreatG10
import Derived.Test.YtgeafpaognhokaaGreatTreeRefRight
namespace Go.Proofs.YtgeafpaognhokaaGreat
open Go.ChangeShapes Go.WideShapes Go.ChangeAt Go.RowKit
namespace Cs
open Tr Cx Sp Rw Classical
noncomputable def appE (t:T) (o:OpM) (a n:Int):Int:=if Tr.rightB 5 t=false then 1 else if ¬opE o=0 then opE o else if checkB t a n=false then 1 else if fullB t o=true then 4 else 0
theorem path_keys {p:List ByteArray} (h:PathOk p):∀ k∈p,KeyOk k:=fun k hk=>by
 obtain⟨h1,h2⟩:=h.each k hk;refine⟨Nat.pos_of_ne_zero fun h3=>h2 ?_,h1⟩;obtain⟨⟨l⟩⟩:=k
 cases l with
 | nil=>rfl
 | cons c l=>cases (show (c::l).length=0 from h3)
theorem end_keys {o:OpM} (h:OpOk o):(∀ k∈endP o,KeyOk k)∧(endP o).length≤4:=by
 unfold endP;have h1:=path_keys h.path;have h2:=h.path.few
 split
 ·rename_i h3
  refine⟨fun k hk=>?_,by rw[List.length_append];simp;omega⟩
  rcases List.mem_append.1 hk with h4 | h4
  ·exact h1 k h4
  ·rw[List.mem_singleton.1 h4];exact h.key (.inl h3)
 ·exact⟨h1,by omega⟩
theorem right_end {o:OpM} (h:OpOk o) {e:E} (he:RightE e):RightT 5 (wrapT (oneT e) (endP o)):=by
 have h2:=end_keys h;exact (RightT.wrap (d:=1) (right_oneT (d:=0) he) (by unfold oneT;simp[T.es]) h2.1).le (by omega)
theorem right_ent {o:OpM} (h:OpOk o) {a n:Int} (hd:Dt.rightB a n=true):RightE (entOf ⟨(a,n),o,[]⟩):=by
 refine⟨hd,?_,?_,?_⟩
 ·show ByteArray.size (if o.act=6 then o.s else⟨#[]⟩)≤30
  split
  ·rename_i h6;exact h.text h6
  ·show ByteArray.size ⟨#[]⟩≤30;decide
 ·show (-1099511627776:Int)≤o.n
  by_cases h5:o.act=5
  ·exact (h.num h5).1
  ·rw[h.zero h5];decide
 ·show o.n≤(1099511627776:Int)
  by_cases h5:o.act=5
  ·exact (h.num h5).2
  ·rw[h.zero h5];decide
theorem delta_right {t:T} (_ht:RightT 5 t) {o:OpM} {a n:Int} {x:K} (ho:OpOk o) (hd:Dt.rightB a n=true) (h:DeltaOf t o (a,n) x):RK x:=by
 obtain⟨u,hu,hv⟩:=h.ctx;have hh:=uni_self hu.right hd hv;have hc:=hv.right
 by_cases hb:brings o.act
 ·have hx:x=(wrapT (oneT (entOf ⟨(a,n),o,[]⟩)) (endP o),x.2):=Prod.ext (by rw[h.tree,if_pos hb]) rfl
  rw[hx];refine⟨right_end ho (right_ent ho hd),hc,fun y hy=>?_⟩;have he:=(leaf_iff (right_end ho (right_ent ho hd)) y.1 y.2).1 hy;rw[entAt_wrap]at he
  split at he
  ·rename_i h2
   have h3:keyE y.2=(a,n):=by rw[← h2.2];rfl
   injection he with he;show hasC x.2 y.2.a y.2.n=true;rw[← he];exact hh
  ·cases he
 ·have hx:x=(none_,x.2):=Prod.ext (by rw[h.tree,if_neg hb]) rfl
  rw[hx];exact right_gone hc
theorem boxTODC (w:World) (Ae Ak:Option Addr) (ne nk ce ck:Nat) (xA:Option Addr) (xn xc:Nat) (xa:Int) (xs:ByteArray) (xv a n:Int):∃ (W:World) (p q s r:Nat),Hid (W=(((w.alloc (.cells #[.slice Ae ne ce,.slice Ak nk ck] 35)).alloc (.cells #[.slice xA xn xc,.int .i64 xa,.string xs,.int .i64 xv] 27)).alloc (.cells #[.int .i64 a,.int .i64 n] 37)).alloc (.cells #[.slice none 0 0,.slice none 0 0,.slice none 0 0] 42))∧Hid (p=w.heap.size)∧Hid (q=p+1)∧Hid (s=p+1+1)∧Hid (r=p+1+1+1)∧Hid (Kept [(⟨p,0,none⟩,.slice Ae ne ce),(⟨p,1,none⟩,.slice Ak nk ck),(⟨q,0,none⟩,.slice xA xn xc),(⟨q,1,none⟩,.int .i64 xa),(⟨q,2,none⟩,.string xs),(⟨q,3,none⟩,.int .i64 xv),(⟨s,0,none⟩,.int .i64 a),(⟨s,1,none⟩,.int .i64 n)] w W)∧Hid (Kept [(⟨r,0,none⟩,.slice none 0 0),(⟨r,1,none⟩,.slice none 0 0),(⟨r,2,none⟩,.slice none 0 0)] w W)∧Hid (Free r W):=by
 refine⟨_,_,_,_,_,rfl,rfl,rfl,rfl,rfl,?_,?_,⟨by simp,fun j=>by go_simp⟩⟩
 ·have h0:=Kept.nil_of (show Below w.heap.size w ((((w.alloc (.cells #[.slice Ae ne ce,.slice Ak nk ck] 35)).alloc (.cells #[.slice xA xn xc,.int .i64 xa,.string xs,.int .i64 xv] 27)).alloc (.cells #[.int .i64 a,.int .i64 n] 37)).alloc (.cells #[.slice none 0 0,.slice none 0 0,.slice none 0 0] 42)) from ((((Below.refl _ _).alloc (Nat.le_refl _) _).alloc (by simp) _).alloc (by simp;omega) _).alloc (by simp;omega) _)
  refine ((((((((h0).cons_of ?_).cons_of ?_).cons_of ?_).cons_of ?_).cons_of ?_).cons_of ?_).cons_of ?_).cons_of ?_ <;> go_simp
 ·have h0:=Kept.nil_of (show Below w.heap.size w ((((w.alloc (.cells #[.slice Ae ne ce,.slice Ak nk ck] 35)).alloc (.cells #[.slice xA xn xc,.int .i64 xa,.string xs,.int .i64 xv] 27)).alloc (.cells #[.int .i64 a,.int .i64 n] 37)).alloc (.cells #[.slice none 0 0,.slice none 0 0,.slice none 0 0] 42)) from ((((Below.refl _ _).alloc (Nat.le_refl _) _).alloc (by simp) _).alloc (by simp;omega) _).alloc (by simp;omega) _)
  refine ((h0.cons_of ?_).cons_of ?_).cons_of ?_ <;> go_simp
def ApplyIs (t:T) (o:OpM) (a n er:Int) (w:World) (e:Ending) (w':World):Prop:=∃ (k:K) (Xe:Option Addr) (xe1 xe2:Nat) (Xk:Option Addr) (xk1 xk2:Nat) (Xc:Option Addr) (xc1 xc2:Nat),e = .returned (.tuple #[.agg #[.slice Xe xe1 xe2,.slice Xk xk1 xk2,.slice Xc xc1 xc2],.int .i64 er])∧Hid (OwC w' w.heap.size k Xe xe1 xe2 Xk xk1 xk2 Xc xc1 xc2)∧Hid ((er=0→DeltaOf t o (a,n) k∧xc1≤4*nodes t+4)∧(¬er=0→k=noneK))∧Below w.heap.size w w'
end Cs
end Go.Proofs.YtgeafpaognhokaaGreat
