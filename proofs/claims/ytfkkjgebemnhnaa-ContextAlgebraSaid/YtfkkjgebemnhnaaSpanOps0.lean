/- Sets united, met, taken from one another, compared: the program's. -/
import Derived.Test.YtfkkjgebemnhnaaSpanJoin
namespace Go.Proofs.Ytfkkjgebemnhnaa
open Go.ChangeShapes Go.WideShapes Go.ChangeAt Go.RowKit
namespace Sp
theorem enters_fn {P : Program} {f : FuncId} {fn : Func} {c : Code} (hf : P.funcs[f]? = some fn) (hname : (fn.name == "runtime.NumGoroutine") = false) (hb : fn.body = some c) (args : Array Value) (w : World) : (callFunc f args).run P w = .ok (.enter f args) w := by
  have h1 : fn.name ≠ "runtime.NumGoroutine" := by simpa using hname
  simp [callFunc, hf, h1, hb, mark]
def uniF (x y : Bool) : Bool := x || y
def metF (x y : Bool) : Bool := x && y
def minF (x y : Bool) : Bool := x && !y
set_option maxHeartbeats 400000 in
theorem join_bad (F : FuncId) (a b : List (Int × Int)) (n m : Nat) (A B : Option Addr) (c d : Nat) (w : World) (hla : a.length = n) (hlb : b.length = m) (hn : n ≤ 100000) (hm : m ≤ 100000) (hra : Rd w w.heap.size 2 A n c (runsC a)) (hrb : Rd w w.heap.size 2 B m d (runsC b)) (ob : (rightB a && rightB b) = false) :
    Calls Try.prog 69 #[.slice A n c, .slice B m d, .func (.func F) #[] #[]] w fun e w' => e = .returned (.slice none 0 0) ∧ Below w.heap.size w w' := by
  have HT1 := Lib.hid (right_any a n A c w hla (by omega) hra)
  have HT2 := fun W (h : Below w.heap.size w W) => Lib.hid (right_any b m B d W hlb (by omega) ((hrb.below h).more h.size))
  cases h1 : rightB a with
  | false =>
    rw [h1] at HT1
    clear hra hrb hla hlb ob h1
    go_enter Try.func69, Try.ntmps69
    go_wp2_with fail
    refine HT1.out.mono ?_
    rintro e w1 ⟨rfl, hb1⟩
    go_wp2
    go_ret
    exact ⟨rfl, hb1⟩
  | true =>
    rw [h1, Bool.true_and] at ob
    rw [h1] at HT1
    rw [ob] at HT2
    clear hra hrb hla hlb ob h1
    go_enter Try.func69, Try.ntmps69
    go_wp2_with fail
    refine HT1.out.mono ?_
    rintro e w1 ⟨rfl, hb1⟩
    go_wp2_with fail
    refine (HT2 w1 hb1).out.mono ?_
    rintro e w2 ⟨rfl, hb2⟩
    go_wp2
    go_ret
    exact ⟨rfl, hb1.trans (hb2.mono hb1.size)⟩
set_option maxHeartbeats 400000 in
theorem union_any (a b : List (Int × Int)) (n m : Nat) (A B : Option Addr) (c d : Nat) (w : World) (hla : a.length = n) (hlb : b.length = m) (hn : n ≤ 100000) (hm : m ≤ 100000) (hra : Rd w w.heap.size 2 A n c (runsC a)) (hrb : Rd w w.heap.size 2 B m d (runsC b)) (oa : RightF 1 a) (ob : RightF 1 b) :
    Calls Try.prog 56 #[.slice A n c, .slice B m d] w (JoinIs uniF a b w) := by
  have HC := Lib.hid (join_any uniF rfl 70 union_fn (enters_fn Try.func70 (by kernel_rfl) rfl) a b n m A B c d w hla hlb hn hm hra hrb oa ob)
  clear hra hrb hla hlb oa ob
  go_enter Try.func56, Try.ntmps56
  go_wp2_with (go_at_call 69; refine HC.out.mono ?_; rintro e w1 ⟨l, A1, c1, rfl, hp, ho, hb⟩)
  go_ret
  exact ⟨l, _, _, rfl, hp, ho, hb⟩
/-- of lists that aren't right nothing comes -/
theorem union_bad (a b : List (Int × Int)) (n m : Nat) (A B : Option Addr) (c d : Nat) (w : World) (hla : a.length = n) (hlb : b.length = m) (hn : n ≤ 100000) (hm : m ≤ 100000) (hra : Rd w w.heap.size 2 A n c (runsC a)) (hrb : Rd w w.heap.size 2 B m d (runsC b)) (ob : (rightB a && rightB b) = false) :
    Calls Try.prog 56 #[.slice A n c, .slice B m d] w fun e w' => e = .returned (.slice none 0 0) ∧ Below w.heap.size w w' := by
  have HC := Lib.hid (join_bad 70 a b n m A B c d w hla hlb hn hm hra hrb ob)
  clear hra hrb hla hlb ob
  go_enter Try.func56, Try.ntmps56
  go_wp2_with (go_at_call 69; refine HC.out.mono ?_; rintro e w1 ⟨rfl, hb⟩)
  go_ret
  exact ⟨rfl, hb⟩
set_option maxHeartbeats 400000 in
theorem meet_any (a b : List (Int × Int)) (n m : Nat) (A B : Option Addr) (c d : Nat) (w : World) (hla : a.length = n) (hlb : b.length = m) (hn : n ≤ 100000) (hm : m ≤ 100000) (hra : Rd w w.heap.size 2 A n c (runsC a)) (hrb : Rd w w.heap.size 2 B m d (runsC b)) (oa : RightF 1 a) (ob : RightF 1 b) :
    Calls Try.prog 57 #[.slice A n c, .slice B m d] w (JoinIs metF a b w) := by
  have HC := Lib.hid (join_any metF rfl 71 meet_fn (enters_fn Try.func71 (by kernel_rfl) rfl) a b n m A B c d w hla hlb hn hm hra hrb oa ob)
  clear hra hrb hla hlb oa ob
  go_enter Try.func57, Try.ntmps57
  go_wp2_with (go_at_call 69; refine HC.out.mono ?_; rintro e w1 ⟨l, A1, c1, rfl, hp, ho, hb⟩)
  go_ret
  exact ⟨l, _, _, rfl, hp, ho, hb⟩
/-- of lists that aren't right nothing comes -/
theorem meet_bad (a b : List (Int × Int)) (n m : Nat) (A B : Option Addr) (c d : Nat) (w : World) (hla : a.length = n) (hlb : b.length = m) (hn : n ≤ 100000) (hm : m ≤ 100000) (hra : Rd w w.heap.size 2 A n c (runsC a)) (hrb : Rd w w.heap.size 2 B m d (runsC b)) (ob : (rightB a && rightB b) = false) :
    Calls Try.prog 57 #[.slice A n c, .slice B m d] w fun e w' => e = .returned (.slice none 0 0) ∧ Below w.heap.size w w' := by
  have HC := Lib.hid (join_bad 71 a b n m A B c d w hla hlb hn hm hra hrb ob)
  clear hra hrb hla hlb ob
  go_enter Try.func57, Try.ntmps57
  go_wp2_with (go_at_call 69; refine HC.out.mono ?_; rintro e w1 ⟨rfl, hb⟩)
  go_ret
  exact ⟨rfl, hb⟩
set_option maxHeartbeats 400000 in
theorem minus_any (a b : List (Int × Int)) (n m : Nat) (A B : Option Addr) (c d : Nat) (w : World) (hla : a.length = n) (hlb : b.length = m) (hn : n ≤ 100000) (hm : m ≤ 100000) (hra : Rd w w.heap.size 2 A n c (runsC a)) (hrb : Rd w w.heap.size 2 B m d (runsC b)) (oa : RightF 1 a) (ob : RightF 1 b) :
    Calls Try.prog 58 #[.slice A n c, .slice B m d] w (JoinIs minF a b w) := by
  have HC := Lib.hid (join_any minF rfl 72 minus_fn (enters_fn Try.func72 (by kernel_rfl) rfl) a b n m A B c d w hla hlb hn hm hra hrb oa ob)
  clear hra hrb hla hlb oa ob
  go_enter Try.func58, Try.ntmps58
  go_wp2_with (go_at_call 69; refine HC.out.mono ?_; rintro e w1 ⟨l, A1, c1, rfl, hp, ho, hb⟩)
  go_ret
  exact ⟨l, _, _, rfl, hp, ho, hb⟩
/-- of lists that aren't right nothing comes -/
theorem minus_bad (a b : List (Int × Int)) (n m : Nat) (A B : Option Addr) (c d : Nat) (w : World) (hla : a.length = n) (hlb : b.length = m) (hn : n ≤ 100000) (hm : m ≤ 100000) (hra : Rd w w.heap.size 2 A n c (runsC a)) (hrb : Rd w w.heap.size 2 B m d (runsC b)) (ob : (rightB a && rightB b) = false) :
    Calls Try.prog 58 #[.slice A n c, .slice B m d] w fun e w' => e = .returned (.slice none 0 0) ∧ Below w.heap.size w w' := by
  have HC := Lib.hid (join_bad 72 a b n m A B c d w hla hlb hn hm hra hrb ob)
  clear hra hrb hla hlb ob
  go_enter Try.func58, Try.ntmps58
  go_wp2_with (go_at_call 69; refine HC.out.mono ?_; rintro e w1 ⟨rfl, hb⟩)
  go_ret
  exact ⟨rfl, hb⟩
end Sp
end Go.Proofs.Ytfkkjgebemnhnaa
