/- Trees: what is empty, which key and which entry may be, how many entries there are; the program's, the document's. -/
import Derived.Test.YtbfcbfadfnaebaaTreeGood
import Derived.Test.YtbfcbfadfnaebaaTreeMem
import Derived.Test.YtbfcbfadfnaebaaDotCmp
import Derived.Test.YtbfcbfadfnaebaaKept
namespace Go.Proofs.Ytbfcbfadfnaebaa
open Go.ChangeShapes Go.WideShapes Go.ChangeAt Go.RowKit
namespace Tr
open Sp Rw
theorem upon_append {P : Program} {o : Oper} {a : Go.Act} {K : Go.Act → World → Prop} {Q : Exit → Go.Act → World → Prop} {w w' : World} {v xv v' : Value} (s x : Operand) (t : TypeId)
    (ho : o.op = .call { callee := .builtin .append, args := #[s, x], argTypes := #[t, t] }) (hs : a.eval s = v) (hx : a.eval x = xv)
    (hr : (Builtin.append_ #[t, t] o.type #[v, xv]).run P w = .ok v' w') (h : K (a.put o.dst v') w') : Oper.upon P o a K Q ((execOp a.eval o).run P w) := by
  unfold execOp
  simp only [ho, resolve, invoke, builtin, Sem.run_bind, Sem.run_pure, Result.andThen_ok, List.map_toArray, List.map_cons, List.map_nil, hs, hx, hr]
  exact h
theorem empty_any (Ae Ak : Option Addr) (ne nk ce ck : Nat) (w : World) : Calls Try.prog 13 #[.agg #[.slice Ae ne ce, .slice Ak nk ck]] w fun e w' => e = .returned (.bool (decide (ne = 0 ∧ nk = 0))) ∧ Below w.heap.size w w' := by
  by_cases h0 : ne = 0
  · by_cases h1 : nk = 0
    · have f0 : ((ne : Int) == 0) = true := by simpa using h0
      have f1 : ((nk : Int) == 0) = true := by simpa using h1
      go_enter Try.func13, Try.ntmps13
      go_wp2
      go_ret
      exact ⟨Dt.ret_bool (by simp [h0, h1]), Dt.box_below _ _ _⟩
    · have f0 : ((ne : Int) == 0) = true := by simpa using h0
      have f1 : ((nk : Int) == 0) = false := by simpa using h1
      go_enter Try.func13, Try.ntmps13
      go_wp2
      go_ret
      exact ⟨Dt.ret_bool (by simp [h1]), Dt.box_below _ _ _⟩
  · have f0 : ((ne : Int) == 0) = false := by simpa using h0
    go_enter Try.func13, Try.ntmps13
    go_wp2
    go_ret
    exact ⟨Dt.ret_bool (by simp [h0]), Dt.box_below _ _ _⟩
def keyB (k : ByteArray) : Bool := decide (1 ≤ k.size ∧ k.size ≤ 30)
theorem keyB_iff {k : ByteArray} : keyB k = true ↔ KeyOk k := decide_eq_true_iff (p := 1 ≤ k.size ∧ k.size ≤ 30)
theorem keyB_no {k : ByteArray} (h : keyB k = false) : ¬ KeyOk k := of_decide_eq_false (p := 1 ≤ k.size ∧ k.size ≤ 30) h
theorem rightKey_any (k : ByteArray) (w : World) : Calls Try.prog 51 #[.string k] w fun e w' => e = .returned (.bool (keyB k)) ∧ w = w' := by
  by_cases h0 : 1 ≤ k.size
  · by_cases h1 : k.size ≤ 30
    · have f0 : decide ((1 : Int) ≤ (k.size : Int)) = true := by simp; omega
      have f1 : decide ((k.size : Int) ≤ 30) = true := by simp; omega
      go_enter Try.func51, Try.ntmps51
      go_wp2
      go_ret
      exact ⟨Dt.ret_bool (by unfold keyB; simp [h0, h1]), rfl⟩
    · have f0 : decide ((1 : Int) ≤ (k.size : Int)) = true := by simp; omega
      have f1 : decide ((k.size : Int) ≤ 30) = false := by simp; omega
      go_enter Try.func51, Try.ntmps51
      go_wp2
      go_ret
      exact ⟨Dt.ret_bool (by unfold keyB; simp [h1]), rfl⟩
  · have f0 : decide ((1 : Int) ≤ (k.size : Int)) = false := by simp; omega
    go_enter Try.func51, Try.ntmps51
    go_wp2
    go_ret
    exact ⟨Dt.ret_bool (by unfold keyB; simp [h0]), rfl⟩
theorem refkey_any (k : ByteArray) (w : World) : Calls Try.prog 54 #[.string k] w fun e w' => e = .returned (.bool (keyB k)) ∧ w = w' := by
  by_cases h0 : 1 ≤ k.size
  · by_cases h1 : k.size ≤ 30
    · have f0 : decide ((1 : Int) ≤ (k.size : Int)) = true := by simp; omega
      have f1 : decide ((k.size : Int) ≤ 30) = true := by simp; omega
      go_enter Try.func54, Try.ntmps54
      go_wp2
      go_ret
      exact ⟨Dt.ret_bool (by unfold keyB; simp [h0, h1]), rfl⟩
    · have f0 : decide ((1 : Int) ≤ (k.size : Int)) = true := by simp; omega
      have f1 : decide ((k.size : Int) ≤ 30) = false := by simp; omega
      go_enter Try.func54, Try.ntmps54
      go_wp2
      go_ret
      exact ⟨Dt.ret_bool (by unfold keyB; simp [h1]), rfl⟩
  · have f0 : decide ((1 : Int) ≤ (k.size : Int)) = false := by simp; omega
    go_enter Try.func54, Try.ntmps54
    go_wp2
    go_ret
    exact ⟨Dt.ret_bool (by unfold keyB; simp [h0]), rfl⟩
def entB (e : E) : Bool := Dt.rightB e.a e.n && decide (e.s.size ≤ 30 ∧ -1099511627776 ≤ e.v ∧ e.v ≤ 1099511627776)
theorem entB_iff {e : E} : entB e = true ↔ RightE e := by
  unfold entB RightE
  rw [Bool.and_eq_true, decide_eq_true_iff]
def entV (e : E) : Value := .agg #[.int .i64 e.a, .int .i64 e.n, .string e.s, .int .i64 e.v]
theorem entB_no {e : E} (h : Dt.rightB e.a e.n = false) : entB e = false := by unfold entB; rw [h, Bool.false_and]
theorem entB_bad {e : E} (h : ¬ (e.s.size ≤ 30 ∧ -1099511627776 ≤ e.v ∧ e.v ≤ 1099511627776)) : entB e = false := by unfold entB; rw [decide_eq_false h, Bool.and_false]
set_option maxHeartbeats 800000 in
theorem rightEntry_any (e : E) (w : World) : Calls Try.prog 62 #[.agg #[.int .i64 e.a, .int .i64 e.n, .string e.s, .int .i64 e.v]] w fun r w' => r = .returned (.bool (entB e)) ∧ Below w.heap.size w w' := by
  have HR := fun W => Lib.hid (Dt.right_any e.a e.n W)
  obtain ⟨a, n, s, v⟩ := e
  dsimp only at HR ⊢
  cases hd : Dt.rightB a n with
  | false =>
    rw [hd] at HR
    have hz : entB ⟨a, n, s, v⟩ = false := entB_no hd
    rw [hz]
    clear hz hd
    go_enter Try.func62, Try.ntmps62
    go_wp2_with (go_at_call 64; refine (HR _).out.mono ?_; rintro e w1 ⟨rfl, hb⟩; have HB := Lib.hid hb; clear hb)
    go_ret
    exact ⟨rfl, (Dt.box_below _ _ _).trans (HB.out.mono (by simp))⟩
  | true =>
    rw [hd] at HR
    by_cases h1 : s.size ≤ 30
    · have f1 : decide ((s.size : Int) ≤ 30) = true := by simp; omega
      by_cases h2 : -1099511627776 ≤ v
      · have f2 : decide (-1099511627776 ≤ v) = true := decide_eq_true h2
        by_cases h3 : v ≤ 1099511627776
        · have f3 : decide (v ≤ 1099511627776) = true := decide_eq_true h3
          have hz : entB ⟨a, n, s, v⟩ = true := entB_iff.2 ⟨hd, h1, h2, h3⟩
          rw [hz]
          clear hz hd h1 h2 h3
          go_enter Try.func62, Try.ntmps62
          go_wp2_with (go_at_call 64; have hk := Lib.hid (((((Kept.nil w).alloc (.cells #[.int .i64 a, .int .i64 n, .string s, .int .i64 v] 67)).cons_of (p := ⟨w.heap.size, 2, none⟩) (v := .string s) (by go_simp)).cons_of (p := ⟨w.heap.size, 3, none⟩) (v := .int .i64 v) (by go_simp))); refine (HR _).out.mono ?_; rintro e w1 ⟨rfl, hb⟩; have HK := Lib.hid (hk.out.later hb); have k0 := HK.out.c0; have k1 := HK.out.c1; clear hb hk)
          go_ret
          exact ⟨rfl, HK.out.below⟩
        · have f3 : decide (v ≤ 1099511627776) = false := decide_eq_false h3
          have hz : entB ⟨a, n, s, v⟩ = false := entB_bad (by rintro ⟨_, _, h⟩; exact h3 h)
          rw [hz]
          clear hz hd h1 h2 h3
          go_enter Try.func62, Try.ntmps62
          go_wp2_with (go_at_call 64; have hk := Lib.hid (((((Kept.nil w).alloc (.cells #[.int .i64 a, .int .i64 n, .string s, .int .i64 v] 67)).cons_of (p := ⟨w.heap.size, 2, none⟩) (v := .string s) (by go_simp)).cons_of (p := ⟨w.heap.size, 3, none⟩) (v := .int .i64 v) (by go_simp))); refine (HR _).out.mono ?_; rintro e w1 ⟨rfl, hb⟩; have HK := Lib.hid (hk.out.later hb); have k0 := HK.out.c0; have k1 := HK.out.c1; clear hb hk)
          go_ret
          exact ⟨rfl, HK.out.below⟩
      · have f2 : decide (-1099511627776 ≤ v) = false := decide_eq_false h2
        have hz : entB ⟨a, n, s, v⟩ = false := entB_bad (by rintro ⟨_, h, _⟩; exact h2 h)
        rw [hz]
        by_cases h3 : v ≤ 1099511627776
        · have f3 : decide (v ≤ 1099511627776) = true := decide_eq_true h3
          clear hz hd h1 h2 h3
          go_enter Try.func62, Try.ntmps62
          go_wp2_with (go_at_call 64; have hk := Lib.hid (((((Kept.nil w).alloc (.cells #[.int .i64 a, .int .i64 n, .string s, .int .i64 v] 67)).cons_of (p := ⟨w.heap.size, 2, none⟩) (v := .string s) (by go_simp)).cons_of (p := ⟨w.heap.size, 3, none⟩) (v := .int .i64 v) (by go_simp))); refine (HR _).out.mono ?_; rintro e w1 ⟨rfl, hb⟩; have HK := Lib.hid (hk.out.later hb); have k0 := HK.out.c0; have k1 := HK.out.c1; clear hb hk)
          go_ret
          exact ⟨rfl, HK.out.below⟩
        · omega
    · have f1 : decide ((s.size : Int) ≤ 30) = false := by simp; omega
      have hz : entB ⟨a, n, s, v⟩ = false := entB_bad (by rintro ⟨h, _⟩; exact h1 h)
      rw [hz]
      clear hz hd h1
      go_enter Try.func62, Try.ntmps62
      go_wp2_with (go_at_call 64; have hk := Lib.hid (((((Kept.nil w).alloc (.cells #[.int .i64 a, .int .i64 n, .string s, .int .i64 v] 67)).cons_of (p := ⟨w.heap.size, 2, none⟩) (v := .string s) (by go_simp)).cons_of (p := ⟨w.heap.size, 3, none⟩) (v := .int .i64 v) (by go_simp))); refine (HR _).out.mono ?_; rintro e w1 ⟨rfl, hb⟩; have HK := Lib.hid (hk.out.later hb); have k0 := HK.out.c0; have k1 := HK.out.c1; clear hb hk)
      go_ret
      exact ⟨rfl, HK.out.below⟩
set_option maxHeartbeats 800000 in
theorem refentry_any (e : E) (w : World) : Calls Try.prog 60 #[.agg #[.int .i64 e.a, .int .i64 e.n, .string e.s, .int .i64 e.v]] w fun r w' => r = .returned (.bool (entB e)) ∧ Below w.heap.size w w' := by
  have HR := fun W => Lib.hid (Dt.refright_any e.a e.n W)
  obtain ⟨a, n, s, v⟩ := e
  dsimp only at HR ⊢
  cases hd : Dt.rightB a n with
  | false =>
    rw [hd] at HR
    have hz : entB ⟨a, n, s, v⟩ = false := entB_no hd
    rw [hz]
    clear hz hd
    go_enter Try.func60, Try.ntmps60
    go_wp2_with (go_at_call 78; refine (HR _).out.mono ?_; rintro e w1 ⟨rfl, hb⟩; have HB := Lib.hid hb; clear hb)
    go_ret
    exact ⟨rfl, (Dt.box_below _ _ _).trans (HB.out.mono (by simp))⟩
  | true =>
    rw [hd] at HR
    by_cases h1 : s.size ≤ 30
    · have f1 : decide ((s.size : Int) ≤ 30) = true := by simp; omega
      by_cases h2 : -1099511627776 ≤ v
      · have f2 : decide (-1099511627776 ≤ v) = true := decide_eq_true h2
        by_cases h3 : v ≤ 1099511627776
        · have f3 : decide (v ≤ 1099511627776) = true := decide_eq_true h3
          have hz : entB ⟨a, n, s, v⟩ = true := entB_iff.2 ⟨hd, h1, h2, h3⟩
          rw [hz]
          clear hz hd h1 h2 h3
          go_enter Try.func60, Try.ntmps60
          go_wp2_with (go_at_call 78; have hk := Lib.hid (((((Kept.nil w).alloc (.cells #[.int .i64 a, .int .i64 n, .string s, .int .i64 v] 67)).cons_of (p := ⟨w.heap.size, 2, none⟩) (v := .string s) (by go_simp)).cons_of (p := ⟨w.heap.size, 3, none⟩) (v := .int .i64 v) (by go_simp))); refine (HR _).out.mono ?_; rintro e w1 ⟨rfl, hb⟩; have HK := Lib.hid (hk.out.later hb); have k0 := HK.out.c0; have k1 := HK.out.c1; clear hb hk)
          go_ret
          exact ⟨rfl, HK.out.below⟩
        · have f3 : decide (v ≤ 1099511627776) = false := decide_eq_false h3
          have hz : entB ⟨a, n, s, v⟩ = false := entB_bad (by rintro ⟨_, _, h⟩; exact h3 h)
          rw [hz]
          clear hz hd h1 h2 h3
          go_enter Try.func60, Try.ntmps60
          go_wp2_with (go_at_call 78; have hk := Lib.hid (((((Kept.nil w).alloc (.cells #[.int .i64 a, .int .i64 n, .string s, .int .i64 v] 67)).cons_of (p := ⟨w.heap.size, 2, none⟩) (v := .string s) (by go_simp)).cons_of (p := ⟨w.heap.size, 3, none⟩) (v := .int .i64 v) (by go_simp))); refine (HR _).out.mono ?_; rintro e w1 ⟨rfl, hb⟩; have HK := Lib.hid (hk.out.later hb); have k0 := HK.out.c0; have k1 := HK.out.c1; clear hb hk)
          go_ret
          exact ⟨rfl, HK.out.below⟩
      · have f2 : decide (-1099511627776 ≤ v) = false := decide_eq_false h2
        have hz : entB ⟨a, n, s, v⟩ = false := entB_bad (by rintro ⟨_, h, _⟩; exact h2 h)
        rw [hz]
        by_cases h3 : v ≤ 1099511627776
        · have f3 : decide (v ≤ 1099511627776) = true := decide_eq_true h3
          clear hz hd h1 h2 h3
          go_enter Try.func60, Try.ntmps60
          go_wp2_with (go_at_call 78; have hk := Lib.hid (((((Kept.nil w).alloc (.cells #[.int .i64 a, .int .i64 n, .string s, .int .i64 v] 67)).cons_of (p := ⟨w.heap.size, 2, none⟩) (v := .string s) (by go_simp)).cons_of (p := ⟨w.heap.size, 3, none⟩) (v := .int .i64 v) (by go_simp))); refine (HR _).out.mono ?_; rintro e w1 ⟨rfl, hb⟩; have HK := Lib.hid (hk.out.later hb); have k0 := HK.out.c0; have k1 := HK.out.c1; clear hb hk)
          go_ret
          exact ⟨rfl, HK.out.below⟩
        · omega
    · have f1 : decide ((s.size : Int) ≤ 30) = false := by simp; omega
      have hz : entB ⟨a, n, s, v⟩ = false := entB_bad (by rintro ⟨h, _⟩; exact h1 h)
      rw [hz]
      clear hz hd h1
      go_enter Try.func60, Try.ntmps60
      go_wp2_with (go_at_call 78; have hk := Lib.hid (((((Kept.nil w).alloc (.cells #[.int .i64 a, .int .i64 n, .string s, .int .i64 v] 67)).cons_of (p := ⟨w.heap.size, 2, none⟩) (v := .string s) (by go_simp)).cons_of (p := ⟨w.heap.size, 3, none⟩) (v := .int .i64 v) (by go_simp))); refine (HR _).out.mono ?_; rintro e w1 ⟨rfl, hb⟩; have HK := Lib.hid (hk.out.later hb); have k0 := HK.out.c0; have k1 := HK.out.c1; clear hb hk)
      go_ret
      exact ⟨rfl, HK.out.below⟩
end Tr
end Go.Proofs.Ytbfcbfadfnaebaa
