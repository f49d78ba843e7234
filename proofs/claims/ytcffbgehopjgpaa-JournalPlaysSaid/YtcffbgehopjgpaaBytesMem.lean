/- Bytes in memory, over this program's types: a byte's type, append of one byte, bytes that came in. -/
import Derived.Test.YtcffbgehopjgpaaBytes
import Derived.Test.YtcffbgehopjgpaaLaw
import Derived.WalkKit
import Derived.ChangeMaps5
namespace Go.Proofs.Ytcffbgehopjgpaa
open Go.ChangeShapes Go.WideShapes Go.ChangeAt Go.RowKit Go.ChangeMaps
namespace By
theorem info8 : (Try.prog.info? 5).map (fun i => (i.zero, i.size, i.bytes)) = some (some (.int .u8 0), 1, 1) := by kernel_rfl
theorem info_parts8 : ∃ i, Try.prog.info? 5 = some i ∧ i.zero = some (.int .u8 0) ∧ i.size = 1 ∧ i.bytes = 1 := by
  have h := info8
  cases hi : Try.prog.info? 5 with
  | none => rw [hi] at h; cases h
  | some i =>
    rw [hi] at h
    simp only [Option.map_some, Option.some.injEq, Prod.mk.injEq] at h
    exact ⟨i, rfl, h.1, h.2.1, h.2.2⟩
/-- append of one byte that the call has just laid -/
theorem run_push8 (W : World) (base q : Nat) (hq : W.heap.size = q) (hb : base ≤ W.heap.size) (v : Value) (acc : List UInt8) (hown : W.ownsRow base 5 1 v acc.length (u8s acc)) (b : UInt8) (x : Int) (hx : x = b.toNat) (hn : acc.length ≤ 900000) :
    ∃ v' w', (Builtin.append_ #[23, 23] 23 #[v, .slice (some ⟨q, 0, none⟩) 1 1]).run Try.prog (W.alloc (.cells #[.int .u8 x] 5)) = .ok v' w' ∧
      w'.ownsRow base 5 1 v' (acc ++ [b]).length (u8s (acc ++ [b])) ∧ Below base W w' := by
  subst hq; subst hx
  obtain ⟨i0, hi0, hz0, hz1, hz2⟩ := info_parts8
  obtain ⟨v', w', h1, h2, h3, h4⟩ := run_app (P := Try.prog) (W.alloc (.cells #[.int .u8 b.toNat] 5)) base 23 23 5 i0 _ 1 1 Try.underlying23 hi0 hz0 hz1 hz2 rfl (by omega)
    (hown.alloc _) (B := W.heap.size + 1) (A := some ⟨W.heap.size, 0, none⟩) (m := 1) (c := 1) (news := [.int .u8 b.toNat])
    ⟨rfl, by omega, by intro u hu; simp only [List.mem_cons, List.not_mem_nil, or_false] at hu; rcases hu with rfl; rfl, fun _ => ⟨_, _, rfl, by omega, fun j u hu => by
      rw [Nat.zero_add, cell_of_row _ _ j _ _ (0, 0) (heap_alloc_new _ _)]
      simpa using hu⟩⟩ (by omega) (by omega) (by simp; omega)
  refine ⟨v', w', h1, ?_, ?_⟩
  · rw [u8s_append]
    simpa [u8s] using h2
  · exact ((Below.refl base W).alloc hb _).grown h3 (by simp; omega) (fun k hk => (hown.lt k hk).1)
/-- append of bytes that read elsewhere to a row of the call's own -/
theorem run_app8 (W : World) (base : Nat) (hb : base ≤ W.heap.size) (v : Value) (acc : List UInt8) (hown : W.ownsRow base 5 1 v acc.length (u8s acc)) {B : Nat} {A : Option Addr} {m c : Nat} {bs : List UInt8} (hr : Rd W B 1 A m c (u8s bs)) (hn : acc.length + m ≤ 1000000) :
    ∃ A' c' w', (Builtin.append_ #[23, 23] 23 #[v, .slice A m c]).run Try.prog W = .ok (.slice A' (acc ++ bs).length c') w' ∧
      Own w' base 5 1 A' (acc ++ bs).length c' (u8s (acc ++ bs)) ∧ Below base W w' := by
  obtain ⟨i0, hi0, hz0, hz1, hz2⟩ := info_parts8
  obtain ⟨v', w', h1, h2, h3, h4⟩ := run_app (P := Try.prog) W base 23 23 5 i0 _ 1 1 Try.underlying23 hi0 hz0 hz1 hz2 rfl (by omega) hown hr hn (by omega) hb
  have hl : bs.length = m := by have := hr.len; rw [u8s_length] at this; omega
  rw [← u8s_append, ← hl, ← List.length_append] at h2
  obtain ⟨A', c', rfl, ho⟩ := Own.of_row h2 (u8s_one _)
  exact ⟨A', c', w', h1, ho, (Below.refl base W).grown h3 hb (fun k hk => (hown.lt k hk).1)⟩
/-- block g holds bs, and its cells may be written -/
structure Wr (w : World) (g : Nat) (bs : List UInt8) : Prop where
  lt : g < w.heap.size
  cell : ∀ j (h : j < bs.length), w.cell? ⟨g, j, none⟩ = some (.int .u8 bs[j].toNat)
  free : ∀ j, w.frozen? ⟨g, j, none⟩ = false
theorem Wr.rd {w : World} {g n c : Nat} {bs : List UInt8} (h : Wr w g bs) (hn : bs.length = n) (hc : n ≤ c) : Rd w w.heap.size 1 (some ⟨g, 0, none⟩) n c (u8s bs) :=
  ⟨by rw [u8s_length]; omega, hc, u8s_one _, fun _ => ⟨g, 0, rfl, h.lt, fun j u hu => by
    have hj : j < bs.length := by have := (List.getElem?_eq_some_iff.1 hu).1; rwa [u8s_length] at this
    rw [u8s_get bs j hj] at hu
    injection hu with hu
    rw [Nat.zero_add, ← hu]
    exact h.cell j hj⟩⟩
theorem Wr.set {w : World} {g : Nat} {bs : List UInt8} (h : Wr w g bs) {i : Nat} (hi : i < bs.length) (b : UInt8) : Wr (w.setCell ⟨g, i, none⟩ (.int .u8 b.toNat)) g (bs.set i b) := by
  have hc := h.cell
  have hf := h.free
  refine ⟨by simpa [World.setCell] using h.lt, fun j hj => ?_, fun j => ?_⟩
  · rw [List.length_set] at hj
    by_cases e : i = j
    · subst e
      rw [List.getElem_set_self]
      have k0 := hc i hi
      go_simp
    · rw [List.getElem_set_ne e]
      rw [World.cell?_setCell_other w _ _ _ (by intro h2; injection h2 with h2 h3; exact e h3)]
      exact hc j hj
  · have k0 := hc i hi
    have k1 := hf j
    go_simp
theorem Wr.drewN {w : World} {g : Nat} {bs : List UInt8} (h : Wr w g bs) (n : Nat) : Wr (w.drewN n) g bs := ⟨h.lt, h.cell, h.free⟩
theorem Wr.of_row {w : World} {base : Nat} {v : Value} {n : Nat} {bs : List UInt8} (h : w.ownsRow base 5 1 v n (u8s bs)) (hn : v.ownBlock ≠ none) : ∃ g c, v = .slice (some ⟨g, 0, none⟩) n c ∧ n ≤ c ∧ base ≤ g ∧ Wr w g bs := by
  rcases h.2 with ⟨rfl, h0⟩ | ⟨g, cap, cur, hv, hg, hb, hnc, _, hcs, ht⟩
  · exact absurd rfl hn
  · subst hv
    refine ⟨g, cap, rfl, hnc, hg, (Array.getElem?_eq_some_iff.1 hb).1, fun j hj => ?_, fun j => ?_⟩
    · have := h.cells (g := g) rfl j _ (u8s_get bs j hj)
      unfold Addr.add at this
      split at this
      · rename_i h0; subst h0; exact this
      · simpa using this
    · simp [World.frozen?, hb]
/-- a new row without an element -/
theorem own_empty (w : World) (base : Nat) (hb : base ≤ w.heap.size) : (w.alloc (.cells #[] 5)).ownsRow base 5 1 (.slice (some ⟨w.heap.size, 0, none⟩) 0 0) ([] : List UInt8).length (u8s []) :=
  ⟨rfl, .inr ⟨w.heap.size, 0, #[], rfl, hb, heap_alloc_new _ _, Nat.le_refl _, by simp [maxLen], rfl, rfl⟩⟩
/-- a copy: append to a new row without an element -/
theorem run_copy8 (W : World) {B : Nat} {A : Option Addr} {n c : Nat} {bs : List UInt8} (_ : bs.length = n) (hr : Rd W B 1 A n c (u8s bs)) (hB : B ≤ W.heap.size) (hn : n ≤ 1000000) :
    ∃ g c' w', (Builtin.append_ #[23, 23] 23 #[.slice (some ⟨W.heap.size, 0, none⟩) 0 0, .slice A n c]).run Try.prog (W.alloc (.cells #[] 5)) = .ok (.slice (some ⟨g, 0, none⟩) n c') w' ∧
      n ≤ c' ∧ W.heap.size ≤ g ∧ Wr w' g bs ∧ Below W.heap.size W w' := by
  obtain ⟨i0, hi0, hz0, hz1, hz2⟩ := info_parts8
  have ho := own_empty W W.heap.size (Nat.le_refl _)
  obtain ⟨v', w', h1, h2, h3, h4⟩ := run_app (P := Try.prog) (W.alloc (.cells #[] 5)) W.heap.size 23 23 5 i0 _ 1 1 Try.underlying23 hi0 hz0 hz1 hz2 rfl (by omega) ho (hr.alloc hB _) (by simp; omega) (by omega) (by simp)
  have e : u8s [] ++ u8s bs = u8s bs := rfl
  rw [e, show ([] : List UInt8).length + n = n from by simp] at h2
  obtain ⟨g, c', rfl, h5, h6, h7⟩ := Wr.of_row h2 (by rcases h4 with h | h <;> rw [h] <;> simp [Value.ownBlock])
  exact ⟨g, c', w', h1, h5, h6, h7, ((Below.refl _ W).alloc (Nat.le_refl _) _).grown h3 (by simp) (fun k hk => (ho.lt k hk).1)⟩
theorem wf_i64 {n : Int} (h : (Lit.int .i64 n).wf = true) : -9223372036854775808 ≤ n ∧ n ≤ 9223372036854775807 := by
  have e1 : IntKind.i64.min = -9223372036854775808 := by decide
  have e2 : IntKind.i64.max = 9223372036854775807 := by decide
  simp [Lit.wf, e1, e2] at h
  exact h
theorem wf_u8 {n : Int} (h : (Lit.int .u8 n).wf = true) : 0 ≤ n ∧ n ≤ 255 := by
  have e1 : IntKind.u8.min = 0 := by decide
  have e2 : IntKind.u8.max = 255 := by decide
  simp [Lit.wf, e1, e2] at h
  exact h
theorem wf_u32 {n : Int} (h : (Lit.int .u32 n).wf = true) : 0 ≤ n ∧ n ≤ 4294967295 := by
  have e1 : IntKind.u32.min = 0 := by decide
  have e2 : IntKind.u32.max = 4294967295 := by decide
  simp [Lit.wf, e1, e2] at h
  exact h
theorem flat_one1 {α : Type} (f : α → Value) : ∀ l : List α, l.map f = l.flatMap fun b => [f b]
  | [] => rfl
  | b :: l => by simp [flat_one1 f l]
/-- bytes that came in -/
theorem bytes_of_trod {H : Type} {enc : TypeId × Value → H} {W : World} {A : Option Addr} {len cap fuel : Nat} {x : DataW H × List MemPlace}
    (h : DataW.trod enc Try.prog W 0 (fun _ => true) true fuel 23 (Value.slice A len cap).cells.toList = some x) :
    ∃ bs : List UInt8, bs.length = len ∧ Rd W W.heap.size 1 A len cap (u8s bs) ∧ len ≤ maxLen := by
  obtain ⟨l, h1, h2, h3⟩ := rd_of_trod (fun b : UInt8 => [Value.int .u8 b.toNat]) (fun _ => rfl) (fun _ u hu => by simp at hu; subst hu; rfl) (Nat.zero_lt_one) Try.underlying23 (by kernel_rfl)
    (fun n cs y hy => by
      obtain ⟨v, e, _, hw⟩ := DataW.trod_int Try.underlying5 hy
      have := wf_u8 hw
      refine ⟨UInt8.ofNat v.toNat, ?_⟩
      rw [e, UInt8.toNat_ofNat']
      congr 2
      omega) h
  refine ⟨l, h1, ?_, h3⟩
  have e : u8s l = l.flatMap fun b : UInt8 => [Value.int .u8 b.toNat] := flat_one1 _ l
  rw [e]; exact h2
end By
end Go.Proofs.Ytcffbgehopjgpaa
