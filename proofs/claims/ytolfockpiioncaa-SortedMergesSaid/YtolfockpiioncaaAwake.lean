/- awake answers true. -/
import Derived.Test.YtolfockpiioncaaOf
namespace Go.Proofs.Ytolfockpiioncaa
open Go.RowKit
section
variable {K V : Type} [DecidableEq K] {lt : K → K → Prop}
theorem ofIs_uniq (T : Tot lt) {xs l m : List (K × V)} (h : OfIs lt xs l) (k : OfIs lt xs m) : l = m :=
  up_uniq T h.1 k.1 fun p => (h.2 p).trans (k.2 p).symm
end
namespace SortS
theorem pair_any (a : ByteArray) (x : Int) (w : World) :
    Calls Try.prog 27 #[.string a, .int .i64 x] w fun e w' => e = .returned (.agg #[.string a, .int .i64 x]) ∧ Below w.heap.size w w' := by
  go_enter Try.func27, Try.ntmps27
  go_wp2
  exact bodyPost_ret (v := .agg #[.string a, .int .i64 x]) (by simp [results, Try.results27, go_sem]) rfl ⟨rfl, (Below.refl _ _).alloc (Nat.le_refl _) _⟩

def tA : ByteArray := { data := #[97] }
def tB : ByteArray := { data := #[98] }
theorem ltAB : ltS tA tB := by unfold ltS; rw [ByteArray.toList_eq, ByteArray.toList_eq]; decide
theorem ofIs_awake {m : Ps} (h : OfIs ltS [(tB, 1), (tA, 2)] m) : m = [(tA, 2), (tB, 1)] := by
  have hs : Srt ltS [(tA, (2 : Int)), (tB, 1)] := by
    refine List.pairwise_cons.2 ⟨fun p hp => ?_, List.pairwise_singleton _ _⟩
    simp only [List.mem_singleton] at hp
    subst hp
    exact tot_str.asym ltAB
  have hne : tA ≠ tB := fun e => tot_str.irr tB (e ▸ ltAB)
  have hsame : Same [(tB, (1 : Int)), (tA, 2)] [(tA, 2), (tB, 1)] := by
    have := Same.swap (x := (tA, (2 : Int))) (u := (tB, 1)) hne [] []
    simpa using this
  have h1 := ofIs_lasts tot_str hs hsame
  have h2 : lasts [(tA, (2 : Int)), (tB, 1)] = [(tA, 2), (tB, 1)] := by simp [lasts, hne]
  rw [h2] at h1
  exact ofIs_uniq tot_str h h1

set_option maxRecDepth 100000 in
set_option maxHeartbeats 1000000 in
theorem awake_any (w : World) :
    Calls Try.prog 9 #[] w fun e w' => e = .returned (.bool true) ∧ Below w.heap.size w w' := by
  go_enter Try.func9, Try.ntmps9
  go_wp2_with (first
    | (go_at_call 27; have tok : True := trivial; refine (pair_any _ _ w).mono ?_; rintro e w1 ⟨rfl, hb1⟩)
    | (go_at_call 27; refine (pair_any _ _ w1).mono ?_; rintro e w2 ⟨rfl, hb2⟩))
  have hB : Below w.heap.size w w2 := hb1.trans (hb2.mono hb1.size)
  have hrd : Rd (w2.alloc (.cells #[.string tB, .int .i64 1, .string tA, .int .i64 2] 60)) (w2.alloc (.cells #[.string tB, .int .i64 1, .string tA, .int .i64 2] 60)).heap.size 2 (some ⟨w2.heap.size, 0, none⟩) 2 2 (flat [(tB, 1), (tA, 2)]) := by
    refine ⟨rfl, by omega, flat_one _, fun _ => ⟨_, _, rfl, by simp, fun j u hu => ?_⟩⟩
    rw [Nat.zero_add, cell_of_row _ _ j _ _ (0, 0) (heap_alloc_new _ _)]
    simpa [flat, flat2, kc, vc] using hu
  refine (of_any 2 [(tB, 1), (tA, 2)] _ _ _ rfl hrd (by omega) (by omega) (fun base g c' W hW => sort_small base g 2 c' _ W hW (by omega) (by omega))).mono ?_
  rintro e w3 ⟨m, hm, hml, A3, c3, rfl, hrd3, hb3⟩
  obtain rfl := ofIs_awake hm
  have hB3 : Below w.heap.size w w3 := (hB.alloc hB.size _).trans (hb3.mono (by have := hB.size; simp; omega))
  clear hm hml
  go_wp2_with (go_at_call 24; refine (all_any [(tA, 2), (tB, 1)] A3 c3 _ (by simp) hrd3.rd).mono ?_; rintro e w4 ⟨A4, c4, rfl, hown, hb4⟩)
  obtain ⟨g, rfl⟩ : ∃ g, A4 = some ⟨g, 0, none⟩ := by
    rcases hown.row.2 with ⟨_, h⟩ | ⟨g, _, _, h, h2, _⟩
    · cases h
    · injection h with h; exact ⟨g, h⟩
  have hB4 : Below w.heap.size w w4 := hB3.trans (hb4.mono hB3.size)
  have hg : g < w4.heap.size := (hown.row.lt g rfl).2
  have k0 : w4.cell? ⟨g, 0, none⟩ = some (.string { data := #[97] }) := hown.row.cellAt 0 (by simp)
  have k1 : w4.cell? ⟨g, 1, none⟩ = some (.int .i64 2) := hown.row.cellAt 1 (by simp)
  have k2 : w4.cell? ⟨g, 2, none⟩ = some (.string { data := #[98] }) := hown.row.cellAt 2 (by simp)
  have k3 : w4.cell? ⟨g, 3, none⟩ = some (.int .i64 1) := hown.row.cellAt 3 (by simp)
  clear hown hrd3 hrd
  have hsz : w.heap.size ≤ w4.heap.size := hB4.size
  go_wp2
  go_region_held3 (fun W => W.cell? ⟨g, 0, none⟩ = some (.string { data := #[97] }) ∧ W.cell? ⟨g, 1, none⟩ = some (.int .i64 2) ∧ W.cell? ⟨g, 2, none⟩ = some (.string { data := #[98] }) ∧ W.cell? ⟨g, 3, none⟩ = some (.int .i64 1)) (go_keep)
    (first
    | (go_at_call 27; refine (pair_any _ _ w4.drew).mono ?_; rintro e w5 ⟨rfl, hb5⟩; (have i0 : w5.cell? ⟨g, 0, none⟩ = some (.string { data := #[97] }) := (hb5.cell (p := ⟨g, 0, none⟩) hg).trans k0); (have i1 : w5.cell? ⟨g, 1, none⟩ = some (.int .i64 2) := (hb5.cell (p := ⟨g, 1, none⟩) hg).trans k1); (have i2 : w5.cell? ⟨g, 2, none⟩ = some (.string { data := #[98] }) := (hb5.cell (p := ⟨g, 2, none⟩) hg).trans k2); (have i3 : w5.cell? ⟨g, 3, none⟩ = some (.int .i64 1) := (hb5.cell (p := ⟨g, 3, none⟩) hg).trans k3); (have hg5 : g < w5.heap.size := Nat.lt_of_lt_of_le hg hb5.size); (have hB5 : Below w.heap.size w w5 := (hB4.drew).trans (hb5.mono hsz)))
    | (go_at_call 27; refine (pair_any _ _ w5).mono ?_; rintro e w6 ⟨rfl, hb6⟩; (have j0 : w6.cell? ⟨g, 0, none⟩ = some (.string { data := #[97] }) := (hb6.cell (p := ⟨g, 0, none⟩) hg5).trans i0); (have j1 : w6.cell? ⟨g, 1, none⟩ = some (.int .i64 2) := (hb6.cell (p := ⟨g, 1, none⟩) hg5).trans i1); (have j2 : w6.cell? ⟨g, 2, none⟩ = some (.string { data := #[98] }) := (hb6.cell (p := ⟨g, 2, none⟩) hg5).trans i2); (have j3 : w6.cell? ⟨g, 3, none⟩ = some (.int .i64 1) := (hb6.cell (p := ⟨g, 3, none⟩) hg5).trans i3); (have hB6 : Below w.heap.size w w6 := hB5.trans (hb6.mono hB5.size))))
  go_wp2
  go_ret
  exact ⟨rfl, hB6⟩
end SortS
end Go.Proofs.Ytolfockpiioncaa
