/- A new Out; the laws' first question of layer 2. -/
import Derived.Test.YtgjojcigcbenmaaCodec2
namespace Go.Proofs.Ytgjojcigcbenmaa
open Go.RowKit
namespace Codec
theorem out_new (w : World) : OutAt (w.alloc (.cells #[.slice none 0 0, .bool false] 27)) w.heap.size none [] false :=
  ⟨⟨none, 0, by go_simp, rfl, World.ownsRow_nil _ _ _ _⟩, by go_simp, by go_simp, by go_simp, by simp, by simp, fun _ => rfl⟩
theorem end_ok {bs : List UInt8} {w w' : World} {e : Ending} (h : (false = true ∧ e = .returned (.tuple #[.slice none 0 0, .int .i64 3])) ∨ (false = false ∧ ∃ A c, e = .returned (.tuple #[.slice A bs.length c, .int .i64 0]) ∧ Own w' w.heap.size 5 1 A bs.length c (u8s bs))) :
    ∃ A c, e = .returned (.tuple #[.slice A bs.length c, .int .i64 0]) ∧ Own w' w.heap.size 5 1 A bs.length c (u8s bs) := by
  rcases h with ⟨h, _⟩ | ⟨_, h⟩
  · cases h
  · exact h
theorem sev_300 : sev 300 = [172, 2] := by rw [sev_ge (by omega), sev_lt (by omega)]; rfl
theorem numB_150 : numB 150 = [172, 2] := by
  show sev (foldN 150) = _
  rw [show foldN 150 = 300 from rfl, sev_300]
theorem numB_1 : numB 1 = [2] := by
  show sev (foldN 1) = _
  rw [show foldN 1 = 2 from rfl, sev_lt (by omega)]; rfl
theorem awake_bytes : outB (outB [] false (numB 150)) (outL [] false (numB 150)) (textB [97]) = [172, 2, 2, 97] ∧ outL (outB [] false (numB 150)) (outL [] false (numB 150)) (textB [97]) = false := by
  unfold textB
  rw [show (([97] : List UInt8).length : Int) = 1 from rfl, numB_150, numB_1]
  exact ⟨rfl, rfl⟩
set_option maxRecDepth 100000 in
theorem awake_any (w : World) : Calls Try.prog 10 #[] w fun e w' => e = .returned (.bool true) ∧ Below w.heap.size w w' := by
  have H0 := Lib.hid (out_new w)
  obtain ⟨bs, hbs⟩ : ∃ bs : List UInt8, bs = [172, 2, 2, 97] := ⟨_, rfl⟩
  have HB := Lib.hid hbs
  have hq : ((strOf bs).toList == ([172, 2, 2, 97] : List UInt8)) = true := by rw [hbs]; decide +kernel
  clear hbs
  go_enter Try.func10, Try.ntmps10
  go_wp2_with (first
    | (go_at_call 25; refine (num_any w.heap.size none [] false 150 _ H0.out (by omega) (by omega)).mono ?_; rintro e w1 ⟨rfl, g1, ho1, ht1, hf1⟩)
    | (go_at_call 27; refine (text_any w.heap.size g1 _ _ _ _ ho1 (by decide)).mono ?_; rintro e w2 ⟨rfl, g2, ho2, ht2, hf2⟩)
    | (go_at_call 14; refine (end_any w.heap.size g2 _ _ _ ho2).mono ?_; rintro e w3 ⟨hb3, he3⟩; rw [awake_bytes.1, awake_bytes.2, ← HB.out] at he3; obtain ⟨A3, c3, rfl, ho3⟩ := end_ok he3; have hstr := run_str (P := Try.prog) w3 25 9 5 Try.underlying25 Try.underlying5 Try.underlying9 ho3.rd))
  go_ret
  refine ⟨rfl, ?_⟩
  exact ((Below.refl _ _).alloc (Nat.le_refl _) _).trans (((ht1.trans hf1 ht2).below (Nat.le_refl _) (by simp) (by simp)).trans (hb3.mono (by have := ht1.size; have := ht2.size; simp at *; omega)))
end Codec
end Go.Proofs.Ytgjojcigcbenmaa
