/- The document's own In. -/
import Derived.Test.YtgjojcigcbenmaaCodecRef2
import Derived.BigRegion
namespace Go.Proofs.Ytgjojcigcbenmaa
open Go.RowKit
namespace Codec
/-- what In.Num of the document answers -/
def RNum (B : Nat) (bs : List UInt8) (bad : Bool) (most : Int) (w : World) (e : Ending) (w' : World) : Prop :=
  Below w.heap.size w w' ∧
  ((bad = false ∧ ∃ v rest A c, bs = numB v ++ rest ∧ -most ≤ v ∧ v ≤ most ∧ e = .returned (.tuple #[.int .i64 v, .agg #[.slice A rest.length c, .bool false]]) ∧ Rd w' B 1 A rest.length c (u8s rest)) ∨
  ((bad = true ∨ ∀ v rest, -most ≤ v → v ≤ most → bs ≠ numB v ++ rest) ∧ e = .returned (.tuple #[.int .i64 0, .agg #[.slice none 0 0, .bool true]])))
theorem rnum_cells {w w1 : World} {S : Value} {bad : Bool} {T : Nat} (hb : Below ((w.alloc (.cells #[S, .bool bad] T)).alloc (.cells #[.slice none 0 0, .bool false] T)).heap.size ((w.alloc (.cells #[S, .bool bad] T)).alloc (.cells #[.slice none 0 0, .bool false] T)) w1) :
    w1.cell? ⟨w.heap.size, 0, none⟩ = some S ∧ w1.cell? ⟨w.heap.size, 1, none⟩ = some (.bool bad) ∧ w1.cell? ⟨w.heap.size + 1, 0, none⟩ = some (.slice none 0 0) ∧ w1.cell? ⟨w.heap.size + 1, 1, none⟩ = some (.bool false) ∧
    w1.frozen? ⟨w.heap.size + 1, 0, none⟩ = false ∧ w1.frozen? ⟨w.heap.size + 1, 1, none⟩ = false ∧ Below w.heap.size w w1 ∧ w.heap.size + 1 < w1.heap.size := by
  have hs := hb.size
  simp only [World.size_alloc] at hs
  refine ⟨(hb.cell (by simp; omega)).trans (by go_simp), (hb.cell (by simp; omega)).trans (by go_simp), (hb.cell (by simp)).trans (by go_simp), (hb.cell (by simp)).trans (by go_simp), (hb.frozen (by simp)).trans (by go_simp), (hb.frozen (by simp)).trans (by go_simp), ?_, by omega⟩
  exact (((Below.refl _ _).alloc (Nat.le_refl _) _).alloc (by simp) _).trans (hb.mono (by simp; omega))
set_option maxRecDepth 100000 in
set_option maxHeartbeats 1000000 in
theorem rnum_any (bs : List UInt8) (n : Nat) (A : Option Addr) (c : Nat) (bad : Bool) (most : Int) (w : World) (hl : bs.length = n) (hn : n ≤ 900000) {B : Nat} (hBw : B ≤ w.heap.size) (hr : Rd w B 1 A n c (u8s bs)) (h1 : -9223372036854775808 ≤ most) (h2 : most ≤ 9223372036854775807) :
    Calls Try.prog 18 #[.agg #[.slice A n c, .bool bad], .int .i64 most] w (RNum B bs bad most w) := by
  have HR := Lib.hid hr
  have HL := Lib.hid hl
  clear hr hl
  have HT := Lib.hid (take_any bs n A c ((w.alloc (.cells #[.slice A n c, .bool bad] 39)).alloc (.cells #[.slice none 0 0, .bool false] 39)) HL.out hn (((HR.out.alloc hBw _).alloc (by simp; omega) _).more (by simp; omega)))
  by_cases hok : bad = false ∧ ∃ v rest, bs = numB v ++ rest ∧ -most ≤ v ∧ v ≤ most
  · obtain ⟨rfl, v, rest, e0, g1, g2⟩ := hok
    have hlen : Hid (n = (numB v).length + rest.length) := by
      unfold Hid; rw [← HL.out, e0, List.length_append]
    have hnum := numB_pos v
    obtain ⟨k, hk⟩ : ∃ k, k = (numB v).length := ⟨_, rfl⟩
    have hkn : k ≤ n := by have := hlen.out; omega
    have hrest : Hid (rest = bs.drop k) := by unfold Hid; rw [e0, hk]; simp
    have hrl : Hid (rest.length = n - k) := by unfold Hid; have := hlen.out; omega
    have HT2 : Hid (Calls Try.prog 31 #[.slice A n c] ((w.alloc (.cells #[.slice A n c, .bool false] 39)).alloc (.cells #[.slice none 0 0, .bool false] 39)) fun e w' =>
        e = .returned (.tuple #[.int .i64 v, .int .i64 k, .bool true]) ∧ Below ((w.alloc (.cells #[.slice A n c, .bool false] 39)).alloc (.cells #[.slice none 0 0, .bool false] 39)).heap.size ((w.alloc (.cells #[.slice A n c, .bool false] 39)).alloc (.cells #[.slice none 0 0, .bool false] 39)) w') := by
      refine HT.out.mono fun e w' hh => ?_
      obtain ⟨hb, v', k', ok, he, ht, hf⟩ := hh
      have hbe : Begins bs (foldN v) k := by rw [e0, hk]; exact begins_of (fold_lt (by omega) (by omega)) rest
      cases ok with
      | false => exact absurd hbe (hf rfl _ _)
      | true =>
        obtain ⟨hb1, _⟩ := ht rfl
        obtain ⟨hu, rfl⟩ := hb1.uniq hbe
        have hv : v' = v := by rw [← unfold_fold v', hu, unfold_fold]
        exact ⟨by rw [he, hv], hb⟩
    have f1 : decide (most < 0) = false := by simp; omega
    have f2 : decide (v < -most) = false := by simp; omega
    have f3 : decide (most < v) = false := by simp; omega
    have f4 : IntKind.i64.wrap (-most) = -most := IntWalk.i64_in _ (by omega)
    have hcut := fun W => run_cut_from (P := Try.prog) 25 5 1 Try.underlying25 (Classical.choose_spec info_parts8).1 (Classical.choose_spec info_parts8).2.2.1 A n c k hkn W
    have hfrom := HR.out.from_ hkn
    obtain ⟨V, hV⟩ : ∃ V, V = (if c = k then A else A.map (·.add (k * 1))) := ⟨_, rfl⟩
    rw [← hV] at hfrom
    simp only [← hV] at hcut
    have HF := Lib.hid hfrom
    have HE := Lib.hid e0
    have hki : (k : Int) ≤ n := by omega
    clear hV hfrom hk e0 HT hnum
    go_enter Try.func18, Try.ntmps18
    go_wp2_with (go_at_call 31; refine HT2.out.mono ?_; rintro e w1 ⟨rfl, hb1⟩; obtain ⟨c0, c1, c2, c3, z0, z1, hB, hsz⟩ := rnum_cells hb1; have HB := Lib.hid hB; clear hb1 hB)
    go_region
    all_goals
      go_wp2
      have hB' : Below w.heap.size w ((w1.setCell ⟨w.heap.size + 1, 0, none⟩ (.slice V (n - k) (c - k))).setCell ⟨w.heap.size + 1, 1, none⟩ (.bool false)) := (HB.out.setCell (p := ⟨w.heap.size + 1, 0, none⟩) (by simp) _).setCell (p := ⟨w.heap.size + 1, 1, none⟩) (by simp) _
      have hrd : Rd ((w1.setCell ⟨w.heap.size + 1, 0, none⟩ (.slice V (n - k) (c - k))).setCell ⟨w.heap.size + 1, 1, none⟩ (.bool false)) B 1 V rest.length (c - k) (u8s rest) := by
        have h3 := HF.out.below (hB'.mono hBw)
        rw [hrl.out, hrest.out, u8s_drop]
        simpa only [Nat.mul_one] using h3
      refine bodyPost_ret (v := .tuple #[.int .i64 v, .agg #[.slice V (n - k) (c - k), .bool false]]) (by simp [results, Try.results18, go_sem, c2, c3]) rfl ⟨hB'.drew, .inl ⟨rfl, v, rest, V, c - k, HE.out, g1, g2, ?_, hrd.drew⟩⟩
      rw [hrl.out]
  · have hno : Hid (bad = true ∨ ∀ v rest, -most ≤ v → v ≤ most → bs ≠ numB v ++ rest) := by
      unfold Hid
      cases bad with
      | true => exact .inl rfl
      | false => exact .inr fun v rest g1 g2 e => hok ⟨rfl, v, rest, e, g1, g2⟩
    have key : ∀ (v : Int) (k : Nat) (ok : Bool), (ok = true → Begins bs (foldN v) k ∧ -9223372036854775808 ≤ v ∧ v ≤ 9223372036854775807) → bad = true ∨ (bad = false ∧ ok = false) ∨ (bad = false ∧ ok = true ∧ decide (most < 0) = true) ∨ (bad = false ∧ ok = true ∧ decide (most < 0) = false ∧ decide (most < v) = true) ∨ (bad = false ∧ ok = true ∧ decide (most < 0) = false ∧ decide (most < v) = false ∧ IntKind.i64.wrap (-most) = -most ∧ decide (v < -most) = true) := by
      intro v k ok hk
      cases bad with
      | true => exact .inl rfl
      | false =>
        cases ok with
        | false => exact .inr (.inl ⟨rfl, rfl⟩)
        | true =>
          obtain ⟨hb, h3, h4⟩ := hk rfl
          by_cases g1 : most < 0
          · exact .inr (.inr (.inl ⟨rfl, rfl, by simpa using g1⟩))
          · by_cases g2 : most < v
            · exact .inr (.inr (.inr (.inl ⟨rfl, rfl, by simpa using g1, by simpa using g2⟩)))
            · refine .inr (.inr (.inr (.inr ⟨rfl, rfl, by simpa using g1, by simpa using g2, IntWalk.i64_in _ (by omega), ?_⟩)))
              have hs := hb.split
              have : ¬ -most ≤ v := fun g3 => hok ⟨rfl, v, _, hs, g3, by omega⟩
              simp; omega
    have KEY := Lib.hid key
    clear key hok
    go_enter Try.func18, Try.ntmps18
    go_wp2_with (go_at_call 31; refine HT.out.mono ?_; rintro e w1 ⟨hb1, v, k, ok, rfl, hk1, hk2⟩; obtain ⟨c0, c1, c2, c3, z0, z1, hB, hsz⟩ := rnum_cells hb1; have HB := Lib.hid hB; have HK := Lib.hid (KEY.out v k ok hk1); clear hb1 hB hk1 hk2; rcases HK.out with rfl | ⟨rfl, rfl⟩ | ⟨rfl, rfl, q1⟩ | ⟨rfl, rfl, q1, q2⟩ | ⟨rfl, rfl, q1, q2, q3, q4⟩)
    all_goals
      have hB' : Below w.heap.size w ((w1.setCell ⟨w.heap.size + 1, 0, none⟩ (.slice none 0 0)).setCell ⟨w.heap.size + 1, 1, none⟩ (.bool true)) := (HB.out.setCell (p := ⟨w.heap.size + 1, 0, none⟩) (by simp) _).setCell (p := ⟨w.heap.size + 1, 1, none⟩) (by simp) _
      refine bodyPost_ret (v := .tuple #[.int .i64 0, .agg #[.slice none 0 0, .bool true]]) (by simp [results, Try.results18, go_sem, c2, c3]) rfl ⟨hB', .inr ⟨(by first | exact hno.out | exact .inl rfl), rfl⟩⟩
/-- what In.Text of the document answers -/
def RText (B : Nat) (bs : List UInt8) (bad : Bool) (most : Int) (w : World) (e : Ending) (w' : World) : Prop :=
  Below w.heap.size w w' ∧
  ((bad = false ∧ ∃ s rest A c, bs = textB s ++ rest ∧ (s.length : Int) ≤ most ∧ e = .returned (.tuple #[.string (strOf s), .agg #[.slice A rest.length c, .bool false]]) ∧ Rd w' B 1 A rest.length c (u8s rest)) ∨
  ((bad = true ∨ ∀ s rest, (s.length : Int) ≤ most → bs ≠ textB s ++ rest) ∧ e = .returned (.tuple #[.string ⟨#[]⟩, .agg #[.slice none 0 0, .bool true]])))
theorem rtext_facts {rest : List UInt8} {W : World} {B : Nat} {A : Option Addr} {c k : Nat} (hr : Rd W B 1 A rest.length c (u8s rest)) (hk : k ≤ rest.length) :
    ∃ V, (∀ W, (Instr.slice 25 (.slice A rest.length c) (some (.int .i64 (k : Nat))) none none).run Try.prog W = .ok (.slice V (rest.length - k) (c - k)) W) ∧
      (∀ W, (Instr.slice 25 (.slice A rest.length c) none (some (.int .i64 (k : Nat))) none).run Try.prog W = .ok (.slice A k c) W) ∧
      (convert 25 9 (.slice A k c)).run Try.prog W = .ok (.string (strOf (rest.take k))) W ∧
      Hid (Rd W B 1 V (rest.length - k) (c - k) (u8s (rest.drop k))) := by
  have hkc : k ≤ c := by have := hr.cap; omega
  have hto := hr.to_ hk
  rw [Nat.mul_one, ← u8s_take] at hto
  have hfrom := hr.from_ hk
  exact ⟨_, fun W => run_cut_from (P := Try.prog) 25 5 1 Try.underlying25 (Classical.choose_spec info_parts8).1 (Classical.choose_spec info_parts8).2.2.1 A rest.length c k hk W,
    fun W => run_cut_to (P := Try.prog) 25 5 1 Try.underlying25 (Classical.choose_spec info_parts8).1 (Classical.choose_spec info_parts8).2.2.1 A rest.length c k hkc W,
    run_str (P := Try.prog) W 25 9 5 Try.underlying25 Try.underlying5 Try.underlying9 hto,
    by unfold Hid; rw [u8s_drop]; simpa only [Nat.mul_one] using hfrom⟩
theorem rtext_cut {rest : List UInt8} {W : World} {B : Nat} {A V : Option Addr} {c k : Nat} (hr : Rd W B 1 A rest.length c (u8s rest)) (hk : k ≤ rest.length)
    (hV : ∀ W, (Instr.slice 25 (.slice A rest.length c) (some (.int .i64 (k : Nat))) none none).run Try.prog W = .ok (.slice V (rest.length - k) (c - k)) W) : Rd W B 1 V (rest.length - k) (c - k) (u8s (rest.drop k)) := by
  have h1 := run_cut_from (P := Try.prog) 25 5 1 Try.underlying25 (Classical.choose_spec info_parts8).1 (Classical.choose_spec info_parts8).2.2.1 A rest.length c k hk W
  rw [hV W] at h1
  injection h1 with h1 _
  injection h1 with h1
  rw [h1, u8s_drop]
  have hfrom := hr.from_ hk
  simpa only [Nat.mul_one] using hfrom
set_option maxRecDepth 100000 in
set_option maxHeartbeats 1000000 in
theorem rtext_any (bs : List UInt8) (n : Nat) (A : Option Addr) (c : Nat) (bad : Bool) (most : Int) (w : World) (hl : bs.length = n) (hn : n ≤ 900000) {B : Nat} (hBw : B ≤ w.heap.size) (hr : Rd w B 1 A n c (u8s bs)) (h1 : -9223372036854775808 ≤ most) (h2 : most ≤ 9223372036854775807) :
    Calls Try.prog 16 #[.agg #[.slice A n c, .bool bad], .int .i64 most] w (RText B bs bad most w) := by
  have HN := Lib.hid (rnum_any bs n A c bad most ((w.alloc (.cells #[.slice A n c, .bool bad] 39)).alloc (.cells #[.slice none 0 0, .bool false] 39)) hl hn (B := B) (by simp; omega) ((hr.alloc hBw _).alloc (by simp; omega) _) h1 h2)
  have HL := Lib.hid hl
  have HR := Lib.hid hr
  clear hr hl
  by_cases hok : bad = false ∧ ∃ s rest, bs = textB s ++ rest ∧ (s.length : Int) ≤ most
  · obtain ⟨rfl, s, rest, e0, g1⟩ := hok
    obtain ⟨mid, hmid⟩ : ∃ mid, mid = s ++ rest := ⟨_, rfl⟩
    obtain ⟨k, hk⟩ : ∃ k, k = s.length := ⟨_, rfl⟩
    have hkm : k ≤ mid.length := by rw [hmid, hk, List.length_append]; omega
    have e1 : bs = numB (s.length : Int) ++ mid := by rw [e0, hmid]; unfold textB; rw [List.append_assoc]
    have HT : Hid (mid.take k = s ∧ mid.drop k = rest ∧ rest.length = mid.length - k) := by
      unfold Hid; rw [hmid, hk]; simp
    have HN2 : Hid (Calls Try.prog 18 #[.agg #[.slice A n c, .bool false], .int .i64 most] ((w.alloc (.cells #[.slice A n c, .bool false] 39)).alloc (.cells #[.slice none 0 0, .bool false] 39)) fun e w' =>
        ∃ A1 c1, e = .returned (.tuple #[.int .i64 k, .agg #[.slice A1 mid.length c1, .bool false]]) ∧ Rd w' B 1 A1 mid.length c1 (u8s mid) ∧ Below ((w.alloc (.cells #[.slice A n c, .bool false] 39)).alloc (.cells #[.slice none 0 0, .bool false] 39)).heap.size ((w.alloc (.cells #[.slice A n c, .bool false] 39)).alloc (.cells #[.slice none 0 0, .bool false] 39)) w') := by
      refine HN.out.mono fun e w' hh => ?_
      obtain ⟨hb, ⟨_, v, r, A1, c1, e2, g2, g3, he, hrd⟩ | ⟨hno, _⟩⟩ := hh
      · obtain ⟨hv, rfl⟩ := numB_prefix (e1.symm.trans e2)
        subst hv
        rw [hk]
        exact ⟨A1, c1, he, hrd, hb⟩
      · rcases hno with h | h
        · cases h
        · exact absurd e1 (h _ _ (by omega) g1)
    have f0 : decide ((k : Int) < 0) = false := by simp
    have f1 : decide ((mid.length : Int) < k) = false := by simp; omega
    have f2 : decide (mid.length < k) = false := by simp; omega
    have HE := Lib.hid e0
    clear e0 e1 hmid hk HN
    go_enter Try.func16, Try.ntmps16
    go_wp2_with (go_at_call 18; refine HN2.out.mono ?_; rintro e w1 ⟨A1, c1, rfl, hr1, hb1⟩; obtain ⟨c0, c1', c2, c3, z0, z1, hB, hsz⟩ := rnum_cells hb1; have HB := Lib.hid hB; obtain ⟨V, hcut, hcut2, hs2, hrd2⟩ := rtext_facts (((hr1.alloc (Nat.le_trans hBw hB.size) (.cells #[.slice A1 mid.length c1, .bool false] 39))).drew) hkm; have HRD := Lib.hid (rtext_cut hr1 hkm hcut); clear hb1 hB hr1)
    go_region
    all_goals
      go_wp2
      have hB0 : Below w.heap.size w ((w1.setCell ⟨w.heap.size + 1, 0, none⟩ (.slice V (mid.length - k) (c1 - k))).setCell ⟨w.heap.size + 1, 1, none⟩ (.bool false)) := (HB.out.setCell (p := ⟨w.heap.size + 1, 0, none⟩) (by simp) _).setCell (p := ⟨w.heap.size + 1, 1, none⟩) (by simp) _
      have hB' := hB0.alloc hB0.size (.cells #[.slice A1 mid.length c1, .bool false] 39)
      have hrd := ((HRD.out.setCell (p := ⟨w.heap.size + 1, 0, none⟩) (show B ≤ w.heap.size + 1 by omega) (.slice V (mid.length - k) (c1 - k))).setCell (p := ⟨w.heap.size + 1, 1, none⟩) (show B ≤ w.heap.size + 1 by omega) (.bool false)).alloc (Nat.le_trans hBw hB0.size) (.cells #[.slice A1 mid.length c1, .bool false] 39)
      have hto : ∀ W, Rd W B 1 V (mid.length - k) (c1 - k) (u8s (mid.drop k)) → Rd W B 1 V rest.length (c1 - k) (u8s rest) := fun W h => by
        rw [HT.out.2.1, ← HT.out.2.2] at h; exact h
      refine bodyPost_ret (v := .tuple #[.string (strOf s), .agg #[.slice V (mid.length - k) (c1 - k), .bool false]]) (by simp [results, Try.results16, go_sem, c2, c3, hsz, HT.out.1]) rfl ⟨hB'.drew, .inl ⟨rfl, s, rest, V, c1 - k, HE.out, g1, ?_, hto _ hrd.drew⟩⟩
      rw [HT.out.2.2]
  · have key : ∀ (e : Ending) (w' : World), RNum B bs bad most ((w.alloc (.cells #[.slice A n c, .bool bad] 39)).alloc (.cells #[.slice none 0 0, .bool false] 39)) e w' →
        ∃ (v : Int) (A1 : Option Addr) (m c1 : Nat) (bad' : Bool), e = .returned (.tuple #[.int .i64 v, .agg #[.slice A1 m c1, .bool bad']]) ∧ Below ((w.alloc (.cells #[.slice A n c, .bool bad] 39)).alloc (.cells #[.slice none 0 0, .bool false] 39)).heap.size ((w.alloc (.cells #[.slice A n c, .bool bad] 39)).alloc (.cells #[.slice none 0 0, .bool false] 39)) w' ∧
          (bad' = true ∨ (bad' = false ∧ decide (v < 0) = true) ∨ (bad' = false ∧ decide (v < 0) = false ∧ decide ((m : Int) < v) = true)) := by
      intro e w' hh
      obtain ⟨hb, ⟨hbf, v, r, A1, c1, e2, g2, g3, he, hrd⟩ | ⟨hno, he⟩⟩ := hh
      · refine ⟨v, A1, r.length, c1, false, he, hb, .inr ?_⟩
        by_cases g1 : v < 0
        · exact .inl ⟨rfl, by simpa using g1⟩
        · refine .inr ⟨rfl, by simpa using g1, ?_⟩
          simp only [decide_eq_true_eq]
          apply Classical.byContradiction
          intro g4
          obtain ⟨k, rfl⟩ : ∃ k : Nat, v = (k : Int) := ⟨v.toNat, by omega⟩
          apply hok
          refine ⟨hbf, r.take k, r.drop k, ?_, ?_⟩
          · unfold textB
            rw [List.length_take, Nat.min_eq_left (by omega), List.append_assoc, List.take_append_drop]; exact e2
          · rw [List.length_take, Nat.min_eq_left (by omega)]; exact g3
      · exact ⟨0, none, 0, 0, true, he, hb, .inl rfl⟩
    have hno : Hid (bad = true ∨ ∀ s rest, (s.length : Int) ≤ most → bs ≠ textB s ++ rest) := by
      unfold Hid
      cases bad with
      | true => exact .inl rfl
      | false => exact .inr fun s rest g1 e => hok ⟨rfl, s, rest, e, g1⟩
    have KEY := Lib.hid key
    clear key hok
    go_enter Try.func16, Try.ntmps16
    go_wp2_with (go_at_call 18; refine HN.out.mono ?_; intro e w1 hh; obtain ⟨v, A1, m, c1, bad', rfl, hb1, hq⟩ := KEY.out e w1 hh; obtain ⟨c0, c1', c2, c3, z0, z1, hB, hsz⟩ := rnum_cells hb1; have HB := Lib.hid hB; clear hb1 hB hh; rcases hq with rfl | ⟨rfl, q1⟩ | ⟨rfl, q1, q2⟩)
    all_goals
      have hB0 : Below w.heap.size w ((w1.setCell ⟨w.heap.size + 1, 0, none⟩ (.slice none 0 0)).setCell ⟨w.heap.size + 1, 1, none⟩ (.bool true)) := (HB.out.setCell (p := ⟨w.heap.size + 1, 0, none⟩) (by simp) _).setCell (p := ⟨w.heap.size + 1, 1, none⟩) (by simp) _
      have hB' := fun bad' => hB0.alloc hB0.size (.cells #[.slice A1 m c1, .bool bad'] 39)
      refine bodyPost_ret (v := .tuple #[.string ⟨#[]⟩, .agg #[.slice none 0 0, .bool true]]) (by simp [results, Try.results16, go_sem, c2, c3, hsz]) rfl ⟨hB' _, .inr ⟨(by first | exact hno.out | exact .inl rfl), rfl⟩⟩
theorem rdone_any (n : Nat) (A : Option Addr) (c : Nat) (bad : Bool) (w : World) :
    Calls Try.prog 23 #[.agg #[.slice A n c, .bool bad]] w fun e w' => e = .returned (.bool (!bad && ((n : Int) == 0))) ∧ Below w.heap.size w w' := by
  cases bad with
  | true =>
    go_enter Try.func23, Try.ntmps23
    go_wp2
    go_ret
    exact ⟨rfl, (Below.refl _ _).alloc (Nat.le_refl _) _⟩
  | false =>
    go_enter Try.func23, Try.ntmps23
    go_wp2
    go_ret
    exact ⟨rfl, (Below.refl _ _).alloc (Nat.le_refl _) _⟩
end Codec
end Go.Proofs.Ytgjojcigcbenmaa
