/- Package codec: what an In gives back: numbers and texts. -/
import Derived.Test.YtgjojcigcbenmaaCodecIn
namespace Go.Proofs.Ytgjojcigcbenmaa
open Go.RowKit
namespace Codec
/-- what In.Num answers -/
def NumPost (a : Nat) (bs : List UInt8) (most : Int) (w : World) (e : Ending) (w' : World) : Prop :=
  (∃ v rest, bs = numB v ++ rest ∧ -most ≤ v ∧ v ≤ most ∧ e = .returned (.int .i64 v) ∧ InAt w' a rest false ∧ w.grownBy w' (some a)) ∨
  ((∀ v rest, -most ≤ v → v ≤ most → bs ≠ numB v ++ rest) ∧ e = .returned (.int .i64 0) ∧ Failed a w w')
theorem lay_at {w : World} {a : Nat} {bs rest : List UInt8} {bad : Bool} (h : InAt w a bs bad) {V : Option Addr} {c k : Nat} (hk : k = rest.length) (hr : Rd w a 1 V k c (u8s rest)) (hs : rest.length ≤ 900000) (hb : bad = true → rest = []) :
    InAt (w.setCell ⟨a, 0, none⟩ (.slice V k c)) a rest bad ∧ w.grownBy (w.setCell ⟨a, 0, none⟩ (.slice V k c)) (some a) := by
  subst hk
  obtain ⟨A0, c0, h1, h2⟩ := h.at_
  have h3 := h.bad_
  have h4 := h.free0
  have h5 := h.free1
  exact ⟨⟨⟨V, c, by go_simp, hr.setCell (p := ⟨a, 0, none⟩) (Nat.le_refl _) _⟩, by go_simp, by go_simp, by go_simp, hb, hs⟩, gb_set (gb_refl _ _) _ _⟩
theorem cut_at {w : World} {a : Nat} {bs : List UInt8} {bad : Bool} (h : InAt w a bs bad) {A : Option Addr} {c n : Nat} (hr : Rd w a 1 A bs.length c (u8s bs)) (hn : n ≤ bs.length) (hb : bad = true → bs.drop n = []) :
    InAt (w.setCell ⟨a, 0, none⟩ (.slice (if c = n then A else A.map (·.add (n * 1))) (bs.length - n) (c - n))) a (bs.drop n) bad ∧ w.grownBy (w.setCell ⟨a, 0, none⟩ (.slice (if c = n then A else A.map (·.add (n * 1))) (bs.length - n) (c - n))) (some a) := by
  refine lay_at h (by rw [List.length_drop]) ?_ (by have := h.small; rw [List.length_drop]; omega) hb
  have h6 := hr.from_ hn
  rw [u8s_drop]
  simpa only [Nat.mul_one] using h6
theorem number_is {bs : List UInt8} {w w' : World} {e : Ending} (h : NumberIs bs w e w') : w = w' ∧ ((e = .returned (.tuple #[.int .u64 0, .int .i64 0]) ∧ ∀ u n, ¬ Begins bs u n) ∨ ∃ u n : Nat, e = .returned (.tuple #[.int .u64 u, .int .i64 n]) ∧ Begins bs u n) := h
set_option maxRecDepth 100000 in
set_option maxHeartbeats 1000000 in
theorem inum_any {a : Nat} {bs : List UInt8} {bad : Bool} {w : World} (h : InAt w a bs bad) (most : Int) (h1 : -9223372036854775808 ≤ most) (h2 : most ≤ 9223372036854775807) :
    Calls Try.prog 19 #[.pointer (some ⟨a, 0, none⟩), .int .i64 most] w (NumPost a bs most w) := by
  obtain ⟨A, c, hc, hr⟩ := h.at_
  have hf0 := h.free0
  have hlt := h.lt
  have hsm := h.small
  have H := Lib.hid h
  have HR := Lib.hid hr
  clear h hr
  have HN := Lib.hid (number_any bs bs.length A c w rfl hsm (HR.out.more (Nat.le_of_lt hlt)))
  by_cases hbe : ∃ u n, Begins bs u n
  · obtain ⟨u, n, hbe⟩ := hbe
    have HN2 : Hid (Calls Try.prog 32 #[.slice A bs.length c] w fun e w' => e = .returned (.tuple #[.int .u64 u, .int .i64 n]) ∧ w = w') := by
      refine HN.out.mono fun e w' hh => ?_
      obtain ⟨hw, ⟨_, hno⟩ | ⟨u', n', he, hb'⟩⟩ := hh
      · exact absurd hbe (hno u n)
      · obtain ⟨rfl, rfl⟩ := hb'.uniq hbe
        exact ⟨he, hw⟩
    have hu := hbe.1
    have hnl := hbe.2.1
    have hn1 : 1 ≤ n := by rw [hbe.len]; exact sev_pos u
    have hsp := hbe.split
    obtain ⟨v, hv⟩ : ∃ v, v = unfoldN u := ⟨_, rfl⟩
    have hvr := unfold_in hu
    rw [← hv] at hvr
    have hnb : Hid (bs = numB v ++ bs.drop n) := by
      unfold Hid numB
      rw [hv, fold_unfold]; exact hsp
    have HU : Hid (∀ W, Calls Try.prog 33 #[.int .u64 u] W fun e w' => e = .returned (.int .i64 v) ∧ W = w') := by
      intro W; rw [hv]; exact unfold_any u W hu
    have f0 : ((n : Int) == 0) = false := by simp; omega
    clear hv hbe hsp HN
    by_cases hok : -most ≤ v ∧ v ≤ most
    · obtain ⟨hv1, hv2⟩ := hok
      have f1 : decide (most < 0) = false := by simp; omega
      have f2 : decide (v < -most) = false := by simp; omega
      have f3 : decide (most < v) = false := by simp; omega
      have f4 : IntKind.i64.wrap (-most) = -most := IntWalk.i64_in _ (by omega)
      have hcut := fun W => run_cut_from (P := Try.prog) 25 5 1 Try.underlying25 (Classical.choose_spec info_parts8).1 (Classical.choose_spec info_parts8).2.2.1 A bs.length c n hnl W
      have hbad : Hid (bad = false) := by
        cases bad with
        | false => rfl
        | true =>
          have := H.out.none_ rfl
          rw [this] at hnl; simp at hnl; omega
      have hF := cut_at H.out HR.out hnl (by rw [hbad.out]; exact fun h => by cases h)
      obtain ⟨V, hV⟩ : ∃ V, V = (if c = n then A else A.map (·.add (n * 1))) := ⟨_, rfl⟩
      rw [← hV] at hF
      simp only [← hV] at hcut
      have HF := Lib.hid hF
      clear hV hF
      go_enter Try.func19, Try.ntmps19
      go_wp2_with (first
        | (go_at_call 32; refine HN2.out.mono ?_; rintro e w' ⟨rfl, rfl⟩)
        | (go_at_call 33; refine (HU.out _).mono ?_; rintro e w' ⟨rfl, rfl⟩))
      go_ret
      have hF := HF.out
      rw [hbad.out] at hF
      exact .inl ⟨v, bs.drop n, hnb.out, hv1, hv2, rfl, hF.1, hF.2⟩
    · have hno : Hid (∀ v rest, -most ≤ v → v ≤ most → bs ≠ numB v ++ rest) := by
        intro v' rest g1 g2 e
        obtain ⟨rfl, _⟩ := numB_prefix (hnb.out.symm.trans e)
        exact hok ⟨g1, g2⟩
      have hg : (decide (most < 0) = true) ∨ (decide (most < 0) = false ∧ IntKind.i64.wrap (-most) = -most ∧ decide (v < -most) = true) ∨ (decide (most < 0) = false ∧ IntKind.i64.wrap (-most) = -most ∧ decide (v < -most) = false ∧ decide (most < v) = true) := by
        by_cases g1 : most < 0
        · exact .inl (by simpa using g1)
        · by_cases g2 : v < -most
          · exact .inr (.inl ⟨by simpa using g1, IntWalk.i64_in _ (by omega), by simpa using g2⟩)
          · exact .inr (.inr ⟨by simpa using g1, IntWalk.i64_in _ (by omega), by simpa using g2, by simp; omega⟩)
      clear hok
      rcases hg with g1 | ⟨g1, g2, g3⟩ | ⟨g1, g2, g3, g4⟩
      all_goals
        go_enter Try.func19, Try.ntmps19
        go_wp2_with (first
          | (go_at_call 32; refine HN2.out.mono ?_; rintro e w' ⟨rfl, rfl⟩)
          | (go_at_call 33; refine (HU.out _).mono ?_; rintro e w' ⟨rfl, rfl⟩)
          | (go_at_call 26; refine (fail_any H.out).mono ?_; rintro e w' ⟨rfl, hfl⟩))
        go_ret
        exact .inr ⟨hno.out, rfl, hfl⟩
  · have HN2 : Hid (Calls Try.prog 32 #[.slice A bs.length c] w fun e w' => e = .returned (.tuple #[.int .u64 0, .int .i64 0]) ∧ w = w') := by
      refine HN.out.mono fun e w' hh => ?_
      obtain ⟨hw, ⟨he, hno⟩ | ⟨u', n', he, hb'⟩⟩ := hh
      · exact ⟨he, hw⟩
      · exact absurd ⟨u', n', hb'⟩ hbe
    have hno : Hid (∀ v rest, -most ≤ v → v ≤ most → bs ≠ numB v ++ rest) := by
      intro v' rest g1 g2 e
      apply hbe
      refine ⟨foldN v', (numB v').length, ?_⟩
      rw [e]
      exact begins_of (fold_lt (by omega) (by omega)) rest
    have HU : Hid (∀ W, Calls Try.prog 33 #[.int .u64 0] W fun e w' => e = .returned (.int .i64 0) ∧ W = w') := fun W => unfold_any 0 W (by omega)
    clear hbe HN
    go_enter Try.func19, Try.ntmps19
    go_wp2_with (first
      | (go_at_call 32; refine HN2.out.mono ?_; rintro e w' ⟨rfl, rfl⟩)
      | (go_at_call 33; refine (HU.out _).mono ?_; rintro e w' ⟨rfl, rfl⟩)
      | (go_at_call 26; refine (fail_any H.out).mono ?_; rintro e w' ⟨rfl, hfl⟩))
    go_ret
    exact .inr ⟨hno.out, rfl, hfl⟩

/-- what In.Text answers -/
def TextPost (a : Nat) (bs : List UInt8) (most : Int) (w : World) (e : Ending) (w' : World) : Prop :=
  (∃ s rest, bs = textB s ++ rest ∧ (s.length : Int) ≤ most ∧ e = .returned (.string (strOf s)) ∧ InAt w' a rest false ∧ w.grownBy w' (some a)) ∨
  ((∀ s rest, (s.length : Int) ≤ most → bs ≠ textB s ++ rest) ∧ e = .returned (.string ⟨#[]⟩) ∧ Failed a w w')
theorem text_facts {a : Nat} {rest : List UInt8} {bad : Bool} {w1 : World} {k : Nat} (hin : InAt w1 a rest bad) (hk : k ≤ rest.length) (hb : bad = true → rest = []) :
    ∃ A c V, w1.cell? ⟨a, 0, none⟩ = some (.slice A rest.length c) ∧ w1.frozen? ⟨a, 0, none⟩ = false ∧
      (∀ W, (Instr.slice 25 (.slice A rest.length c) (some (.int .i64 (k : Nat))) none none).run Try.prog W = .ok (.slice V (rest.length - k) (c - k)) W) ∧
      (∀ W, (Instr.slice 25 (.slice A rest.length c) none (some (.int .i64 (k : Nat))) none).run Try.prog W = .ok (.slice A k c) W) ∧
      (convert 25 9 (.slice A k c)).run Try.prog w1 = .ok (.string (strOf (rest.take k))) w1 ∧
      Hid (InAt (w1.setCell ⟨a, 0, none⟩ (.slice V (rest.length - k) (c - k))) a (rest.drop k) bad ∧ w1.grownBy (w1.setCell ⟨a, 0, none⟩ (.slice V (rest.length - k) (c - k))) (some a)) := by
  obtain ⟨A, c, hc, hr⟩ := hin.at_
  have hkc : k ≤ c := by have := hr.cap; omega
  have hto := hr.to_ hk
  have e1 : (u8s rest).take (k * 1) = u8s (rest.take k) := by rw [Nat.mul_one, u8s_take]
  rw [e1] at hto
  exact ⟨A, c, _, hc, hin.free0, fun W => run_cut_from (P := Try.prog) 25 5 1 Try.underlying25 (Classical.choose_spec info_parts8).1 (Classical.choose_spec info_parts8).2.2.1 A rest.length c k hk W,
    fun W => run_cut_to (P := Try.prog) 25 5 1 Try.underlying25 (Classical.choose_spec info_parts8).1 (Classical.choose_spec info_parts8).2.2.1 A rest.length c k hkc W,
    run_str (P := Try.prog) w1 25 9 5 Try.underlying25 Try.underlying5 Try.underlying9 hto,
    cut_at hin hr hk (by intro h; rw [hb h]; simp)⟩
set_option maxRecDepth 100000 in
set_option maxHeartbeats 1000000 in
theorem text_ok {a : Nat} {rest : List UInt8} {bad : Bool} {w : World} {most : Int} {k : Nat} (hk : k ≤ rest.length) (hb : bad = true → rest = [])
    (HN : Hid (Calls Try.prog 19 #[.pointer (some ⟨a, 0, none⟩), .int .i64 most] w fun e w' => e = .returned (.int .i64 k) ∧ InAt w' a rest bad ∧ w.grownBy w' (some a))) :
    Calls Try.prog 17 #[.pointer (some ⟨a, 0, none⟩), .int .i64 most] w fun e w' => e = .returned (.string (strOf (rest.take k))) ∧ InAt w' a (rest.drop k) bad ∧ w.grownBy w' (some a) := by
  have f0 : decide ((k : Int) < 0) = false := by simp
  have f1 : decide ((rest.length : Int) < k) = false := by simp; omega
  have f2 : decide (rest.length < k) = false := by simp; omega
  have HB := Lib.hid hb
  clear hb
  go_enter Try.func17, Try.ntmps17
  go_wp2_with (go_at_call 19; refine HN.out.mono ?_; rintro e w1 ⟨rfl, hin, hgb⟩; obtain ⟨A, c, V, hc, hf0, hcut, hcut2, hs2, HF⟩ := text_facts hin hk HB.out; have HG := Lib.hid hgb; clear hin hgb)
  go_ret
  exact ⟨rfl, HF.out.1, gb_trans HG.out HF.out.2⟩
set_option maxRecDepth 100000 in
set_option maxHeartbeats 1000000 in
theorem text_no {a : Nat} {rest : List UInt8} {bad : Bool} {w : World} {most v : Int} (hv : v < 0 ∨ rest.length < v)
    (HN : Hid (Calls Try.prog 19 #[.pointer (some ⟨a, 0, none⟩), .int .i64 most] w fun e w' => e = .returned (.int .i64 v) ∧ InAt w' a rest bad ∧ w.grownBy w' (some a))) :
    Calls Try.prog 17 #[.pointer (some ⟨a, 0, none⟩), .int .i64 most] w fun e w' => e = .returned (.string ⟨#[]⟩) ∧ Failed a w w' := by
  have hg : decide (v < 0) = true ∨ (decide (v < 0) = false ∧ decide ((rest.length : Int) < v) = true) := by
    by_cases g1 : v < 0
    · exact .inl (by simpa using g1)
    · exact .inr ⟨by simpa using g1, by simp; omega⟩
  clear hv
  rcases hg with g1 | ⟨g1, g2⟩
  all_goals
    go_enter Try.func17, Try.ntmps17
    go_wp2_with (first
      | (go_at_call 19; refine HN.out.mono ?_; rintro e w1 ⟨rfl, hin, hgb⟩; obtain ⟨A, c, hc, hr⟩ := hin.at_; have HI := Lib.hid hin; have HG := Lib.hid hgb; clear hin hgb hr)
      | (go_at_call 26; refine (fail_any HI.out).mono ?_; rintro e w' ⟨rfl, hfl⟩))
    go_ret
    exact ⟨rfl, hfl.1, gb_trans HG.out hfl.2⟩
theorem itext_any {a : Nat} {bs : List UInt8} {bad : Bool} {w : World} (h : InAt w a bs bad) (most : Int) (h1 : -9223372036854775808 ≤ most) (h2 : most ≤ 9223372036854775807) :
    Calls Try.prog 17 #[.pointer (some ⟨a, 0, none⟩), .int .i64 most] w (TextPost a bs most w) := by
  have hsm := h.small
  have HN := inum_any h most h1 h2
  by_cases hex : ∃ v rest, bs = numB v ++ rest ∧ -most ≤ v ∧ v ≤ most
  · obtain ⟨v, rest, e, g1, g2⟩ := hex
    have hN : Hid (Calls Try.prog 19 #[.pointer (some ⟨a, 0, none⟩), .int .i64 most] w fun e w' => e = .returned (.int .i64 v) ∧ InAt w' a rest false ∧ w.grownBy w' (some a)) := by
      refine HN.mono fun en w' hh => ?_
      rcases hh with ⟨v', rest', e', _, _, he, hi, hg⟩ | ⟨hno, _⟩
      · obtain ⟨rfl, rfl⟩ := numB_prefix (e.symm.trans e')
        exact ⟨he, hi, hg⟩
      · exact absurd e (hno v rest g1 g2)
    by_cases hv : 0 ≤ v ∧ v ≤ rest.length
    · obtain ⟨k, rfl⟩ : ∃ k : Nat, v = (k : Int) := ⟨v.toNat, by omega⟩
      refine (text_ok (by omega) (fun h => by cases h) hN).mono fun en w' ⟨he, hi, hg⟩ => .inl ⟨rest.take k, rest.drop k, ?_, ?_, he, hi, hg⟩
      · unfold textB
        rw [List.length_take, Nat.min_eq_left (by omega), List.append_assoc, List.take_append_drop]; exact e
      · rw [List.length_take, Nat.min_eq_left (by omega)]; exact g2
    · refine (text_no (by omega) hN).mono fun en w' ⟨he, hf⟩ => .inr ⟨?_, he, hf⟩
      intro s r hs e2
      unfold textB at e2
      rw [List.append_assoc] at e2
      obtain ⟨rfl, rfl⟩ := numB_prefix (e.symm.trans e2)
      apply hv
      rw [List.length_append]
      omega
  · obtain ⟨k, hk⟩ : ∃ k : Nat, k = 0 := ⟨_, rfl⟩
    have hN : Hid (Calls Try.prog 19 #[.pointer (some ⟨a, 0, none⟩), .int .i64 most] w fun e w' => e = .returned (.int .i64 k) ∧ InAt w' a [] true ∧ w.grownBy w' (some a)) := by
      refine HN.mono fun en w' hh => ?_
      rcases hh with ⟨v', rest', e', g1, g2, _⟩ | ⟨hno, he, hf⟩
      · exact absurd ⟨v', rest', e', g1, g2⟩ hex
      · exact ⟨by rw [he, hk]; rfl, hf⟩
    have hkl : k ≤ ([] : List UInt8).length := by rw [hk]; exact Nat.le_refl _
    have ht := text_ok (a := a) (rest := []) (bad := true) (w := w) (most := most) (k := k) hkl (fun _ => rfl) hN
    refine ht.mono fun en w' hh => ?_
    obtain ⟨he, hi, hg⟩ := hh
    refine .inr ⟨?_, ?_, ?_⟩
    · intro s r hs e2
      unfold textB at e2
      rw [List.append_assoc] at e2
      exact hex ⟨s.length, _, e2, by omega, hs⟩
    · rw [he, List.take_nil]; rfl
    · rw [List.drop_nil] at hi
      exact ⟨hi, hg⟩
end Codec
end Go.Proofs.Ytgjojcigcbenmaa
