/- CodecFails answers true for all bytes and whatever is asked for, and leaves both as they were. No condition. -/
import Derived.Test.YtgjojcigcbenmaaCodecArgs
namespace Go.Proofs.Ytgjojcigcbenmaa.lawCodecFails
open Go.ChangeShapes Go.WideShapes Go.ChangeAt Go.RowKit Codec
theorem nums_ne {v : Int} {rest : List UInt8} : ([] : List UInt8) ≠ numB v ++ rest := by
  intro e
  have h1 := congrArg List.length e
  have h2 := numB_pos v
  rw [List.length_append] at h1
  simp at h1; omega
theorem inum_bad {a : Nat} {w : World} (h : InAt w a [] true) (most : Int) (h1 : -9223372036854775808 ≤ most) (h2 : most ≤ 9223372036854775807) :
    Calls Try.prog 19 #[.pointer (some ⟨a, 0, none⟩), .int .i64 most] w fun e w' => e = .returned (.int .i64 0) ∧ InAt w' a [] true ∧ w.grownBy w' (some a) :=
  (inum_any h most h1 h2).mono fun e w' hh => by
    rcases hh with ⟨v, rest, e', _⟩ | ⟨_, he, hf⟩
    · exact absurd e' nums_ne
    · exact ⟨he, hf⟩
theorem itext_bad {a : Nat} {w : World} (h : InAt w a [] true) (most : Int) (h1 : -9223372036854775808 ≤ most) (h2 : most ≤ 9223372036854775807) :
    Calls Try.prog 17 #[.pointer (some ⟨a, 0, none⟩), .int .i64 most] w fun e w' => e = .returned (.string ⟨#[]⟩) ∧ InAt w' a [] true ∧ w.grownBy w' (some a) :=
  (itext_any h most h1 h2).mono fun e w' hh => by
    rcases hh with ⟨v, rest, e', _⟩ | ⟨_, he, hf⟩
    · unfold textB at e'
      rw [List.append_assoc] at e'
      exact absurd e' nums_ne
    · exact ⟨he, hf⟩
set_option maxRecDepth 100000 in
set_option maxHeartbeats 1000000 in
theorem fails_any (bs : List UInt8) (A : Option Addr) (c : Nat) (l : List Asked) (AL : Option Addr) (cl : Nat) (w : World) (hb : Rd w w.heap.size 1 A bs.length c (u8s bs)) (hl : Rd w w.heap.size 2 AL l.length cl (askC l)) :
    Calls Try.prog 8 #[.slice A bs.length c, .slice AL l.length cl] w fun e w' => e = .returned (.bool true) ∧ Below w.heap.size w w' := by
  have HB := Lib.hid hb
  have HL := Lib.hid hl
  clear hb hl
  by_cases hok : bs.length ≤ 70000 ∧ l.length ≤ 200
  · obtain ⟨hb7, hl2⟩ := hok
    have f1 : decide ((70000 : Int) < bs.length) = false := by simp; omega
    have f2 : decide ((200 : Int) < l.length) = false := by simp; omega
    have f3 : decide (70000 < bs.length) = false := by simp; omega
    have f4 : decide (200 < l.length) = false := by simp; omega
    have HE : Hid ((!false && bs.isEmpty) = ((bs.length : Int) == 0)) := by cases bs <;> simp [Hid]; omega
    go_enter Try.func8, Try.ntmps8
    go_wp2_with (first
      | (go_at_call 10; refine (awake_any _).mono ?_; rintro e w1 ⟨rfl, hb1⟩)
      | (go_at_call 15; refine (newin_any bs bs.length A c _ rfl (by omega) (HB.out.later hb1)).mono ?_; rintro e w2 ⟨a, rfl, ha, hin, hb2⟩; have HI := Lib.hid hin; clear hin)
      | (go_at_call 20; refine (left_any HI.out).mono ?_; rintro e w' ⟨rfl, rfl⟩)
      | (go_at_call 21; refine (bad_any HI.out).mono ?_; rintro e w' ⟨rfl, rfl⟩)
      | (go_at_call 22; refine (done_any HI.out).mono ?_; rintro e w' ⟨rfl, rfl⟩; rw [HE.out])
      | (go_at_call 26; refine (fail_any HI.out).mono ?_; rintro e w3 ⟨rfl, hf1, hf2⟩; have HF := Lib.hid hf1; clear hf1))
    have hB3 : Below w.heap.size w w3 := (hb1.trans (hb2.mono hb1.size)).grown hf2 (Nat.le_trans hb1.size hb2.size) (by intro k hk; injection hk with hk; have := hb1.size; omega)
    have haw : w.heap.size ≤ a := Nat.le_trans hb1.size ha
    clear hb1 hb2 hf2 HI ha
    go_loopw [43] (fun q wr => ∃ k : Nat, q = .int .i64 k ∧ k ≤ l.length ∧ Below w.heap.size w wr ∧ Hid (InAt wr a [] true)) (fun q _ => (l.length - intOf q).toNat)
    case atStart => exact ⟨0, rfl, Nat.zero_le _, hB3, HF.out⟩
    case round =>
      obtain ⟨k, rfl, hk, hB, hin⟩ := hrel
      by_cases hlt : k < l.length
      · obtain ⟨b, o, rfl, hbw, hcl⟩ := HL.out.at_ (by omega)
        have c1 : w.cell? ⟨b, o + (k * 2 + 1), none⟩ = some (.int .i64 l[k].most) := hcl _ _ (flat_get Asked.cells 2 (fun _ => rfl) l k hlt 1 (by omega))
        have k1 : wr.cell? ⟨b, o + k * 2 + 1, none⟩ = some (.int .i64 l[k].most) := (hB.cell (p := ⟨b, o + (k * 2 + 1), none⟩) hbw).trans c1
        have C1 := Lib.hid c1
        have hlo := l[k].lo
        have hhi := l[k].hi
        have hki : (k : Int) < l.length := by omega
        clear hcl c1
        go_wp2_with (first
          | (go_at_call 19; refine (inum_bad hin.out l[k].most hlo hhi).mono ?_; rintro e w4 ⟨rfl, hi4, hg4⟩; (have hB4 : Below w.heap.size w w4 := hB.grown hg4 hB.size (by intro k hk; injection hk with hk; omega)); (have k4 : w4.cell? ⟨b, o + k * 2 + 1, none⟩ = some (.int .i64 l[k].most) := (hB4.cell (p := ⟨b, o + (k * 2 + 1), none⟩) hbw).trans C1.out); have HI4 := Lib.hid hi4; clear hi4 hg4)
          | (go_at_call 17; refine (itext_bad HI4.out l[k].most hlo hhi).mono ?_; rintro e w5 ⟨rfl, hi5, hg5⟩; (have hB5 : Below w.heap.size w w5 := hB4.grown hg5 hB4.size (by intro k hk; injection hk with hk; omega)); have HI5 := Lib.hid hi5; clear hi5 hg5))
        go_roundw
        case rel => exact ⟨k + 1, by go_num, by omega, hB5, HI5.out⟩
        case measure => simp [intOf]; omega
      · go_wp2_with (first
          | (go_at_call 20; refine (left_any hin.out).mono ?_; rintro e w' ⟨rfl, rfl⟩)
          | (go_at_call 21; refine (bad_any hin.out).mono ?_; rintro e w' ⟨rfl, rfl⟩)
          | (go_at_call 22; refine (done_any hin.out).mono ?_; rintro e w' ⟨rfl, rfl⟩))
        go_ret
        exact ⟨rfl, hB⟩
  · have hg : decide ((70000 : Int) < bs.length) = true ∨ (decide ((70000 : Int) < bs.length) = false ∧ decide ((200 : Int) < l.length) = true) := by
      by_cases g1 : bs.length ≤ 70000
      · exact .inr ⟨by simp; omega, by simp; omega⟩
      · exact .inl (by simp; omega)
    clear hok
    rcases hg with g1 | ⟨g1, g2⟩
    all_goals
      go_enter Try.func8, Try.ntmps8
      go_wp2_with (first
        | (go_at_call 10; refine (awake_any w).mono ?_; rintro e w1 ⟨rfl, hb1⟩)
        | (go_at_call 10; refine (awake_any w1).mono ?_; rintro e w2 ⟨rfl, hb2⟩))
      go_ret
      exact ⟨rfl, hb1.trans (hb2.mono hb1.size)⟩
set_option maxRecDepth 100000 in
theorem lifted (os : Os) (started : os.Started) (H : Type) (enc : TypeId × Value → H) :
    ReturnsInHanded {} Try.checked os 8 .any (Rows.codecFailsSpec.pre6 enc Try.prog Try.f8 Rows.codecFailsRow.domain false) (Rows.codecFailsSpec.post enc Try.prog Try.f8 false true false false) := by
  refine returnsInHanded_of_change (C := Try.checked) own started (by kernel_rfl) Try.func8
    (ChangeSpec.witness6 (enc := enc) (C := Try.checked) false ⟨#[], #[.slice none 0 0, .slice none 0 0], []⟩ 8 (by kernel_rfl) (by kernel_rfl) (by kernel_rfl) (by kernel_rfl)) ?_
  intro W base args ds gs before hval0 hW _ _
  have hval : ∀ (j : Nat) t v, Try.f8.params[j]? = some t → args[j]? = some v → Value.okWide Try.prog W .any base t v := hval0
  have hW' := hW
  obtain ⟨p, q, hA0, hV, rfl, hfz, hnd⟩ := hW
  have hA : DataW.TrodAll enc Try.prog W 0 (fun _ => true) true Try.f8.params.toList args.toList ds p := hA0
  rw [Try.params8] at hA hval
  obtain ⟨v0, v1, d0, d1, p0, p1, rfl, rfl, rfl, h0, h1⟩ := trodAll_two hA
  obtain ⟨rfl, rfl⟩ := trodVars_none hV
  obtain ⟨a0, len, cap, rfl⟩ := okWide_slice Try.underlying25 (hval 0 25 v0 rfl rfl)
  obtain ⟨a1, len1, cap1, rfl⟩ := okWide_slice Try.underlying35 (hval 1 35 v1 rfl rfl)
  obtain ⟨fuel, hf⟩ := h0
  obtain ⟨fuel1, hf1⟩ := h1
  obtain ⟨bs, rfl, hrd, hlen⟩ := bytes_of_trod hf
  obtain ⟨l, rfl, hrl, hlen1⟩ := asks_of_trod hf1
  refine (fails_any bs a0 cap l a1 cap1 W hrd hrl).mono fun e W' ⟨he, hb⟩ => ?_
  subst he
  exact ⟨_, rfl, law_post hW' (by kernel_rfl) rfl rfl rfl hb⟩
theorem proved : Rows.CodecFailsSaid :=
  OpenClaim.holds_of_wide 8 Try.f8 rfl rfl rfl rfl rfl rfl rfl ⟨rfl, rfl, rfl, rfl, rfl⟩ rfl rfl rfl rfl rfl (by kernel_rfl) Try.func8 (by kernel_rfl)
    (of_decide_eq_true (by kernel_rfl)) (by unfold Func.isWrapper; first | (rw [if_pos (by decide +kernel)]; kernel_rfl) | (rw [if_neg (by decide +kernel)]; exact ⟨rfl, rfl⟩))
    (fun os started H enc _ => lifted os started H enc)
#print axioms proved
end Go.Proofs.Ytgjojcigcbenmaa.lawCodecFails
