/- Proved: the law JournalRaw answers true for all bytes that can be handed in, and leaves its arguments as they were. Conditions: none. -/
import Derived.Test.YtcffbgehopjgpaaJournalOpens2
open Go.ChangeShapes Go.WideShapes Go.ChangeAt Go.RowKit
namespace Go.Proofs.Ytcffbgehopjgpaa
namespace lawJournalRaw
open Jrn Tpe Frm By
set_option maxRecDepth 100000 in
set_option maxHeartbeats 4000000 in
theorem rep_new {cap : Int} {b : Rec} (h : (b.length : Int) ≤ cap) : rep (newS cap) b = (⟨cap, b, b.length, -1, false⟩, 0) := by
  have h1 : ¬ (cap < (b.length : Int)) := by omega
  unfold rep newS less
  simp [h1]
set_option maxRecDepth 100000 in
set_option maxHeartbeats 4000000 in
theorem walk_any (b1 : Rec) (A1 : Option Addr) (c1 : Nat) (b0 : Rec) (Ab : Option Addr) (cb : Nat) (w : World) (hb1 : Rd w w.heap.size 1 A1 b1.length c1 (u8s b1)) (hb : Rd w w.heap.size 1 Ab b0.length cb (u8s b0)) :
    Calls Try.prog 4 #[.slice A1 b1.length c1, .slice Ab b0.length cb] w fun e w' => e = .returned (.bool true) ∧ Below w.heap.size w w' := by
  obtain ⟨n1, hn1⟩ : ∃ z, z = b1.length := ⟨_, rfl⟩
  obtain ⟨nb, hnb⟩ : ∃ z, z = b0.length := ⟨_, rfl⟩
  rw [← hn1] at hb1 ⊢
  rw [← hnb] at hb ⊢
  have HR1 := Lib.hid hb1
  have HR := Lib.hid hb
  have HN1 := Lib.hid hn1
  clear hb1 hb hn1 hnb
  go_enter Try.func4, Try.ntmps4
  go_wp2_with fail
  refine (awake_any w).mono ?_
  rintro e v1 ⟨rfl, hb⟩
  have HB1 := Lib.hid hb
  clear hb
  by_cases hq : 3000 < n1
  · have f1 : decide ((3000 : Int) < (n1 : Int)) = true := decide_eq_true (by omega)
    have f2 : decide (3000 < n1) = true := decide_eq_true hq
    go_wp2_with fail
    refine (awake_any v1).mono ?_
    rintro e v9 ⟨rfl, hb9⟩
    have HB9 := Lib.hid (HB1.out.trans (hb9.mono HB1.out.size))
    clear hb9
    go_wp2_with fail
    go_ret
    exact ⟨rfl, HB9.out⟩
  · have fq : decide ((3000 : Int) < (n1 : Int)) = false := decide_eq_false (by omega)
    have gq : decide (3000 < n1) = false := decide_eq_false hq
    by_cases hn : 3000 < nb
    · have f1 : decide ((3000 : Int) < (nb : Int)) = true := decide_eq_true (by omega)
      have f2 : decide (3000 < nb) = true := decide_eq_true hn
      go_wp2_with fail
      refine (awake_any v1).mono ?_
      rintro e v9 ⟨rfl, hb9⟩
      have HB9 := Lib.hid (HB1.out.trans (hb9.mono HB1.out.size))
      clear hb9
      go_wp2_with fail
      go_ret
      exact ⟨rfl, HB9.out⟩
    · have fn : decide ((3000 : Int) < (nb : Int)) = false := decide_eq_false (by omega)
      have gn : decide (3000 < nb) = false := decide_eq_false hn
      go_wp2_with fail
      refine (new_any 3000 v1 (by omega)).mono ?_
      rintro e v2 ⟨g, rfl, hT, hb⟩
      have hgl := hT.lo_
      have HB2 : Hid (Below w.heap.size w v2) := HB1.out.trans (hb.mono HB1.out.size)
      have hlo2 := hb.size
      have hw1 := HB1.out.size
      obtain ⟨A3, n3, c3, fb3, ah3, hta3, hob3⟩ := hT
      have HRP := Lib.hid (replace_any (b := b1) (nb := n1) (Ab := A1) (cb := c1) hta3 hlo2 (by unfold newS; dsimp only; omega) (by unfold newS; dsimp only; omega) ⟨HR1.out.later HB2.out, fun hn => by obtain ⟨b, o, e, hb, _⟩ := HR1.out.at_ hn; exact ⟨b, o, e, by omega⟩⟩ (by omega))
      rw [rep_new (by rw [← HN1.out]; omega), hob3] at HRP
      obtain ⟨s, hs⟩ : ∃ s, s = (⟨3000, b1, b1.length, -1, false⟩ : S) := ⟨_, rfl⟩
      rw [← hs] at HRP
      have HOK : Hid (Ok s 65535) := by unfold Hid; rw [hs]; exact ⟨by dsimp only; omega, by dsimp only; rw [← HN1.out]; omega, Nat.le_refl _, by dsimp only; omega⟩
      have HCP : Hid (s.cap = 3000) := by unfold Hid; rw [hs]
      have HSL : Hid (s.bs.length = n1) := by unfold Hid; rw [hs]; exact HN1.out.symm
      have HS := Lib.hid hs
      clear hb hta3 hob3 hs fq fn gq gn
      go_wp2_with fail
      refine HRP.out.mono ?_
      rintro e v3 ⟨rfl, ob, hT, ht, _⟩
      have HT3 := Lib.hid hT
      have HB3 : Hid (Below w.heap.size w v3) := HB2.out.trans (ht.below (by omega) (fun b hb => by cases hb) HB2.out.size)
      clear hT ht HRP
      go_wp2_with fail
      refine (refnew_any 3000 v3 (fun _ => True)).mono ?_
      rintro e v4 ⟨v, rfl, A, n, c, rfl, hlen, hrk, hb⟩
      have hn0 : n = 0 := hlen.symm
      subst hn0
      have HT4 := Lib.hid (HT3.out.later hb)
      have HB4 : Hid (Below w.heap.size w v4) := HB3.out.trans (hb.mono HB3.out.size)
      have HRR := Lib.hid (refreplace_any (ok := fun b => b ≠ g ∧ some b ≠ ob) (b := b1) (nb := n1) (Ab := A1) (cb := c1) (s := ⟨3000, [], 0, -1, false⟩) (fun x hx => HT4.out.free hx) (⟨hrk.rd, fun h => absurd h (by omega)⟩ : Rk v4 _ A 0 c []) (by dsimp only; omega) (by dsimp only; omega) (HR1.out.later HB4.out) (by omega))
      have hrn : rep ⟨3000, [], 0, -1, false⟩ b1 = (s, 0) := by rw [HS.out]; exact rep_new (by rw [← HN1.out]; omega)
      rw [hrn] at HRR
      unfold docV at HRR
      clear hb hrk hlen hrn
      unfold docV
      go_wp2_with fail
      refine HRR.out.mono ?_
      rintro e v5 ⟨v, rfl, A5, n5, c5, rfl, hl5, hr5, hb5⟩
      obtain ⟨V5, hV5⟩ : ∃ V, V = v5.alloc (.cells #[.int .i64 s.cap, .slice A5 n5 c5, .int .i64 s.sf, .int .i64 s.fu, .bool s.lo] 33) := ⟨_, rfl⟩
      obtain ⟨p7, hp7⟩ : ∃ p, p = v5.heap.size := ⟨_, rfl⟩
      have hbV : Below v5.heap.size v5 V5 := by rw [hV5]; exact (Below.refl _ _).alloc (Nat.le_refl _) _
      have hbx : BoxD V5 p7 s A5 n5 c5 := by rw [hp7]; exact BoxD.new hV5
      have hpV : V5.heap.size = p7 + 1 := by rw [hV5, hp7]; simp
      have HT5 := Lib.hid ((HT4.out.later hb5).later hbV)
      have HB5 : Hid (Below w.heap.size w V5) := (HB4.out.trans (hb5.mono HB4.out.size)).trans (hbV.mono (HB4.out.trans (hb5.mono HB4.out.size)).size)
      have hv15 : v1.heap.size ≤ V5.heap.size := Nat.le_of_lt (Nat.lt_of_le_of_lt HT5.out.lo_.1 HT5.out.lo_.2)
      have HOP := Lib.hid (opens_any (P := fun b => b ≠ p7) HT5.out hv15 HOK.out (by rw [HCP.out]; omega) ((hr5.mono fun b hb hl => ⟨hb.1, hb.2, by omega⟩).later hbV) (fun b hb => by omega) ((HR.out.below HB5.out).more hw1) (show nb ≤ 60000 by omega))
      have HBX := Lib.hid hbx
      have HV5 := Lib.hid hV5
      have HP7 := Lib.hid hp7
      unfold docV at HOP ⊢
      have k0 := hbx.c0
      have k1 := hbx.c1
      have k2 := hbx.c2
      have k3 := hbx.c3
      have k4 := hbx.c4
      clear hl5 hr5 hb5 hV5 hp7 hbV hbx HRR
      go_wp2_with fail
      rw [← HV5.out]
      try rw [← HP7.out]
      refine HOP.out.mono ?_
      rintro e v6 ⟨s9, jp, A6, n6, c6, N6, ob6, rfl, h⟩
      have HO := Lib.hid h
      obtain ⟨V6, hV6⟩ : ∃ V, V = v6.alloc (.cells #[.int .i64 s9.cap, .slice A6 n6 c6, .int .i64 s9.sf, .int .i64 s9.fu, .bool s9.lo, .int .i64 N6] 35) := ⟨_, rfl⟩
      obtain ⟨p10, hp10⟩ : ∃ p, p = v6.heap.size := ⟨_, rfl⟩
      have hbV6 : Below v6.heap.size v6 V6 := by rw [hV6]; exact (Below.refl _ _).alloc (Nat.le_refl _) _
      have HX6 : Hid (BoxJ V6 p10 s9 A6 n6 c6 N6) := by unfold Hid; rw [hp10]; exact BoxJ.new hV6
      have HT6 := Lib.hid (h.tp.later hbV6)
      have HK6 := Lib.hid (h.rk.later hbV6)
      have HB6 : Hid (Below w.heap.size w V6) := by
        have h1 := HB5.out.trans ((h.two.below HT5.out.lo_.1 (fun b hb => (HT5.out.obl b hb).1) hv15).mono hw1)
        exact h1.trans (hbV6.mono h1.size)
      have HV6 := Lib.hid hV6
      have HP10 := Lib.hid hp10
      have hv16 : v1.heap.size ≤ V6.heap.size := Nat.le_of_lt (Nat.lt_of_le_of_lt HT6.out.lo_.1 HT6.out.lo_.2)
      unfold docJ
      clear k0 k1 k2 k3 k4 h hV6 hp10 hbV6 HOP
      rcases jp with _ | p
      · have hbs := (HO.out.none_ rfl).2
        obtain ⟨A7, n7, c7, fb7, ah7, hta7, hob7⟩ := HT6.out
        obtain rfl : n7 = n1 := by rw [← HSL.out, ← hbs]; exact hta7.len.symm
        have HLN := Lib.hid (len_any hta7)
        clear hbs hta7 hob7
        go_wp2_with fail
        try rw [← HV6.out]
        refine HLN.out.mono ?_
        rintro e v7 ⟨rfl, rfl⟩
        go_wp2_with fail
        go_ret
        exact ⟨by first | rfl | simp, HB6.out⟩
      · have HOP := Lib.hid (opens_any (P := fun _ => True) (b := []) HT6.out hv16 HO.out.good (by rw [HO.out.cap, HCP.out]; omega) (HK6.out.mono fun b hb _ => ⟨hb.1, hb.2.1, trivial⟩) (fun _ _ => trivial) (show Rd V6 v1.heap.size 1 none 0 0 (u8s []) from Rd.nil _) (by omega))
        unfold docV at HOP
        have k0 := HX6.out.c0
        have k1 := HX6.out.c1
        have k2 := HX6.out.c2
        have k3 := HX6.out.c3
        have k4 := HX6.out.c4
        have k5 := HX6.out.c5
        go_wp2_with fail
        try rw [← HV6.out]
        try rw [← HP10.out]
        refine HOP.out.mono ?_
        rintro e v7 ⟨s8, jp8, A8, n8, c8, N8, ob8, rfl, h8⟩
        have HB7 : Hid (Below w.heap.size w v7) := HB6.out.trans ((h8.two.below HT6.out.lo_.1 (fun b hb => (HT6.out.obl b hb).1) hv16).mono hw1)
        unfold docJ
        clear h8 HOP k0 k1 k2 k3 k4 k5
        go_wp2_with fail
        go_ret
        exact ⟨by first | rfl | simp, HB7.out⟩
set_option maxRecDepth 100000 in
theorem lifted (os : Os) (started : os.Started) (H : Type) (enc : TypeId × Value → H) :
    ReturnsInHanded {} Try.checked os 4 .any (Rows.journalRawSpec.pre6 enc Try.prog Try.f4 Rows.journalRawRow.domain false) (Rows.journalRawSpec.post enc Try.prog Try.f4 false true false false) := by
  refine returnsInHanded_of_change (C := Try.checked) own started (by kernel_rfl) Try.func4
    (ChangeSpec.witness6 (enc := enc) (C := Try.checked) false ⟨#[], #[.slice none 0 0, .slice none 0 0], []⟩ 8 (by kernel_rfl) (by kernel_rfl) (by kernel_rfl) (by kernel_rfl)) ?_
  intro W base args ds gs before hval0 hW _ _
  have hval : ∀ (j : Nat) t v, Try.f4.params[j]? = some t → args[j]? = some v → Value.okWide Try.prog W .any base t v := hval0
  have hW' := hW
  obtain ⟨p, q, hA0, hV, rfl, hfz, hnd⟩ := hW
  have hA : DataW.TrodAll enc Try.prog W 0 (fun _ => true) true Try.f4.params.toList args.toList ds p := hA0
  rw [Try.params4] at hA hval
  obtain ⟨v0, v1, d0, d1, p0, p1, rfl, rfl, rfl, h0, h1⟩ := trodAll_two hA
  obtain ⟨rfl, rfl⟩ := trodVars_none hV
  obtain ⟨a0, len0, cap0, rfl⟩ := okWide_slice Try.underlying23 (hval 0 23 v0 rfl rfl)
  obtain ⟨fuel0, hf0⟩ := h0
  obtain ⟨bs0, rfl, hr0, _⟩ := By.bytes_of_trod hf0
  obtain ⟨a1, len1, cap1, rfl⟩ := okWide_slice Try.underlying23 (hval 1 23 v1 rfl rfl)
  obtain ⟨fuel1, hf1⟩ := h1
  obtain ⟨bs1, rfl, hr1, _⟩ := By.bytes_of_trod hf1
  refine (walk_any bs0 a0 cap0 bs1 a1 cap1 W hr0 hr1).mono fun e W' ⟨he, hb⟩ => ?_
  subst he
  exact ⟨_, rfl, law_post hW' (by kernel_rfl) rfl rfl rfl hb⟩
theorem proved : Rows.JournalRawSaid :=
  OpenClaim.holds_of_wide 4 Try.f4 rfl rfl rfl rfl rfl rfl rfl ⟨rfl, rfl, rfl, rfl, rfl⟩ rfl rfl rfl rfl rfl (by kernel_rfl) Try.func4 (by kernel_rfl)
    (of_decide_eq_true (by kernel_rfl)) (by unfold Func.isWrapper; first | (rw [if_pos (by decide +kernel)]; kernel_rfl) | (rw [if_neg (by decide +kernel)]; exact ⟨rfl, rfl⟩))
    (fun os started H enc _ => lifted os started H enc)
#print axioms proved
end lawJournalRaw
end Go.Proofs.Ytcffbgehopjgpaa
