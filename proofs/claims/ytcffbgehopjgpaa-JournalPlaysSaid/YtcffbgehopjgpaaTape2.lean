/- Layer 17: package tape: New, Read, Append, Sync, Replace, Fuse, Clone. -/
import Derived.Test.YtcffbgehopjgpaaTape1
namespace Go.Proofs.Ytcffbgehopjgpaa
open Go.ChangeShapes Go.WideShapes Go.ChangeAt Go.RowKit
namespace Tpe
open By
set_option maxRecDepth 100000
set_option maxHeartbeats 1000000
def newS (cap : Int) : S := ⟨cap, [], 0, -1, false⟩
theorem new_any (cap : Int) (w : World) (hc : 0 ≤ cap ∧ cap ≤ 1048576) :
    Calls Try.prog 9 #[.int .i64 cap] w fun e w' => ∃ g, e = .returned (.tuple #[.pointer (some ⟨g, 0, none⟩), .int .i64 0]) ∧ Tp w' w.heap.size g none (newS cap) ∧ Below w.heap.size w w' := by
  have h1 : decide (cap < 0) = false := decide_eq_false (by omega)
  have h2 : decide ((1048576 : Int) < cap) = false := decide_eq_false (by omega)
  go_enter Try.func9, Try.ntmps9
  go_wp2
  go_ret2
  refine ⟨w.heap.size, rfl, ⟨none, 0, 0, false, 0, ⟨?_, ?_, ?_, ?_, ?_, ?_, fun j => ?_, ⟨Nat.le_refl _, by simp⟩, World.ownsRow_nil _ _ _ _, by simp [Value.ownBlock], rfl, .inr ⟨rfl, rfl, rfl⟩⟩, rfl⟩, (Below.refl _ _).alloc (Nat.le_refl _) _⟩ <;> (try unfold newS) <;> go_simp
theorem new_bad (cap : Int) (w : World) (hc : ¬ (0 ≤ cap ∧ cap ≤ 1048576)) :
    Calls Try.prog 9 #[.int .i64 cap] w fun e w' => e = .returned (.tuple #[.pointer none, .int .i64 1]) ∧ w = w' := by
  by_cases h : cap < 0
  · have h1 : decide (cap < 0) = true := decide_eq_true h
    go_enter Try.func9, Try.ntmps9
    go_wp2
    go_ret2
    exact ⟨rfl, rfl⟩
  · have h1 : decide (cap < 0) = false := decide_eq_false h
    have h2 : decide ((1048576 : Int) < cap) = true := decide_eq_true (by omega)
    go_enter Try.func9, Try.ntmps9
    go_wp2
    go_ret2
    exact ⟨rfl, rfl⟩
section
variable {w : World} {lo g n c : Nat} {s : S} {A : Option Addr} {fb : Bool} {ah : Int}
theorem read_ok (h : TpAt w lo g s A n c fb ah) (hl : s.lo = false) (hn : n ≤ 70000) :
    Calls Try.prog 38 #[.pointer (some ⟨g, 0, none⟩)] w fun e w' => ∃ A' c', e = .returned (.tuple #[.slice A' n c', .int .i64 0]) ∧ Own w' w.heap.size 5 1 A' n c' (u8s s.bs) ∧ Below w.heap.size w w' := by
  have H := Lib.hid h
  have c1 := h.c1
  have c5 := h.c5
  rw [hl] at c5
  clear h hl
  go_enter Try.func38, Try.ntmps38
  go_wp2_with fail
  refine (check_any false w g c5).mono ?_
  rintro e v1 ⟨rfl, rfl⟩
  go_wp2_with fail
  refine (clone_any n _ A c w (by omega) H.out.rd).mono ?_
  unfold NewRow
  rintro e v2 ⟨A', c', rfl, ho, hb⟩
  have HO := Lib.hid ho
  have HB := Lib.hid hb
  clear ho hb
  go_wp2_with fail
  go_ret2
  exact ⟨A', c', rfl, HO.out, HB.out⟩
theorem read_lost (h : TpAt w lo g s A n c fb ah) (hl : s.lo = true) :
    Calls Try.prog 38 #[.pointer (some ⟨g, 0, none⟩)] w fun e w' => e = .returned (.tuple #[.slice none 0 0, .int .i64 9]) ∧ w = w' := by
  have c5 := h.c5
  rw [hl] at c5
  clear h hl
  go_enter Try.func38, Try.ntmps38
  go_wp2_with fail
  refine (check_any true w g c5).mono ?_
  rintro e v1 ⟨rfl, rfl⟩
  go_wp2_with fail
  go_ret2
  exact ⟨rfl, rfl⟩
/-- Sync -/
theorem sync_any (h : TpAt w lo g s A n c fb ah) (hr : s.fu ≤ 9223372036854775807) :
    Calls Try.prog 32 #[.pointer (some ⟨g, 0, none⟩)] w fun e w' => e = .returned (.int .i64 (syn s).2) ∧ Did w lo g (Value.slice A n c).ownBlock (syn s).1 w' := by
  obtain ⟨cap, bs, sf, fu, lz⟩ := s
  have c5 := h.c5
  dsimp only at c5 hr
  cases lz with
  | true =>
    have H := Lib.hid h
    clear h
    go_enter Try.func32, Try.ntmps32
    go_wp2_with fail
    refine (check_any true w g c5).mono ?_
    rintro e v1 ⟨rfl, rfl⟩
    go_wp2_with fail
    go_ret
    exact ⟨rfl, _, ⟨_, _, _, _, _, H.out, rfl⟩, Two.refl _ _ _, Fresh.refl _ _⟩
  | false =>
    by_cases hf : fu = 0
    · subst hf
      have H := Lib.hid h
      clear h hr
      go_enter Try.func32, Try.ntmps32
      go_wp2_with fail
      refine (check_any false w g c5).mono ?_
      rintro e v1 ⟨rfl, rfl⟩
      go_wp2_with fail
      refine (burn_lost H.out).mono ?_
      rintro e v1 ⟨rfl, ⟨ah', h1⟩, ht⟩
      have H1 := Lib.hid h1
      have HT := Lib.hid ht
      clear h1 ht
      go_wp2_with fail
      go_ret
      exact ⟨rfl, _, ⟨_, _, _, _, _, H1.out, rfl⟩, HT.out.none_, Fresh.refl _ _⟩
    · have H := Lib.hid h
      have HF := Lib.hid hf
      have HR := Lib.hid hr
      clear h hr
      go_enter Try.func32, Try.ntmps32
      go_wp2_with fail
      refine (check_any false w g c5).mono ?_
      rintro e v1 ⟨rfl, rfl⟩
      go_wp2_with fail
      refine (burn_ok H.out HF.out HR.out).mono ?_
      rintro e v1 ⟨rfl, ⟨ah', h1⟩, ht⟩
      have H1 := Lib.hid h1
      have HT := Lib.hid ht
      have k1 := h1.c1
      have k2 := h1.c2
      have m2 := h1.free 2
      clear h1 ht hf c5
      go_wp2_with fail
      go_ret
      have hw : Two g none v1 (v1.setCell ⟨g, 2, none⟩ (.int .i64 n)) := (Two.refl g none v1).setCell 2 _
      have e1 : syn ⟨cap, bs, sf, fu, false⟩ = (⟨cap, bs, bs.length, less fu, false⟩, 0) := by unfold syn; simp [HF.out]
      have hp := H1.out.put2 n
      have hlen : bs.length = n := H1.out.len
      dsimp only at hp
      rw [e1, hlen]
      exact ⟨rfl, _, ⟨_, _, _, _, _, hp, rfl⟩, (HT.out.trans (.inl rfl) hw).none_, Fresh.refl _ _⟩
/-- Fuse -/
theorem fuse_any (k : Int) (h : TpAt w lo g s A n c fb ah) (_ : -9223372036854775808 ≤ k ∧ k ≤ 9223372036854775807) :
    Calls Try.prog 17 #[.pointer (some ⟨g, 0, none⟩), .int .i64 k] w fun e w' => e = .returned (.int .i64 (arm s k).2) ∧ Did w lo g (Value.slice A n c).ownBlock (arm s k).1 w' := by
  obtain ⟨cap, bs, sf, fu, lz⟩ := s
  have c5 := h.c5
  dsimp only at c5
  cases lz with
  | true =>
    have H := Lib.hid h
    clear h
    go_enter Try.func17, Try.ntmps17
    go_wp2_with fail
    refine (check_any true w g c5).mono ?_
    rintro e v1 ⟨rfl, rfl⟩
    go_wp2_with fail
    go_ret
    exact ⟨rfl, _, ⟨_, _, _, _, _, H.out, rfl⟩, Two.refl _ _ _, Fresh.refl _ _⟩
  | false =>
    by_cases hf : k < 0
    · have H := Lib.hid h
      have e1 : arm ⟨cap, bs, sf, fu, false⟩ k = (⟨cap, bs, sf, fu, false⟩, 1) := by unfold arm; simp [hf]
      have h1 : decide (k < 0) = true := decide_eq_true hf
      rw [e1]
      clear h e1
      go_enter Try.func17, Try.ntmps17
      go_wp2_with fail
      refine (check_any false w g c5).mono ?_
      rintro e v1 ⟨rfl, rfl⟩
      go_wp2_with fail
      go_ret
      exact ⟨rfl, _, ⟨_, _, _, _, _, H.out, rfl⟩, Two.refl _ _ _, Fresh.refl _ _⟩
    · have H := Lib.hid h
      have e1 : arm ⟨cap, bs, sf, fu, false⟩ k = (⟨cap, bs, sf, k, false⟩, 0) := by unfold arm; simp [hf]
      have h1 : decide (k < 0) = false := decide_eq_false hf
      rw [e1]
      have k3 := h.c3
      have k4 := h.c4
      have hfr := h.free
      have m3 := hfr 3
      have m4 := hfr 4
      have k0 := h.c0
      have k1 := h.c1
      have k2 := h.c2
      dsimp only at k0 k2
      clear h e1
      go_enter Try.func17, Try.ntmps17
      go_wp2_with fail
      refine (check_any false w g c5).mono ?_
      rintro e v1 ⟨rfl, rfl⟩
      go_wp2_with fail
      go_ret
      have ht : Two g none w ((w.setCell ⟨g, 3, none⟩ (.bool true)).setCell ⟨g, 4, none⟩ (.int .i64 k)) := ((Two.refl g none w).setCell 3 _).setCell 4 _
      exact ⟨rfl, _, ⟨A, n, c, true, k, ⟨by go_simp, by go_simp, by go_simp, by go_simp, by go_simp, by go_simp, fun j => by have := hfr j; go_simp, ⟨H.out.lo_.1, Nat.lt_of_lt_of_le H.out.lo_.2 ht.size⟩, H.out.own2 ht, H.out.ne, H.out.len, .inl ⟨rfl, by dsimp only; omega, rfl⟩⟩, rfl⟩, ht.none_, Fresh.refl _ _⟩
/-- Append -/
theorem append_any {b : List UInt8} {Ab : Option Addr} {nb cb : Nat} (h : TpAt w lo g s A n c fb ah) (hlo : lo ≤ w.heap.size) (hcap : 0 ≤ s.cap ∧ s.cap ≤ 1048576) (hr : s.fu ≤ 9223372036854775807) (hn : n ≤ 70000) (hb : Rd w w.heap.size 1 Ab nb cb (u8s b)) (hnb : nb ≤ 70000) :
    Calls Try.prog 31 #[.pointer (some ⟨g, 0, none⟩), .slice Ab nb cb] w fun e w' => e = .returned (.int .i64 (app s b).2) ∧ Did w lo g (Value.slice A n c).ownBlock (app s b).1 w' := by
  obtain ⟨cap, bs, sf, fu, lz⟩ := s
  have c5 := h.c5
  have k0 := h.c0
  have k1 := h.c1
  have hlb : b.length = nb := len8 hb
  have hls : bs.length = n := h.len
  dsimp only at c5 hcap hr k0
  cases lz with
  | true =>
    have H := Lib.hid h
    clear h hb
    go_enter Try.func31, Try.ntmps31
    go_wp2_with fail
    refine (check_any true w g c5).mono ?_
    rintro e v1 ⟨rfl, rfl⟩
    go_wp2_with fail
    go_ret
    exact ⟨rfl, _, ⟨_, _, _, _, _, H.out, rfl⟩, Two.refl _ _ _, Fresh.refl _ _⟩
  | false =>
    by_cases hf : cap - (n : Int) < nb
    · have H := Lib.hid h
      have e1 : app ⟨cap, bs, sf, fu, false⟩ b = (⟨cap, bs, sf, fu, false⟩, 4) := by unfold app; dsimp only; rw [hls, hlb]; simp [hf]
      have h1 : decide (cap - (n : Int) < (nb : Int)) = true := decide_eq_true hf
      rw [e1]
      clear h e1 hb hls hlb
      go_enter Try.func31, Try.ntmps31
      go_wp2_with fail
      refine (check_any false w g c5).mono ?_
      rintro e v1 ⟨rfl, rfl⟩
      go_wp2_with fail
      go_quiet (fail)
      go_wp2_with fail
      go_ret
      exact ⟨rfl, _, ⟨_, _, _, _, _, H.out.drewN _, rfl⟩, two_drewN _ _ _ _, Fresh.refl _ _⟩
    · have H := Lib.hid h
      have e1 : app ⟨cap, bs, sf, fu, false⟩ b = if fu = 0 then (⟨cap, bs ++ b, sf, 0, true⟩, 9) else (⟨cap, bs ++ b, sf, less fu, false⟩, 0) := by unfold app; dsimp only; rw [hls, hlb]; simp [hf]
      have h1 : decide (cap - (n : Int) < (nb : Int)) = false := decide_eq_false hf
      rw [e1]
      have HB := Lib.hid hb
      have HR := Lib.hid hr
      clear h e1 hb hr hls hlb
      go_enter Try.func31, Try.ntmps31
      go_wp2_with fail
      refine (check_any false w g c5).mono ?_
      rintro e v1 ⟨rfl, rfl⟩
      go_wp2_with fail
      go_quiet (fail)
      obtain ⟨v, hv⟩ : ∃ v, v = w.drewN nq := ⟨_, rfl⟩
      have hvw : Below w.heap.size w v := by rw [hv]; exact bel_drewN (Below.refl _ _) _
      rw [← hv]
      have H2 := H.out.later hvw
      have HB2 := HB.out.later hvw
      have k0 := H2.c0
      have k1 := H2.c1
      have k2 := H2.c2
      have k3 := H2.c3
      have k4 := H2.c4
      have k5 := H2.c5
      obtain ⟨i0, hi0, hz0, hz1, hz2⟩ := info_parts8
      obtain ⟨v', w', hrun, hown, hgr, hat⟩ := run_app (P := Try.prog) v lo 23 23 5 i0 _ 1 1 Try.underlying23 hi0 hz0 hz1 hz2 rfl (by omega) H2.own HB2 (by omega) (by omega) (Nat.le_trans hlo hvw.size)
      rw [← u8s_append] at hown
      obtain ⟨A', c', rfl, ho⟩ := Own.of_row hown (u8s_one _)
      have hgv : g < v.heap.size := H2.lo_.2
      have hne : (Value.slice A' (n + nb) c').ownBlock ≠ some g := by
        rcases hat with h | h
        · rw [h]; exact H2.ne
        · rw [h]; intro e; injection e with e; omega
      have hfr : Fresh (Value.slice A n c).ownBlock (Value.slice A' (n + nb) c').ownBlock w := by
        rcases hat with h | h
        · exact .inr (.inl h)
        · exact .inr (.inr ⟨_, h, hvw.size⟩)
      have hp := H2.put1 hgr ho.row hne
      have ht := (Two.of_below (a := g) (g := (Value.slice A n c).ownBlock) hvw).trans (Fresh.refl _ _) (two_put1 (g := g) (A' := A') (n' := n + nb) (c' := c') hgr)
      have t0 : Two (g + 1 + w'.heap.size) (Value.slice A n c).ownBlock v w' := Two.of_grown hgr
      have hn0 : g ≠ g + 1 + w'.heap.size := by omega
      have hn1 : some g ≠ (Value.slice A n c).ownBlock := fun e => H2.ne e.symm
      have x1 := (t0.cell (p := ⟨g, 1, none⟩) hgv hn0 hn1).trans k1
      have m1 : w'.frozen? ⟨g, 1, none⟩ = false := (t0.frozen (p := ⟨g, 1, none⟩) hgv hn0 hn1).trans (H2.free 1)
      obtain ⟨W, hW⟩ : ∃ W, W = w'.setCell ⟨g, 1, none⟩ (.slice A' (n + nb) c') := ⟨_, rfl⟩
      rw [← hW] at hp ht
      dsimp only at hp
      have HP := Lib.hid hp
      have HT := Lib.hid ht
      have HFR := Lib.hid hfr
      have HRUN := Lib.hid hrun
      have HW := Lib.hid hW
      clear hp ht hfr hrun hW t0 hn0 hn1 hne ho hown hgr hat hv H2 HB2 hvw hi0 hz0 hz1 hz2 hgv k0 k2 k3 k4 k5
      go_wp2_with (at_builtin; refine Lib.wpList_append_run _ rfl _ _ _ _ rfl _ _ rfl rfl _ _ HRUN.out ?_)
      rw [← HW.out]
      clear k1 x1 m1
      by_cases h0 : fu = 0
      · subst h0
        refine (burn_lost HP.out).mono ?_
        rintro e v1 ⟨rfl, ⟨ah', h2⟩, ht2⟩
        have H3 := Lib.hid h2
        have HT2 := Lib.hid ht2
        clear h2 ht2
        go_wp2_with fail
        go_ret
        exact ⟨rfl, _, ⟨_, _, _, _, _, H3.out, rfl⟩, HT.out.trans HFR.out HT2.out.none_, HFR.out⟩
      · have H0 := Lib.hid h0
        refine (burn_ok HP.out H0.out HR.out).mono ?_
        rintro e v1 ⟨rfl, ⟨ah', h2⟩, ht2⟩
        have H3 := Lib.hid h2
        have HT2 := Lib.hid ht2
        clear h2 ht2 h0
        go_wp2_with fail
        go_ret
        try rw [if_neg H0.out]
        exact ⟨rfl, _, ⟨_, _, _, _, _, H3.out, rfl⟩, HT.out.trans HFR.out HT2.out.none_, HFR.out⟩
/-- Replace -/
theorem replace_any {b : List UInt8} {Ab : Option Addr} {nb cb : Nat} (h : TpAt w lo g s A n c fb ah) (hlo : lo ≤ w.heap.size) (hcap : 0 ≤ s.cap ∧ s.cap ≤ 1048576) (hr : s.fu ≤ 9223372036854775807) (hb : Rk w (fun x => x ≠ g) Ab nb cb b) (hnb : nb ≤ 70000) :
    Calls Try.prog 22 #[.pointer (some ⟨g, 0, none⟩), .slice Ab nb cb] w fun e w' => e = .returned (.int .i64 (rep s b).2) ∧ Did w lo g (Value.slice A n c).ownBlock (rep s b).1 w' := by
  obtain ⟨cap, bs, sf, fu, lz⟩ := s
  have c5 := h.c5
  have k0 := h.c0
  have hlb : b.length = nb := hb.len
  dsimp only at c5 hcap hr k0
  cases lz with
  | true =>
    have H := Lib.hid h
    clear h hb
    go_enter Try.func22, Try.ntmps22
    go_wp2_with fail
    refine (check_any true w g c5).mono ?_
    rintro e v1 ⟨rfl, rfl⟩
    go_wp2_with fail
    go_ret
    exact ⟨rfl, _, ⟨_, _, _, _, _, H.out, rfl⟩, Two.refl _ _ _, Fresh.refl _ _⟩
  | false =>
    by_cases hf : cap < nb
    · have H := Lib.hid h
      have e1 : rep ⟨cap, bs, sf, fu, false⟩ b = (⟨cap, bs, sf, fu, false⟩, 4) := by unfold rep; dsimp only; rw [hlb]; simp [hf]
      have h1 : decide (cap < (nb : Int)) = true := decide_eq_true hf
      rw [e1]
      clear h e1 hb hlb
      go_enter Try.func22, Try.ntmps22
      go_wp2_with fail
      refine (check_any false w g c5).mono ?_
      rintro e v1 ⟨rfl, rfl⟩
      go_wp2_with fail
      go_ret
      exact ⟨rfl, _, ⟨_, _, _, _, _, H.out, rfl⟩, Two.refl _ _ _, Fresh.refl _ _⟩
    have h1 : decide (cap < (nb : Int)) = false := decide_eq_false hf
    by_cases hf0 : fu = 0
    · subst hf0
      have e1 : rep ⟨cap, bs, sf, 0, false⟩ b = (⟨cap, bs, sf, 0, true⟩, 9) := by unfold rep; dsimp only; rw [hlb]; simp [hf]
      have H := Lib.hid h
      rw [e1]
      clear h e1 hb hlb hr
      go_enter Try.func22, Try.ntmps22
      go_wp2_with fail
      refine (check_any false w g c5).mono ?_
      rintro e v1 ⟨rfl, rfl⟩
      go_wp2_with fail
      refine (burn_lost H.out).mono ?_
      rintro e v1 ⟨rfl, ⟨ah', h2⟩, ht⟩
      have H1 := Lib.hid h2
      have HT := Lib.hid ht
      clear h2 ht
      go_wp2_with fail
      go_ret
      exact ⟨rfl, _, ⟨_, _, _, _, _, H1.out, rfl⟩, HT.out.none_, Fresh.refl _ _⟩
    · have e1 : rep ⟨cap, bs, sf, fu, false⟩ b = (⟨cap, b, nb, less fu, false⟩, 0) := by unfold rep; dsimp only; rw [hlb]; simp [hf, hf0]
      have H := Lib.hid h
      have HB := Lib.hid hb
      have HF := Lib.hid hf0
      have HR := Lib.hid hr
      have HNE := Lib.hid h.ne
      rw [e1]
      clear h e1 hb hlb hr hf0
      go_enter Try.func22, Try.ntmps22
      go_wp2_with fail
      refine (check_any false w g c5).mono ?_
      rintro e v1 ⟨rfl, rfl⟩
      go_wp2_with fail
      refine (burn_ok H.out HF.out HR.out).mono ?_
      rintro e v1 ⟨rfl, ⟨ah', h2⟩, ht⟩
      have hrd := (HB.out.two ht fun x hx _ => ⟨hx, by simp⟩).rd
      have H2 := Lib.hid h2
      have HT := Lib.hid ht
      have hgv : g < v1.heap.size := h2.lo_.2
      clear h2 ht
      go_wp2_with fail
      refine (clone_any nb _ Ab cb v1 (by omega) hrd).mono ?_
      unfold NewRow
      rintro e v2 ⟨A', c', rfl, ho, hb9⟩
      have hne : (Value.slice A' nb c').ownBlock ≠ some g := fun e => by have := (ownBlock_lt ho.row e).1; omega
      have hlo9 : lo ≤ v1.heap.size := Nat.le_trans hlo HT.out.size
      have hp := H2.out.put1 (grown_of hb9) (ho.mono hlo9).row hne
      have hp2 := hp.put2 nb
      have ht1 : Two g (Value.slice A n c).ownBlock w ((v2.setCell ⟨g, 1, none⟩ (.slice A' nb c')).setCell ⟨g, 2, none⟩ (.int .i64 nb)) := HT.out.none_.trans (Fresh.refl _ _) ((two_put1 (ob := (Value.slice A n c).ownBlock) (grown_of hb9)).setCell 2 _)
      have hfr : Fresh (Value.slice A n c).ownBlock (Value.slice A' nb c').ownBlock w := by
        cases hA : (Value.slice A' nb c').ownBlock with
        | none => exact .inl rfl
        | some x => exact .inr (.inr ⟨x, rfl, by have h8 := (ownBlock_lt ho.row hA).1; have h9 := HT.out.size; omega⟩)
      have x1 := (hb9.cell (p := ⟨g, 1, none⟩) hgv).trans H2.out.c1
      have x2 := (hb9.cell (p := ⟨g, 2, none⟩) hgv).trans H2.out.c2
      have m1 : v2.frozen? ⟨g, 1, none⟩ = false := (hb9.frozen (p := ⟨g, 1, none⟩) hgv).trans (H2.out.free 1)
      have m2 : v2.frozen? ⟨g, 2, none⟩ = false := (hb9.frozen (p := ⟨g, 2, none⟩) hgv).trans (H2.out.free 2)
      dsimp only at hp2
      have HP := Lib.hid hp2
      have HT1 := Lib.hid ht1
      have HFR := Lib.hid hfr
      clear hp hp2 ht1 hfr hne hlo9 ho hb9 hrd
      go_wp2_with fail
      go_ret
      exact ⟨rfl, _, ⟨_, _, _, _, _, HP.out, rfl⟩, HT1.out, HFR.out⟩
end
end Tpe
end Go.Proofs.Ytcffbgehopjgpaa
