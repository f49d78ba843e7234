/- The laws' first question of layer 4. -/
import Derived.Test.YtgglpkkmehpjhaaFrameOne
import Derived.Test.YtgglpkkmehpjhaaByCut
import Derived.Lib.SlBytesConst
namespace Go.Proofs.Ytgglpkkmehpjhaa
open Go.RowKit
namespace Frm
open Crc
theorem ab_at : (frm [97, 98])[4]? = some 97 := by
  rw [frm, head, List.getElem?_append_left (by decide)]
  rfl
set_option maxRecDepth 100000 in
theorem awake_any (w : World) : Calls Try.prog 10 #[] w fun e w' => e = .returned (.bool true) ∧ Below w.heap.size w w' := by
  have kc := fun (w : World) (C : Array Value) (n c : Nat) => Lib.run_convert_bytes_const (P := Try.prog) w 22 5 C n c Try.underlying22 Try.underlying5
  obtain ⟨W1, hW1⟩ : ∃ W1, W1 = w.alloc (.cells #[.int .u8 97, .int .u8 98] 5 (2, 3)) := ⟨_, rfl⟩
  have hr : Rd W1 W1.heap.size 1 (some ⟨w.heap.size, 0, none⟩) 2 2 (u8s [97, 98]) := by
    rw [hW1]
    exact By.rd_mark w #[.int .u8 97, .int .u8 98] 5 (2, 3) 2 rfl (by decide)
  have hb1 : Below w.heap.size w W1 := by rw [hW1]; exact (Below.refl _ _).alloc (Nat.le_refl _) _
  have HC : Hid (Calls Try.prog 11 #[.slice (some ⟨w.heap.size, 0, none⟩) 2 2] W1 fun e w' => ∃ b c, e = .returned (.tuple #[.slice (some ⟨b, 0, none⟩) 10 c, .int .i64 0]) ∧ w'.cell? ⟨b, 4, none⟩ = some (.int .u8 97) ∧ Below w.heap.size w w') := by
    refine (frame_any [97, 98] 2 _ 2 _ W1 rfl (by omega) hr (Nat.le_refl _)).mono ?_
    rintro e w2 ⟨A2, c2, rfl, ho2, hb2⟩
    have hl : (frm [97, 98]).length = 10 := frm_len _
    obtain ⟨b, o, rfl, _, hc⟩ := ho2.rd.at_ (by omega)
    have ho0 : o = 0 := by
      rcases ho2.row.2 with ⟨h1, _⟩ | ⟨g, _, _, h1, _⟩
      · cases h1
      · injection h1 with h1; injection h1 with h1; injection h1
    subst ho0
    refine ⟨b, c2, by rw [hl], ?_, hb1.trans (hb2.mono hb1.size)⟩
    have h4 : 4 < (frm [97, 98]).length := by omega
    have := hc 4 _ (u8s_get _ 4 h4)
    rw [show (frm [97, 98])[4] = 97 from by have := ab_at; rw [List.getElem?_eq_getElem h4] at this; injection this] at this
    exact this
  rw [hW1] at HC
  clear hr hb1 hW1
  go_enter Try.func10, Try.ntmps10
  go_wp2_with (go_at_call 11; refine HC.out.mono ?_; rintro e w' ⟨b, c, rfl, k4, hb⟩)
  go_ret
  exact ⟨rfl, hb⟩
/-- the contracts with letters for the lengths -/
theorem frame_to (bs : List UInt8) (n : Nat) (A : Option Addr) (c B : Nat) (w : World) (hl : bs.length = n) (hn : n ≤ 60000) (hr : Rd w B 1 A n c (u8s bs)) (hB : B ≤ w.heap.size) (x : List UInt8) (hx : frm bs = x) (m : Nat) (hm : n + 8 = m) :
    Calls Try.prog 11 #[.slice A n c] w fun e w' => ∃ A' c', e = .returned (.tuple #[.slice A' m c', .int .i64 0]) ∧ Own w' w.heap.size 5 1 A' m c' (u8s x) ∧ Below w.heap.size w w' := by
  subst hx
  have e : (frm bs).length = m := by rw [frm_len]; omega
  have := frame_any bs n A c B w hl hn hr hB
  unfold NewTup at this
  rw [e] at this
  exact this
theorem one_to (bs : List UInt8) (n : Nat) (A : Option Addr) (c : Nat) (w : World) (hl : bs.length = n) (hn : n ≤ 200000) (hr : Rd w w.heap.size 1 A n c (u8s bs)) (x : List UInt8) (hx : oneB bs = x) (m : Nat) (hm : x.length = m) (k : Nat) (hk : oneE bs = k) :
    Calls Try.prog 15 #[.slice A n c] w fun e w' => ∃ A' c', e = .returned (.tuple #[.slice A' m c', .int .i64 k]) ∧ Own w' w.heap.size 5 1 A' m c' (u8s x) ∧ Below w.heap.size w w' := by
  subst hx; subst hm; subst hk
  exact one_any bs n A c w hl hn hr
end Frm
end Go.Proofs.Ytgglpkkmehpjhaa
