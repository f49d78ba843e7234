/- A text's bytes from the last one to the first one; the laws' first question of layer 3. -/
import Derived.Test.YtmgcodagheeedaaCrcRef
import Derived.Test.YtmgcodagheeedaaBytesMem
import Derived.Lib.SlBytesConst
namespace Go.Proofs.Ytmgcodagheeedaa
open Go.RowKit
namespace Crc
set_option maxRecDepth 100000 in
set_option maxHeartbeats 400000 in
theorem back_any (s : ByteArray) (w : World) (hn : s.size ≤ 800000) :
    Calls Try.prog 12 #[.string s] w (NewRow 5 1 (u8s s.data.toList.reverse) s.data.toList.reverse.length w) := by
  obtain ⟨bs, hbs⟩ : ∃ bs, bs = s.data.toList.reverse := ⟨_, rfl⟩
  have hl : bs.length = s.size := by rw [hbs]; simp
  have hg : ∀ i (h : i < bs.length) (h2 : s.size - 1 - i < s.size), bs[i] = s[s.size - 1 - i] := by
    intro i h h2
    subst hbs
    rw [List.getElem_reverse]; simp; rfl
  rw [← hbs]
  have HL := Lib.hid hl
  have HG := Lib.hid hg
  clear hbs hl hg
  go_enter Try.func12, Try.ntmps12
  go_wp2
  go_loopw [3, 7] (fun v q wr => ∃ i : Nat, i ≤ s.size ∧ q = .int .i64 i ∧ wr.ownsRow w.heap.size 5 1 v (bs.take i).length (u8s (bs.take i)) ∧ Below w.heap.size w wr) (fun _ q _ => s.size - (intOf q).toNat)
  case atStart => exact ⟨0, Nat.zero_le _, rfl, World.ownsRow_nil _ _ _ _, Below.refl _ _⟩
  case round =>
    obtain ⟨i, hi, rfl, hown, hB⟩ := hrel
    by_cases hlt : i < s.size
    · have hib : i < bs.length := by rw [HL.out]; exact hlt
      obtain ⟨j, hj⟩ : ∃ j, j = s.size - 1 - i := ⟨_, rfl⟩
      have hjs : j < s.size := by omega
      have e1 : Hid ((s.size : Int) - 1 - i = (j : Int)) := by unfold Hid; omega
      have e1' := e1.out
      obtain ⟨acc, hacc⟩ : ∃ acc, acc = bs.take i := ⟨_, rfl⟩
      rw [← hacc] at hown
      have hal : acc.length ≤ 900000 := by rw [hacc]; simp; omega
      have hsn : Hid (bs.take (i + 1) = acc ++ [s[j]]) := by
        unfold Hid
        subst hj
        rw [List.take_succ_eq_append_getElem hib, hacc, HG.out i hib hjs]
      obtain ⟨v2, w4, hrun, hown2, hb4⟩ := By.run_push8 wr w.heap.size wr.heap.size rfl hB.size _ acc hown s[j] _ rfl hal
      have Hrun := Lib.hid hrun
      have HJ := Lib.hid hj
      clear hrun hj hacc
      go_wp2_with (at_builtin; refine Lib.wpList_append_run _ rfl _ _ _ _ rfl _ _ rfl rfl _ _ Hrun.out ?_)
      go_roundw
      case rel => exact ⟨i + 1, by omega, by go_num, by rw [hsn.out]; exact hown2, hB.trans hb4⟩
      case measure => simp [intOf]; omega
    · have ht : bs.take i = bs := List.take_of_length_le (by rw [HL.out]; omega)
      rw [ht] at hown
      obtain ⟨A2, c2, rfl, ho2⟩ := Own.of_row hown (u8s_one _)
      clear ht hown
      go_wp2
      go_ret
      exact ⟨A2, c2, rfl, ho2, hB⟩
theorem crc_first : crcN [49, 50, 51, 52, 53, 54, 55, 56, 57] = 3808858755 := by decide +kernel
def nine : Array Value := #[.int .u8 49, .int .u8 50, .int .u8 51, .int .u8 52, .int .u8 53, .int .u8 54, .int .u8 55, .int .u8 56, .int .u8 57]
/-- a new row whose cells are marked reads as it lies -/
theorem rd_marked (w : World) (C : Array Value) (t : TypeId) (f : Nat × Nat) (n : Nat) (hn : C.size = n) (h1 : ∀ u ∈ C.toList, u.oneCell' = true) : Rd (w.alloc (.cells C t f)) (w.alloc (.cells C t f)).heap.size 1 (some ⟨w.heap.size, 0, none⟩) n n C.toList :=
  ⟨by simp [hn], Nat.le_refl _, h1, fun _ => ⟨_, _, rfl, by simp, fun j u hu => by
    rw [Nat.zero_add, cell_of_row _ _ j _ _ f (heap_alloc_new _ _)]
    simpa using hu⟩⟩
set_option maxRecDepth 100000 in
theorem awake_any (w : World) : Calls Try.prog 8 #[] w fun e w' => e = .returned (.bool true) ∧ Below w.heap.size w w' := by
  have kc := fun (w : World) (C : Array Value) (n c : Nat) => Lib.run_convert_bytes_const (P := Try.prog) w 22 5 C n c Try.underlying22 Try.underlying5
  have hr : Hid (Rd (w.alloc (.cells nine 5 (9, 10))) (w.alloc (.cells nine 5 (9, 10))).heap.size 1 (some ⟨w.heap.size, 0, none⟩) 9 9 (u8s [49, 50, 51, 52, 53, 54, 55, 56, 57])) := rd_marked w nine 5 (9, 10) 9 rfl (by decide)
  have hc := crc_first
  obtain ⟨z, hz⟩ : ∃ z, z = crcN [49, 50, 51, 52, 53, 54, 55, 56, 57] := ⟨_, rfl⟩
  have hq : ((z : Int) == 3808858755) = true := by rw [hz, hc]; rfl
  have HC := Lib.hid (crc_any [49, 50, 51, 52, 53, 54, 55, 56, 57] 9 _ 9 _ _ rfl (by omega) hr)
  rw [← hz] at HC
  clear hc hz hr
  go_enter Try.func8, Try.ntmps8
  go_wp2_with (go_at_call 9; refine HC.out.mono ?_; rintro e w' ⟨rfl, rfl⟩)
  go_ret
  exact ⟨rfl, (Below.refl _ _).alloc (Nat.le_refl _) _⟩
end Crc
end Go.Proofs.Ytmgcodagheeedaa
