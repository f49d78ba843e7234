/- Layer 17: a program that does nothing answers wrongly. -/
import Derived.Test.YtccihdgdhlcghaaTape2
import Derived.Lib.SlBytesConst
namespace Go.Proofs.Ytccihdgdhlcghaa
open Go.ChangeShapes Go.WideShapes Go.ChangeAt Go.RowKit
namespace Tpe
open By
set_option maxRecDepth 100000
set_option maxHeartbeats 1000000
theorem awake_any (w : World) : Calls Try.prog 8 #[] w fun e w' => e = .returned (.bool true) ∧ Below w.heap.size w w' := by
  have kc := fun (w : World) (C : Array Value) (n c : Nat) => Lib.run_convert_bytes_const (P := Try.prog) w 29 5 C n c Try.underlying29 Try.underlying5
  go_enter Try.func8, Try.ntmps8
  go_wp2_with fail
  refine (new_any 10 w (by omega)).mono ?_
  rintro e v1 ⟨g, rfl, ⟨A, n, c, fb, ah, hT, hob⟩, hb⟩
  obtain ⟨V, hV⟩ : ∃ V, V = v1.alloc (.cells #[.int .u8 97, .int .u8 98] 5 (2, 3)) := ⟨_, rfl⟩
  obtain ⟨q, hq⟩ : ∃ q, q = v1.heap.size := ⟨_, rfl⟩
  have hbV : Below v1.heap.size v1 V := by rw [hV]; exact (Below.refl _ _).alloc (Nat.le_refl _) _
  have hrd : Rd V V.heap.size 1 (some ⟨q, 0, none⟩) 2 2 (u8s [97, 98]) := by
    rw [hV, hq]
    exact rd_mark v1 #[.int .u8 97, .int .u8 98] _ _ 2 rfl (by simp [Value.oneCell'])
  obtain rfl : n = 0 := by have := hT.len; exact this.symm
  have HT := Lib.hid (hT.later hbV)
  have HB := Lib.hid (hb.trans (hbV.mono hb.size))
  have hlo : w.heap.size ≤ V.heap.size := HB.out.size
  have HRD := Lib.hid hrd
  have HV := Lib.hid hV
  have HQ := Lib.hid hq
  have hap : app (newS 10) [97, 98] = (⟨10, [97, 98], 0, -1, false⟩, 0) := by simp [app, newS, less]
  have hgw : w.heap.size ≤ g := hT.lo_.1
  have HOB := Lib.hid hob
  clear hT hb hbV hrd hV hq hob
  go_wp2_with fail
  rw [← HV.out]
  try rw [← HQ.out]
  refine (append_any HT.out hlo (by unfold newS; dsimp only; omega) (by unfold newS; dsimp only; omega) (by omega) HRD.out (by omega)).mono ?_
  rw [hap]
  rintro e v2 ⟨rfl, hd⟩
  obtain ⟨ob', ⟨A2, n2, c2, fb2, ah2, hT2, _⟩, ht, _⟩ := hd
  have hn2 : n2 = 2 := by have := hT2.len; exact this.symm
  subst hn2
  have HT2 := Lib.hid hT2
  have HB2 : Hid (Below w.heap.size w v2) := HB.out.trans (ht.below hgw (fun k hk => (HT.out.obl hk).1) hlo)
  clear hT2 ht
  go_wp2_with fail
  refine (len_any HT2.out).mono ?_
  rintro e v3 ⟨rfl, rfl⟩
  go_wp2_with fail
  refine (safe_any HT2.out).mono ?_
  rintro e v3 ⟨rfl, rfl⟩
  go_wp2_with fail
  go_ret
  exact ⟨by first | rfl | simp, HB2.out⟩
end Tpe
end Go.Proofs.Ytccihdgdhlcghaa
