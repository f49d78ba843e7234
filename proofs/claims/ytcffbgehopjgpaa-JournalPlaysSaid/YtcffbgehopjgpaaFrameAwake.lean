/- The laws' first question of layer 4. -/
import Derived.Test.YtcffbgehopjgpaaFrameOne
import Derived.Test.YtcffbgehopjgpaaByCut
import Derived.Lib.SlBytesConst
namespace Go.Proofs.Ytcffbgehopjgpaa
open Go.RowKit
namespace Frm
open Crc
theorem ab_at : (frm [97, 98])[4]? = some 97 := by
  rw [frm, head, List.getElem?_append_left (by decide)]
  rfl
/-- the contracts with letters for the lengths -/
theorem frame_to (bs : List UInt8) (n : Nat) (A : Option Addr) (c B : Nat) (w : World) (hl : bs.length = n) (hn : n ≤ 60000) (hr : Rd w B 1 A n c (u8s bs)) (hB : B ≤ w.heap.size) (x : List UInt8) (hx : frm bs = x) (m : Nat) (hm : n + 8 = m) :
    Calls Try.prog 30 #[.slice A n c] w fun e w' => ∃ A' c', e = .returned (.tuple #[.slice A' m c', .int .i64 0]) ∧ Own w' w.heap.size 5 1 A' m c' (u8s x) ∧ Below w.heap.size w w' := by
  subst hx
  have e : (frm bs).length = m := by rw [frm_len]; omega
  have := frame_any bs n A c B w hl hn hr hB
  unfold NewTup at this
  rw [e] at this
  exact this
theorem one_to (bs : List UInt8) (n : Nat) (A : Option Addr) (c : Nat) (w : World) (hl : bs.length = n) (hn : n ≤ 200000) (hr : Rd w w.heap.size 1 A n c (u8s bs)) (x : List UInt8) (hx : oneB bs = x) (m : Nat) (hm : x.length = m) (k : Nat) (hk : oneE bs = k) :
    Calls Try.prog 55 #[.slice A n c] w fun e w' => ∃ A' c', e = .returned (.tuple #[.slice A' m c', .int .i64 k]) ∧ Own w' w.heap.size 5 1 A' m c' (u8s x) ∧ Below w.heap.size w w' := by
  subst hx; subst hm; subst hk
  exact one_any bs n A c w hl hn hr
end Frm
end Go.Proofs.Ytcffbgehopjgpaa
