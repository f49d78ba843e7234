/- The library's range over a slice of texts, backward; whether all keys of a path may be. -/
import Derived.RangeFuncBox
import Derived.RangeFuncLeaves
import Derived.Shelf.Abstract
import Derived.WalkKit
import Derived.OwnWalkIn
import Derived.TacticsInMore
import Derived.LoopNIn
import Derived.LoopIn
import Derived.Test.YtbfcbfadfnaebaaTreeSeq
import Derived.Test.YtbfcbfadfnaebaaTreeOwn
import Derived.Test.YtbfcbfadfnaebaaTreeOne
namespace Go.Proofs.Ytbfcbfadfnaebaa
open Go.RowKit Go.Shelf
namespace Tr
open Sp Rw
attribute [local go_sem] Oper.semAt_some
/-- what a round keeps: all below n₀, and a box -/
def KpB (n₀ Bs : Nat) (W W' : World) : Prop := Below n₀ W W' ∧ W'.cell? ⟨Bs, 0, none⟩ = W.cell? ⟨Bs, 0, none⟩
theorem kpB_t {n₀ Bs : Nat} {A B C : World} (h : KpB n₀ Bs A B) (k : KpB n₀ Bs B C) : KpB n₀ Bs A C := ⟨h.1.trans k.1, k.2.trans h.2⟩
theorem kpB_b {n₀ Bs : Nat} {w : World} (hn : n₀ ≤ w.heap.size) (hb : Bs < w.heap.size) (W : World) (l : Nat) (o o' : Obj) (hl : w.heap.size ≤ l) (h : W.heap[l]? = some o) (hc : o.isCells = false) (hw : o.isWalk = false) : KpB n₀ Bs W (W.putObj l o') :=
  ⟨belowK_b hn W l o o' hl h hc hw, World.cell?_of_block (a := ⟨Bs, 0, none⟩) (World.putObj_heap_other (show Bs ≠ l by omega))⟩
/-- the texts from the last one on -/
def backOf (f : Nat → ByteArray) (len : Nat) (j : Nat) : Nat × ByteArray := (len - 1 - j, f (len - 1 - j))
set_option maxRecDepth 100000 in
set_option maxHeartbeats 2000000 in
theorem backward1_in (F : Fence) (n : Nat) (h7 : F.fn 71) (hro : F.round = none) (hn : 1 ≤ n) (l Bs n₀ len cap : Nat) (A : Option Addr) (f : Nat → ByteArray) (hreach : len ≤ 1000000) (J Jx : List (Nat × ByteArray) → World → Prop)
    (hY : ∀ pre x W, J pre W → pre.length < len → YieldAt F (n - 1) Try.prog l #[.int .i64 (x.1 : Int), .string x.2] W fun e W' =>
      (e = .returned (.bool true) ∧ J (pre ++ [x]) W' ∧ KpB n₀ Bs W W') ∨ (e = .returned (.bool false) ∧ Jx (pre ++ [x]) W'))
    (W : World) (hBs : W.cell? ⟨Bs, 0, none⟩ = some (.slice A len cap)) (hc : TextsAt n₀ W A len f) (h0 : J [] W) :
    CallsIn F n Try.prog 71 #[.func (.yield l) #[] #[], .pointer (some ⟨Bs, 0, none⟩)] W fun e W' => (∃ v, e = .returned v) ∧
      ((∃ ys, ys = upto (backOf f len) len ∧ J ys W') ∨ (∃ pre, (∃ k, k ≤ len ∧ pre = upto (backOf f len) k) ∧ Jx pre W')) := by
  have HC := Lib.hid hc
  have hw0 : IntKind.i64.wrap ((len : Int) - 1) = (len : Int) - 1 := by rw [IntKind.wrap_i64]; omega
  have hcell := hBs
  clear hc
  refine callsIn_of_wp Try.func71 rfl h7 ?_ hro
  simp only [Try.ntmps71, List.size_toArray, List.length_cons, List.length_nil, Nat.reduceAdd, Nat.reduceSub, Array.replicate_succ, Array.replicate_zero, List.push_toArray, List.append_toArray, List.nil_append, List.cons_append]
  gi_wp2
  gi_loopw [3] (fun i wr => ∃ k : Nat, k ≤ len ∧ i = .int .i64 ((len : Int) - 1 - k) ∧ J (upto (backOf f len) k) wr ∧ KpB n₀ Bs W wr)
    (fun i _ => (intOf i + 1).toNat)
  case atStart => exact ⟨0, Nat.zero_le _, by simp, h0, Below.refl _ _, rfl⟩
  case round =>
    obtain ⟨k, hk, rfl, hJs, hnx⟩ := hrel
    by_cases hlt : k < len
    · obtain ⟨m, hm⟩ : ∃ m : Nat, m + k + 1 = len := ⟨len - 1 - k, by omega⟩
      have hmi : (len : Int) - 1 - k = (m : Int) := by omega
      have hmn : len - 1 - k = m := by omega
      obtain ⟨b, o, rfl, hb, hcx⟩ := (HC.out.below hnx.1) m (by omega)
      have hbx := hnx.2.trans hcell
      rw [hmi]
      have f1 : decide ((0 : Int) ≤ (m : Int)) = true := decide_eq_true (by omega)
      have hml : (m : Int) < (len : Int) := by omega
      have hwm : IntKind.i64.wrap ((m : Int) - 1) = (m : Int) - 1 := by rw [IntKind.wrap_i64]; omega
      have HMM := Lib.hid hmi
      obtain ⟨fn, tmps, assign, body, hy, hR⟩ := hY _ (m, f m) wr hJs (by rw [upto_length]; exact hlt)
      dsimp only at hy
      have hup : upto (backOf f len) (k + 1) = upto (backOf f len) k ++ [(m, f m)] := by rw [upto_succ]; unfold backOf; rw [hmn]
      have HUP := Lib.hid hup
      clear hup hmi hmn hm
      gi_wp2
      refine hR.mono ?_
      rintro e W3 (⟨rfl, hJ3, hk3⟩ | ⟨rfl, hJx3⟩)
      · have hk4 := kpB_t hnx hk3
        gi_wp2
        go_roundw
        case rel => exact ⟨k + 1, by omega, by have := HMM.out; first | rfl | (refine congrArg _ ?_; omega) | (simp; omega), by rw [HUP.out]; exact hJ3, hk4⟩
        case measure => simp [intOf]
      · gi_wp2
        refine bodyPost_ret (results_none rfl _ _ _) rfl ?_
        exact ⟨⟨_, rfl⟩, .inr ⟨_, ⟨k + 1, by omega, HUP.out.symm⟩, hJx3⟩⟩
    · obtain rfl : k = len := by omega
      have hmi : (k : Int) - 1 - k = -1 := by omega
      rw [hmi]
      gi_wp2
      go_end0
      exact ⟨⟨_, rfl⟩, .inl ⟨_, rfl, hJs⟩⟩
theorem backward_stops (F : Fence) (n : Nat) (h7 : F.fn 71) (hro : F.round = none) (hn : 1 ≤ n) (Bs n₀ len cap : Nat) (A : Option Addr) (f : Nat → ByteArray) (hreach : len ≤ 1000000) (w : World) (hBs : Bs < w.heap.size) (hn₀ : n₀ ≤ w.heap.size)
    (hc : w.cell? ⟨Bs, 0, none⟩ = some (.slice A len cap)) (hI : TextsAt n₀ w A len f) :
    SeqStopsK F n Try.prog 71 #[.pointer (some ⟨Bs, 0, none⟩)] (fun x : Nat × ByteArray => #[Value.int .i64 (x.1 : Int), Value.string x.2]) (KpB n₀ Bs) (fun ys => ys = upto (backOf f len) len) (fun pre => ∃ k, k ≤ len ∧ pre = upto (backOf f len) k) len w := fun l J Jx W hW _ _ hY h0 =>
  backward1_in F n h7 hro hn l Bs n₀ len cap A f hreach J Jx hY W ((hW.cell (p := ⟨Bs, 0, none⟩) hBs).trans hc) (hI.below (hW.mono hn₀)) h0
theorem backward_any (A : Option Addr) (n c : Nat) (w : World) : Calls Try.prog 53 #[.slice A n c] w fun e w' => e = .returned (.func (.func 71) #[] #[.pointer (some ⟨w.heap.size, 0, none⟩)]) ∧ w' = w.alloc (.cells #[.slice A n c] 39) := by
  go_enter Try.func53, Try.ntmps53
  go_wp2
  go_ret
  exact ⟨rfl, rfl⟩
/-- the keys, the last one first -/
theorem back_all (l : List ByteArray) {n : Nat} (h : l.length = n) : ((upto (backOf (fun j => l[j]?.getD ByteArray.empty) n) n).map fun x => x.2).reverse = l := by
  subst h
  apply List.ext_getElem
  · simp [upto]
  · intro i h1 h2
    have e : l.length - 1 - (l.length - 1 - i) = i := by omega
    simp [upto, backOf, List.getElem_reverse, e, h2]
/-- a tree of rows that are cells stays, whatever else turns -/
theorem RO.kept {w w' : World} {ok : Nat → Prop} {sz n c : Nat} {A : Option Addr} {xs : List Value} {row : Option Nat} (hsz : 0 < sz) (h : RO w ok sz A n c xs) (hg : w.grownBy w' row) (hr : ∀ r, row = some r → ∃ o : Obj, w.heap[r]? = some o ∧ o.isCells = false) : RO w' ok sz A n c xs :=
  ⟨h.len, h.cap, h.one, fun hn => by
    obtain ⟨b, o, e, h1, hb, h2, hc⟩ := h.at_ hn
    have hpos : 0 < xs.length := by rw [h.len]; exact Nat.mul_pos hn hsz
    have h0 := hc 0 _ (List.getElem?_eq_getElem hpos)
    have hne : some b ≠ row := fun e2 => by
      obtain ⟨ob, ho, hcl⟩ := hr b e2.symm
      unfold World.cell? at h0
      rw [ho] at h0
      cases ob <;> first | (cases hcl; done) | (cases h0; done)
    have hk := hg.block b hb hne
    exact ⟨b, o, e, h1, Nat.lt_of_lt_of_le hb hg.size, fun j => (World.frozen?_of_block (a := ⟨b, j, none⟩) hk).trans (h2 j), fun j u hu => (World.cell?_of_block (a := ⟨b, o + j, none⟩) hk).trans (hc j u hu)⟩⟩
theorem RdO.kept {w w' : World} {ok : Nat → Prop} {row : Option Nat} (hg : w.grownBy w' row) (hr : ∀ r, row = some r → ∃ o : Obj, w.heap[r]? = some o ∧ o.isCells = false) : ∀ (t : T) {se sk : SV}, RdO w ok t se sk → RdO w' ok t se sk := by
  intro t
  induction t using T.ind with
  | h es ks ih =>
    intro se sk h
    rw [rdO_mk] at h ⊢
    obtain ⟨h1, h2, h3, xs, h4, h5⟩ := h
    refine ⟨h1, h2.kept (by omega) hg hr, h3, xs, h4.kept (by omega) hg hr, fun i hi => ?_⟩
    obtain ⟨se', sk', e1, e2, e3, e4⟩ := h5 i hi
    exact ⟨se', sk', e1, e2, e3, ih _ (List.getElem_mem hi) e4⟩
/-- one kid in a new row -/
theorem RdO.one {w : World} {ok : Nat → Prop} {t : T} {A B : Option Addr} {n c m d : Nat} (h : RdO w ok t ⟨A, n, c⟩ ⟨B, m, d⟩) (hok : ok w.heap.size) (k : ByteArray) (ty : TypeId) :
    RdO (w.alloc (.cells #[.string k, .slice A n c, .slice B m d] ty)) ok (.mk [] [(k, t)]) ⟨Option.none, 0, 0⟩ ⟨some ⟨w.heap.size, 0, Option.none⟩, 1, 1⟩ := by
  rw [rdO_mk]
  refine ⟨rfl, RO.nil _ _ _ _ _, rfl, [.string k, .slice A n c, .slice B m d], ⟨rfl, Nat.le_refl _, fun u hu => ?_, fun _ => ⟨w.heap.size, 0, rfl, hok, by simp, fun j => by go_simp, fun j u hu => ?_⟩⟩, fun i hi => ?_⟩
  · simp at hu
    rcases hu with rfl | rfl | rfl <;> rfl
  · rw [Nat.zero_add, cell_of_row _ _ j _ _ (0, 0) (heap_alloc_new _ _)]
    simpa using hu
  · have : i = 0 := by simp at hi; omega
    subst this
    exact ⟨⟨A, n, c⟩, ⟨B, m, d⟩, rfl, rfl, rfl, RdO.later h ((Below.refl _ _).alloc (Nat.le_refl _) _)⟩
/-- is a key among these that may not be? -/
def badB (l : List ByteArray) : Bool := l.any fun k => !keyB k
theorem badB_iff {l : List ByteArray} : badB l = false ↔ ∀ k ∈ l, KeyOk k := by
  unfold badB
  rw [List.any_eq_false]
  simp only [Bool.not_eq_true', Bool.not_eq_false]
  exact ⟨fun h k hk => keyB_iff.1 (h k hk), fun h k hk => keyB_iff.2 (h k hk)⟩
theorem wrapkey_any (k : ByteArray) (w : World) : Calls Try.prog 50 #[.string k] w fun e w' => e = .returned (.bool (!keyB k)) ∧ w' = w := by
  have H := fun W => Lib.hid (rightKey_any k W)
  obtain ⟨z, hz⟩ : ∃ z, z = keyB k := ⟨_, rfl⟩
  rw [← hz] at H ⊢
  clear hz
  go_enter Try.func50, Try.ntmps50
  go_wp2_with (go_at_call 51; refine (H _).out.mono ?_; rintro e w' ⟨rfl, rfl⟩)
  go_ret
  exact ⟨rfl, rfl⟩
set_option maxHeartbeats 1000000 in
theorem indexf_any (l : List ByteArray) (n : Nat) (A : Option Addr) (c : Nat) (w : World) (hl : l.length = n) (hn : n ≤ 1000000) (hr : Rd w w.heap.size 1 A n c (strs l)) :
    Calls Try.prog 70 #[.slice A n c, .func (.func 50) #[] #[]] w fun e w' => ∃ r : Int, e = .returned (.int .i64 r) ∧ (decide (0 ≤ r) = badB l) ∧ w' = w := by
  have HL := Lib.hid hl
  have HR := Lib.hid hr
  obtain ⟨bz, hbz⟩ : ∃ z, badB l = z := ⟨_, rfl⟩
  rw [hbz]
  have HBZ := Lib.hid hbz
  clear hl hr hbz
  go_enter Try.func70, Try.ntmps70
  go_wp2_with fail
  go_loopw [8] (fun i wr => ∃ k : Nat, k ≤ n ∧ i = .int .i64 k ∧ Hid (∀ x ∈ l.take k, keyB x = true) ∧ wr = w) (fun i _ => n - (intOf i).toNat)
  case atStart => exact ⟨0, by omega, rfl, fun x hx => by simp at hx, rfl⟩
  case round =>
    obtain ⟨k, hk, rfl, HA, rfl⟩ := hrel
    by_cases hlt : k < n
    · have hkl : k < l.length := by rw [HL.out]; exact hlt
      obtain ⟨b, o, rfl, hb, hc⟩ := HR.out.at_ (by omega)
      obtain ⟨x, hx⟩ : ∃ x, x = l[k] := ⟨_, rfl⟩
      have cx := hc k (.string x) (by rw [hx]; simp [strs, hkl])
      have htk : l.take (k + 1) = l.take k ++ [x] := by rw [hx]; exact List.take_succ_eq_append_getElem hkl
      have hmem : x ∈ l := by rw [hx]; exact List.getElem_mem hkl
      have HW := fun W => Lib.hid (wrapkey_any x W)
      cases hz : keyB x with
      | true =>
        rw [hz] at HW
        have HA2 : Hid (∀ x ∈ l.take (k + 1), keyB x = true) := fun y hy => by
          rw [htk] at hy
          rcases List.mem_append.1 hy with hy | hy
          · exact HA.out y hy
          · rw [List.mem_singleton.1 hy]; exact hz
        clear hc hx htk hmem hz
        go_wp2_with (go_at_call 50; refine (HW _).out.mono ?_; rintro e w' ⟨rfl, rfl⟩)
        go_roundw
        case rel => exact ⟨k + 1, by omega, by go_num, HA2.out, by first | rfl | trivial⟩
        case measure => simp [intOf]; omega
      | false =>
        rw [hz] at HW
        have hbad : badB l = true := by
          cases hb2 : badB l with
          | true => rfl
          | false => exact absurd (keyB_iff.2 (badB_iff.1 hb2 x hmem)) (by rw [hz]; simp)
        have HBAD := Lib.hid hbad
        clear hc hx htk hmem hz hbad
        go_wp2_with (go_at_call 50; refine (HW _).out.mono ?_; rintro e w' ⟨rfl, rfl⟩)
        go_ret
        exact ⟨k, rfl, by rw [← HBZ.out, HBAD.out]; exact decide_eq_true (by omega), rfl⟩
    · obtain rfl : k = n := by omega
      have hbad : badB l = false := by
        rw [badB_iff]
        intro x hx
        refine keyB_iff.1 (HA.out x ?_)
        rw [List.take_of_length_le (by rw [HL.out]; omega)]
        exact hx
      have HBAD := Lib.hid hbad
      clear hbad
      go_wp2_with fail
      go_ret
      exact ⟨-1, rfl, by rw [← HBZ.out, HBAD.out]; rfl, rfl⟩
theorem containsf_any (l : List ByteArray) (n : Nat) (A : Option Addr) (c : Nat) (w : World) (hl : l.length = n) (hn : n ≤ 1000000) (hr : Rd w w.heap.size 1 A n c (strs l)) (z : Bool) (hz : badB l = z) :
    Calls Try.prog 49 #[.slice A n c, .func (.func 50) #[] #[]] w fun e w' => e = .returned (.bool z) ∧ w' = w := by
  have H := Lib.hid (indexf_any l n A c w hl hn hr)
  rw [hz] at H
  clear hl hr hz
  go_enter Try.func49, Try.ntmps49
  go_wp2_with fail
  refine H.out.mono ?_
  rintro e w' ⟨r, rfl, hr, rfl⟩
  go_wp2_with fail
  go_ret
  exact ⟨Dt.ret_bool (by first | exact hr | rfl), rfl⟩
end Tr
end Go.Proofs.Ytbfcbfadfnaebaa
