/- Texts of the lower layers, and of layer 9, put together. -/
import Derived.RangeFuncBox
import Derived.RangeFuncLeaves
import Derived.Shelf.Abstract
import Derived.WalkKit
import Derived.OwnWalkIn
import Derived.TacticsInMore
import Derived.LoopNIn
import Derived.LoopIn
import Derived.Maps.AppendAt
import Derived.Sort.OwnSorted
import Derived.Test.YtnlojpolfkjkoaaGreatTreeSearch
import Derived.Test.YtnlojpolfkjkoaaGreatG00
import Derived.Test.YtnlojpolfkjkoaaGreatSpan2
import Derived.Test.YtnlojpolfkjkoaaGreatTreeRight
namespace Go.Proofs.YtnlojpolfkjkoaaGreat
open Go.RowKit Go.Shelf
namespace Tr
open Sp Rw
attribute [local go_sem] Oper.semAt_some

def TextsAt (n₀ : Nat) (W : World) (A : Option Addr) (len : Nat) (f : Nat → ByteArray) : Prop := ∀ j, j < len → ∃ b o, A = some ⟨b, o, none⟩ ∧ b < n₀ ∧ W.cell? ⟨b, o + j, none⟩ = some (.string (f j))
theorem TextsAt.below {n₀ : Nat} {W W' : World} {A : Option Addr} {len : Nat} {f : Nat → ByteArray} (h : TextsAt n₀ W A len f) (hb : Below n₀ W W') : TextsAt n₀ W' A len f := fun j hj => by
 obtain ⟨b, o, e, hlt, hc⟩ := h j hj; exact ⟨b, o, e, hlt, (hb.cell (p := ⟨b, o + j, none⟩) hlt).trans hc⟩
theorem TextsAt.of_rd {W : World} {B : Nat} {A : Option Addr} {n c : Nat} {l : List ByteArray} (h : Rd W B 1 A n c (strs l)) : TextsAt B W A n (fun j => l[j]?.getD ByteArray.empty) := fun j hj => by
 obtain ⟨b, o, e, hb, hc⟩ := h.at_ (by omega)
 have hl : l.length = n := by have := h.len; simpa [strs] using this
 exact ⟨b, o, e, hb, hc j _ (by simp [strs, show j < l.length by omega])⟩
theorem infoS : (Tryz.prog.info? 9).map (fun i => (i.zero, i.size, i.bytes)) = some (some (.string ⟨#[]⟩), 1, 16) := by kernel_rfl
end Tr
end Go.Proofs.YtnlojpolfkjkoaaGreat
namespace Go.Proofs.YtnlojpolfkjkoaaGreat
open Go.RowKit Go.Shelf Go.Sort
namespace Tr
open Sp Rw
theorem lt_bytes : ∀ x y : List UInt8, x < y ↔ Op.bytesLess x y = true
  | [], [] => by simp [Op.bytesLess]
  | [], _ :: _ => by simp [Op.bytesLess]
  | _ :: _, [] => by simp [Op.bytesLess]
  | x :: a, y :: b => by
    rw [List.cons_lt_cons_iff, lt_bytes a b]; simp [Op.bytesLess]
theorem le_bytes (x y : List UInt8) : decide (x ≤ y) = !Op.bytesLess y x := by
  have h := lt_bytes y x; have h2 : x ≤ y ↔ ¬ y < x := Iff.rfl
  cases hb : Op.bytesLess y x with
  | true => rw [decide_eq_false]; · rfl
            rw [h2, h, hb]; simp
  | false => rw [decide_eq_true]; · rfl
             rw [h2, h, hb]; simp
def toL (b : ByteArray) : List UInt8 := b.data.toList
def ofL (l : List UInt8) : ByteArray := ⟨l.toArray⟩
theorem of_to (b : ByteArray) : ofL (toL b) = b := by unfold ofL toL; rw [Array.toArray_toList]
theorem to_of (l : List UInt8) : toL (ofL l) = l := rfl
def sortS (l : List ByteArray) : List ByteArray := ((l.map toL).mergeSort fun x y => decide (x ≤ y)).map ofL
theorem sortS_len (l : List ByteArray) : (sortS l).length = l.length := by unfold sortS; rw [List.length_map, List.length_mergeSort, List.length_map]
theorem sortS_mem {l : List ByteArray} {x : ByteArray} : x ∈ sortS l ↔ x ∈ l := by
  unfold sortS; constructor
  · intro h
    obtain ⟨y, hy, rfl⟩ := List.mem_map.1 h; obtain ⟨z, hz, rfl⟩ := List.mem_map.1 (List.mem_mergeSort.1 hy); rw [of_to]; exact hz
  · intro h
    refine List.mem_map.2 ⟨toL x, List.mem_mergeSort.2 (List.mem_map.2 ⟨x, h, rfl⟩), of_to x⟩
theorem sortS_rise (l : List ByteArray) : (sortS l).Pairwise fun a b => ¬ ltS b a := by
  unfold sortS; rw [List.pairwise_map]; refine (List.pairwise_mergeSort (fun a b c h1 h2 => ?_) (fun a b => ?_) (l.map toL)).imp fun {a b} h => ?_
  · rw [le_bytes] at h1 h2 ⊢
    simp only [Bool.not_eq_true'] at h1 h2 ⊢
    cases h3 : Op.bytesLess c a with
    | false => rfl
    | true =>
      rcases bytesLess_tri a b with h4 | h4 | h4
      · have := bytesLess_tr c a b h3 h4; rw [h2] at this; cases this
      · subst h4; rw [h2] at h3; cases h3
      · rw [h1] at h4; cases h4
  · rw [le_bytes, le_bytes]
    cases h3 : Op.bytesLess b a with
    | false => rfl
    | true =>
      cases h4 : Op.bytesLess a b with
      | false => rfl
      | true =>
        have := bytesLess_tr a b a h4 h3; rw [bytesLess_irr] at this
        cases this
  · rw [le_bytes] at h
    unfold ltS; rw [ByteArray.toList_eq, ByteArray.toList_eq]; show ¬ Op.bytesLess (toL (ofL b)) (toL (ofL a)) = true; rw [to_of, to_of]; intro h2; rw [h2] at h
    cases h
theorem strs_enc (l : List ByteArray) : strs l = (l.map toL).map encStr := by
  unfold strs; rw [List.map_map]; refine List.map_congr_left fun b _ => ?_; show Value.string b = Value.string (ofL (toL b)); rw [of_to]
theorem sortS_enc (l : List ByteArray) : strs (sortS l) = ((l.map toL).mergeSort fun x y => decide (x ≤ y)).map encStr := by
  unfold strs sortS; rw [List.map_map]; rfl
theorem sortS_own (l : List ByteArray) (n : Nat) (A : Option Addr) (c base : Nat) (w : World) (hl : l.length = n) (hn : n ≤ 900000) (ho : Own w base 9 1 A n c (strs l)) (hb : base ≤ w.heap.size) :
    Calls Tryz.prog 35 #[.slice A n c] w fun e w' => e = .returned (.tuple #[]) ∧ Own w' base 9 1 A n c (strs (sortS l)) ∧ Below base w w' := by
  rcases Nat.eq_zero_or_pos n with h0 | h0
  · subst h0
    have : l = [] := List.eq_nil_of_length_eq_zero hl; subst this; refine (Go.Proofs.AnyG.slices_Sort_string_none sortS_lay A c w).mono ?_; rintro e w' ⟨rfl, rfl⟩; exact ⟨rfl, by rw [show sortS [] = [] from by unfold sortS; simp]; exact ho, Below.refl _ _⟩
  · subst hl
    rcases ho.row.2 with ⟨_, h⟩ | ⟨g, cap, cur, hv, hg, hh, h1, h2, h3, h4⟩
    · omega
    · injection hv with e1 _ e3
      subst e1; subst e3; rw [Nat.mul_one, strs_enc] at h4; have hs := Go.Proofs.AnyG.slices_Sort_string sortS_lay g 0 c (l.map toL) w (holds_of_block hh (by simpa using h4)) (Array.getElem?_eq_some_iff.1 hh).1 (by rw [List.length_map]; omega); rw [List.length_map] at hs; refine hs.mono ?_; rintro e w' ⟨rfl, k, os, rfl⟩; refine ⟨rfl, ⟨?_, strs_one _⟩, (Below.refl base w).grown (grownBy_sorted _) hb (fun k hk => by injection hk with hk; omega)⟩; rw [sortS_enc]; have := ownsRow_sorted (n := k) (os := os) (ss := l.map toL) (ts := (l.map toL).mergeSort fun x y => decide (x ≤ y)) (List.length_mergeSort _) hg hh (by rw [List.length_map]; exact h1) h2 h3; rw [List.length_map] at this; exact this
end Tr
end Go.Proofs.YtnlojpolfkjkoaaGreat
namespace Go.Proofs.YtnlojpolfkjkoaaGreat
namespace Cx
open Sp
end Cx
end Go.Proofs.YtnlojpolfkjkoaaGreat
namespace Go.Proofs.YtnlojpolfkjkoaaGreat
open Go.ChangeShapes Go.WideShapes Go.ChangeAt Go.RowKit
namespace Sp
theorem upon_append {P : Program} {o : Oper} {a : Go.Act} {K : Go.Act → World → Prop} {Q : Exit → Go.Act → World → Prop} {w w' : World} {v xv v' : Value} (s x : Operand) (t : TypeId)
  (ho : o.op = .call { callee := .builtin .append, args := #[s, x], argTypes := #[t, t] }) (hs : a.eval s = v) (hx : a.eval x = xv)
  (hr : (Builtin.append_ #[t, t] o.type #[v, xv]).run P w = .ok v' w') (h : K (a.put o.dst v') w') : Oper.upon P o a K Q ((execOp a.eval o).run P w) := by
 unfold execOp; simp only [ho, resolve, invoke, builtin, Sem.run_bind, Sem.run_pure, Result.andThen_ok, List.map_toArray, List.map_cons, List.map_nil, hs, hx, hr]; exact h
set_option maxRecDepth 100000 in
set_option maxHeartbeats 1000000 in
theorem refhas_any (l : List (Int × Int)) (n : Nat) (A : Option Addr) (c : Nat) (w : World) (hl : l.length = n) (hn : n ≤ 1000000) (hr : Rd w w.heap.size 2 A n c (runsC l)) (v : Int) :
  Calls Tryz.prog 66 #[.slice A n c, .int .i64 v] w fun e w' => e = .returned (.bool (hasB l v)) ∧ w' = w := by
 obtain ⟨z, hz⟩ : ∃ z, z = hasB l v := ⟨_, rfl⟩; rw [← hz]; have HZ := Lib.hid hz; have HR := Lib.hid hr; have HL := Lib.hid hl; clear hr hl hz; go_enter Tryz.func66, Tryz.ntmps66; go_wp2
 go_loop [8] (fun i => ∃ (k : Nat), k ≤ n ∧ i = .int .i64 k ∧ Hid (hasB (l.take k) v = false)) (fun i => n - (intOf i).toNat)
 case atStart => exact ⟨0, by omega, rfl, Lib.hid (by rw [List.take_zero]; rfl)⟩
 case round =>
  obtain ⟨k, hk, rfl, HF⟩ := hrel
  by_cases hlt : k < n
  ·have hkl : k < l.length := by rw [HL.out]; exact hlt
   obtain ⟨b, o, rfl, hbl, hc⟩ := rd_run HR.out HL.out hlt; obtain ⟨q0, q1⟩ := hc k hkl; obtain ⟨p, hp⟩ : ∃ p, p = l[k] := ⟨_, rfl⟩; have htk : l.take (k + 1) = l.take k ++ [l[k]] := List.take_succ_eq_append_getElem hkl; rw [← hp] at q0 q1 htk; obtain ⟨x, y⟩ := p
   by_cases h1 : x ≤ v
   ·have f1 : decide (x ≤ v) = true := by simpa using h1
    by_cases h2 : v ≤ y
    ·have f2 : decide (v ≤ y) = true := by simpa using h2
     have HE : Hid (true = z) := by
      unfold Hid; rw [HZ.out]; exact (has_true.2 ⟨(x, y), by rw [hp]; exact List.getElem_mem hkl, h1, h2⟩).symm
     clear hc hp htk; go_wp2; go_ret; exact ⟨ret_bool HE.out, rfl⟩
    ·have f2 : decide (v ≤ y) = false := by simpa using h2
     have HF2 : Hid (hasB (l.take (k + 1)) v = false) := by
      unfold Hid; rw [htk, has_append, HF.out]; simp [hasB]; omega
     clear hc hp htk; go_wp2
     go_round
     case rel => exact ⟨k + 1, by omega, by go_num, HF2.out⟩
     case measure => simp [intOf]; omega
   ·have f1 : decide (x ≤ v) = false := by simpa using h1
    have HF2 : Hid (hasB (l.take (k + 1)) v = false) := by
     unfold Hid; rw [htk, has_append, HF.out]; simp [hasB]; omega
    clear hc hp htk; go_wp2
    go_round
    case rel => exact ⟨k + 1, by omega, by go_num, HF2.out⟩
    case measure => simp [intOf]; omega
  ·have HE : Hid (false = z) := by
    unfold Hid; have := HF.out; rw [List.take_of_length_le (by rw [HL.out]; omega)] at this; rw [HZ.out, this]
   go_wp2; go_ret; exact ⟨ret_bool HE.out, rfl⟩
def endsL (l : List (Int × Int)) : List Int := l.flatMap fun r => [r.1, r.2 + 1]
theorem endsL_snoc (l : List (Int × Int)) (r : Int × Int) : endsL (l ++ [r]) = endsL l ++ [r.1, r.2 + 1] := by simp [endsL]
theorem endsL_len (l : List (Int × Int)) : (endsL l).length = l.length * 2 := by
 induction l with
 | nil => rfl
 | cons r l ih =>
  have : endsL (r :: l) = r.1 :: (r.2 + 1) :: endsL l := rfl; rw [this]; simp [ih]; omega
def nstep (above : Int) (acc : Option Int) (x : Int) : Option Int := if above < x ∧ (∀ b, acc = some b → x < b) then some x else acc
def nextL (above : Int) (l : List Int) : Option Int := l.foldl (nstep above) none
theorem nextL_snoc (above : Int) (l : List Int) (x : Int) : nextL above (l ++ [x]) = nstep above (nextL above l) x := by unfold nextL; rw [List.foldl_append]; rfl
def NextIs (above : Int) (l : List Int) : Option Int → Prop
 | none => ∀ x ∈ l, x ≤ above
 | some t => t ∈ l ∧ above < t ∧ ∀ x ∈ l, above < x → t ≤ x
theorem nextL_is (above : Int) (l : List Int) : NextIs above l (nextL above l) := by
 have key : ∀ k, k ≤ l.length → NextIs above (l.take k) (nextL above (l.take k)) := by
  intro k
  induction k with
  | zero => intro _; simp [nextL, NextIs]
  | succ k ih =>
   intro hk; have ih := ih (by omega); rw [List.take_succ_eq_append_getElem (by omega), nextL_snoc]; obtain ⟨d, hd⟩ : ∃ d, d = l[k] := ⟨_, rfl⟩; obtain ⟨acc, hacc⟩ : ∃ acc, acc = nextL above (l.take k) := ⟨_, rfl⟩; rw [← hd, ← hacc]; rw [← hacc] at ih; unfold nstep
   by_cases h : above < d ∧ (∀ b, acc = some b → d < b)
   ·rw [if_pos h]
    refine ⟨by simp, h.1, fun x hx hax => ?_⟩
    rcases List.mem_append.1 hx with hx | hx
    ·cases acc with
     | none => have := ih x hx; omega
     | some b => have := ih.2.2 x hx hax; have := h.2 b rfl; omega
    ·rw [List.mem_singleton.1 hx]; omega
   ·rw [if_neg h]
    cases acc with
    | none =>
     intro x hx
     rcases List.mem_append.1 hx with hx | hx
     ·exact ih x hx
     ·rw [List.mem_singleton.1 hx]
      have : ¬ above < d := fun hlt => h ⟨hlt, by simp⟩; omega
    | some b =>
     refine ⟨List.mem_append_left _ ih.1, ih.2.1, fun x hx hax => ?_⟩
     rcases List.mem_append.1 hx with hx | hx
     ·exact ih.2.2 x hx hax
     ·rw [List.mem_singleton.1 hx] at hax ⊢
      have : ¬ d < b := fun hlt => h ⟨hax, fun b' e => by injection e with e; omega⟩; omega
 have := key l.length (Nat.le_refl _)
 rwa [List.take_of_length_le (Nat.le_refl _)] at this
set_option maxRecDepth 100000 in
set_option maxHeartbeats 1000000 in
theorem next_any (l : List Int) (n : Nat) (A : Option Addr) (c : Nat) (w : World) (hl : l.length = n) (hn : n ≤ 1000000) (hr : Rd w w.heap.size 1 A n c (intsC l)) (v : Int) :
  Calls Tryz.prog 102 #[.slice A n c, .int .i64 v] w fun e w' => e = .returned (.tuple #[.int .i64 ((nextL v l).getD 0), .bool (nextL v l).isSome]) ∧ w' = w := by
 obtain ⟨z, hz⟩ : ∃ z, z = nextL v l := ⟨_, rfl⟩; rw [← hz]; obtain ⟨zb, hzb⟩ : ∃ x, x = z.getD 0 := ⟨_, rfl⟩; obtain ⟨zo, hzo⟩ : ∃ x, x = z.isSome := ⟨_, rfl⟩; rw [← hzb, ← hzo]; have HZB := Lib.hid hzb; have HZO := Lib.hid hzo; have HZ := Lib.hid hz; have HR := Lib.hid hr; have HL := Lib.hid hl; clear hr hl hz hzb hzo; go_enter Tryz.func102, Tryz.ntmps102; go_wp2
 go_loop [6, 7, 11] (fun b s i => ∃ (k : Nat) (best : Int) (ok : Bool), k ≤ n ∧ b = .int .i64 best ∧ s = .bool ok ∧ i = .int .i64 k ∧ Hid (best = (nextL v (l.take k)).getD 0 ∧ ok = (nextL v (l.take k)).isSome)) (fun _ _ i => n - (intOf i).toNat)
 case atStart => exact ⟨0, 0, false, by omega, rfl, rfl, rfl, Lib.hid (by rw [List.take_zero]; exact ⟨rfl, rfl⟩)⟩
 case round =>
  obtain ⟨k, best, ok, hk, rfl, rfl, rfl, HF⟩ := hrel
  by_cases hlt : k < n
  ·have hkl : k < l.length := by rw [HL.out]; exact hlt
   obtain ⟨b, o, rfl, hbl, hc⟩ := rd_int HR.out HL.out hlt; have q0 := hc k hkl
   have htk : nextL v (l.take (k + 1)) = nstep v (nextL v (l.take k)) l[k] := by rw [List.take_succ_eq_append_getElem hkl, nextL_snoc]
   obtain ⟨x, hx⟩ : ∃ x, x = l[k] := ⟨_, rfl⟩; obtain ⟨acc, hacc⟩ : ∃ acc, acc = nextL v (l.take k) := ⟨_, rfl⟩; rw [← hx] at q0 htk; rw [← hacc] at htk HF
   have hyes : nstep v acc x = some x → Hid (x = (nextL v (l.take (k + 1))).getD 0 ∧ true = (nextL v (l.take (k + 1))).isSome) := fun e => by
    unfold Hid; rw [htk, e]; exact ⟨rfl, rfl⟩
   have hno : nstep v acc x = acc → Hid (best = (nextL v (l.take (k + 1))).getD 0 ∧ ok = (nextL v (l.take (k + 1))).isSome) := fun e => by
    unfold Hid; rw [htk, e]; exact HF.out
   clear hc hx htk hacc
   by_cases h1 : v < x
   ·have f1 : decide (v < x) = true := by simpa using h1
    cases acc with
    | none =>
     have hok : ok = false := HF.out.2; subst hok; have HY := hyes (by unfold nstep; rw [if_pos ⟨h1, by simp⟩]); clear hyes hno; go_wp2
     go_round
     case rel => exact ⟨k + 1, x, true, by omega, rfl, rfl, by go_num, HY.out⟩
     case measure => simp [intOf]; omega
    | some b0 =>
     have hok : ok = true := HF.out.2; have hb0 : best = b0 := HF.out.1; subst hok; subst hb0
     by_cases h2 : x < best
     ·have f2 : decide (x < best) = true := by simpa using h2
      have HY := hyes (by unfold nstep; rw [if_pos ⟨h1, fun b' e => by injection e with e; omega⟩]); clear hyes hno; go_wp2
      go_round
      case rel => exact ⟨k + 1, x, true, by omega, rfl, rfl, by go_num, HY.out⟩
      case measure => simp [intOf]; omega
     ·have f2 : decide (x < best) = false := by simpa using h2
      have HY := hno (by unfold nstep; rw [if_neg (fun h => h2 (h.2 best rfl))]); clear hyes hno; go_wp2
      go_round
      case rel => exact ⟨k + 1, best, true, by omega, rfl, rfl, by go_num, HY.out⟩
      case measure => simp [intOf]; omega
   ·have f1 : decide (v < x) = false := by simpa using h1
    have HY := hno (by unfold nstep; rw [if_neg (fun h => h1 h.1)]); clear hyes hno; go_wp2
    go_round
    case rel => exact ⟨k + 1, best, ok, by omega, rfl, rfl, by go_num, HY.out⟩
    case measure => simp [intOf]; omega
  ·have HE : Hid (best = z.getD 0 ∧ ok = z.isSome) := by
    have := HF.out; rw [List.take_of_length_le (by rw [HL.out]; omega)] at this; unfold Hid; rw [HZ.out]; exact this
   have hE : best = zb ∧ ok = zo := by rw [HZB.out, HZO.out]; exact HE.out
   clear HE HZB HZO HF; obtain ⟨rfl, rfl⟩ := hE; go_wp2; go_ret2; exact ⟨rfl, rfl⟩
set_option maxRecDepth 100000 in
set_option maxHeartbeats 1000000 in
theorem ends_any (l : List (Int × Int)) (n : Nat) (A : Option Addr) (c : Nat) (w : World) (hl : l.length = n) (hn : n ≤ 1000) (hr : Rd w w.heap.size 2 A n c (runsC l)) (hR : RightF 1 l) :
  Calls Tryz.prog 101 #[.slice A n c] w fun e w' => ∃ A' c', e = .returned (.slice A' (n * 2) c') ∧ Own w' w.heap.size 2 1 A' (n * 2) c' (intsC (endsL l)) ∧ Below w.heap.size w w' := by
 have HR := Lib.hid hr; have HL := Lib.hid hl; have HO := Lib.hid hR; clear hr hl hR; go_enter Tryz.func101, Tryz.ntmps101; go_wp2
 go_loopw [3, 7] (fun v i wr => ∃ (k m : Nat) (A' : Option Addr) (c' : Nat), k ≤ n ∧ v = .slice A' m c' ∧ i = .int .i64 k ∧ Hid (m = k * 2) ∧ Hid (Own wr w.heap.size 2 1 A' m c' (intsC (endsL (l.take k)))) ∧ Hid (Below w.heap.size w wr)) (fun _ i _ => n - (intOf i).toNat)
 case atStart => exact ⟨0, 0, none, 0, by omega, rfl, rfl, rfl, ⟨World.ownsRow_nil _ _ _ _, by simp [endsL, intsC]⟩, Below.refl _ _⟩
 case round =>
  obtain ⟨k, m, A', c', hk, rfl, rfl, HM, HOW, HB⟩ := hrel
  by_cases hlt : k < n
  ·have hkl : k < l.length := by rw [HL.out]; exact hlt
   obtain ⟨b, o, rfl, hbl, hc⟩ := rd_run HR.out HL.out hlt; obtain ⟨q0, q1⟩ := hc k hkl; have htk : l.take (k + 1) = l.take k ++ [l[k]] := List.take_succ_eq_append_getElem hkl; have hm := HO.out.mem l[k] (List.getElem_mem hkl); obtain ⟨p, hp⟩ : ∃ p, p = l[k] := ⟨_, rfl⟩; rw [← hp] at q0 q1 htk hm; obtain ⟨x, y⟩ := p; obtain ⟨hm1, hm2, hm3⟩ := hm; dsimp only at hm1 hm2 hm3; have q0 := (HB.out.cell (p := ⟨b, o + k * 2, none⟩) hbl).trans q0; have q1 := (HB.out.cell (p := ⟨b, o + k * 2 + 1, none⟩) hbl).trans q1
   obtain ⟨v2, w2, hrun, ho2, hb2⟩ := run_push Tryz.underlying101 infoI rfl (by omega) (by omega) wr.drew w.heap.size wr.heap.size (by simp) (by have := HB.out.size; simp; omega) _ m _ (ownsRow_later HOW.out.row (Below.refl _ _).drew) [.int .i64 x, .int .i64 (y + 1)] 2 rfl (by intro u hu; simp at hu; rcases hu with rfl | rfl <;> rfl) (by have := HM.out; omega)
   have e2 : intsC (endsL (l.take k)) ++ [.int .i64 x, .int .i64 (y + 1)] = intsC (endsL (l.take (k + 1))) := by rw [htk, endsL_snoc, intsC_append]; rfl
   rw [e2] at ho2; obtain ⟨A2, c2, rfl, ho3⟩ := Own.of_row ho2 (intsC_one _); have Hrun := Lib.hid hrun; have HO2 := Lib.hid ho3; have HB2 := Lib.hid ((HB.out.drew).trans hb2)
   have HM2 : Hid (m + 2 = (k + 1) * 2) := by unfold Hid; have := HM.out; omega
   have hwy : IntKind.i64.wrap (y + 1) = y + 1 := IntWalk.i64_in _ (by omega); clear hc hp hrun ho2 ho3 hb2 htk e2 HOW; go_wp2
   go_region_law (refine upon_append _ _ _ rfl rfl rfl Hrun.out ?_)
   all_goals
    clear Hrun q0 q1; go_wp2; go_roundw
    case rel => exact ⟨k + 1, m + 2, A2, c2, by omega, rfl, by go_num, HM2.out, HO2.out, HB2.out⟩
    case measure => simp [intOf]; omega
  ·obtain rfl : k = n := by omega
   have HE : Hid (l.take k = l) := List.take_of_length_le (by rw [HL.out]; omega); rw [HE.out] at HOW; have hm := HM.out; subst hm; go_wp2; go_ret; exact ⟨_, _, rfl, HOW.out, HB.out⟩
end Sp
end Go.Proofs.YtnlojpolfkjkoaaGreat
namespace Go.Proofs.YtnlojpolfkjkoaaGreat
open Go.ChangeShapes Go.WideShapes Go.ChangeAt Go.RowKit
namespace Sp
set_option maxHeartbeats 400000 in
theorem within_any (x y v : Int) (p : Nat) (w : World) (hv : w.cell? ⟨p, 0, none⟩ = some (.int .i64 v)) :
  Calls Tryz.prog 130 #[.agg #[.int .i64 x, .int .i64 y], .pointer (some ⟨p, 0, none⟩)] w fun e w' => e = .returned (.bool (decide (x ≤ v ∧ v ≤ y))) ∧ Below w.heap.size w w' := by
 have hp : p < w.heap.size := World.block_lt_of_cell? w _ hv; have HB := Lib.hid ((Below.refl w.heap.size w).alloc (Nat.le_refl _) (.cells #[.int .i64 x, .int .i64 y] 159)); have hv2 : (w.alloc (.cells #[.int .i64 x, .int .i64 y] 159)).cell? ⟨p, 0, none⟩ = some (.int .i64 v) := (HB.out.cell (p := ⟨p, 0, none⟩) hp).trans hv
 by_cases h1 : x ≤ v
 ·have f1 : decide (x ≤ v) = true := by simpa using h1
  by_cases h2 : v ≤ y
  ·have f2 : decide (v ≤ y) = true := by simpa using h2
   go_enter Tryz.func130, Tryz.ntmps130; go_wp2; go_ret; exact ⟨ret_bool (by simp [h1, h2]), HB.out⟩
  ·have f2 : decide (v ≤ y) = false := by simpa using h2
   go_enter Tryz.func130, Tryz.ntmps130; go_wp2; go_ret; exact ⟨ret_bool (by simp), HB.out⟩
 ·have f1 : decide (x ≤ v) = false := by simpa using h1
  go_enter Tryz.func130, Tryz.ntmps130; go_wp2; go_ret; exact ⟨ret_bool (by simp), HB.out⟩
def FoundIs (l : List (Int × Int)) (v : Int) (w : World) (e : Ending) (w' : World) : Prop := ∃ z : Int, e = .returned (.int .i64 z) ∧ decide (0 ≤ z) = hasB l v ∧ Below w.heap.size w w'
set_option maxRecDepth 100000 in
set_option maxHeartbeats 1000000 in
theorem find_any (l : List (Int × Int)) (n : Nat) (A : Option Addr) (c : Nat) (v : Int) (p : Nat) (w : World) (hl : l.length = n) (hn : n ≤ 1000000) (hr : Rd w w.heap.size 2 A n c (runsC l)) (hv : w.cell? ⟨p, 0, none⟩ = some (.int .i64 v)) :
  Calls Tryz.prog 140 #[.slice A n c, .func (.func 130) #[] #[.pointer (some ⟨p, 0, none⟩)]] w (FoundIs l v w) := by
 have hp : p < w.heap.size := World.block_lt_of_cell? w _ hv; have HR := Lib.hid hr; have HL := Lib.hid hl; have HV := Lib.hid hv; clear hr hl hv; go_enter Tryz.func140, Tryz.ntmps140; go_wp2
 go_loopw [8] (fun i wr => ∃ (k : Nat), k ≤ n ∧ i = .int .i64 k ∧ Hid (hasB (l.take k) v = false) ∧ Hid (Below w.heap.size w wr)) (fun i _ => n - (intOf i).toNat)
 case atStart => exact ⟨0, by omega, rfl, Lib.hid (by rw [List.take_zero]; rfl), Below.refl _ _⟩
 case round =>
  obtain ⟨k, hk, rfl, HF, HB⟩ := hrel
  by_cases hlt : k < n
  ·have hkl : k < l.length := by rw [HL.out]; exact hlt
   obtain ⟨b, o, rfl, hbl, hc⟩ := rd_run HR.out HL.out hlt; obtain ⟨q0, q1⟩ := hc k hkl; have htk : l.take (k + 1) = l.take k ++ [l[k]] := List.take_succ_eq_append_getElem hkl; obtain ⟨r, hr⟩ : ∃ r, r = l[k] := ⟨_, rfl⟩; rw [← hr] at q0 q1 htk; obtain ⟨x, y⟩ := r; have q0 := (HB.out.cell (p := ⟨b, o + k * 2, none⟩) hbl).trans q0; have q1 := (HB.out.cell (p := ⟨b, o + k * 2 + 1, none⟩) hbl).trans q1; have HC := Lib.hid (within_any x y v p wr ((HB.out.cell (p := ⟨p, 0, none⟩) hp).trans HV.out))
   by_cases h : x ≤ v ∧ v ≤ y
   ·rw [decide_eq_true h] at HC
    have HE : Hid (true = hasB l v) := (has_true.2 ⟨(x, y), by rw [hr]; exact List.getElem_mem hkl, h.1, h.2⟩).symm; clear hc hr htk; go_wp2_with (go_at_call 130; refine HC.out.mono ?_; rintro e w1 ⟨rfl, hb1⟩); go_ret; exact ⟨k, rfl, by rw [← HE.out]; exact decide_eq_true (by omega), HB.out.trans (hb1.mono HB.out.size)⟩
   ·rw [decide_eq_false h] at HC
    have HF2 : Hid (hasB (l.take (k + 1)) v = false) := by
     unfold Hid; rw [htk, has_append, HF.out]; simp [hasB]; omega
    clear hc hr htk; go_wp2_with (go_at_call 130; refine HC.out.mono ?_; rintro e w1 ⟨rfl, hb1⟩; have HB2 := Lib.hid (HB.out.trans (hb1.mono HB.out.size)); clear hb1); go_roundw
    case rel => exact ⟨k + 1, by omega, by go_num, HF2.out, HB2.out⟩
    case measure => simp [intOf]; omega
  ·have HE : Hid (false = hasB l v) := by
    unfold Hid; have := HF.out; rw [List.take_of_length_le (by rw [HL.out]; omega)] at this; exact this.symm
   go_wp2; go_ret; exact ⟨-1, rfl, by rw [← HE.out]; rfl, HB.out⟩
theorem contains_any (l : List (Int × Int)) (n : Nat) (A : Option Addr) (c : Nat) (v : Int) (p : Nat) (w : World) (hl : l.length = n) (hn : n ≤ 1000000) (hr : Rd w w.heap.size 2 A n c (runsC l)) (hv : w.cell? ⟨p, 0, none⟩ = some (.int .i64 v)) :
  Calls Tryz.prog 129 #[.slice A n c, .func (.func 130) #[] #[.pointer (some ⟨p, 0, none⟩)]] w fun e w' => e = .returned (.bool (hasB l v)) ∧ Below w.heap.size w w' := by
 have HC := Lib.hid (find_any l n A c v p w hl hn hr hv); clear hr hl hv; go_enter Tryz.func129, Tryz.ntmps129; go_wp2_with (go_at_call 140; refine HC.out.mono ?_; rintro e w1 ⟨z, rfl, hz, hb1⟩); go_ret; exact ⟨ret_bool rfl, hb1⟩
set_option maxHeartbeats 400000 in
theorem has_any (l : List (Int × Int)) (n : Nat) (A : Option Addr) (c : Nat) (v : Int) (w : World) (hl : l.length = n) (hn : n ≤ 1000000) (hr : Rd w w.heap.size 2 A n c (runsC l)) :
  Calls Tryz.prog 100 #[.slice A n c, .int .i64 v] w fun e w' => e = .returned (.bool (rightB l && hasB l v)) ∧ Below w.heap.size w w' := by
 obtain ⟨p, hp⟩ : ∃ p, p = w.heap.size := ⟨_, rfl⟩; obtain ⟨W, hW⟩ : ∃ W, W = w.alloc (.cells #[.int .i64 v] 2) := ⟨_, rfl⟩
 have HK : Hid (Kept [(⟨p, 0, none⟩, .int .i64 v)] w W) := by
  rw [hW, hp]; exact ((Kept.nil w).alloc _).cons_of (by go_simp)
 have HR : Hid (Rd W W.heap.size 2 A n c (runsC l)) := by
  rw [hW]; exact (hr.alloc (Nat.le_refl _) _).more (by simp)
 have HRT := Lib.hid (right_any l n A c W hl hn HR.out); have HL := Lib.hid hl; have HP := Lib.hid hp; have HW := Lib.hid hW; clear hr hl hp hW
 cases hb : rightB l with
 | false =>
  rw [hb] at HRT; clear hb; go_enter Tryz.func100, Tryz.ntmps100; go_wp2_with fail; rw [← HP.out, ← HW.out]; refine (calls_kept HRT.out HK).mono ?_; rintro e w1 ⟨rfl, HK1⟩; go_wp2; go_ret; exact ⟨rfl, HK1.out.below⟩
 | true =>
  rw [hb] at HRT; clear hb; go_enter Tryz.func100, Tryz.ntmps100; go_wp2_with fail; rw [← HP.out, ← HW.out]; refine HRT.out.mono ?_; rintro e w1 ⟨rfl, hb1⟩; have HK1 := Lib.hid (HK.out.later hb1); have HR1 := Lib.hid (HR.out.later hb1); clear hb1; have HC := Lib.hid (contains_any l n A c v p w1 HL.out hn HR1.out HK1.out.c0); go_wp2_with (go_at_call 129; refine (calls_kept HC.out HK1).mono ?_; rintro e w2 ⟨rfl, HK2⟩); go_ret; exact ⟨ret_bool (Bool.true_and _).symm, HK2.out.below⟩
end Sp
end Go.Proofs.YtnlojpolfkjkoaaGreat
namespace Go.Proofs.YtnlojpolfkjkoaaGreat
open Go.RowKit
namespace Sp
theorem run_apps {w : World} {base n m c c' : Nat} {A A' : Option Addr} {xs ys : List Int} (ho : Own w base 2 1 A n c (intsC xs)) (hr : Rd w w.heap.size 1 A' m c' (intsC ys)) (hn : n + m ≤ 1000000) (hb : base ≤ w.heap.size) :
  ∃ A2 c2 w2, (Builtin.append_ #[101, 101] 101 #[.slice A n c, .slice A' m c']).run Tryz.prog w = .ok (.slice A2 (n + m) c2) w2 ∧ Own w2 base 2 1 A2 (n + m) c2 (intsC (xs ++ ys)) ∧ Below base w w2 := by
 obtain ⟨i0, hi0, hz0, hz1, hz2⟩ := info_of infoI; obtain ⟨v', w', h1, h2, h3, h4⟩ := run_app (P := Tryz.prog) w base 101 101 2 i0 _ 1 8 Tryz.underlying101 hi0 hz0 hz1 hz2 rfl (by omega) ho.row hr hn (by omega) hb; rw [← intsC_append] at h2; obtain ⟨A2, c2, rfl, h5⟩ := Own.of_row h2 (intsC_one _); exact ⟨A2, c2, w', h1, h5, (Below.refl base w).grown h3 hb (fun k hk => (ho.row.lt k hk).1)⟩
theorem nil_or_snoc (l : List (Int × Int)) : l = [] ∨ ∃ d r, l = d ++ [r] := by
 by_cases h : l = []
 ·exact .inl h
 ·exact .inr ⟨_, _, (List.dropLast_concat_getLast h).symm⟩
theorem ends_mem {l : List (Int × Int)} {r : Int × Int} (h : r ∈ l) : r.1 ∈ endsL l ∧ r.2 + 1 ∈ endsL l := ⟨List.mem_flatMap.2 ⟨r, h, by simp⟩, List.mem_flatMap.2 ⟨r, h, by simp⟩⟩
theorem has_between {l : List (Int × Int)} {u n : Int} (hu : u ≤ n) (h : ∀ x ∈ endsL l, u < x → n < x) : hasB l n = hasB l u := by
 have key : ∀ r ∈ l, (r.1 ≤ n ∧ n ≤ r.2) ↔ (r.1 ≤ u ∧ u ≤ r.2) := fun r hr => by
  obtain ⟨m1, m2⟩ := ends_mem hr; have h1 := h _ m1; have h2 := h _ m2; omega
 cases hx : hasB l u with
 | true =>
  obtain ⟨r, hr, h2⟩ := has_true.1 hx; exact has_true.2 ⟨r, hr, (key r hr).2 h2⟩
 | false => exact has_false.2 fun r hr h2 => has_false.1 hx r hr ((key r hr).1 h2)
theorem cnt_step : ∀ {L : List Int} {t u : Int}, t ∈ L → t < u → L.countP (fun x => decide (x < t)) + 1 ≤ L.countP (fun x => decide (x < u))
 | [], _, _, h, _ => by simp at h
 | x :: L, t, u, h, hu => by
  have mono : L.countP (fun x => decide (x < t)) ≤ L.countP (fun x => decide (x < u)) := List.countP_mono_left (fun y _ hy => by simp at hy ⊢; omega); rw [List.countP_cons, List.countP_cons]
  by_cases hx : x = t
  ·subst hx
   have e1 : decide (x < x) = false := by simp
   have e2 : decide (x < u) = true := by simpa using hu
   simp only [e1, e2, if_true, Bool.false_eq_true, if_false]; omega
  ·have h' : t ∈ L := by
    rcases List.mem_cons.1 h with h | h
    ·exact absurd h.symm hx
    ·exact h
   have ih := cnt_step h' hu
   by_cases h1 : x < t
   ·have e1 : decide (x < t) = true := by simpa using h1
    have e2 : decide (x < u) = true := by simp; omega
    simp only [e1, e2, if_true]; omega
   ·have e1 : decide (x < t) = false := by simpa using h1
    simp only [e1, Bool.false_eq_true, if_false]
    split <;> omega
theorem ends_bounds {l : List (Int × Int)} (h : RightF 1 l) {x : Int} (hx : x ∈ endsL l) : 1 ≤ x ∧ x ≤ 1099511627777 := by
 obtain ⟨r, hr, hx⟩ := List.mem_flatMap.1 hx; have := h.mem r hr
 simp at hx
 omega
structure ByInv (f : Bool → Bool → Bool) (a b out : List (Int × Int)) (t : Int) (ok : Bool) : Prop where
 right : RightF 1 out
 on : ok = true → t ∈ endsL a ++ endsL b ∧ 1 ≤ t ∧ t ≤ 1099511627777 ∧ (∀ r ∈ out, r.2 < t) ∧ (∀ n, n < t → hasB out n = f (hasB a n) (hasB b n)) ∧ out.length ≤ (endsL a ++ endsL b).countP (fun x => decide (x < t))
 off : ok = false → ∀ n, hasB out n = f (hasB a n) (hasB b n)
theorem between_both {a b : List (Int × Int)} {u n : Int} (hu : u ≤ n) (h : ∀ x ∈ endsL a ++ endsL b, u < x → n < x) : hasB a n = hasB a u ∧ hasB b n = hasB b u :=
 ⟨has_between hu fun x hx => h x (List.mem_append_left _ hx), has_between hu fun x hx => h x (List.mem_append_right _ hx)⟩
theorem ByInv.zero {f : Bool → Bool → Bool} (hf : f false false = false) {a b : List (Int × Int)} (ha : RightF 1 a) (hb : RightF 1 b) : ByInv f a b [] ((nextL 0 (endsL a ++ endsL b)).getD 0) (nextL 0 (endsL a ++ endsL b)).isSome := by
 have hN := nextL_is 0 (endsL a ++ endsL b); have h0 : ∀ n, n ≤ 0 → hasB a n = false ∧ hasB b n = false := fun n hn => ⟨has_lt ha (by omega), has_lt hb (by omega)⟩
 cases hx : nextL 0 (endsL a ++ endsL b) with
 | none =>
  rw [hx] at hN; refine ⟨trivial, fun h => (by cases h), fun _ n => ?_⟩
  rcases (by omega : n ≤ 0 ∨ 0 < n) with hn | hn
  ·rw [(h0 n hn).1, (h0 n hn).2, hf]; rfl
  ·obtain ⟨e1, e2⟩ := between_both (a := a) (b := b) (u := 0) (n := n) (by omega) (fun x hx h => by have := hN x hx; omega)
   rw [e1, e2, (h0 0 (by omega)).1, (h0 0 (by omega)).2, hf]; rfl
 | some t =>
  rw [hx] at hN; obtain ⟨h1, h2, h3⟩ := hN
  have hb' : 1 ≤ t ∧ t ≤ 1099511627777 := by
   rcases List.mem_append.1 h1 with h | h
   ·exact ends_bounds ha h
   ·exact ends_bounds hb h
  refine ⟨trivial, fun _ => ⟨h1, hb'.1, hb'.2, by simp, fun n hn => ?_, Nat.zero_le _⟩, fun h => by cases h⟩; show hasB [] n = _
  rcases (by omega : n ≤ 0 ∨ 0 < n) with hn0 | hn0
  ·rw [(h0 n hn0).1, (h0 n hn0).2, hf]; rfl
  ·obtain ⟨e1, e2⟩ := between_both (a := a) (b := b) (u := 0) (n := n) (by omega) (fun x hx h => by have := h3 x hx h; have hn : n < t := hn; omega)
   rw [e1, e2, (h0 0 (by omega)).1, (h0 0 (by omega)).2, hf]; rfl
section
variable {f : Bool → Bool → Bool} {a b out : List (Int × Int)} {t : Int}
theorem ByInv.last (hf : f false false = false) (ha : RightF 1 a) (hb : RightF 1 b) (h : ByInv f a b out t true) (hN : nextL t (endsL a ++ endsL b) = none) : f (hasB a t) (hasB b t) = false ∧ ∀ u, ByInv f a b out u false := by
 have hN' := nextL_is t (endsL a ++ endsL b); rw [hN] at hN'; obtain ⟨h1, h2, h3, h4, h5, h6⟩ := h.on rfl; have hbt : ∀ n, t ≤ n → hasB a n = hasB a t ∧ hasB b n = hasB b t := fun n hn => between_both hn (fun x hx h => by have := hN' x hx; omega)
 have hz : f (hasB a t) (hasB b t) = false := by
  obtain ⟨e1, e2⟩ := hbt 1099511627778 (by omega); rw [← e1, ← e2, has_gt ha (by omega), has_gt hb (by omega), hf]
 refine ⟨hz, fun u => ⟨h.right, fun h => (by cases h), fun _ n => ?_⟩⟩
 rcases (by omega : n < t ∨ t ≤ n) with hn | hn
 ·exact h5 n hn
 ·obtain ⟨e1, e2⟩ := hbt n hn
  rw [e1, e2, hz]
  exact has_false.2 fun r hr => by have := h4 r hr; omega
theorem ByInv.next {u : Int} (ha : RightF 1 a) (hb : RightF 1 b) (h : ByInv f a b out t true) (hN : nextL t (endsL a ++ endsL b) = some u) :
  t < u ∧ 1 ≤ t ∧ u ≤ 1099511627777 ∧ (f (hasB a t) (hasB b t) = false → ByInv f a b out u true) ∧
  (f (hasB a t) (hasB b t) = true → (∀ r ∈ out, r.2 + 2 ≤ t) → ByInv f a b (out ++ [(t, u - 1)]) u true) ∧
  (f (hasB a t) (hasB b t) = true → ∀ d s, out = d ++ [(s, t - 1)] → ByInv f a b (d ++ [(s, u - 1)]) u true) := by
 have hN' := nextL_is t (endsL a ++ endsL b); rw [hN] at hN'; obtain ⟨g1, g2, g3⟩ := hN'; obtain ⟨h1, h2, h3, h4, h5, h6⟩ := h.on rfl; have hbt : ∀ n, t ≤ n → n < u → hasB a n = hasB a t ∧ hasB b n = hasB b t := fun n hn hnu => between_both hn (fun x hx h => by have := g3 x hx h; omega)
 have hub : 1 ≤ u ∧ u ≤ 1099511627777 := by
  rcases List.mem_append.1 g1 with h | h
  ·exact ends_bounds ha h
  ·exact ends_bounds hb h
 have hcnt := cnt_step h1 g2
 have hno : ∀ n, t ≤ n → hasB out n = false := fun n hn => has_false.2 fun r hr => by have := h4 r hr; omega
 refine ⟨g2, h2, hub.2, fun hin => ?_, fun hin hgap => ?_, fun hin d s hd => ?_⟩
 ·refine ⟨h.right, fun _ => ⟨g1, hub.1, hub.2, fun r hr => by have := h4 r hr; omega, fun n hn => ?_, by omega⟩, fun h => by cases h⟩
  rcases (by omega : n < t ∨ t ≤ n) with hn' | hn'
  ·exact h5 n hn'
  ·obtain ⟨e1, e2⟩ := hbt n hn' hn
   rw [e1, e2, hin, hno n hn']
 ·refine ⟨h.right.snoc hgap h2 (by show t ≤ u - 1; omega) (by show u - 1 ≤ _; omega), fun _ => ⟨g1, hub.1, hub.2, fun r hr => ?_, fun n hn => ?_, by rw [List.length_append, List.length_singleton]; omega⟩, fun h => by cases h⟩
  ·rcases List.mem_append.1 hr with hr | hr
   ·have := h4 r hr; omega
   ·rw [List.mem_singleton.1 hr]; show u - 1 < u; omega
  ·rw [has_append, has_cons, has_nil, Bool.or_false]
   rcases (by omega : n < t ∨ t ≤ n) with hn' | hn'
   ·have e : decide (t ≤ n ∧ n ≤ u - 1) = false := by simp; omega
    rw [e, Bool.or_false]; exact h5 n hn'
   ·obtain ⟨e1, e2⟩ := hbt n hn' hn
    have e : decide (t ≤ n ∧ n ≤ u - 1) = true := by simp; omega
    rw [e1, e2, hin, e, Bool.or_true]
 ·subst hd
  obtain ⟨k1, k2, k3, k4, k5⟩ := h.right.of_snoc; dsimp only at k2 k3 k4 k5; refine ⟨k1.snoc k2 k3 (by show s ≤ u - 1; omega) (by show u - 1 ≤ _; omega), fun _ => ⟨g1, hub.1, hub.2, fun r hr => ?_, fun n hn => ?_, by rw [List.length_append, List.length_singleton] at h6 ⊢; omega⟩, fun h => by cases h⟩
  ·rcases List.mem_append.1 hr with hr | hr
   ·have := h4 r (List.mem_append_left _ hr); omega
   ·rw [List.mem_singleton.1 hr]; show u - 1 < u; omega
  ·rw [has_append, has_cons, has_nil, Bool.or_false]
   rcases (by omega : n < t ∨ t ≤ n) with hn' | hn'
   ·have e5 := h5 n hn'
    rw [has_append, has_cons, has_nil, Bool.or_false] at e5
    have e : decide (s ≤ n ∧ n ≤ u - 1) = decide (s ≤ n ∧ n ≤ t - 1) := by
     congr 1
     exact propext ⟨fun h => ⟨h.1, by omega⟩, fun h => ⟨h.1, by omega⟩⟩
    rw [e]; exact e5
   ·obtain ⟨e1, e2⟩ := hbt n hn' hn
    have e : decide (s ≤ n ∧ n ≤ u - 1) = true := by simp; omega
    rw [e1, e2, hin, e, Bool.or_true]
end
structure OfInv (ns : List Int) (out : List (Int × Int)) (t : Int) (ok : Bool) : Prop where
 right : RightF 1 out
 on : ok = true → t ∈ ns ∧ (∀ r ∈ out, r.2 < t) ∧ (∀ n, hasB out n = true ↔ (n ∈ ns ∧ n < t)) ∧ out.length ≤ ns.countP (fun x => decide (x < t))
 off : ok = false → ∀ n, hasB out n = true ↔ n ∈ ns
theorem OfInv.zero {ns : List Int} (hb : ∀ x ∈ ns, 1 ≤ x ∧ x ≤ 1099511627776) : OfInv ns [] ((nextL 0 ns).getD 0) (nextL 0 ns).isSome := by
 have hN := nextL_is 0 ns
 cases hx : nextL 0 ns with
 | none =>
  rw [hx] at hN; refine ⟨trivial, fun h => (by cases h), fun _ n => ⟨fun h => (by cases h), fun h => ?_⟩⟩; have := hN n h; have := hb n h; omega
 | some t =>
  rw [hx] at hN; obtain ⟨h1, h2, h3⟩ := hN; refine ⟨trivial, fun _ => ⟨h1, by simp, fun n => ⟨fun h => (by cases h), fun h => ?_⟩, Nat.zero_le _⟩, fun h => by cases h⟩; have h' : n < t := h.2; have := h3 n h.1 (by have := hb n h.1; omega); omega
section
variable {ns : List Int} {out : List (Int × Int)} {t : Int}
theorem OfInv.one (_hb : ∀ x ∈ ns, 1 ≤ x ∧ x ≤ 1099511627776) (h : OfInv ns out t true) (out' : List (Int × Int)) (hr : RightF 1 out') (he : ∀ r ∈ out', r.2 ≤ t) (hh : ∀ n, hasB out' n = (hasB out n || decide (n = t))) (hl : out'.length ≤ out.length + 1) :
  OfInv ns out' ((nextL t ns).getD 0) (nextL t ns).isSome := by
 have hN := nextL_is t ns; obtain ⟨h1, h2, h3, h4⟩ := h.on rfl
 have key : ∀ n, hasB out' n = true ↔ (n ∈ ns ∧ n ≤ t) := fun n => by
  rw [hh, Bool.or_eq_true, h3 n, decide_eq_true_eq]; constructor
  ·rintro (h | rfl)
   ·exact ⟨h.1, by omega⟩
   ·exact ⟨h1, Int.le_refl _⟩
  ·rintro ⟨ha, hb⟩
   rcases (by omega : n < t ∨ n = t) with h | h
   ·exact .inl ⟨ha, h⟩
   ·exact .inr h
 cases hx : nextL t ns with
 | none =>
  rw [hx] at hN; refine ⟨hr, fun h => (by cases h), fun _ n => (key n).trans ⟨fun h => h.1, fun h => ⟨h, hN n h⟩⟩⟩
 | some u =>
  rw [hx] at hN; obtain ⟨g1, g2, g3⟩ := hN; have hcnt := cnt_step h1 g2; refine ⟨hr, fun _ => ⟨g1, fun r hr => ?_, fun n => (key n).trans ⟨fun h => ⟨h.1, ?_⟩, fun h => ⟨h.1, ?_⟩⟩, ?_⟩, fun h => by cases h⟩
  ·have := he r hr
   show r.2 < u; omega
  ·show n < u
   omega
  ·have h' : n < u := h.2
   rcases (by omega : n ≤ t ∨ t < n) with h2 | h2
   ·exact h2
   ·have := g3 n h.1 h2; omega
  ·show out'.length ≤ ns.countP (fun x => decide (x < u))
   omega
theorem OfInv.push (hb : ∀ x ∈ ns, 1 ≤ x ∧ x ≤ 1099511627776) (h : OfInv ns out t true) (hg : ∀ r ∈ out, r.2 + 2 ≤ t) : OfInv ns (out ++ [(t, t)]) ((nextL t ns).getD 0) (nextL t ns).isSome := by
 obtain ⟨h1, h2, h3, h4⟩ := h.on rfl; have hbt := hb t h1; refine h.one hb _ (h.right.snoc hg hbt.1 (Int.le_refl _) hbt.2) (fun r hr => ?_) (fun n => ?_) (by simp)
 ·rcases List.mem_append.1 hr with hr | hr
  ·have := h2 r hr; omega
  ·rw [List.mem_singleton.1 hr]; exact Int.le_refl _
 ·rw [has_append, has_cons, has_nil, Bool.or_false]
  congr 2
  exact propext ⟨fun h => by dsimp only at h; omega, fun h => ⟨by dsimp only; omega, by dsimp only; omega⟩⟩
theorem OfInv.grow {d : List (Int × Int)} {s : Int} (hb : ∀ x ∈ ns, 1 ≤ x ∧ x ≤ 1099511627776) (h : OfInv ns (d ++ [(s, t - 1)]) t true) : OfInv ns (d ++ [(s, t)]) ((nextL t ns).getD 0) (nextL t ns).isSome := by
 obtain ⟨h1, h2, h3, h4⟩ := h.on rfl; have hbt := hb t h1; obtain ⟨k1, k2, k3, k4, k5⟩ := h.right.of_snoc; dsimp only at k2 k3 k4 k5; refine h.one hb _ (k1.snoc k2 k3 (by show s ≤ t; omega) hbt.2) (fun r hr => ?_) (fun n => ?_) (by simp)
 ·rcases List.mem_append.1 hr with hr | hr
  ·have := h2 r (List.mem_append_left _ hr); omega
  ·rw [List.mem_singleton.1 hr]; exact Int.le_refl _
 ·rw [has_append, has_append, has_cons, has_cons, has_nil, Bool.or_false, Bool.or_false, Bool.or_assoc]
  congr 1
  rw [← Bool.decide_or]
  congr 1
  exact propext ⟨fun h => by dsimp only at h ⊢; omega, fun h => by dsimp only at h ⊢; omega⟩
end
end Sp
end Go.Proofs.YtnlojpolfkjkoaaGreat
namespace Go.Proofs.YtnlojpolfkjkoaaGreat
open Go.ChangeShapes Go.WideShapes Go.ChangeAt Go.RowKit
namespace Tr
open Sp Rw
theorem infoE : (Tryz.prog.info? 41).map (fun i => (i.zero, i.size, i.bytes)) = some (some (.agg #[.int .i64 0, .int .i64 0, .string ⟨#[]⟩, .int .i64 0]), 4, 40) := by kernel_rfl
theorem infoK : (Tryz.prog.info? 77).map (fun i => (i.zero, i.size, i.bytes)) = some (some (.agg #[.string ⟨#[]⟩, .slice none 0 0, .slice none 0 0]), 3, 64) := by kernel_rfl
end Tr
end Go.Proofs.YtnlojpolfkjkoaaGreat
namespace Go.Proofs.YtnlojpolfkjkoaaGreat
open Go.ChangeShapes Go.WideShapes Go.ChangeAt Go.RowKit
namespace Tr
open Sp Rw
theorem KidRow.set7 {w w7 : World} {base e n c : Nat} {A : Option Addr} {ks : List (ByteArray × T)} {kr : List (ByteArray × SV × SV)} {r j : Nat} {v : Value} (h : KidRow w base e A n c ks kr) (hr : r < base) (hw : w7 = w.setCell ⟨r, j, none⟩ v) : KidRow w7 base e A n c ks kr := by
 subst hw; refine ⟨h.len, h.lenr, h.own.set_below (a := ⟨r, j, none⟩) hr v, fun i hi hi' => ⟨(h.kid i hi hi').1, ?_⟩⟩; exact RdO.keep (by simp [World.setCell]) (fun b hb _ => Below.heap_setCell _ ⟨r, j, none⟩ _ b (fun e => by have : b = r := e; omega)) _ (h.kid i hi hi').2
end Tr
end Go.Proofs.YtnlojpolfkjkoaaGreat
namespace Go.Proofs.YtnlojpolfkjkoaaGreat
open Go.ChangeShapes Go.WideShapes Go.ChangeAt Go.RowKit
namespace Tr
open Rw Sp
abbrev Lf := List ByteArray × E
def leafC (x : SV × E) : List Value := [.slice x.1.A x.1.n x.1.c, .int .i64 x.2.a, .int .i64 x.2.n, .string x.2.s, .int .i64 x.2.v]
theorem leafC_len (x : SV × E) : (leafC x).length = 5 := rfl
theorem leafC_one (x : SV × E) : ∀ u ∈ leafC x, u.oneCell' = true := by
 intro u hu; simp [leafC] at hu
 rcases hu with rfl | rfl | rfl | rfl | rfl <;> rfl
structure RX (w : World) (ok : Nat → Prop) (sz : Nat) (A : Option Addr) (n c : Nat) (xs : List Value) : Prop where
 len : xs.length = n * sz
 cap : n ≤ c
 one : ∀ u ∈ xs, u.oneCell' = true
 at_ : 0 < n → ∃ b o, A = some ⟨b, o, none⟩ ∧ ok b ∧ b < w.heap.size ∧ ∀ j u, xs[j]? = some u → w.cell? ⟨b, o + j, none⟩ = some u
namespace RX
variable {w w' : World} {ok ok' : Nat → Prop} {sz n c : Nat} {A : Option Addr} {xs : List Value}
theorem rd (h : RX w ok sz A n c xs) : Rd w w.heap.size sz A n c xs := ⟨h.len, h.cap, h.one, fun hn => by obtain ⟨b, o, e, _, hb, hc⟩ := h.at_ hn; exact ⟨b, o, e, hb, hc⟩⟩
theorem of_rd {B : Nat} (h : Rd w B sz A n c xs) (hB : B ≤ w.heap.size) (hok : ∀ b, b < B → ok b) : RX w ok sz A n c xs := ⟨h.len, h.cap, h.one, fun hn => by obtain ⟨b, o, e, hb, hc⟩ := h.at_ hn; exact ⟨b, o, e, hok b hb, by omega, hc⟩⟩
theorem mono (h : RX w ok sz A n c xs) (ho : ∀ b, ok b → b < w.heap.size → ok' b) : RX w ok' sz A n c xs :=
 ⟨h.len, h.cap, h.one, fun hn => by obtain ⟨b, o, e, h1, hb, hc⟩ := h.at_ hn; exact ⟨b, o, e, ho b h1 hb, hb, hc⟩⟩
theorem keep (h : RX w ok sz A n c xs) (hs : w.heap.size ≤ w'.heap.size) (hk : ∀ b, ok b → b < w.heap.size → w'.heap[b]? = w.heap[b]?) : RX w' ok sz A n c xs :=
 ⟨h.len, h.cap, h.one, fun hn => by
  obtain ⟨b, o, e, h1, hb, hc⟩ := h.at_ hn
  exact ⟨b, o, e, h1, Nat.lt_of_lt_of_le hb hs, fun j u hu => (World.cell?_of_block (a := ⟨b, o + j, none⟩) (hk b h1 hb)).trans (hc j u hu)⟩⟩
theorem later (h : RX w ok sz A n c xs) (hb : Below w.heap.size w w') : RX w' ok sz A n c xs := h.keep hb.size fun b _ hlt => hb.block b hlt
end RX
def Paths (w : World) (ok : Nat → Prop) (ls : List Lf) (lr : List (SV × E)) : Prop := ls.length = lr.length ∧ ∀ (i : Nat) (h : i < ls.length) (h' : i < lr.length), lr[i].2 = ls[i].2 ∧ ls[i].1.length = lr[i].1.n ∧ RX w ok 1 lr[i].1.A lr[i].1.n lr[i].1.c (strs ls[i].1)
namespace Paths
variable {w w' : World} {ok ok' : Nat → Prop} {ls ls2 : List Lf} {lr lr2 : List (SV × E)}
theorem nil (w : World) (ok : Nat → Prop) : Paths w ok [] [] := ⟨rfl, fun i h => by simp at h⟩
theorem mono (h : Paths w ok ls lr) (ho : ∀ b, ok b → b < w.heap.size → ok' b) : Paths w ok' ls lr := ⟨h.1, fun i hi hi' => ⟨(h.2 i hi hi').1, (h.2 i hi hi').2.1, (h.2 i hi hi').2.2.mono ho⟩⟩
theorem keep (h : Paths w ok ls lr) (hs : w.heap.size ≤ w'.heap.size) (hk : ∀ b, ok b → b < w.heap.size → w'.heap[b]? = w.heap[b]?) : Paths w' ok ls lr := ⟨h.1, fun i hi hi' => ⟨(h.2 i hi hi').1, (h.2 i hi hi').2.1, (h.2 i hi hi').2.2.keep hs hk⟩⟩
theorem later (h : Paths w ok ls lr) (hb : Below w.heap.size w w') : Paths w' ok ls lr := h.keep hb.size fun b _ hlt => hb.block b hlt
theorem app (h : Paths w ok ls lr) (h2 : Paths w ok ls2 lr2) : Paths w ok (ls ++ ls2) (lr ++ lr2) := by
 refine ⟨by rw [List.length_append, List.length_append, h.1, h2.1], fun i hi hi' => ?_⟩
 by_cases hlt : i < ls.length
 ·have hlt' : i < lr.length := by rw [← h.1]; exact hlt
  rw [List.getElem_append_left hlt, List.getElem_append_left hlt']; exact h.2 i hlt hlt'
 ·have e1 := h.1
  have e2 : i - ls.length < ls2.length := by rw [List.length_append] at hi; omega
  have e3 : i - lr.length < lr2.length := by rw [List.length_append] at hi'; omega
  rw [List.getElem_append_right (by omega), List.getElem_append_right (by omega)]; have := h2.2 (i - ls.length) e2 (by rw [e1]; exact e3)
  simpa [e1] using this
theorem one {p : List ByteArray} {e : E} {s : SV} (hl : p.length = s.n) (h : RX w ok 1 s.A s.n s.c (strs p)) : Paths w ok [(p, e)] [(s, e)] := ⟨rfl, fun i hi hi' => by
 obtain rfl : i = 0 := by simp at hi; omega
 exact ⟨rfl, hl, h⟩⟩
theorem take (h : Paths w ok ls lr) (k : Nat) : Paths w ok (ls.take k) (lr.take k) := ⟨by rw [List.length_take, List.length_take, h.1], fun i hi hi' => by
 rw [List.length_take] at hi hi'; rw [List.getElem_take, List.getElem_take]
 exact h.2 i (by omega) (by omega)⟩
end Paths
def LfRd (w : World) (B : Nat) (A : Option Addr) (n c : Nat) (ls : List Lf) : Prop := ls.length = n ∧ ∃ lr : List (SV × E), Rd w B 5 A n c (lr.flatMap leafC) ∧ Paths w (fun b => b < B) ls lr
namespace LfRd
variable {w w' : World} {B n c : Nat} {A : Option Addr} {ls : List Lf}
theorem below (h : LfRd w B A n c ls) (_hB : B ≤ w.heap.size) (hb : Below B w w') : LfRd w' B A n c ls := by
 obtain ⟨h1, lr, h2, h3⟩ := h; exact ⟨h1, lr, h2.below hb, h3.keep hb.size fun b hlt _ => hb.block b hlt⟩
theorem more {B' : Nat} (h : LfRd w B A n c ls) (hB : B ≤ B') : LfRd w B' A n c ls := by
 obtain ⟨h1, lr, h2, h3⟩ := h; exact ⟨h1, lr, h2.more hB, h3.mono fun b hlt _ => Nat.lt_of_lt_of_le hlt hB⟩
theorem later (h : LfRd w w.heap.size A n c ls) (hb : Below w.heap.size w w') : LfRd w' w'.heap.size A n c ls := (h.below (Nat.le_refl _) hb).more hb.size
theorem at_ (h : LfRd w B A n c ls) (hn : 0 < n) : ∃ b o, A = some ⟨b, o, none⟩ ∧ b < B ∧ ∀ (i : Nat) (hi : i < ls.length), ∃ s : SV, w.cell? ⟨b, o + i * 5, none⟩ = some (.slice s.A s.n s.c) ∧ w.cell? ⟨b, o + i * 5 + 1, none⟩ = some (.int .i64 (ls[i]).2.a) ∧ w.cell? ⟨b, o + i * 5 + 2, none⟩ = some (.int .i64 (ls[i]).2.n) ∧ w.cell? ⟨b, o + i * 5 + 3, none⟩ = some (.string (ls[i]).2.s) ∧ w.cell? ⟨b, o + i * 5 + 4, none⟩ = some (.int .i64 (ls[i]).2.v) ∧ (ls[i]).1.length = s.n ∧ RX w (fun b => b < B) 1 s.A s.n s.c (strs (ls[i]).1) := by
 obtain ⟨h1, lr, h2, h3⟩ := h; obtain ⟨b, o, e, hb, hc⟩ := rd_elem leafC_len h2 hn; refine ⟨b, o, e, hb, fun i hi => ?_⟩
 have hi' : i < lr.length := by rw [← h3.1]; exact hi
 obtain ⟨e1, e2, e3⟩ := h3.2 i hi hi'; refine ⟨lr[i].1, hc i hi' 0 _ rfl, ?_, ?_, ?_, ?_, e2, e3⟩
 ·rw [← e1]; exact hc i hi' 1 _ rfl
 ·rw [← e1]; exact hc i hi' 2 _ rfl
 ·rw [← e1]; exact hc i hi' 3 _ rfl
 ·rw [← e1]; exact hc i hi' 4 _ rfl
end LfRd
structure LfRow (w : World) (base e : Nat) (A : Option Addr) (n c : Nat) (ls : List Lf) (lr : List (SV × E)) : Prop where
 len : ls.length = n
 own : Own w base e 5 A n c (lr.flatMap leafC)
 paths : Paths w (fun b => (Value.slice A n c).ownBlock ≠ some b) ls lr
namespace LfRow
variable {w w' : World} {base e n c : Nat} {A : Option Addr} {ls : List Lf} {lr : List (SV × E)}
theorem nil (w : World) (base e : Nat) : LfRow w base e none 0 0 [] [] := ⟨rfl, ⟨World.ownsRow_nil _ _ _ _, by simp⟩, Paths.nil _ _⟩
theorem later (h : LfRow w base e A n c ls lr) (hb : Below w.heap.size w w') : LfRow w' base e A n c ls lr := ⟨h.len, own_later h.own hb, h.paths.later hb⟩
theorem mono {base' : Nat} (h : LfRow w base e A n c ls lr) (hb : base' ≤ base) : LfRow w base' e A n c ls lr := ⟨h.len, h.own.mono hb, h.paths⟩
theorem rd (h : LfRow w base e A n c ls lr) : LfRd w w.heap.size A n c ls := ⟨h.len, lr, h.own.rd, ⟨h.paths.1, fun i hi hi' => ⟨(h.paths.2 i hi hi').1, (h.paths.2 i hi hi').2.1, ((h.paths.2 i hi hi').2.2).mono fun _ _ hlt => hlt⟩⟩⟩
theorem app {t by_ : Nat} {z : Value} (ht : Tryz.prog.underlying t = some (.slice e)) (hi : (Tryz.prog.info? e).map (fun i => (i.zero, i.size, i.bytes)) = some (some z, 5, by_)) (hzs : z.cells.size = 5) (hby : by_ ≤ 1000000)
  (h : LfRow w base e A n c ls lr) (hb : base ≤ w.heap.size) {B : Nat} {A2 : Option Addr} {m c2 : Nat} {ls2 : List Lf} {lr2 : List (SV × E)} (hr : Rd w B 5 A2 m c2 (lr2.flatMap leafC)) (hl2 : ls2.length = m) (hp : Paths w (fun b => (Value.slice A n c).ownBlock ≠ some b) ls2 lr2) (hn : n + m ≤ 900000) :
  ∃ A' c' w', (Builtin.append_ #[t, t] t #[.slice A n c, .slice A2 m c2]).run Tryz.prog w = .ok (.slice A' (n + m) c') w' ∧ LfRow w' base e A' (n + m) c' (ls ++ ls2) (lr ++ lr2) ∧ Below base w w' ∧ ∀ (P : Nat → Prop) (ls : List Lf) (lr : List (SV × E)), Paths w (fun b => (Value.slice A n c).ownBlock ≠ some b ∧ P b) ls lr → Paths w' (fun b => (Value.slice A' (n + m) c').ownBlock ≠ some b ∧ P b) ls lr := by
 obtain ⟨i0, hi0, hz0, hz1, hz2⟩ := info_of hi; obtain ⟨v', w', r1, r2, r3, r4⟩ := run_app (P := Tryz.prog) w base t t e i0 z 5 by_ ht hi0 hz0 hz1 hz2 hzs (by omega) h.own.row hr (by omega) hby hb
 have e1 : (lr ++ lr2).flatMap leafC = lr.flatMap leafC ++ lr2.flatMap leafC := by simp
 rw [← e1] at r2
 obtain ⟨A', c', rfl, ho⟩ := Own.of_row r2 (fun u hu => by
  obtain ⟨x, _, hu⟩ := List.mem_flatMap.1 hu
  exact leafC_one x u hu)
 have hk : ∀ b, (Value.slice A n c).ownBlock ≠ some b → b < w.heap.size → w'.heap[b]? = w.heap[b]? := fun b hb hlt => r3.block b hlt (fun e => hb e.symm)
 have hnew : ∀ b, (Value.slice A n c).ownBlock ≠ some b → b < w.heap.size → (Value.slice A' (n + m) c').ownBlock ≠ some b := fun b hb hlt he => by
  rcases r4 with r4 | r4
  ·exact hb (r4.symm.trans he)
  ·have : some b = some w.heap.size := he.symm.trans r4
   injection this with this; omega
 have hto : ∀ {ls : List Lf} {lr : List (SV × E)}, Paths w (fun b => (Value.slice A n c).ownBlock ≠ some b) ls lr → Paths w' (fun b => (Value.slice A' (n + m) c').ownBlock ≠ some b) ls lr := fun hp =>
  ((hp.mono (ok' := fun b => (Value.slice A' (n + m) c').ownBlock ≠ some b ∧ (Value.slice A n c).ownBlock ≠ some b) (fun b hb hlt => ⟨hnew b hb hlt, hb⟩)).keep r3.size (fun b hb hlt => hk b hb.2 hlt)).mono (fun b hb _ => hb.1)
 exact ⟨A', c', w', r1, ⟨by rw [List.length_append, h.len, hl2], ho, (hto h.paths).app (hto hp)⟩, (Below.refl base w).grown r3 hb (fun k hk => (h.own.row.lt k hk).1), fun P ls lr hp => ((hp.mono (ok' := fun b => (Value.slice A' (n + m) c').ownBlock ≠ some b ∧ (Value.slice A n c).ownBlock ≠ some b ∧ P b) (fun b hb hlt => ⟨hnew b hb.1 hlt, hb⟩)).keep r3.size (fun b hb hlt => hk b hb.2.1 hlt)).mono (fun b hb _ => ⟨hb.1, hb.2.2⟩)⟩
end LfRow
theorem infoL : (Tryz.prog.info? 61).map (fun i => (i.zero, i.size, i.bytes)) = some (some (.agg #[.slice none 0 0, .int .i64 0, .int .i64 0, .string ⟨#[]⟩, .int .i64 0]), 5, 64) := by kernel_rfl
theorem rd_leaf (w : World) (s : SV) (e : E) (ty : TypeId) : Rd (w.alloc (.cells #[.slice s.A s.n s.c, .int .i64 e.a, .int .i64 e.n, .string e.s, .int .i64 e.v] ty)) (w.heap.size + 1) 5 (some ⟨w.heap.size, 0, none⟩) 1 1 ([(s, e)].flatMap leafC) :=
 ⟨rfl, Nat.le_refl _, fun u hu => leafC_one (s, e) u (by simpa using hu), fun _ => ⟨_, _, rfl, by omega, fun j u hu => by
  rw [Nat.zero_add, cell_of_row _ _ j _ _ (0, 0) (heap_alloc_new _ _)]
  simpa [leafC] using hu⟩⟩
theorem LfRow.push {w : World} {base n c : Nat} {A : Option Addr} {ls : List Lf} {lr : List (SV × E)} (h : LfRow w base 61 A n c ls lr) (hb : base ≤ w.heap.size) {p : List ByteArray} {e : E} {s : SV} (hl : p.length = s.n) (hp : RX w (fun b => (Value.slice A n c).ownBlock ≠ some b) 1 s.A s.n s.c (strs p)) (hn : n ≤ 800000) :
  ∃ A' c' w', (Builtin.append_ #[62, 62] 62 #[.slice A n c, .slice (some ⟨w.heap.size, 0, none⟩) 1 1]).run Tryz.prog (w.alloc (.cells #[.slice s.A s.n s.c, .int .i64 e.a, .int .i64 e.n, .string e.s, .int .i64 e.v] 61)) = .ok (.slice A' (n + 1) c') w' ∧ LfRow w' base 61 A' (n + 1) c' (ls ++ [(p, e)]) (lr ++ [(s, e)]) ∧ Below base w w' ∧ ∀ (P : Nat → Prop) (ls : List Lf) (lr : List (SV × E)), Paths w (fun b => (Value.slice A n c).ownBlock ≠ some b ∧ P b) ls lr → Paths w' (fun b => (Value.slice A' (n + 1) c').ownBlock ≠ some b ∧ P b) ls lr := by
 have hal : Below w.heap.size w (w.alloc (.cells #[.slice s.A s.n s.c, .int .i64 e.a, .int .i64 e.n, .string e.s, .int .i64 e.v] 61)) := (Below.refl _ _).alloc (Nat.le_refl _) _; obtain ⟨A', c', w', r1, r2, r3, r4⟩ := (h.later hal).app Tryz.underlying62 infoL rfl (by omega) (by simp; omega) (rd_leaf w s e _) rfl (Paths.one hl (hp.later hal)) (by omega); exact ⟨A', c', w', r1, r2, (hal.mono hb).trans r3, fun P ls lr hp => r4 P ls lr (hp.later hal)⟩
end Tr
end Go.Proofs.YtnlojpolfkjkoaaGreat
namespace Go.Proofs.YtnlojpolfkjkoaaGreat
open Go.ChangeShapes Go.WideShapes Go.ChangeAt Go.RowKit
namespace Tr
open Sp Rw
def TreeIs (u : T) (w : World) (e : Ending) (w' : World) : Prop := ∃ Ae ne ce Ak nk ck, e = .returned (.agg #[.slice Ae ne ce, .slice Ak nk ck]) ∧ RdO w' (fun b => w.heap.size ≤ b) u ⟨Ae, ne, ce⟩ ⟨Ak, nk, ck⟩ ∧ Below w.heap.size w w'
theorem TreeIs.rd {u : T} {Ae Ak : Option Addr} {ne nk ce ck lo : Nat} {w : World} (h : RdO w (fun b => lo ≤ b) u ⟨Ae, ne, ce⟩ ⟨Ak, nk, ck⟩) : RdT w w.heap.size u ⟨Ae, ne, ce⟩ ⟨Ak, nk, ck⟩ := h.rd
end Tr
end Go.Proofs.YtnlojpolfkjkoaaGreat
namespace Go.Proofs.YtnlojpolfkjkoaaGreat
open Go.RowKit Go.Shelf
namespace Tr
open Sp Rw
attribute [local go_sem] Oper.semAt_some
theorem RdO.one {w : World} {ok : Nat → Prop} {t : T} {A B : Option Addr} {n c m d : Nat} (h : RdO w ok t ⟨A, n, c⟩ ⟨B, m, d⟩) (hok : ok w.heap.size) (k : ByteArray) (ty : TypeId) :
  RdO (w.alloc (.cells #[.string k, .slice A n c, .slice B m d] ty)) ok (.mk [] [(k, t)]) ⟨Option.none, 0, 0⟩ ⟨some ⟨w.heap.size, 0, Option.none⟩, 1, 1⟩ := by
 rw [rdO_mk]; refine ⟨rfl, RO.nil _ _ _ _ _, rfl, [.string k, .slice A n c, .slice B m d], ⟨rfl, Nat.le_refl _, fun u hu => ?_, fun _ => ⟨w.heap.size, 0, rfl, hok, by simp, fun j => by go_simp, fun j u hu => ?_⟩⟩, fun i hi => ?_⟩
 ·simp at hu
  rcases hu with rfl | rfl | rfl <;> rfl
 ·rw [Nat.zero_add, cell_of_row _ _ j _ _ (0, 0) (heap_alloc_new _ _)]
  simpa using hu
 ·have : i = 0 := by simp at hi; omega
  subst this; exact ⟨⟨A, n, c⟩, ⟨B, m, d⟩, rfl, rfl, rfl, RdO.later h ((Below.refl _ _).alloc (Nat.le_refl _) _)⟩
end Tr
end Go.Proofs.YtnlojpolfkjkoaaGreat
namespace Go.Proofs.YtnlojpolfkjkoaaGreat
open Go.ChangeShapes Go.WideShapes Go.ChangeAt Go.RowKit Go.Shelf
namespace Tr
open Sp Rw
attribute [local go_sem] Oper.semAt_some
end Tr
end Go.Proofs.YtnlojpolfkjkoaaGreat
namespace Go.Proofs.YtnlojpolfkjkoaaGreat
namespace Cs
open Tr Cx Sp Classical
theorem AllJ.snoc {l : List K} {x y k : K} (h : AllJ l x) (hk : RK k) (hj : IsJ x k y) : AllJ (l ++ [k]) y := h.app (AllJ.one hk) hj
end Cs
end Go.Proofs.YtnlojpolfkjkoaaGreat
namespace Go.Proofs.YtnlojpolfkjkoaaGreat
open Go.ChangeShapes Go.WideShapes Go.ChangeAt Go.RowKit
namespace Tr
open Rw Sp
structure Row2 (w : World) (base : Nat) (A : Option Addr) (n c : Nat) (ls : List Lf) (lr : List (SV × E)) : Prop where
 len : ls.length = n
 own : Own w base 61 5 A n c (lr.flatMap leafC)
 paths : Paths w (fun b => b < base) ls lr
namespace Row2
variable {w w' : World} {base n c m d : Nat} {A B : Option Addr} {ls ls2 : List Lf} {lr lr2 : List (SV × E)}
theorem nil (w : World) (base : Nat) : Row2 w base none 0 0 [] [] := ⟨rfl, ⟨World.ownsRow_nil _ _ _ _, by simp⟩, Paths.nil _ _⟩
theorem rd (h : Row2 w base A n c ls lr) (hb : base ≤ w.heap.size) : LfRd w w.heap.size A n c ls := ⟨h.len, lr, h.own.rd, h.paths.mono fun _ hlt _ => Nat.lt_of_lt_of_le hlt hb⟩
theorem later (h : Row2 w base A n c ls lr) (_ : base ≤ w.heap.size) (hbw : Below w.heap.size w w') : Row2 w' base A n c ls lr := ⟨h.len, own_later h.own hbw, h.paths.later hbw⟩
theorem hold (h : Row2 w base A n c ls lr) (hk : ∀ b, (Value.slice A n c).ownBlock = some b → w'.heap[b]? = w.heap[b]?) (hb : Below base w w') : Row2 w' base A n c ls lr := by
 refine ⟨h.len, ⟨?_, h.own.one⟩, h.paths.keep hb.size fun b hlt _ => hb.block b hlt⟩; obtain ⟨h1, h2⟩ := h.own.row; refine ⟨h1, ?_⟩
 rcases h2 with h2 | ⟨g, cap, cur, e, h3, h4, h5⟩
 ·exact .inl h2
 ·refine .inr ⟨g, cap, cur, e, h3, ?_, h5⟩
  rw [hk g (by rw [e]; rfl)]; exact h4
def Apart (u v : Value) : Prop := ∀ b, u.ownBlock = some b → v.ownBlock ≠ some b
theorem push (h : Row2 w base A n c ls lr) (h2 : Row2 w base B m d ls2 lr2) (hap : Apart (.slice A n c) (.slice B m d)) (hb : base ≤ w.heap.size) {p : List ByteArray} {e : E} {s : SV} (hl : p.length = s.n) (hp : RX w (fun b => b < base) 1 s.A s.n s.c (strs p)) (hn : n ≤ 800000) :
  ∃ A' c' w', (Builtin.append_ #[62, 62] 62 #[.slice A n c, .slice (some ⟨w.heap.size, 0, none⟩) 1 1]).run Tryz.prog (w.alloc (.cells #[.slice s.A s.n s.c, .int .i64 e.a, .int .i64 e.n, .string e.s, .int .i64 e.v] 61)) = .ok (.slice A' (n + 1) c') w' ∧
   Row2 w' base A' (n + 1) c' (ls ++ [(p, e)]) (lr ++ [(s, e)]) ∧ Row2 w' base B m d ls2 lr2 ∧ Apart (.slice A' (n + 1) c') (.slice B m d) ∧ Apart (.slice B m d) (.slice A' (n + 1) c') ∧ Below base w w' := by
 obtain ⟨i0, hi0, hz0, hz1, hz2⟩ := info_of infoL; have hal : Below w.heap.size w (w.alloc (.cells #[.slice s.A s.n s.c, .int .i64 e.a, .int .i64 e.n, .string e.s, .int .i64 e.v] 61)) := (Below.refl _ _).alloc (Nat.le_refl _) _
 have hsz : (w.alloc (.cells #[.slice s.A s.n s.c, .int .i64 e.a, .int .i64 e.n, .string e.s, .int .i64 e.v] 61)).heap.size = w.heap.size + 1 := by simp
 obtain ⟨v', w', r1, r2, r3, r4⟩ := run_app (P := Tryz.prog) (w.alloc (.cells #[.slice s.A s.n s.c, .int .i64 e.a, .int .i64 e.n, .string e.s, .int .i64 e.v] 61)) base 62 62 61 i0 _ 5 64 Tryz.underlying62 hi0 hz0 hz1 hz2 rfl (by omega) (own_later h.own hal).row (rd_leaf w s e _) (by omega) (by omega) (by omega)
 have e1 : (lr ++ [(s, e)]).flatMap leafC = lr.flatMap leafC ++ [(s, e)].flatMap leafC := by simp
 rw [← e1] at r2
 obtain ⟨A', c', rfl, ho⟩ := Own.of_row r2 (fun u hu => by
  obtain ⟨x, _, hu⟩ := List.mem_flatMap.1 hu
  exact leafC_one x u hu)
 have hbw : Below base w w' := (hal.mono hb).trans ((Below.refl base _).grown r3 (by omega) (fun k hk => (h.own.row.lt k hk).1)); have hpp : Paths w' (fun b => b < base) (ls ++ [(p, e)]) (lr ++ [(s, e)]) := Paths.keep (Paths.app h.paths (Paths.one hl hp)) hbw.size fun b hlt _ => hbw.block b hlt; have hB : ∀ b, (Value.slice B m d).ownBlock = some b → (Value.slice A n c).ownBlock ≠ some b ∧ b < w.heap.size := fun b hb2 => ⟨fun hA => hap b hA hb2, (h2.own.row.lt b hb2).2⟩
 have hkB : ∀ b, (Value.slice B m d).ownBlock = some b → w'.heap[b]? = w.heap[b]? := fun b hb2 => by
  obtain ⟨x1, x2⟩ := hB b hb2; rw [r3.block b (by omega) (fun e => x1 e.symm)]; exact hal.block b x2
 have hnB : ∀ b, (Value.slice B m d).ownBlock = some b → (Value.slice A' (n + 1) c').ownBlock ≠ some b := fun b hb2 he => by
  obtain ⟨x1, x2⟩ := hB b hb2
  rcases r4 with r4 | r4
  ·exact x1 (r4.symm.trans he)
  ·have h3 : some b = some _ := he.symm.trans r4
   injection h3 with h3; omega
 exact ⟨A', c', w', r1, ⟨by rw [List.length_append, h.len]; rfl, ho, hpp⟩, h2.hold hkB hbw, fun b h3 h4 => hnB b h4 h3, fun b h3 h4 => hnB b h3 h4, hbw⟩
end Row2
end Tr
end Go.Proofs.YtnlojpolfkjkoaaGreat
