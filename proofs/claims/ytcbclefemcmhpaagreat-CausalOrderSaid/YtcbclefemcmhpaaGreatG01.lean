/- Texts of the lower layers, and of layer 9, put together. -/
import Derived.Test.YtcbclefemcmhpaaGreatG00
import Derived.Shelf.SlGeneric
import Derived.Shelf.SortG.Plain
import Derived.Shelf.SortG.SortNone
import Derived.Ground.SlgnProg
import Derived.RangeFuncBox
import Derived.RangeFuncLeaves
import Derived.Shelf.Abstract
import Derived.WalkKit
import Derived.OwnWalkIn
import Derived.TacticsInMore
import Derived.LoopNIn
import Derived.LoopIn
import Derived.Maps.AppendAt
import Derived.Sort.OwnSorted
import Derived.Sort.OwnSortedInts
import Derived.Lib.SliceRun
namespace Go.Proofs.YtcbclefemcmhpaaGreat
open Go.ChangeShapes Go.WideShapes Go.ChangeAt Go.RowKit
namespace Sp
theorem upon_append {P : Program} {o : Oper} {a : Go.Act} {K : Go.Act → World → Prop} {Q : Exit → Go.Act → World → Prop} {w w' : World} {v xv v' : Value} (s x : Operand) (t : TypeId)
    (ho : o.op = .call { callee := .builtin .append, args := #[s, x], argTypes := #[t, t] }) (hs : a.eval s = v) (hx : a.eval x = xv)
    (hr : (Builtin.append_ #[t, t] o.type #[v, xv]).run P w = .ok v' w') (h : K (a.put o.dst v') w') : Oper.upon P o a K Q ((execOp a.eval o).run P w) := by
  unfold execOp
  simp only [ho, resolve, invoke, builtin, Sem.run_bind, Sem.run_pure, Result.andThen_ok, List.map_toArray, List.map_cons, List.map_nil, hs, hx, hr]
  exact h
set_option maxRecDepth 100000 in
set_option maxHeartbeats 1000000 in
theorem refhas_any (l : List (Int × Int)) (n : Nat) (A : Option Addr) (c : Nat) (w : World) (hl : l.length = n) (hn : n ≤ 1000000) (hr : Rd w w.heap.size 2 A n c (runsC l)) (v : Int) :
    Calls Tryz.prog 55 #[.slice A n c, .int .i64 v] w fun e w' => e = .returned (.bool (hasB l v)) ∧ w' = w := by
  obtain ⟨z, hz⟩ : ∃ z, z = hasB l v := ⟨_, rfl⟩
  rw [← hz]
  have HZ := Lib.hid hz
  have HR := Lib.hid hr
  have HL := Lib.hid hl
  clear hr hl hz
  go_enter Tryz.func55, Tryz.ntmps55
  go_wp2
  go_loop [8] (fun i => ∃ (k : Nat), k ≤ n ∧ i = .int .i64 k ∧ Hid (hasB (l.take k) v = false)) (fun i => n - (intOf i).toNat)
  case atStart => exact ⟨0, by omega, rfl, Lib.hid (by rw [List.take_zero]; rfl)⟩
  case round =>
    obtain ⟨k, hk, rfl, HF⟩ := hrel
    by_cases hlt : k < n
    · have hkl : k < l.length := by rw [HL.out]; exact hlt
      obtain ⟨b, o, rfl, hbl, hc⟩ := rd_run HR.out HL.out hlt
      obtain ⟨q0, q1⟩ := hc k hkl
      obtain ⟨p, hp⟩ : ∃ p, p = l[k] := ⟨_, rfl⟩
      have htk : l.take (k + 1) = l.take k ++ [l[k]] := List.take_succ_eq_append_getElem hkl
      rw [← hp] at q0 q1 htk
      obtain ⟨x, y⟩ := p
      by_cases h1 : x ≤ v
      · have f1 : decide (x ≤ v) = true := by simpa using h1
        by_cases h2 : v ≤ y
        · have f2 : decide (v ≤ y) = true := by simpa using h2
          have HE : Hid (true = z) := by
            unfold Hid
            rw [HZ.out]
            exact (has_true.2 ⟨(x, y), by rw [hp]; exact List.getElem_mem hkl, h1, h2⟩).symm
          clear hc hp htk
          go_wp2
          go_ret
          exact ⟨ret_bool HE.out, rfl⟩
        · have f2 : decide (v ≤ y) = false := by simpa using h2
          have HF2 : Hid (hasB (l.take (k + 1)) v = false) := by
            unfold Hid
            rw [htk, has_append, HF.out]
            simp [hasB]; omega
          clear hc hp htk
          go_wp2
          go_round
          case rel => exact ⟨k + 1, by omega, by go_num, HF2.out⟩
          case measure => simp [intOf]; omega
      · have f1 : decide (x ≤ v) = false := by simpa using h1
        have HF2 : Hid (hasB (l.take (k + 1)) v = false) := by
          unfold Hid
          rw [htk, has_append, HF.out]
          simp [hasB]; omega
        clear hc hp htk
        go_wp2
        go_round
        case rel => exact ⟨k + 1, by omega, by go_num, HF2.out⟩
        case measure => simp [intOf]; omega
    · have HE : Hid (false = z) := by
        unfold Hid
        have := HF.out
        rw [List.take_of_length_le (by rw [HL.out]; omega)] at this
        rw [HZ.out, this]
      go_wp2
      go_ret
      exact ⟨ret_bool HE.out, rfl⟩
theorem right_later {l : List (Int × Int)} (h : RightF 1 l) {k : Nat} (hk : k < l.length) (h0 : 0 < k) : 3 ≤ l[k].1 := by
  cases l with
  | nil => simp at hk
  | cons r l =>
    obtain ⟨h1, h2, h3, h4⟩ := h
    cases k with
    | zero => omega
    | succ k =>
      have hk' : k < l.length := by simpa using hk
      have := h4.mem l[k] (List.getElem_mem hk')
      show 3 ≤ (l[k]'hk').1
      omega
/-- the places at which runs begin, and behind which they end -/
def endsL (l : List (Int × Int)) : List Int := l.flatMap fun r => [r.1, r.2 + 1]
theorem endsL_snoc (l : List (Int × Int)) (r : Int × Int) : endsL (l ++ [r]) = endsL l ++ [r.1, r.2 + 1] := by simp [endsL]
theorem endsL_len (l : List (Int × Int)) : (endsL l).length = l.length * 2 := by
  induction l with
  | nil => rfl
  | cons r l ih =>
    have : endsL (r :: l) = r.1 :: (r.2 + 1) :: endsL l := rfl
    rw [this]; simp [ih]; omega
/-- the least number above one -/
def nstep (above : Int) (acc : Option Int) (x : Int) : Option Int := if above < x ∧ (∀ b, acc = some b → x < b) then some x else acc
def nextL (above : Int) (l : List Int) : Option Int := l.foldl (nstep above) none
theorem nextL_snoc (above : Int) (l : List Int) (x : Int) : nextL above (l ++ [x]) = nstep above (nextL above l) x := by unfold nextL; rw [List.foldl_append]; rfl
/-- what the next one is -/
def NextIs (above : Int) (l : List Int) : Option Int → Prop
  | none => ∀ x ∈ l, x ≤ above
  | some t => t ∈ l ∧ above < t ∧ ∀ x ∈ l, above < x → t ≤ x
theorem nextL_is (above : Int) (l : List Int) : NextIs above l (nextL above l) := by
  have key : ∀ k, k ≤ l.length → NextIs above (l.take k) (nextL above (l.take k)) := by
    intro k
    induction k with
    | zero => intro _; simp [nextL, NextIs]
    | succ k ih =>
      intro hk
      have ih := ih (by omega)
      rw [List.take_succ_eq_append_getElem (by omega), nextL_snoc]
      obtain ⟨d, hd⟩ : ∃ d, d = l[k] := ⟨_, rfl⟩
      obtain ⟨acc, hacc⟩ : ∃ acc, acc = nextL above (l.take k) := ⟨_, rfl⟩
      rw [← hd, ← hacc]
      rw [← hacc] at ih
      unfold nstep
      by_cases h : above < d ∧ (∀ b, acc = some b → d < b)
      · rw [if_pos h]
        refine ⟨by simp, h.1, fun x hx hax => ?_⟩
        rcases List.mem_append.1 hx with hx | hx
        · cases acc with
          | none => have := ih x hx; omega
          | some b => have := ih.2.2 x hx hax; have := h.2 b rfl; omega
        · rw [List.mem_singleton.1 hx]; omega
      · rw [if_neg h]
        cases acc with
        | none =>
          intro x hx
          rcases List.mem_append.1 hx with hx | hx
          · exact ih x hx
          · rw [List.mem_singleton.1 hx]
            have : ¬ above < d := fun hlt => h ⟨hlt, by simp⟩
            omega
        | some b =>
          refine ⟨List.mem_append_left _ ih.1, ih.2.1, fun x hx hax => ?_⟩
          rcases List.mem_append.1 hx with hx | hx
          · exact ih.2.2 x hx hax
          · rw [List.mem_singleton.1 hx] at hax ⊢
            have : ¬ d < b := fun hlt => h ⟨hax, fun b' e => by injection e with e; omega⟩
            omega
  have := key l.length (Nat.le_refl _)
  rwa [List.take_of_length_le (Nat.le_refl _)] at this
set_option maxRecDepth 100000 in
set_option maxHeartbeats 1000000 in
theorem next_any (l : List Int) (n : Nat) (A : Option Addr) (c : Nat) (w : World) (hl : l.length = n) (hn : n ≤ 1000000) (hr : Rd w w.heap.size 1 A n c (intsC l)) (v : Int) :
    Calls Tryz.prog 117 #[.slice A n c, .int .i64 v] w fun e w' => e = .returned (.tuple #[.int .i64 ((nextL v l).getD 0), .bool (nextL v l).isSome]) ∧ w' = w := by
  obtain ⟨z, hz⟩ : ∃ z, z = nextL v l := ⟨_, rfl⟩
  rw [← hz]
  obtain ⟨zb, hzb⟩ : ∃ x, x = z.getD 0 := ⟨_, rfl⟩
  obtain ⟨zo, hzo⟩ : ∃ x, x = z.isSome := ⟨_, rfl⟩
  rw [← hzb, ← hzo]
  have HZB := Lib.hid hzb
  have HZO := Lib.hid hzo
  have HZ := Lib.hid hz
  have HR := Lib.hid hr
  have HL := Lib.hid hl
  clear hr hl hz hzb hzo
  go_enter Tryz.func117, Tryz.ntmps117
  go_wp2
  go_loop [6, 7, 11] (fun b s i => ∃ (k : Nat) (best : Int) (ok : Bool), k ≤ n ∧ b = .int .i64 best ∧ s = .bool ok ∧ i = .int .i64 k ∧ Hid (best = (nextL v (l.take k)).getD 0 ∧ ok = (nextL v (l.take k)).isSome)) (fun _ _ i => n - (intOf i).toNat)
  case atStart => exact ⟨0, 0, false, by omega, rfl, rfl, rfl, Lib.hid (by rw [List.take_zero]; exact ⟨rfl, rfl⟩)⟩
  case round =>
    obtain ⟨k, best, ok, hk, rfl, rfl, rfl, HF⟩ := hrel
    by_cases hlt : k < n
    · have hkl : k < l.length := by rw [HL.out]; exact hlt
      obtain ⟨b, o, rfl, hbl, hc⟩ := rd_int HR.out HL.out hlt
      have q0 := hc k hkl
      have htk : nextL v (l.take (k + 1)) = nstep v (nextL v (l.take k)) l[k] := by rw [List.take_succ_eq_append_getElem hkl, nextL_snoc]
      obtain ⟨x, hx⟩ : ∃ x, x = l[k] := ⟨_, rfl⟩
      obtain ⟨acc, hacc⟩ : ∃ acc, acc = nextL v (l.take k) := ⟨_, rfl⟩
      rw [← hx] at q0 htk
      rw [← hacc] at htk HF
      have hyes : nstep v acc x = some x → Hid (x = (nextL v (l.take (k + 1))).getD 0 ∧ true = (nextL v (l.take (k + 1))).isSome) := fun e => by
        unfold Hid
        rw [htk, e]
        exact ⟨rfl, rfl⟩
      have hno : nstep v acc x = acc → Hid (best = (nextL v (l.take (k + 1))).getD 0 ∧ ok = (nextL v (l.take (k + 1))).isSome) := fun e => by
        unfold Hid
        rw [htk, e]
        exact HF.out
      clear hc hx htk hacc
      by_cases h1 : v < x
      · have f1 : decide (v < x) = true := by simpa using h1
        cases acc with
        | none =>
          have hok : ok = false := HF.out.2
          subst hok
          have HY := hyes (by unfold nstep; rw [if_pos ⟨h1, by simp⟩])
          clear hyes hno
          go_wp2
          go_round
          case rel => exact ⟨k + 1, x, true, by omega, rfl, rfl, by go_num, HY.out⟩
          case measure => simp [intOf]; omega
        | some b0 =>
          have hok : ok = true := HF.out.2
          have hb0 : best = b0 := HF.out.1
          subst hok; subst hb0
          by_cases h2 : x < best
          · have f2 : decide (x < best) = true := by simpa using h2
            have HY := hyes (by unfold nstep; rw [if_pos ⟨h1, fun b' e => by injection e with e; omega⟩])
            clear hyes hno
            go_wp2
            go_round
            case rel => exact ⟨k + 1, x, true, by omega, rfl, rfl, by go_num, HY.out⟩
            case measure => simp [intOf]; omega
          · have f2 : decide (x < best) = false := by simpa using h2
            have HY := hno (by unfold nstep; rw [if_neg (fun h => h2 (h.2 best rfl))])
            clear hyes hno
            go_wp2
            go_round
            case rel => exact ⟨k + 1, best, true, by omega, rfl, rfl, by go_num, HY.out⟩
            case measure => simp [intOf]; omega
      · have f1 : decide (v < x) = false := by simpa using h1
        have HY := hno (by unfold nstep; rw [if_neg (fun h => h1 h.1)])
        clear hyes hno
        go_wp2
        go_round
        case rel => exact ⟨k + 1, best, ok, by omega, rfl, rfl, by go_num, HY.out⟩
        case measure => simp [intOf]; omega
    · have HE : Hid (best = z.getD 0 ∧ ok = z.isSome) := by
        have := HF.out
        rw [List.take_of_length_le (by rw [HL.out]; omega)] at this
        unfold Hid
        rw [HZ.out]
        exact this
      have hE : best = zb ∧ ok = zo := by rw [HZB.out, HZO.out]; exact HE.out
      clear HE HZB HZO HF
      obtain ⟨rfl, rfl⟩ := hE
      go_wp2
      go_ret2
      exact ⟨rfl, rfl⟩
set_option maxRecDepth 100000 in
set_option maxHeartbeats 1000000 in
theorem ends_any (l : List (Int × Int)) (n : Nat) (A : Option Addr) (c : Nat) (w : World) (hl : l.length = n) (hn : n ≤ 1000) (hr : Rd w w.heap.size 2 A n c (runsC l)) (hR : RightF 1 l) :
    Calls Tryz.prog 116 #[.slice A n c] w fun e w' => ∃ A' c', e = .returned (.slice A' (n * 2) c') ∧ Own w' w.heap.size 2 1 A' (n * 2) c' (intsC (endsL l)) ∧ Below w.heap.size w w' := by
  have HR := Lib.hid hr
  have HL := Lib.hid hl
  have HO := Lib.hid hR
  clear hr hl hR
  go_enter Tryz.func116, Tryz.ntmps116
  go_wp2
  go_loopw [3, 7] (fun v i wr => ∃ (k m : Nat) (A' : Option Addr) (c' : Nat), k ≤ n ∧ v = .slice A' m c' ∧ i = .int .i64 k ∧ Hid (m = k * 2) ∧ Hid (Own wr w.heap.size 2 1 A' m c' (intsC (endsL (l.take k)))) ∧ Hid (Below w.heap.size w wr)) (fun _ i _ => n - (intOf i).toNat)
  case atStart => exact ⟨0, 0, none, 0, by omega, rfl, rfl, rfl, ⟨World.ownsRow_nil _ _ _ _, by simp [endsL, intsC]⟩, Below.refl _ _⟩
  case round =>
    obtain ⟨k, m, A', c', hk, rfl, rfl, HM, HOW, HB⟩ := hrel
    by_cases hlt : k < n
    · have hkl : k < l.length := by rw [HL.out]; exact hlt
      obtain ⟨b, o, rfl, hbl, hc⟩ := rd_run HR.out HL.out hlt
      obtain ⟨q0, q1⟩ := hc k hkl
      have htk : l.take (k + 1) = l.take k ++ [l[k]] := List.take_succ_eq_append_getElem hkl
      have hm := HO.out.mem l[k] (List.getElem_mem hkl)
      obtain ⟨p, hp⟩ : ∃ p, p = l[k] := ⟨_, rfl⟩
      rw [← hp] at q0 q1 htk hm
      obtain ⟨x, y⟩ := p
      obtain ⟨hm1, hm2, hm3⟩ := hm
      dsimp only at hm1 hm2 hm3
      have q0 := (HB.out.cell (p := ⟨b, o + k * 2, none⟩) hbl).trans q0
      have q1 := (HB.out.cell (p := ⟨b, o + k * 2 + 1, none⟩) hbl).trans q1
      obtain ⟨v2, w2, hrun, ho2, hb2⟩ := run_push Tryz.underlying105 infoI rfl (by omega) (by omega) wr.drew w.heap.size wr.heap.size (by simp) (by have := HB.out.size; simp; omega) _ m _ (ownsRow_later HOW.out.row (Below.refl _ _).drew) [.int .i64 x, .int .i64 (y + 1)] 2 rfl (by intro u hu; simp at hu; rcases hu with rfl | rfl <;> rfl) (by have := HM.out; omega)
      have e2 : intsC (endsL (l.take k)) ++ [.int .i64 x, .int .i64 (y + 1)] = intsC (endsL (l.take (k + 1))) := by rw [htk, endsL_snoc, intsC_append]; rfl
      rw [e2] at ho2
      obtain ⟨A2, c2, rfl, ho3⟩ := Own.of_row ho2 (intsC_one _)
      have Hrun := Lib.hid hrun
      have HO2 := Lib.hid ho3
      have HB2 := Lib.hid ((HB.out.drew).trans hb2)
      have HM2 : Hid (m + 2 = (k + 1) * 2) := by unfold Hid; have := HM.out; omega
      have hwy : IntKind.i64.wrap (y + 1) = y + 1 := IntWalk.i64_in _ (by omega)
      clear hc hp hrun ho2 ho3 hb2 htk e2 HOW
      go_wp2
      go_region_law (refine upon_append _ _ _ rfl rfl rfl Hrun.out ?_)
      all_goals
        clear Hrun q0 q1
        go_wp2
        go_roundw
        case rel => exact ⟨k + 1, m + 2, A2, c2, by omega, rfl, by go_num, HM2.out, HO2.out, HB2.out⟩
        case measure => simp [intOf]; omega
    · obtain rfl : k = n := by omega
      have HE : Hid (l.take k = l) := List.take_of_length_le (by rw [HL.out]; omega)
      rw [HE.out] at HOW
      have hm := HM.out
      subst hm
      go_wp2
      go_ret
      exact ⟨_, _, rfl, HOW.out, HB.out⟩
end Sp
end Go.Proofs.YtcbclefemcmhpaaGreat
namespace Go.Proofs.YtcbclefemcmhpaaGreat
open Go.ChangeShapes Go.WideShapes Go.ChangeAt Go.RowKit
namespace Cx
open Sp Rw

noncomputable def rightCB (l : List S3) : Bool := @decide (RightC l) (Classical.propDecidable _)
theorem rightCB_true {l : List S3} (h : RightC l) : rightCB l = true := by unfold rightCB; exact @decide_eq_true _ (Classical.propDecidable _) h
theorem rightCB_false {l : List S3} (h : ¬ RightC l) : rightCB l = false := by unfold rightCB; exact @decide_eq_false _ (Classical.propDecidable _) h
theorem of_rightCB {l : List S3} (h : rightCB l = true) : RightC l := by unfold rightCB at h; exact @of_decide_eq_true _ (Classical.propDecidable _) h
theorem not_rightCB {l : List S3} (h : rightCB l = false) : ¬ RightC l := by unfold rightCB at h; exact @of_decide_eq_false _ (Classical.propDecidable _) h
theorem dropC_at {l : List S3} {k : Nat} (hk : k < l.length) {r : S3} (hr : r = l[k]) : l.drop k = r :: l.drop (k + 1) := by rw [hr]; exact List.drop_eq_getElem_cons hk
theorem part_take {l : List S3} {k : Nat} (hk : k < l.length) {r : S3} (hr : r = l[k]) (d : Int) : part (l.take (k + 1)) d = if r.1 = d then part (l.take k) d ++ [r.2] else part (l.take k) d := by
  rw [List.take_succ_eq_append_getElem hk, part_append, ← hr, part_cons, part_nil]
  split <;> simp
/-- a slice of runs, by its value's parts -/
def SvIs (w : World) (s : SV) (r : List (Int × Int)) : Prop := r.length = s.n ∧ Rd w w.heap.size 2 s.A s.n s.c (runsC r)
/-- what 'split' answers -/
def SplitIs (l : List S3) (b : Bool) (w : World) (e : Ending) (w' : World) : Prop :=
  ∃ s : Nat → SV, e = .returned (.tuple #[.agg #[.slice (s 0).A (s 0).n (s 0).c, .slice (s 1).A (s 1).n (s 1).c, .slice (s 2).A (s 2).n (s 2).c, .slice (s 3).A (s 3).n (s 3).c], .bool b]) ∧
    Hid (∀ d : Nat, d < 4 → SvIs w' (s d) (if b then part l d else [])) ∧ Below w.heap.size w w'
theorem infoS : (Tryz.prog.info? 55).map (fun i => (i.zero, i.size, i.bytes)) = some (some (.agg #[.int .i64 0, .int .i64 0, .int .i64 0]), 3, 24) := by kernel_rfl
theorem upd_part {l : List S3} {k d : Nat} (hk : k < l.length) {x y : Int} (hr : ((d : Int), x, y) = l[k]) :
    upd (fun i => runsC (part (l.take k) i)) d (runsC (part (l.take k) d) ++ [.int .i64 x, .int .i64 y]) = fun i : Nat => runsC (part (l.take (k + 1)) i) := by
  funext i
  rw [part_take hk hr]
  by_cases h : i = d
  · subst h
    rw [upd_same, if_pos rfl, runsC_append]
    rfl
  · rw [upd_other _ _ h, if_neg (by intro e; exact h (Int.ofNat.inj e.symm))]
theorem infoRs : (Tryz.prog.info? 107).map (fun i => (i.zero, i.size, i.bytes)) = some (some (.slice none 0 0), 1, 24) := by kernel_rfl
/-- an array of four slices, looked up -/
theorem index_parts (s : Nat → SV) (k : Nat) (hk : k < 4) (W : World) : (Instr.index 109 (.agg #[.slice (s 0).A (s 0).n (s 0).c, .slice (s 1).A (s 1).n (s 1).c, .slice (s 2).A (s 2).n (s 2).c, .slice (s 3).A (s 3).n (s 3).c]) (.int .i64 k)).run Tryz.prog W = .ok (.slice (s k).A (s k).n (s k).c) W := by
  obtain ⟨i0, hi0, _, hz1, _⟩ := info_of infoRs
  have hs : ∀ W, (sizeOf 107).run Tryz.prog W = .ok 1 W := fun W => by simp [sizeOf, typeInfo, hi0, hz1]
  have ha : ∀ W, (isAgg 107).run Tryz.prog W = .ok false W := fun W => by simp [isAgg, run_underlying Tryz.underlying107]
  rcases (by omega : k = 0 ∨ k = 1 ∨ k = 2 ∨ k = 3) with rfl | rfl | rfl | rfl <;> simp [Instr.index, run_underlying Tryz.underlying109, asIntOf, go_sem, hs, ha]
/-- four cells of a block are written -/
def put4 (g : Nat) (v0 v1 v2 v3 : Value) (W : World) : World := (((W.setCell ⟨g, 0, none⟩ v0).setCell ⟨g, 1, none⟩ v1).setCell ⟨g, 2, none⟩ v2).setCell ⟨g, 3, none⟩ v3
theorem put4_cells {g : Nat} {W : World} {v0 v1 v2 v3 u0 u1 u2 u3 : Value} (hf : Free g W) (k0 : W.cell? ⟨g, 0, none⟩ = some u0) (k1 : W.cell? ⟨g, 1, none⟩ = some u1) (k2 : W.cell? ⟨g, 2, none⟩ = some u2) (k3 : W.cell? ⟨g, 3, none⟩ = some u3) :
    (put4 g v0 v1 v2 v3 W).cell? ⟨g, 0, none⟩ = some v0 ∧ (put4 g v0 v1 v2 v3 W).cell? ⟨g, 1, none⟩ = some v1 ∧ (put4 g v0 v1 v2 v3 W).cell? ⟨g, 2, none⟩ = some v2 ∧ (put4 g v0 v1 v2 v3 W).cell? ⟨g, 3, none⟩ = some v3 := by
  have m0 := hf.2 0
  have m1 := hf.2 1
  have m2 := hf.2 2
  have m3 := hf.2 3
  unfold put4
  refine ⟨?_, ?_, ?_, ?_⟩ <;> go_simp
theorem put4_below {B g : Nat} {w W : World} {v0 v1 v2 v3 : Value} (h : Below B w W) (hg : B ≤ g) : Below B w (put4 g v0 v1 v2 v3 W) := (((h.setCell (p := ⟨g, 0, none⟩) hg _).setCell (p := ⟨g, 1, none⟩) hg _).setCell (p := ⟨g, 2, none⟩) hg _).setCell (p := ⟨g, 3, none⟩) hg _
theorem put4_rd {B g sz n c : Nat} {W : World} {A : Option Addr} {xs : List Value} {v0 v1 v2 v3 : Value} (h : Rd W B sz A n c xs) (hg : ∀ b o, A = some ⟨b, o, none⟩ → b ≠ g) : Rd (put4 g v0 v1 v2 v3 W) B sz A n c xs :=
  ⟨h.len, h.cap, h.one, fun hn => by
    obtain ⟨b, o, e, hb, hc⟩ := h.at_ hn
    refine ⟨b, o, e, hb, fun j u hu => ?_⟩
    have hne := hg b o e
    have hx : ∀ (k : Nat), (⟨g, k, none⟩ : Addr) ≠ ⟨b, o + j, none⟩ := fun k e => by injection e with e; exact hne e.symm
    unfold put4
    rw [World.cell?_setCell_other _ _ _ _ (hx 3), World.cell?_setCell_other _ _ _ _ (hx 2), World.cell?_setCell_other _ _ _ _ (hx 1), World.cell?_setCell_other _ _ _ _ (hx 0)]
    exact hc j u hu⟩
theorem put4_size {g : Nat} {W : World} {v0 v1 v2 v3 : Value} : (put4 g v0 v1 v2 v3 W).heap.size = W.heap.size := by simp [put4, World.setCell]
set_option maxRecDepth 100000 in
set_option maxHeartbeats 2000000 in
theorem split_any (l : List S3) (n : Nat) (A : Option Addr) (c : Nat) (w : World) (hl : l.length = n) (hn : n ≤ 100000) (hr : Rd w w.heap.size 3 A n c (spsC l)) (b : Bool) (hb : rightCB l = b) :
    Calls Tryz.prog 87 #[.slice A n c] w (SplitIs l b w) := by
  obtain ⟨g, hg⟩ : ∃ g, g = w.heap.size := ⟨_, rfl⟩
  have HR := Lib.hid hr
  have HL := Lib.hid hl
  have HB := Lib.hid hb
  have HG := Lib.hid hg
  clear hr hl hb hg
  go_enter Tryz.func87, Tryz.ntmps87
  go_wp2
  rw [← HG.out]
  go_loopw [5, 12] (fun le i wr => ∃ (k : Nat) (m : Int) (s : Nat → SV), k ≤ n ∧ le = .int .i64 m ∧ i = .int .i64 k ∧ Hid (0 ≤ m) ∧ Hid (Rows4 wr (g + 2) 138 2 (g + 1) s (fun d => runsC (part (l.take k) d))) ∧ Hid (∀ d : Nat, d < 4 → (part (l.take k) d).length = (s d).n) ∧ Hid (RiseC 0 l ↔ RiseC m (l.drop k)) ∧ Hid (Free g wr) ∧ Hid (Kept [(⟨g, 0, none⟩, .slice none 0 0), (⟨g, 1, none⟩, .slice none 0 0), (⟨g, 2, none⟩, .slice none 0 0), (⟨g, 3, none⟩, .slice none 0 0)] w wr)) (fun _ i _ => n - (intOf i).toNat)
  case atStart =>
    rw [HG.out]
    refine ⟨0, 0, fun _ => sv0, by omega, rfl, rfl, Int.le_refl _, Rows4.nil (by omega) (by simp) ⟨by simp, fun j => by go_simp⟩ (fun d hd => ?_), fun d _ => rfl, Iff.rfl, ⟨by simp; omega, fun j => by go_simp⟩, ?_⟩
    · rcases (by omega : d = 0 ∨ d = 1 ∨ d = 2 ∨ d = 3) with rfl | rfl | rfl | rfl <;> go_simp
    · exact ((((((Kept.nil w).alloc _).alloc _).cons_of (by go_simp)).cons_of (by go_simp)).cons_of (by go_simp)).cons_of (by go_simp)
  case round =>
    obtain ⟨k, m, s, hk, rfl, rfl, HM, HS, HN, HI, HF, HK⟩ := hrel
    have hgl := HF.out.1
    have m0 := HF.out.2 0; have m1 := HF.out.2 1; have m2 := HF.out.2 2; have m3 := HF.out.2 3
    have k0 := HK.out.c0; have k1 := HK.out.c1; have k2 := HK.out.c2; have k3 := HK.out.c3
    by_cases hlt : k < n
    · have hkl : k < l.length := by rw [HL.out]; exact hlt
      obtain ⟨b1, o, rfl, hbl, hc⟩ := rd_span HR.out hlt
      obtain ⟨q0, q1, q2⟩ := hc k hkl
      obtain ⟨p, hp⟩ : ∃ p, p = l[k] := ⟨_, rfl⟩
      have HD := Lib.hid (dropC_at hkl hp)
      have HP : Hid (p = l[k]) := Lib.hid hp
      rw [← hp] at q0 q1 q2
      obtain ⟨dc, x, y⟩ := p
      have q0 := (HK.out.below.cell (p := ⟨b1, o + k * 3, none⟩) hbl).trans q0
      have q1 := (HK.out.below.cell (p := ⟨b1, o + k * 3 + 1, none⟩) hbl).trans q1
      have q2 := (HK.out.below.cell (p := ⟨b1, o + k * 3 + 2, none⟩) hbl).trans q2
      obtain ⟨j0, j1, j2, j3⟩ := put4_cells (v0 := .slice none 0 0) (v1 := .slice none 0 0) (v2 := .slice none 0 0) (v3 := .slice none 0 0) HF.out k0 k1 k2 k3
      have hps : g < (put4 g (.slice none 0 0) (.slice none 0 0) (.slice none 0 0) (.slice none 0 0) wr).heap.size := by rw [put4_size]; exact hgl
      have J0 := Lib.hid ((World.cell?_alloc_lt _ (.cells #[.int .i64 dc, .int .i64 x, .int .i64 y] 55) ⟨g, 0, none⟩ hps).trans j0)
      have J1 := Lib.hid ((World.cell?_alloc_lt _ (.cells #[.int .i64 dc, .int .i64 x, .int .i64 y] 55) ⟨g, 1, none⟩ hps).trans j1)
      have J2 := Lib.hid ((World.cell?_alloc_lt _ (.cells #[.int .i64 dc, .int .i64 x, .int .i64 y] 55) ⟨g, 2, none⟩ hps).trans j2)
      have J3 := Lib.hid ((World.cell?_alloc_lt _ (.cells #[.int .i64 dc, .int .i64 x, .int .i64 y] 55) ⟨g, 3, none⟩ hps).trans j3)
      have HBE : Hid (Below w.heap.size w ((put4 g (.slice none 0 0) (.slice none 0 0) (.slice none 0 0) (.slice none 0 0) wr).alloc (.cells #[.int .i64 dc, .int .i64 x, .int .i64 y] 55))) := (put4_below HK.out.below (by rw [HG.out]; exact Nat.le_refl _)).alloc (by rw [put4_size]; exact HK.out.below.size) _
      clear j0 j1 j2 j3 hps
      clear hc hp
      by_cases h1 : dc < m
      · have f1 : decide (dc < m) = true := by simpa using h1
        have HBF : Hid (b = false) := by
          unfold Hid
          rw [← HB.out]
          refine rightCB_false fun h => ?_
          have := HI.out.1 h.rise
          rw [HD.out] at this
          have := this.1
          omega
        go_wp2
        have j0 := J0.out; have j1 := J1.out; have j2 := J2.out; have j3 := J3.out
        unfold put4 at j0 j1 j2 j3
        refine bodyPost_ret (v := .tuple #[.agg #[.slice none 0 0, .slice none 0 0, .slice none 0 0, .slice none 0 0], .bool false]) (by simp [results, Tryz.results87, go_sem, j0, j1, j2, j3]) rfl ⟨fun _ => sv0, by rw [HBF.out]; rfl, ?_, HBE.out⟩
        rw [HBF.out]
        exact fun d _ => ⟨rfl, Rd.nil _⟩
      · have f1 : decide (dc < m) = false := by simpa using h1
        by_cases h2 : 4 ≤ dc
        · have f2 : decide (4 ≤ dc) = true := by simpa using h2
          have HBF : Hid (b = false) := by
            unfold Hid
            rw [← HB.out]
            refine rightCB_false fun h => ?_
            have := HI.out.1 h.rise
            rw [HD.out] at this
            have := this.2.1
            dsimp only at this
            omega
          go_wp2
          have j0 := J0.out; have j1 := J1.out; have j2 := J2.out; have j3 := J3.out
          unfold put4 at j0 j1 j2 j3
          refine bodyPost_ret (v := .tuple #[.agg #[.slice none 0 0, .slice none 0 0, .slice none 0 0, .slice none 0 0], .bool false]) (by simp [results, Tryz.results87, go_sem, j0, j1, j2, j3]) rfl ⟨fun _ => sv0, by rw [HBF.out]; rfl, ?_, HBE.out⟩
          rw [HBF.out]
          exact fun d _ => ⟨rfl, Rd.nil _⟩
        · have f2 : decide (4 ≤ dc) = false := by simpa using h2
          clear J0 J1 J2 J3 HBE
          obtain ⟨d, rfl⟩ : ∃ d : Nat, dc = (d : Int) := ⟨dc.toNat, by have := HM.out; omega⟩
          have hd4 : (d : Int) < 4 := by omega
          have hd4n : d < 4 := by omega
          obtain ⟨h, hh⟩ : ∃ h, h = wr.heap.size := ⟨_, rfl⟩
          obtain ⟨W, hW⟩ : ∃ W, W = wr.alloc (.cells #[.int .i64 d, .int .i64 x, .int .i64 y] 55) := ⟨_, rfl⟩
          have hWd : W.heap.size = h + 1 := by rw [hW, hh]; simp
          have hbel : Below wr.heap.size wr W := by rw [hW]; exact (Below.refl _ _).alloc (Nat.le_refl _) _
          have c0 : W.cell? ⟨h, 0, none⟩ = some (.int .i64 d) := by rw [hW, hh]; go_simp
          have c1 : W.cell? ⟨h, 1, none⟩ = some (.int .i64 x) := by rw [hW, hh]; go_simp
          have c2 : W.cell? ⟨h, 2, none⟩ = some (.int .i64 y) := by rw [hW, hh]; go_simp
          have HS1 := (HS.out.later hbel).later ((Below.refl W.heap.size W).drew)
          have hnk := (HN.out d hd4n).symm ▸ Nat.le_trans (part_len (l.take k) d) (by rw [List.length_take]; exact Nat.min_le_left _ _)
          obtain ⟨A', c', w', r1, r2, r3, r4, r5⟩ := HS1.push Tryz.underlying107 infoR rfl (by omega) (by omega) hd4n W.heap.size rfl [.int .i64 x, .int .i64 y] rfl (by intro u hu; simp at hu; rcases hu with rfl | rfl <;> rfl) (by omega)
          have hne : (s d).val.ownBlock ≠ some h := fun e => by have := (HS.out.lt hd4n e).2; omega
          have hlt2 : h < W.drew.heap.size := by show h < W.heap.size; omega
          have i0 : w'.cell? ⟨h, 0, none⟩ = some (.int .i64 d) := (r2 h hne hlt2 0).trans c0
          have i1 : w'.cell? ⟨h, 1, none⟩ = some (.int .i64 x) := (r2 h hne hlt2 1).trans c1
          have i2 : w'.cell? ⟨h, 2, none⟩ = some (.int .i64 y) := (r2 h hne hlt2 2).trans c2
          have hl1 : g + 1 < W.heap.size := HS1.free.1
          have hl2 : h < W.heap.size := hlt2
          have hgh : g + 1 < h := by have := HS.out.free.1; omega
          have hgh2 : h ≠ g + 1 := by omega
          have hgh3 : ¬ (g + 1 = h) := by omega
          have ig : w'.cell? ⟨g + 1, d, none⟩ = some (.slice (s d).A (s d).n (s d).c) := (r2 (g + 1) (fun e => by have := (HS.out.lt hd4n e).1; omega) (HS1.free.1) d).trans (HS1.cell d hd4n)
          have cg : W.cell? ⟨g + 1, d, none⟩ = some (.slice (s d).A (s d).n (s d).c) := HS1.cell d hd4n
          have mg := r3.2 d
          have HI2 : Hid (RiseC 0 l ↔ RiseC (d : Int) (l.drop (k + 1))) := by
            refine Iff.trans HI.out ?_
            rw [HD.out]
            exact ⟨fun h => h.2.2, fun h => ⟨by show m ≤ (d : Int); omega, hd4, h⟩⟩
          have HN2 : Hid (∀ i : Nat, i < 4 → (part (l.take (k + 1)) i).length = (upd s d ⟨A', (s d).n + 1, c'⟩ i).n) := fun i hi => by
            rw [part_take hkl HP.out]
            by_cases he : i = d
            · subst he
              rw [upd_same, if_pos rfl, List.length_append, HN.out i hi]
              rfl
            · rw [upd_other _ _ he, if_neg (by intro e; exact he (Int.ofNat.inj e.symm)), HN.out i hi]
          have HS2 : Hid (Rows4 (w'.setCell ⟨g + 1, d, none⟩ (.slice A' ((s d).n + 1) c')) (g + 2) 138 2 (g + 1) (upd s d ⟨A', (s d).n + 1, c'⟩) (fun i => runsC (part (l.take (k + 1)) i))) := by
            have := r5
            rw [upd_part hkl HP.out] at this
            exact this
          have hb4 : Below (g + 2) wr w' := ((Below.trans (hbel.mono HS.out.high) ((Below.refl _ _).drew))).trans r4
          have HF2 : Hid (Free g (w'.setCell ⟨g + 1, d, none⟩ (.slice A' ((s d).n + 1) c'))) := Free.set ⟨Nat.lt_of_lt_of_le hgl hb4.size, fun j => (hb4.frozen (p := ⟨g, j, none⟩) (by show g < g + 2; omega)).trans (HF.out.2 j)⟩ _ _
          have HK2 : Hid (Kept [(⟨g, 0, none⟩, .slice none 0 0), (⟨g, 1, none⟩, .slice none 0 0), (⟨g, 2, none⟩, .slice none 0 0), (⟨g, 3, none⟩, .slice none 0 0)] w (w'.setCell ⟨g + 1, d, none⟩ (.slice A' ((s d).n + 1) c'))) := by
            refine Kept.set ⟨HK.out.below.trans (hb4.mono (by rw [HG.out]; omega)), fun q hq => ?_⟩ (by show w.heap.size ≤ g + 1; rw [HG.out]; omega) (by simp) _
            have hqb : q.1.block = g := by simp at hq; rcases hq with rfl | rfl | rfl | rfl <;> rfl
            exact ⟨by rw [hqb]; exact Nat.lt_of_lt_of_le hgl hb4.size, (hb4.cell (p := q.1) (by rw [hqb]; omega)).trans (HK.out.2 q hq).2⟩
          have Hrun := Lib.hid r1
          have HW := Lib.hid hW
          have HH := Lib.hid hh
          obtain ⟨sA, sn, sc, hs⟩ : ∃ sA sn sc, s d = ⟨sA, sn, sc⟩ := ⟨_, _, _, rfl⟩
          rw [hs] at Hrun cg ig HS2 HN2 HF2 HK2
          have HS3 := Lib.hid hs
          clear r1 r2 r3 r4 r5 hb4 hne hlt2 hWd hbel hW hh HS1 hnk k0 k1 k2 k3 m0 m1 m2 m3 hs HS HN HF HK HI HD hgl
          dsimp only at Hrun cg ig HS2 HN2 HF2 HK2
          go_wp2
          rw [← HW.out, ← HH.out]
          clear q0 q1 q2
          refine wp_region_held_drew (S := fun W => W.cell? ⟨h, 0, none⟩ = some (.int .i64 d) ∧ W.cell? ⟨h, 1, none⟩ = some (.int .i64 x) ∧ W.cell? ⟨h, 2, none⟩ = some (.int .i64 y)) (by kernel_rfl) (by go_keep) (fun hHeld => ?_)
          refine Tk 0 28 ?_
          refine Tk 1 29 ?_
          refine Tk 2 30 ?_
          refine Tk 3 31 ?_
          refine Tk 4 32 ?_
          refine Tk 6 34 ?_
          refine Tk 7 35 ?_
          refine Tk 8 36 ?_
          refine Tk 9 37 ?_
          refine Tk 10 38 ?_
          refine wpAnyH_ready (rs := [5, 11]) (by kernel_rfl) (by simp) ?_
          refine AllReadyH.cons (o := ⟨some 33, _, _, _, _, _⟩) rfl (fun K hK => ?_) (AllReadyH.cons (o := ⟨some 39, _, _, _, _, _⟩) rfl (fun K hK => ?_) AllReadyH.nil)
          · go_simp
            refine hK.out _ _ ?_ (fun hHeld2 => ?_)
            · exact hHeld
            clear hK K hHeld
            have hHeld := hHeld2
            clear hHeld2
            try simp only [Act.put, List.setIfInBounds_toArray, List.set_cons_zero, List.set_cons_succ]
            refine wpAnyH_ready (rs := [11]) (by kernel_rfl) (by simp) ?_
            refine AllReadyH.cons (o := ⟨some 39, _, _, _, _, _⟩) rfl (fun K hK => ?_) AllReadyH.nil
            go_simp
            refine hK.out _ _ ?_ (fun hHeld2 => ?_)
            · (try dsimp only); go_keep
            clear hK K hHeld
            have hHeld := hHeld2
            clear hHeld2
            try simp only [Act.put, List.setIfInBounds_toArray, List.set_cons_zero, List.set_cons_succ]
            refine wpAnyH_ready (rs := [12]) (by kernel_rfl) (by simp) ?_
            refine AllReadyH.cons (o := ⟨some 40, _, _, _, _, _⟩) rfl (fun K hK => ?_) AllReadyH.nil
            refine upon_append _ _ _ rfl rfl rfl Hrun.out ?_
            refine hK.out _ _ ?_ (fun hHeld2 => ?_)
            · exact ⟨i0, i1, i2⟩
            clear hK K hHeld
            have hHeld := hHeld2
            clear hHeld2
            try simp only [Act.put, List.setIfInBounds_toArray, List.set_cons_zero, List.set_cons_succ]
            refine Tk 13 41 ?_
            refine wpAnyH_ready (rs := [14]) (by kernel_rfl) (by simp) ?_
            refine AllReadyH.cons (o := ⟨none, _, _, _, _, _⟩) rfl (fun K hK => ?_) AllReadyH.nil
            go_simp
            refine hK.out _ _ ?_ (fun hHeld2 => ?_)
            · (try dsimp only); go_keep
            clear hK K hHeld
            have hHeld := hHeld2
            clear hHeld2
            try simp only [Act.put, List.setIfInBounds_toArray, List.set_cons_zero, List.set_cons_succ]
            refine wpAnyH_done (by kernel_rfl) ?_ _
            clear Hrun c0 c1 c2 i0 i1 i2 cg ig mg hHeld
            go_wp2
            go_roundw
            case rel => exact ⟨k + 1, d, _, by omega, rfl, by go_num, (by unfold Hid; omega), HS2.out, HN2.out, HI2.out, HF2.out, HK2.out⟩
            case measure => simp [intOf]; omega
          · go_simp
            refine hK.out _ _ ?_ (fun hHeld2 => ?_)
            · (try dsimp only); go_keep
            clear hK K hHeld
            have hHeld := hHeld2
            clear hHeld2
            try simp only [Act.put, List.setIfInBounds_toArray, List.set_cons_zero, List.set_cons_succ]
            refine wpAnyH_ready (rs := [5]) (by kernel_rfl) (by simp) ?_
            refine AllReadyH.cons (o := ⟨some 33, _, _, _, _, _⟩) rfl (fun K hK => ?_) AllReadyH.nil
            go_simp
            refine hK.out _ _ ?_ (fun hHeld2 => ?_)
            · exact hHeld
            clear hK K hHeld
            have hHeld := hHeld2
            clear hHeld2
            try simp only [Act.put, List.setIfInBounds_toArray, List.set_cons_zero, List.set_cons_succ]
            refine wpAnyH_ready (rs := [12]) (by kernel_rfl) (by simp) ?_
            refine AllReadyH.cons (o := ⟨some 40, _, _, _, _, _⟩) rfl (fun K hK => ?_) AllReadyH.nil
            refine upon_append _ _ _ rfl rfl rfl Hrun.out ?_
            refine hK.out _ _ ?_ (fun hHeld2 => ?_)
            · exact ⟨i0, i1, i2⟩
            clear hK K hHeld
            have hHeld := hHeld2
            clear hHeld2
            try simp only [Act.put, List.setIfInBounds_toArray, List.set_cons_zero, List.set_cons_succ]
            refine Tk 13 41 ?_
            refine wpAnyH_ready (rs := [14]) (by kernel_rfl) (by simp) ?_
            refine AllReadyH.cons (o := ⟨none, _, _, _, _, _⟩) rfl (fun K hK => ?_) AllReadyH.nil
            go_simp
            refine hK.out _ _ ?_ (fun hHeld2 => ?_)
            · (try dsimp only); go_keep
            clear hK K hHeld
            have hHeld := hHeld2
            clear hHeld2
            try simp only [Act.put, List.setIfInBounds_toArray, List.set_cons_zero, List.set_cons_succ]
            refine wpAnyH_done (by kernel_rfl) ?_ _
            clear Hrun c0 c1 c2 i0 i1 i2 cg ig mg hHeld
            go_wp2
            go_roundw
            case rel => exact ⟨k + 1, d, _, by omega, rfl, by go_num, (by unfold Hid; omega), HS2.out, HN2.out, HI2.out, HF2.out, HK2.out⟩
            case measure => simp [intOf]; omega
    · obtain rfl : k = n := by omega
      have hall : l.take k = l := List.take_of_length_le (by rw [HL.out]; omega)
      have hrise : RiseC 0 l := HI.out.2 (by rw [List.drop_eq_nil_of_le (by rw [HL.out]; omega)]; trivial)
      rw [hall] at HS HN
      have HRI := Lib.hid hrise
      have p0 := HS.out.cell 0 (by omega); have p1 := HS.out.cell 1 (by omega); have p2 := HS.out.cell 2 (by omega); have p3 := HS.out.cell 3 (by omega)
      clear hall hrise HI HM HR k0 k1 k2 k3 m0 m1 m2 m3
      go_wp2
      clear p0 p1 p2 p3
      go_loopw [44] (fun i wr => ∃ (d : Nat), d ≤ 4 ∧ i = .int .i64 d ∧ Hid (∀ j : Nat, j < d → rightB (part l j) = true) ∧ Hid (Rows4 wr (g + 2) 138 2 (g + 1) s (fun d => runsC (part l d))) ∧ Hid (Free g wr) ∧ Hid (Kept [(⟨g, 0, none⟩, .slice none 0 0), (⟨g, 1, none⟩, .slice none 0 0), (⟨g, 2, none⟩, .slice none 0 0), (⟨g, 3, none⟩, .slice none 0 0)] w wr)) (fun i _ => 4 - (intOf i).toNat)
      case atStart => exact ⟨0, by omega, rfl, fun j hj => by omega, HS.out, HF.out, HK.out⟩
      case round =>
        obtain ⟨d, hd, rfl, HG2, HS2, HF2, HK2⟩ := hrel
        have hgl2 := HF2.out.1
        clear HS HF HK
        by_cases hd4 : d < 4
        · have hix := index_parts s d hd4
          have HRT := Lib.hid (right_any (part l d) (s d).n (s d).A (s d).c wr (HN.out d hd4) (by have := HN.out d hd4; have := part_len l d; have := HL.out; omega) (HS2.out.rd hd4))
          cases hrb : rightB (part l d) with
          | false =>
            rw [hrb] at HRT
            have HBF : Hid (b = false) := by
              unfold Hid
              rw [← HB.out]
              refine rightCB_false fun h => ?_
              have := h.part d (by unfold Cen; omega)
              have h2 : rightB (part l d) = true := by unfold rightB; exact decide_eq_true this
              rw [hrb] at h2
              cases h2
            clear hrb
            go_wp2_with (go_at_call 113; refine HRT.out.mono ?_; rintro e w3 ⟨rfl, hb3⟩; have HF3 := HF2.out.later hb3; have HK3 := HK2.out.later hb3; have m0 := HF3.2 0; have m1 := HF3.2 1; have m2 := HF3.2 2; have m3 := HF3.2 3; have k0 := HK3.c0; have k1 := HK3.c1; have k2 := HK3.c2; have k3 := HK3.c3)
            obtain ⟨j0, j1, j2, j3⟩ := put4_cells (v0 := .slice none 0 0) (v1 := .slice none 0 0) (v2 := .slice none 0 0) (v3 := .slice none 0 0) HF3 k0 k1 k2 k3
            unfold put4 at j0 j1 j2 j3
            refine bodyPost_ret (v := .tuple #[.agg #[.slice none 0 0, .slice none 0 0, .slice none 0 0, .slice none 0 0], .bool false]) (by simp [results, Tryz.results87, go_sem, j0, j1, j2, j3]) rfl ⟨fun _ => sv0, by rw [HBF.out]; rfl, ?_, put4_below HK3.below (by rw [HG.out]; exact Nat.le_refl _)⟩
            rw [HBF.out]
            exact fun d _ => ⟨rfl, Rd.nil _⟩
          | true =>
            rw [hrb] at HRT
            have HG3 : Hid (∀ j : Nat, j < d + 1 → rightB (part l j) = true) := fun j hj => by
              rcases (by omega : j < d ∨ j = d) with h | rfl
              · exact HG2.out j h
              · exact hrb
            clear hrb
            go_wp2_with (go_at_call 113; refine HRT.out.mono ?_; rintro e w3 ⟨rfl, hb3⟩; have HS3 := Lib.hid (HS2.out.later hb3); have HF3 := Lib.hid (HF2.out.later hb3); have HK3 := Lib.hid (HK2.out.later hb3); clear hb3)
            go_roundw
            case rel => exact ⟨d + 1, by omega, by go_num, HG3.out, HS3.out, HF3.out, HK3.out⟩
            case measure => simp [intOf]; omega
        · have hd5 : d = 4 := by omega
          subst hd5
          have HBT : Hid (b = true) := by
            unfold Hid
            rw [← HB.out]
            refine rightCB_true ⟨HRI.out, fun e he => ?_⟩
            rcases cen_cases he with rfl | rfl | rfl | rfl
            · exact of_decide_eq_true (HG2.out 0 (by omega))
            · exact of_decide_eq_true (HG2.out 1 (by omega))
            · exact of_decide_eq_true (HG2.out 2 (by omega))
            · exact of_decide_eq_true (HG2.out 3 (by omega))
          have p0 := HS2.out.cell 0 (by omega); have p1 := HS2.out.cell 1 (by omega); have p2 := HS2.out.cell 2 (by omega); have p3 := HS2.out.cell 3 (by omega)
          have m0 := HF2.out.2 0; have m1 := HF2.out.2 1; have m2 := HF2.out.2 2; have m3 := HF2.out.2 3
          have k0 := HK2.out.c0; have k1 := HK2.out.c1; have k2 := HK2.out.c2; have k3 := HK2.out.c3
          go_wp2
          obtain ⟨j0, j1, j2, j3⟩ := put4_cells (v0 := .slice (s 0).A (s 0).n (s 0).c) (v1 := .slice (s 1).A (s 1).n (s 1).c) (v2 := .slice (s 2).A (s 2).n (s 2).c) (v3 := .slice (s 3).A (s 3).n (s 3).c) HF2.out k0 k1 k2 k3
          unfold put4 at j0 j1 j2 j3
          refine bodyPost_ret (v := .tuple #[.agg #[.slice (s 0).A (s 0).n (s 0).c, .slice (s 1).A (s 1).n (s 1).c, .slice (s 2).A (s 2).n (s 2).c, .slice (s 3).A (s 3).n (s 3).c], .bool true]) (by simp [results, Tryz.results87, go_sem, j0, j1, j2, j3]) rfl ⟨s, by rw [HBT.out], ?_, put4_below HK2.out.below (by rw [HG.out]; exact Nat.le_refl _)⟩
          rw [HBT.out]
          refine fun d hd => ⟨HN.out d hd, ?_⟩
          refine ((put4_rd (HS2.out.rd hd) (fun b o e hbg => ?_)).more (Nat.le_of_eq put4_size.symm) : Rd (put4 g _ _ _ _ wr) _ _ _ _ _ _)
          have := (HS2.out.lt hd (b := b) (by unfold SV.val; rw [e]; rfl)).1
          omega
end Cx
end Go.Proofs.YtcbclefemcmhpaaGreat
namespace Go.Proofs.YtcbclefemcmhpaaGreat
open Go.ChangeShapes Go.WideShapes Go.ChangeAt Go.RowKit
namespace Tr
open Sp Rw
/-- a greatest one among the first k -/
def kmax (f : ByteArray × T → Nat) (ks : List (ByteArray × T)) (k : Nat) : Nat := ((ks.take k).map f).foldl max 0
theorem kmax_zero (f : ByteArray × T → Nat) (ks : List (ByteArray × T)) : kmax f ks 0 = 0 := rfl
theorem kmax_succ (f : ByteArray × T → Nat) {ks : List (ByteArray × T)} {k : Nat} (h : k < ks.length) : kmax f ks (k + 1) = max (kmax f ks k) (f ks[k]) := by
  unfold kmax
  rw [List.take_succ_eq_append_getElem h]
  simp only [List.map_append, List.foldl_append, List.map_cons, List.map_nil, List.foldl_cons, List.foldl_nil]
/-- how many levels there are -/
def levels : T → Nat
  | .mk _ ks => 1 + (ks.attach.map fun k => levels k.1.2).foldl max 0
termination_by t => SizeOf.sizeOf t
decreasing_by exact kid_lt k.2
theorem levels_mk (es : List E) (ks : List (ByteArray × T)) : levels (.mk es ks) = 1 + kmax (fun k => levels k.2) ks ks.length := by
  rw [levels]
  unfold kmax
  rw [List.take_length]
  congr 2
  conv => rhs; rw [← List.attach_map_subtype_val ks]
  rw [List.map_map]
  rfl
theorem kmax_le {f : ByteArray × T → Nat} {ks : List (ByteArray × T)} {m : Nat} (h : ∀ k ∈ ks, f k ≤ m) : ∀ {k : Nat}, k ≤ ks.length → kmax f ks k ≤ m
  | 0, _ => Nat.zero_le _
  | k + 1, hk => by
    rw [kmax_succ f (show k < ks.length by omega)]
    have h1 := kmax_le h (k := k) (by omega)
    have h2 := h _ (List.getElem_mem (show k < ks.length by omega))
    omega
theorem le_kmax {f : ByteArray × T → Nat} {ks : List (ByteArray × T)} : ∀ {k : Nat}, k ≤ ks.length → ∀ i (hi : i < ks.length), i < k → f ks[i] ≤ kmax f ks k
  | 0, _, _, _, h => absurd h (Nat.not_lt_zero _)
  | k + 1, hk, i, hi, h => by
    rw [kmax_succ f (show k < ks.length by omega)]
    by_cases he : i = k
    · subst he; omega
    · have := le_kmax (f := f) (k := k) (by omega) i hi (by omega)
      omega
theorem levels_pos (t : T) : 1 ≤ levels t := by cases t; rw [levels_mk]; omega
theorem levels_le : ∀ {d : Nat} {t : T}, RightT d t → levels t ≤ d
  | d + 1, .mk es ks, h => by
    rw [levels_mk]
    have := kmax_le (f := fun k => levels k.2) (ks := ks) (m := d) (fun k hk => levels_le (h.2.2.2 k hk).2.2) (k := ks.length) (Nat.le_refl _)
    omega
theorem right_levels : ∀ {d : Nat} {t : T}, RightT d t → RightT (levels t) t
  | d + 1, .mk es ks, h => by
    rw [levels_mk, Nat.add_comm]
    refine ⟨h.1, h.2.1, h.2.2.1, fun k hk => ⟨(h.2.2.2 k hk).1, (h.2.2.2 k hk).2.1, ?_⟩⟩
    have h1 := right_levels (h.2.2.2 k hk).2.2
    obtain ⟨i, hi, rfl⟩ := List.getElem_of_mem hk
    have h2 := le_kmax (f := fun k => levels k.2) (ks := ks) (k := ks.length) (Nat.le_refl _) i hi hi
    obtain ⟨m, hm⟩ : ∃ m, kmax (fun k => levels k.2) ks ks.length = levels (ks[i]).2 + m := ⟨_, (Nat.add_sub_cancel' h2).symm⟩
    rw [hm]
    clear hm h2
    induction m with
    | zero => exact h1
    | succ m ih => exact ih.more
theorem RightT.le {d d' : Nat} {t : T} (h : RightT d t) (hd : d ≤ d') : RightT d' t := by
  obtain ⟨m, rfl⟩ : ∃ m, d' = d + m := ⟨_, (Nat.add_sub_cancel' hd).symm⟩
  clear hd
  induction m with
  | zero => exact h
  | succ m ih => exact ih.more
theorem levels_nodes : ∀ t : T, levels t ≤ nodes t + 1 := by
  intro t
  induction t using T.ind with
  | h es ks ih =>
    rw [levels_mk, nodes_mk]
    have : kmax (fun k => levels k.2) ks ks.length ≤ (ks.map fun k => nodes k.2).sum + ks.length := by
      refine Nat.le_trans (kmax_le (m := (ks.map fun k => nodes k.2).sum + 1 * (if ks = [] then 0 else 1)) (fun k hk => ?_) (Nat.le_refl _)) ?_
      · have h1 := ih k hk
        have h2 := le_sum (f := fun k : ByteArray × T => nodes k.2) hk
        have : ks ≠ [] := List.ne_nil_of_mem hk
        rw [if_neg this]
        omega
      · split
        · omega
        · have : 0 < ks.length := List.length_pos_iff.2 (by assumption)
          omega
    omega
set_option maxRecDepth 100000 in
set_option maxHeartbeats 4000000 in
theorem room_any : ∀ (t : T) (Ae Ak : Option Addr) (ne nk ce ck : Nat) (left deep : Int) (w : World), 0 ≤ left → left ≤ 1000 → 0 ≤ deep → deep ≤ 1000 → LenT reachBytes t → RdT w w.heap.size t ⟨Ae, ne, ce⟩ ⟨Ak, nk, ck⟩ →
    Calls Tryz.prog 82 #[.agg #[.slice Ae ne ce, .slice Ak nk ck], .int .i64 left, .int .i64 deep] w fun e w' => ∃ r : Int, e = .returned (.int .i64 r) ∧ -1000000000000000 ≤ r ∧ r ≤ left ∧ (0 ≤ r → (nodes t : Int) + r = left) ∧ Below w.heap.size w w' := by
  intro t
  induction t using T.ind with
  | h es ks ih =>
    intro Ae Ak ne nk ce ck left deep w h0 h1 h2 h3 hl hr
    obtain ⟨hle, hlk⟩ := rd_lens hr
    have HR := Lib.hid hr
    have HLE := Lib.hid hle
    have HLK := Lib.hid hlk
    clear hle hlk hr
    have hle := hl.es
    have hlk := hl.ks
    rw [HLE.out] at hle
    rw [HLK.out] at hlk
    unfold reachBytes at hle hlk
    have IH := Lib.hid ih
    have HL := Lib.hid hl
    obtain ⟨d, rfl⟩ : ∃ m : Nat, deep = (m : Int) := ⟨deep.toNat, by omega⟩
    have HN : Hid (nodes (.mk es ks) = ne + nk + (ks.map fun k => nodes k.2).sum) := by unfold Hid; rw [nodes_mk, HLE.out, HLK.out]
    clear ih hl
    obtain ⟨g, hg⟩ : ∃ g, g = w.heap.size := ⟨_, rfl⟩
    have HK := Lib.hid (tree_box w Ae Ak ne nk ce ck)
    rw [← hg] at HK
    obtain ⟨W0, hW0⟩ : ∃ W, W = w.alloc (.cells #[.slice Ae ne ce, .slice Ak nk ck] 25) := ⟨_, rfl⟩
    rw [← hW0] at HK
    have HG := Lib.hid hg
    have HW0 := Lib.hid hW0
    have k0 := HK.out.c0
    have k1 := HK.out.c1
    clear hg hW0
    have hw1 : IntKind.i64.wrap (left - (ne : Int)) = left - ne := by rw [IntKind.wrap_i64]; omega
    have hw2 : IntKind.i64.wrap (left - (ne : Int) - (nk : Int)) = left - ne - nk := by rw [IntKind.wrap_i64]; omega
    go_enter Tryz.func82, Tryz.ntmps82
    go_wp2_with fail
    rw [← HG.out, ← HW0.out]
    go_wp2_with fail
    go_loopw [1, 20] (fun n i wr => ∃ (k : Nat) (x : Int), k ≤ nk ∧ i = .int .i64 k ∧ n = .int .i64 x ∧ -1000000000000000 ≤ x ∧ x ≤ left ∧ Hid (0 ≤ x → ((ne + nk + ksum (fun k => nodes k.2) ks k : Nat) : Int) + x = left) ∧ Hid (Kept [(⟨g, 0, none⟩, .slice Ae ne ce), (⟨g, 1, none⟩, .slice Ak nk ck)] w wr)) (fun _ i _ => nk - (intOf i).toNat)
    case atStart => exact ⟨0, left - ne - nk, by omega, rfl, rfl, by omega, by omega, fun _ => by rw [ksum_zero]; omega, HK.out⟩
    case round =>
      obtain ⟨k, x, hk, rfl, rfl, hx1, hx2, HX, HKW⟩ := hrel
      clear k0 k1
      have k0 := HKW.out.c0
      have k1 := HKW.out.c1
      by_cases hlt : k < nk
      · by_cases hx : x < 0
        · have f1 : decide (x < 0) = true := decide_eq_true hx
          go_wp2_with fail
          go_ret
          exact ⟨-1, rfl, by omega, by omega, fun h => by omega, HKW.out.below⟩
        have f1 : decide (x < 0) = false := decide_eq_false hx
        by_cases hd : d = 0
        · subst hd
          go_wp2_with fail
          go_ret
          exact ⟨-1, rfl, by omega, by omega, fun h => by omega, HKW.out.below⟩
        have f2 : ((d : Int) == 0) = false := by simpa using hd
        have hkl : k < ks.length := by rw [HLK.out]; exact hlt
        obtain ⟨b, o, rfl, hb, hc⟩ := rd_kid HR.out (by omega)
        obtain ⟨⟨Ae', ne', ce'⟩, ⟨Ak', nk', ck'⟩, c0, c1, c2, hkid⟩ := hc k hkl
        dsimp only at c0 c1 c2
        have c0 := (HKW.out.below.cell (p := ⟨b, o + k * 3, none⟩) hb).trans c0
        have c1 := (HKW.out.below.cell (p := ⟨b, o + k * 3 + 1, none⟩) hb).trans c1
        have c2 := (HKW.out.below.cell (p := ⟨b, o + k * 3 + 2, none⟩) hb).trans c2
        obtain ⟨key, hkey⟩ : ∃ key, key = (ks[k]).1 := ⟨_, rfl⟩
        rw [← hkey] at c0
        clear hc
        have hk1 := HKW.out
        have hrd1 := RdT.more hk1.below.size _ (RdT.below hkid hk1.below)
        have hs1 := ksum_succ (fun k => nodes k.2) hkl
        have hcall := IH.out _ (List.getElem_mem hkl) Ae' Ak' ne' nk' ce' ck' x ((d : Int) - 1) wr (by omega) (by omega) (by omega) (by omega) (HL.out.kid (List.getElem_mem hkl)) hrd1
        have HC := Lib.hid hcall
        have HS := Lib.hid hs1
        clear hrd1 hkey hk1 hcall hs1 hkid
        go_wp2_with fail
        refine HC.out.mono ?_
        rintro e w2 ⟨y, rfl, hy1, hy2, hy3, hb2⟩
        have HK2 := Lib.hid (HKW.out.later hb2)
        have HY := Lib.hid hy3
        clear hb2 hy3
        go_wp2_with fail
        go_roundw
        case rel =>
          refine ⟨k + 1, y, by omega, by go_num, rfl, by omega, by omega, fun h => ?_, HK2.out⟩
          have h1 := HY.out h
          have h2 := HX.out (by omega)
          rw [HS.out]
          omega
        case measure => simp [intOf]; omega
      · obtain rfl : k = nk := by omega
        go_wp2_with fail
        go_ret
        refine ⟨x, rfl, by omega, by omega, fun h => ?_, HKW.out.below⟩
        have h1 := HX.out h
        rw [HN.out, ← ksum_all _ HLK.out]
        exact h1
set_option maxRecDepth 100000 in
set_option maxHeartbeats 4000000 in
theorem small_any (t : T) (Ae Ak : Option Addr) (ne nk ce ck : Nat) (most : Nat) (w : World) (h1 : most ≤ 1000) (hl : LenT reachBytes t) (hr : RdT w w.heap.size t ⟨Ae, ne, ce⟩ ⟨Ak, nk, ck⟩) :
    Calls Tryz.prog 59 #[.agg #[.slice Ae ne ce, .slice Ak nk ck], .int .i64 most] w fun e w' => ∃ b : Bool, e = .returned (.bool b) ∧ (b = true → nodes t ≤ most) ∧ Below w.heap.size w w' := by
  have hb1 : Below w.heap.size w (w.alloc (.cells #[.slice Ae ne ce, .slice Ak nk ck] 25)) := Dt.box_below _ _ _
  have HC := Lib.hid (room_any t Ae Ak ne nk ce ck most 8 _ (by omega) (by omega) (by omega) (by omega) hl (RdT.more hb1.size _ (RdT.below hr hb1)))
  have HB := Lib.hid hb1
  clear hl hr hb1
  go_enter Tryz.func59, Tryz.ntmps59
  go_wp2_with fail
  refine HC.out.mono ?_
  rintro e w2 ⟨r, rfl, hr1, hr2, hr3, hb2⟩
  have HB2 := Lib.hid (HB.out.trans (hb2.mono HB.out.size))
  have HR3 := Lib.hid hr3
  clear hb2 hr3
  go_wp2_with fail
  go_ret
  refine ⟨_, rfl, fun h => ?_, HB2.out⟩
  have h2 : 0 ≤ r := by simpa using h
  have := HR3.out h2
  omega
end Tr
end Go.Proofs.YtcbclefemcmhpaaGreat
namespace Go.Proofs.YtcbclefemcmhpaaGreat
open Go.ChangeShapes Go.WideShapes Go.ChangeAt Go.RowKit
namespace Tr
open Sp Rw
/-- where a search stands: all below lo are ahead of x, none from hi on is -/
structure Srch (l : List ByteArray) (x : ByteArray) (lo hi : Nat) : Prop where
  low : ∀ (i : Nat) (h : i < l.length), i < lo → ltS l[i] x
  high : ∀ (i : Nat) (h : i < l.length), hi ≤ i → ¬ ltS l[i] x
theorem Srch.start (l : List ByteArray) (x : ByteArray) {n : Nat} (h : l.length = n) : Srch l x 0 n := ⟨fun _ _ h => absurd h (Nat.not_lt_zero _), fun i hi hn => by omega⟩
theorem Srch.up {l : List ByteArray} {x : ByteArray} {lo hi m : Nat} (h : Srch l x lo hi) (hs : l.Pairwise fun a b => ¬ ltS b a) (hm : m < l.length) (h1 : ltS l[m] x) : Srch l x (m + 1) hi :=
  ⟨fun i hi hlt => by
    by_cases he : i = m
    · subst he; exact h1
    · have := List.pairwise_iff_getElem.1 hs i m hi hm (by omega)
      rcases tot_str.tri l[i] x with h2 | h2 | h2
      · exact h2
      · rw [h2] at this; exact absurd h1 this
      · exact absurd (tot_str.tr _ _ _ h1 h2) this, h.high⟩
theorem Srch.down {l : List ByteArray} {x : ByteArray} {lo hi m : Nat} (h : Srch l x lo hi) (hs : l.Pairwise fun a b => ¬ ltS b a) (hm : m < l.length) (h1 : ¬ ltS l[m] x) : Srch l x lo m :=
  ⟨h.low, fun i hi hle => by
    by_cases he : i = m
    · subst he; exact h1
    · have := List.pairwise_iff_getElem.1 hs m i hm hi (by omega)
      exact fun h2 => h1 (by
        rcases tot_str.tri l[m] l[i] with h3 | h3 | h3
        · exact tot_str.tr _ _ _ h3 h2
        · rw [h3]; exact h2
        · exact absurd h3 this)⟩
theorem Srch.found {l : List ByteArray} {x : ByteArray} {i : Nat} (h : Srch l x i i) (hs : l.Pairwise fun a b => ¬ ltS b a) : x ∈ l ↔ ∃ hi : i < l.length, l[i] = x := by
  constructor
  · intro hx
    obtain ⟨j, hj, rfl⟩ := List.getElem_of_mem hx
    have h1 : i ≤ j := by
      rcases Nat.lt_or_ge j i with h1 | h1
      · exact absurd (h.low j hj h1) (tot_str.irr _)
      · exact h1
    have hi : i < l.length := by omega
    refine ⟨hi, ?_⟩
    rcases Nat.lt_or_ge i j with h2 | h2
    · have h3 := List.pairwise_iff_getElem.1 hs i j hi hj h2
      have h4 := h.high i hi (Nat.le_refl _)
      rcases tot_str.tri l[i] l[j] with h5 | h5 | h5
      · exact absurd h5 h4
      · exact h5
      · exact absurd h5 h3
    · have : i = j := by omega
      subst this; rfl
  · rintro ⟨hi, rfl⟩
    exact List.getElem_mem hi
theorem rise_le {l : List ByteArray} (h : l.Pairwise ltS) : l.Pairwise fun a b => ¬ ltS b a := h.imp fun h => tot_str.asym h
/-- what kids' keys are -/
def keysOf (ks : List (ByteArray × T)) : List ByteArray := ks.map fun k => k.1
theorem keysOf_len (ks : List (ByteArray × T)) : (keysOf ks).length = ks.length := List.length_map _
theorem keysOf_at (ks : List (ByteArray × T)) (i : Nat) (h : i < (keysOf ks).length) : (keysOf ks)[i] = (ks[i]'(by rwa [keysOf_len] at h)).1 := List.getElem_map _
/-- cells of texts -/
def strs (l : List ByteArray) : List Value := l.map Value.string
theorem strs_one (l : List ByteArray) : ∀ u ∈ strs l, u.oneCell' = true := by
  intro u hu
  obtain ⟨x, _, rfl⟩ := List.mem_map.1 hu
  rfl
set_option maxRecDepth 100000 in
set_option maxHeartbeats 4000000 in
theorem searchK_any (es : List E) (ks : List (ByteArray × T)) (Ae Ak : Option Addr) (ne nk ce ck : Nat) (x : ByteArray) (w : World) (hn : nk ≤ 1000000) (hr : RdT w w.heap.size (.mk es ks) ⟨Ae, ne, ce⟩ ⟨Ak, nk, ck⟩) (hs : (keysOf ks).Pairwise fun a b => ¬ ltS b a) :
    Calls Tryz.prog 78 #[.slice Ak nk ck, .string x, .func (.func 79) #[] #[]] w fun e w' => ∃ (i : Nat) (f : Bool), e = .returned (.tuple #[.int .i64 i, .bool f]) ∧ ((f = true → i < nk ∧ ∀ h : i < ks.length, (ks[i]).1 = x) ∧ (f = false → ¬ x ∈ keysOf ks)) ∧ Below w.heap.size w w' := by
  have HLK : Hid (ks.length = nk) := (rd_lens hr).2
  have HS0 : Hid (Srch (keysOf ks) x 0 nk) := Srch.start _ _ (by rw [keysOf_len]; exact (rd_lens hr).2)
  have HR := Lib.hid hr
  have HSS : Hid ((keysOf ks).Pairwise fun a b => ¬ ltS b a) := hs
  clear hr hs
  go_enter Tryz.func78, Tryz.ntmps78
  go_wp2_with fail
  go_loopw [9, 10] (fun a b wr => ∃ lo hi : Nat, a = .int .i64 lo ∧ b = .int .i64 hi ∧ lo ≤ hi ∧ hi ≤ nk ∧ Hid (Srch (keysOf ks) x lo hi) ∧ Hid (Below w.heap.size w wr)) (fun a b _ => (intOf b).toNat - (intOf a).toNat)
  case atStart => exact ⟨0, nk, rfl, rfl, Nat.zero_le _, Nat.le_refl _, HS0.out, Below.refl _ _⟩
  case round =>
    obtain ⟨lo, hi, rfl, rfl, hlh, hin, HS, HB⟩ := hrel
    by_cases hlt : lo < hi
    · have hm1 : (lo + hi) / 2 < nk := by omega
      obtain ⟨b, o, rfl, hbb, hc⟩ := rd_kid HR.out (by omega)
      have hml : (lo + hi) / 2 < ks.length := by rw [HLK.out]; omega
      obtain ⟨⟨Ae', ne', ce'⟩, ⟨Ak', nk', ck'⟩, c0, c1, c2, _⟩ := hc ((lo + hi) / 2) hml
      dsimp only at c0 c1 c2
      have c0 := (HB.out.cell (p := ⟨b, o + (lo + hi) / 2 * 3, none⟩) hbb).trans c0
      have c1 := (HB.out.cell (p := ⟨b, o + (lo + hi) / 2 * 3 + 1, none⟩) hbb).trans c1
      have c2 := (HB.out.cell (p := ⟨b, o + (lo + hi) / 2 * 3 + 2, none⟩) hbb).trans c2
      obtain ⟨y, hy⟩ : ∃ y, y = (ks[(lo + hi) / 2]).1 := ⟨_, rfl⟩
      rw [← hy] at c0
      have hmk : (lo + hi) / 2 < (keysOf ks).length := by rw [keysOf_len]; exact hml
      have hyk : (keysOf ks)[(lo + hi) / 2] = y := by rw [keysOf_at, hy]
      clear hc hy
      obtain ⟨c, hc⟩ : ∃ c, cmpS y x = c := ⟨_, rfl⟩
      have HC := Lib.hid hc
      have HLT : Hid (ltS (keysOf ks)[(lo + hi) / 2] x ↔ c < 0) := by unfold Hid; rw [hyk, ← hc]; exact (cmpS_lt _ _).symm
      clear hc hyk
      by_cases hlt2 : c < 0
      · have f1 : decide (c < 0) = true := decide_eq_true hlt2
        have HS2 := Lib.hid (HS.out.up HSS.out hmk (HLT.out.2 hlt2))
        go_wp2_with (go_at_call 79; refine (getcmp_any _ _ _ _ _ _ _ _ _).mono ?_; rw [HC.out]; rintro e w2 ⟨rfl, hb2⟩; have HB := Lib.hid (HB.out.trans (hb2.mono HB.out.size)); clear hb2)
        go_roundw
        case rel => refine ⟨(lo + hi) / 2 + 1, hi, by rw [show ((lo : Int) + (hi : Int)) / 2 + 1 = (((lo + hi) / 2 + 1 : Nat) : Int) by omega], rfl, by omega, hin, HS2.out, HB.out⟩
        case measure => simp [intOf]; omega
      · have f1 : decide (c < 0) = false := decide_eq_false hlt2
        have HS2 := Lib.hid (HS.out.down HSS.out hmk (fun h => hlt2 (HLT.out.1 h)))
        go_wp2_with (go_at_call 79; refine (getcmp_any _ _ _ _ _ _ _ _ _).mono ?_; rw [HC.out]; rintro e w2 ⟨rfl, hb2⟩; have HB := Lib.hid (HB.out.trans (hb2.mono HB.out.size)); clear hb2)
        go_roundw
        case rel => refine ⟨lo, (lo + hi) / 2, rfl, by rw [show ((lo : Int) + (hi : Int)) / 2 = (((lo + hi) / 2 : Nat) : Int) by omega], by omega, by omega, HS2.out, HB.out⟩
        case measure => simp [intOf]; omega
    · obtain rfl : hi = lo := by omega
      have HF := Lib.hid (HS.out.found HSS.out)
      by_cases hn : hi < nk
      · obtain ⟨b, o, rfl, hbb, hc⟩ := rd_kid HR.out (by omega)
        have hml : hi < ks.length := by rw [HLK.out]; omega
        obtain ⟨⟨Ae', ne', ce'⟩, ⟨Ak', nk', ck'⟩, c0, c1, c2, _⟩ := hc (hi) hml
        dsimp only at c0 c1 c2
        have c0 := (HB.out.cell (p := ⟨b, o + hi * 3, none⟩) hbb).trans c0
        have c1 := (HB.out.cell (p := ⟨b, o + hi * 3 + 1, none⟩) hbb).trans c1
        have c2 := (HB.out.cell (p := ⟨b, o + hi * 3 + 2, none⟩) hbb).trans c2
        obtain ⟨y, hy⟩ : ∃ y, y = (ks[hi]).1 := ⟨_, rfl⟩
        rw [← hy] at c0
        have hmk : hi < (keysOf ks).length := by rw [keysOf_len]; exact hml
        have hyk : (keysOf ks)[hi] = y := by rw [keysOf_at, hy]
        clear hc hy
        obtain ⟨c, hc⟩ : ∃ c, cmpS y x = c := ⟨_, rfl⟩
        have HC := Lib.hid hc
        have HEQ : Hid (c = 0 ↔ (keysOf ks)[hi] = x) := by unfold Hid; rw [hyk, ← hc]; exact cmpS_eq _ _
        clear hc hyk
        by_cases h0 : c = 0
        · have f1 : (c == 0) = true := by simpa using h0
          have HZ := Lib.hid (HEQ.out.1 h0)
          clear h0
          go_wp2_with (go_at_call 79; refine (getcmp_any _ _ _ _ _ _ _ _ _).mono ?_; rw [HC.out]; rintro e w2 ⟨rfl, hb2⟩; have HB := Lib.hid (HB.out.trans (hb2.mono HB.out.size)); clear hb2)
          go_ret2
          exact ⟨hi, true, by simp, ⟨fun _ => ⟨by omega, fun h => by have := HZ.out; rwa [keysOf_at] at this⟩, fun h => absurd h (by simp)⟩, HB.out⟩
        · have f1 : (c == 0) = false := by simpa using h0
          have HZ : Hid (¬ (keysOf ks)[hi] = x) := fun h => h0 (HEQ.out.2 h)
          clear h0
          go_wp2_with (go_at_call 79; refine (getcmp_any _ _ _ _ _ _ _ _ _).mono ?_; rw [HC.out]; rintro e w2 ⟨rfl, hb2⟩; have HB := Lib.hid (HB.out.trans (hb2.mono HB.out.size)); clear hb2)
          go_ret2
          exact ⟨hi, false, by simp, ⟨fun h => absurd h (by simp), fun _ h => by obtain ⟨_, h⟩ := HF.out.1 h; exact HZ.out h⟩, HB.out⟩
      · have f1 : decide ((hi : Int) < (nk : Int)) = false := decide_eq_false (by omega)
        go_wp2_with fail
        go_ret2
        exact ⟨hi, false, by simp, ⟨fun h => absurd h (by simp), fun _ h => by obtain ⟨h, _⟩ := HF.out.1 h; rw [keysOf_len, HLK.out] at h; omega⟩, HB.out⟩
set_option maxRecDepth 100000 in
set_option maxHeartbeats 4000000 in
theorem searchS_any (l : List ByteArray) (n : Nat) (A : Option Addr) (c : Nat) (x : ByteArray) (w : World) (hl : l.length = n) (hn : n ≤ 1000000) (hr : Rd w w.heap.size 1 A n c (strs l)) (hs : l.Pairwise fun a b => ¬ ltS b a) :
    Calls Tryz.prog 103 #[.slice A n c, .string x] w fun e w' => ∃ (i : Nat) (f : Bool), e = .returned (.tuple #[.int .i64 i, .bool f]) ∧ ((f = true → x ∈ l) ∧ (f = false → ¬ x ∈ l)) ∧ Below w.heap.size w w' := by
  have HLK : Hid (l.length = n) := hl
  have HS0 : Hid (Srch l x 0 n) := Srch.start _ _ (hl)
  have HR := Lib.hid hr
  have HSS : Hid (l.Pairwise fun a b => ¬ ltS b a) := hs
  clear hr hs hl
  go_enter Tryz.func103, Tryz.ntmps103
  go_wp2_with fail
  go_loopw [7, 8] (fun a b wr => ∃ lo hi : Nat, a = .int .i64 lo ∧ b = .int .i64 hi ∧ lo ≤ hi ∧ hi ≤ n ∧ Hid (Srch l x lo hi) ∧ Hid (Below w.heap.size w wr)) (fun a b _ => (intOf b).toNat - (intOf a).toNat)
  case atStart => exact ⟨0, n, rfl, rfl, Nat.zero_le _, Nat.le_refl _, HS0.out, Below.refl _ _⟩
  case round =>
    obtain ⟨lo, hi, rfl, rfl, hlh, hin, HS, HB⟩ := hrel
    by_cases hlt : lo < hi
    · have hm1 : (lo + hi) / 2 < n := by omega
      obtain ⟨b, o, rfl, hbb, hc⟩ := HR.out.at_ (by omega)
      have hmk : (lo + hi) / 2 < l.length := by rw [HLK.out]; omega
      obtain ⟨y, hyk⟩ : ∃ y, l[(lo + hi) / 2] = y := ⟨_, rfl⟩
      have c0 := (HB.out.cell (p := ⟨b, o + (lo + hi) / 2, none⟩) hbb).trans (hc ((lo + hi) / 2) (.string y) (by rw [← hyk]; simp [strs, hmk]))
      clear hc
      obtain ⟨c, hc⟩ : ∃ c, Op.bytesLess y.toList x.toList = c := ⟨_, rfl⟩
      have HC := Lib.hid hc
      have HLT : Hid (ltS l[(lo + hi) / 2] x ↔ c = true) := by unfold Hid; rw [hyk]; unfold ltS; rw [hc]
      clear hc hyk
      by_cases hlt2 : c = true
      · subst hlt2
        have HS2 := Lib.hid (HS.out.up HSS.out hmk (HLT.out.2 rfl))
        go_wp2_with (first | (go_at_call 131; refine (less_s _ _ _ _ HC.out).mono ?_; rintro e w2 ⟨rfl, rfl⟩) | (go_at_call 132; refine (nan_sl _ _).mono ?_; rintro e w2 ⟨rfl, rfl⟩))
        go_roundw
        case rel => refine ⟨(lo + hi) / 2 + 1, hi, by rw [show ((lo : Int) + (hi : Int)) / 2 + 1 = (((lo + hi) / 2 + 1 : Nat) : Int) by omega], rfl, by omega, hin, HS2.out, HB.out⟩
        case measure => simp [intOf]; omega
      · obtain rfl : c = false := by simpa using hlt2
        clear hlt2
        have HS2 := Lib.hid (HS.out.down HSS.out hmk (fun h => by have := HLT.out.1 h; simp at this))
        go_wp2_with (first | (go_at_call 131; refine (less_s _ _ _ _ HC.out).mono ?_; rintro e w2 ⟨rfl, rfl⟩) | (go_at_call 132; refine (nan_sl _ _).mono ?_; rintro e w2 ⟨rfl, rfl⟩))
        go_roundw
        case rel => refine ⟨lo, (lo + hi) / 2, rfl, by rw [show ((lo : Int) + (hi : Int)) / 2 = (((lo + hi) / 2 : Nat) : Int) by omega], by omega, by omega, HS2.out, HB.out⟩
        case measure => simp [intOf]; omega
    · obtain rfl : hi = lo := by omega
      have HF := Lib.hid (HS.out.found HSS.out)
      by_cases hn : hi < n
      · obtain ⟨b, o, rfl, hbb, hc⟩ := HR.out.at_ (by omega)
        have hmk : hi < l.length := by rw [HLK.out]; omega
        obtain ⟨y, hyk⟩ : ∃ y, l[hi] = y := ⟨_, rfl⟩
        have c0 := (HB.out.cell (p := ⟨b, o + hi, none⟩) hbb).trans (hc (hi) (.string y) (by rw [← hyk]; simp [strs, hmk]))
        clear hc
        by_cases h0 : y = x
        · subst h0
          have HZ := Lib.hid hyk
          clear hyk
          go_wp2_with (first | (go_at_call 131; refine (less_s _ _ _ _ rfl).mono ?_; rintro e w2 ⟨rfl, rfl⟩) | (go_at_call 132; refine (nan_sl _ _).mono ?_; rintro e w2 ⟨rfl, rfl⟩))
          go_ret2
          exact ⟨hi, true, by simp, ⟨fun _ => HF.out.2 ⟨hmk, HZ.out⟩, fun h => absurd h (by simp)⟩, HB.out⟩
        · have HZ : Hid (¬ l[hi] = x) := by rw [hyk]; exact h0
          have hne : (y.toList == x.toList) = false := by
            rw [beq_eq_false_iff_ne]
            exact fun h => h0 (bytes_ext h)
          clear hyk h0
          go_wp2_with (first | (go_at_call 131; refine (less_s _ _ _ _ rfl).mono ?_; rintro e w2 ⟨rfl, rfl⟩) | (go_at_call 132; refine (nan_sl _ _).mono ?_; rintro e w2 ⟨rfl, rfl⟩))
          go_ret2
          exact ⟨hi, false, by simp, ⟨fun h => absurd h (by simp), fun _ h => by obtain ⟨_, h⟩ := HF.out.1 h; exact HZ.out h⟩, HB.out⟩
      · have f1 : decide ((hi : Int) < (n : Int)) = false := decide_eq_false (by omega)
        go_wp2_with fail
        go_ret2
        exact ⟨hi, false, by simp, ⟨fun h => absurd h (by simp), fun _ h => by obtain ⟨h, _⟩ := HF.out.1 h; rw [HLK.out] at h; omega⟩, HB.out⟩
end Tr
end Go.Proofs.YtcbclefemcmhpaaGreat
namespace Go.Proofs.YtcbclefemcmhpaaGreat
open Go.Shelf
namespace Tr
def sortS_lay_ren : Go.Shelf.Ren := ⟨fun | 54 => 129 | 64 => 138 | 65 => 143 | 78 => 156 | 79 => 157 | 80 => 158 | 81 => 159 | 82 => 160 | 83 => 161 | 84 => 162 | 85 => 163 | 61 => 131 | 86 => 164 | 87 => 165 | 93 => 171 | 89 => 167 | 90 => 168 | 94 => 172 | 95 => 173 | 69 => 144 | 97 => 175 | n => n, fun | 25 => 42 | 26 => 9 | 3 => 3 | 51 => 132 | 0 => 0 | 67 => 178 | 69 => 180 | 4 => 4 | 61 => 171 | 60 => 170 | 44 => 99 | 5 => 5 | 9 => 9 | 75 => 186 | 79 => 190 | 83 => 194 | 84 => 195 | n => n, fun | n => n⟩
theorem sortS_lay : Go.Proofs.SlLaysN.n54 Tryz.prog sortS_lay_ren := {
  mixed := by kernel_rfl
  f54 := ⟨Tryz.f129.name, by decide, Tryz.func129.trans (congrArg some (by kernel_rfl))⟩
  f61 := ⟨Tryz.f131.name, by decide, Tryz.func131.trans (congrArg some (by kernel_rfl))⟩
  f64 := Tryz.func138.trans (congrArg some (by kernel_rfl))
  f65 := ⟨Tryz.f143.name, by decide, Tryz.func143.trans (congrArg some (by kernel_rfl))⟩
  f69 := ⟨Tryz.f144.name, by decide, Tryz.func144.trans (congrArg some (by kernel_rfl))⟩
  f78 := Tryz.func156.trans (congrArg some (by kernel_rfl))
  f79 := Tryz.func157.trans (congrArg some (by kernel_rfl))
  f80 := ⟨Tryz.f158.name, by decide, Tryz.func158.trans (congrArg some (by kernel_rfl))⟩
  f81 := ⟨Tryz.f159.name, by decide, Tryz.func159.trans (congrArg some (by kernel_rfl))⟩
  f82 := ⟨Tryz.f160.name, by decide, Tryz.func160.trans (congrArg some (by kernel_rfl))⟩
  f83 := ⟨Tryz.f161.name, by decide, Tryz.func161.trans (congrArg some (by kernel_rfl))⟩
  f84 := ⟨Tryz.f162.name, by decide, Tryz.func162.trans (congrArg some (by kernel_rfl))⟩
  f85 := ⟨Tryz.f163.name, by decide, Tryz.func163.trans (congrArg some (by kernel_rfl))⟩
  f86 := ⟨Tryz.f164.name, by decide, Tryz.func164.trans (congrArg some (by kernel_rfl))⟩
  f87 := ⟨Tryz.f165.name, by decide, Tryz.func165.trans (congrArg some (by kernel_rfl))⟩
  f89 := Tryz.func167.trans (congrArg some (by kernel_rfl))
  f90 := Tryz.func168.trans (congrArg some (by kernel_rfl))
  f93 := ⟨Tryz.f171.name, by decide, Tryz.func171.trans (congrArg some (by kernel_rfl))⟩
  f94 := ⟨Tryz.f172.name, by decide, Tryz.func172.trans (congrArg some (by kernel_rfl))⟩
  f95 := ⟨Tryz.f173.name, by decide, Tryz.func173.trans (congrArg some (by kernel_rfl))⟩
  f97 := ⟨Tryz.f175.name, by decide, Tryz.func175.trans (congrArg some (by kernel_rfl))⟩
  t0 := Tryz.underlying0
  a0 := Tryz.isAgg0
  z0 := Tryz.sizeOf0
  v0 := Tryz.zeroValue0
  t3 := Tryz.underlying3
  a3 := Tryz.isAgg3
  z3 := Tryz.sizeOf3
  v3 := Tryz.zeroValue3
  t4 := Tryz.underlying4
  a4 := Tryz.isAgg4
  z4 := Tryz.sizeOf4
  v4 := Tryz.zeroValue4
  t5 := Tryz.underlying5
  a5 := Tryz.isAgg5
  z5 := Tryz.sizeOf5
  v5 := Tryz.zeroValue5
  t9 := Tryz.underlying9
  a9 := Tryz.isAgg9
  z9 := Tryz.sizeOf9
  v9 := Tryz.zeroValue9
  t25 := Tryz.underlying42
  a25 := Tryz.isAgg42
  z25 := Tryz.sizeOf42
  v25 := Tryz.zeroValue42
  t26 := Tryz.underlying9
  a26 := Tryz.isAgg9
  z26 := Tryz.sizeOf9
  v26 := Tryz.zeroValue9
  t44 := Tryz.underlying99
  a44 := Tryz.isAgg99
  z44 := Tryz.sizeOf99
  v44 := Tryz.zeroValue99
  t51 := Tryz.underlying132
  a51 := Tryz.isAgg132
  z51 := Tryz.sizeOf132
  v51 := Tryz.zeroValue132
  t60 := Tryz.underlying170
  a60 := Tryz.isAgg170
  z60 := Tryz.sizeOf170
  v60 := Tryz.zeroValue170
  t61 := Tryz.underlying171
  a61 := Tryz.isAgg171
  z61 := Tryz.sizeOf171
  v61 := Tryz.zeroValue171
  t67 := Tryz.underlying178
  a67 := Tryz.isAgg178
  z67 := Tryz.sizeOf178
  v67 := Tryz.zeroValue178
  t69 := Tryz.underlying180
  a69 := Tryz.isAgg180
  z69 := Tryz.sizeOf180
  v69 := Tryz.zeroValue180
  t75 := Tryz.underlying186
  a75 := Tryz.isAgg186
  z75 := Tryz.sizeOf186
  v75 := Tryz.zeroValue186
  t79 := Tryz.underlying190
  a79 := Tryz.isAgg190
  z79 := Tryz.sizeOf190
  v79 := Tryz.zeroValue190
  t83 := Tryz.underlying194
  a83 := Tryz.isAgg194
  z83 := Tryz.sizeOf194
  v83 := Tryz.zeroValue194
  t84 := Tryz.underlying195
  a84 := Tryz.isAgg195
  z84 := Tryz.sizeOf195
  v84 := Tryz.zeroValue195 }
end Tr
end Go.Proofs.YtcbclefemcmhpaaGreat
namespace Go.Proofs.YtcbclefemcmhpaaGreat
open Go.RowKit Go.Shelf
namespace Tr
open Sp Rw
attribute [local go_sem] Oper.semAt_some

/-- what has come when k rounds are over -/
def upto {α : Type} (f : Nat → α) (k : Nat) : List α := (List.range k).map f
theorem upto_succ {α : Type} (f : Nat → α) (k : Nat) : upto f (k + 1) = upto f k ++ [f k] := by simp [upto, List.range_succ]
theorem upto_length {α : Type} (f : Nat → α) (k : Nat) : (upto f k).length = k := by simp [upto]
theorem upto_zero {α : Type} (f : Nat → α) : upto f 0 = [] := rfl
/-- the slice value holds the texts f 0 .. f (len - 1), in a block below n₀; or it is empty -/
def TextsAt (n₀ : Nat) (W : World) (A : Option Addr) (len : Nat) (f : Nat → ByteArray) : Prop := ∀ j, j < len → ∃ b o, A = some ⟨b, o, none⟩ ∧ b < n₀ ∧ W.cell? ⟨b, o + j, none⟩ = some (.string (f j))
theorem TextsAt.below {n₀ : Nat} {W W' : World} {A : Option Addr} {len : Nat} {f : Nat → ByteArray} (h : TextsAt n₀ W A len f) (hb : Below n₀ W W') : TextsAt n₀ W' A len f := fun j hj => by
  obtain ⟨b, o, e, hlt, hc⟩ := h j hj
  exact ⟨b, o, e, hlt, (hb.cell (p := ⟨b, o + j, none⟩) hlt).trans hc⟩
theorem TextsAt.of_rd {W : World} {B : Nat} {A : Option Addr} {n c : Nat} {l : List ByteArray} (h : Rd W B 1 A n c (strs l)) : TextsAt B W A n (fun j => l[j]?.getD ByteArray.empty) := fun j hj => by
  obtain ⟨b, o, e, hb, hc⟩ := h.at_ (by omega)
  have hl : l.length = n := by have := h.len; simpa [strs] using this
  exact ⟨b, o, e, hb, hc j _ (by simp [strs, show j < l.length by omega])⟩
theorem upto_get (l : List ByteArray) {n : Nat} (h : l.length = n) : upto (fun j => l[j]?.getD ByteArray.empty) n = l := by
  subst h
  apply List.ext_getElem
  · simp [upto]
  · intro i h1 h2
    simp [upto, h2]

set_option maxRecDepth 100000 in
set_option maxHeartbeats 2000000 in
theorem values1_in (F : Fence) (n : Nat) (h7 : F.fn 130) (hro : F.round = none) (hn : 1 ≤ n) (l Bs n₀ len cap : Nat) (A : Option Addr) (f : Nat → ByteArray) (hreach : len ≤ 1000000) (J Jx : List ByteArray → World → Prop)
    (hY : ∀ pre x W, J pre W → pre.length < len → YieldAt F (n - 1) Tryz.prog l #[.string x] W fun e W' =>
      (e = .returned (.bool true) ∧ J (pre ++ [x]) W' ∧ Below n₀ W W') ∨ (e = .returned (.bool false) ∧ Jx (pre ++ [x]) W'))
    (W : World) (hBs : W.cell? ⟨Bs, 0, none⟩ = some (.slice A len cap)) (hc : TextsAt n₀ W A len f) (h0 : J [] W) :
    CallsIn F n Tryz.prog 130 #[.func (.yield l) #[] #[], .pointer (some ⟨Bs, 0, none⟩)] W fun e W' => (∃ v, e = .returned v) ∧
      ((∃ ys, ys = upto f len ∧ J ys W') ∨ (∃ pre, (∃ k, k ≤ len ∧ pre = upto f k) ∧ Jx pre W')) := by
  have HC := Lib.hid hc
  clear hc
  refine callsIn_of_wp Tryz.func130 rfl h7 ?_ hro
  simp only [Tryz.ntmps130, List.size_toArray, List.length_cons, List.length_nil, Nat.reduceAdd, Nat.reduceSub, Array.replicate_succ, Array.replicate_zero, List.push_toArray, List.append_toArray, List.nil_append, List.cons_append]
  gi_wp2
  gi_loopw [7] (fun i wr => ∃ k : Nat, k ≤ len ∧ i = .int .i64 k ∧ J (upto f k) wr ∧ Below n₀ W wr)
    (fun i _ => len - (intOf i).toNat)
  case atStart => exact ⟨0, Nat.zero_le _, rfl, h0, Below.refl _ _⟩
  case round =>
    obtain ⟨k, hk, rfl, hJs, hnx⟩ := hrel
    by_cases hlt : k < len
    · obtain ⟨b, o, rfl, hb, hcx⟩ := (HC.out.below hnx) k hlt
      obtain ⟨fn, tmps, assign, body, hy, hR⟩ := hY _ (f k) wr hJs (by rw [upto_length]; exact hlt)
      gi_wp2
      refine hR.mono ?_
      rintro e W3 (⟨rfl, hJ3, hk3⟩ | ⟨rfl, hJx3⟩)
      · gi_wp2
        go_roundw
        case rel => exact ⟨k + 1, by omega, by simp, by rw [upto_succ]; exact hJ3, hnx.trans hk3⟩
        case measure => simp [intOf]; omega
      · gi_wp2
        refine bodyPost_ret (results_none rfl _ _ _) rfl ?_
        exact ⟨⟨_, rfl⟩, .inr ⟨_, ⟨k + 1, by omega, (upto_succ _ _).symm⟩, hJx3⟩⟩
    · obtain rfl : k = len := by omega
      gi_wp2
      go_end0
      exact ⟨⟨_, rfl⟩, .inl ⟨_, rfl, hJs⟩⟩
theorem values_stops (F : Fence) (n : Nat) (h7 : F.fn 130) (hro : F.round = none) (hn : 1 ≤ n) (Bs n₀ len cap : Nat) (A : Option Addr) (f : Nat → ByteArray) (hreach : len ≤ 1000000) (w : World) (hBs : Bs < w.heap.size) (hn₀ : n₀ ≤ w.heap.size)
    (hc : w.cell? ⟨Bs, 0, none⟩ = some (.slice A len cap)) (hI : TextsAt n₀ w A len f) :
    SeqStopsK F n Tryz.prog 130 #[.pointer (some ⟨Bs, 0, none⟩)] (fun x : ByteArray => #[Value.string x]) (Below n₀) (fun ys => ys = upto f len) (fun pre => ∃ k, k ≤ len ∧ pre = upto f k) len w := fun l J Jx W hW _ _ hY h0 =>
  values1_in F n h7 hro hn l Bs n₀ len cap A f hreach J Jx hY W ((hW.cell (p := ⟨Bs, 0, none⟩) hBs).trans hc) (hI.below (hW.mono hn₀)) h0

theorem infoS : (Tryz.prog.info? 9).map (fun i => (i.zero, i.size, i.bytes)) = some (some (.string ⟨#[]⟩), 1, 16) := by kernel_rfl
set_option maxRecDepth 100000 in
set_option maxHeartbeats 4000000 in
theorem appendSeq_in (F : Fence) (n : Nat) (h3 : F.fn 142) (h5 : F.fn 130) (hro : F.round = none) (hn : 3 ≤ n) (Bs len cap : Nat) (A : Option Addr) (f : Nat → ByteArray) (hreach : len ≤ 1000000) (w : World)
    (hBs : Bs < w.heap.size) (hc0 : w.cell? ⟨Bs, 0, none⟩ = some (.slice A len cap)) (hI : TextsAt w.heap.size w A len f) :
    CallsIn F n Tryz.prog 142 #[.slice none 0 0, .func (.func 130) #[] #[.pointer (some ⟨Bs, 0, none⟩)]] w fun e W' => ∃ v, e = .returned v ∧ W'.ownsRow w.heap.size 9 1 v (upto f len).length ((upto f len).map Value.string) ∧ Below w.heap.size w W' := by
  have h1 : 1 ≤ n := by omega
  obtain ⟨i0, hi, hz0, hz1, hz2⟩ := info_parts infoS
  refine callsIn_of_wp_marks Tryz.func142 rfl h3 ?_ hro
  simp only [Tryz.ntmps142, List.size_toArray, List.length_cons, List.length_nil, Nat.reduceAdd, Nat.reduceSub, Array.replicate_succ, Array.replicate_zero, List.push_toArray, List.append_toArray, List.nil_append, List.cons_append]
  gi_wp2
  have bO := Boxed.new w 42 (.slice none 0 0)
  have hB0 : Below w.heap.size w (w.alloc (.cells #[.slice none 0 0] 42)) := (Below.refl _ w).alloc (Nat.le_refl _) _
  refine wpIn_rangeFunc_ownG hro h1 (gf := 130) (lb := #[.pointer (some ⟨Bs, 0, none⟩)]) rfl h5 (enters_of Tryz.func130 (by kernel_rfl) rfl)
    (values_stops F (n - 1) h5 hro (by omega) Bs w.heap.size len cap A f hreach _ (by simp; omega) (by simp) ((hB0.cell (p := ⟨Bs, 0, none⟩) hBs).trans hc0) (hI.below hB0)) belowK_t (belowK_b (by simp)) (Below.refl _ _) (fun _ => rfl)
    (fun pre W => (∃ v, Boxed W w.heap.size 42 v ∧ W.ownsRow w.heap.size 9 1 v pre.length (pre.map Value.string) ∧ True) ∧ Below w.heap.size w W)
    (fun _ _ _ => False)
    (OwnFrom.and (Own.from (holdsRow_own w.heap.size w.heap.size 42 9 1 (fun pre : List ByteArray => pre.length) (fun pre => pre.map Value.string) (fun _ _ => True)) _) (ownFrom_below (Nat.le_refl _) (by simp)))
    (fun _ _ _ _ _ hs _ _ => hs)
    ⟨⟨_, bO, World.ownsRow_nil _ _ _ _, trivial⟩, hB0⟩
    (fun x => { tmps := #[.slice none 0 0, .func (.func 130) #[] #[.pointer (some ⟨Bs, 0, none⟩)], .pointer (some ⟨w.heap.size, 0, none⟩), undef, .slice none 0 0, .string x, .func (.func 130) #[] #[.pointer (some ⟨Bs, 0, none⟩)], .string x, undef, undef, undef, undef, undef], defers := [] }) ?assign ?body ?done ?stop
  case assign =>
    intro l x W K hK
    gi_wp2
    exact hK
  case body =>
    rintro l pre x W ⟨⟨v, hv, hrow, _⟩, hB⟩ hlt
    have hc := hv.cell
    gi_wp2_with (gi_at_builtin; refine wpListIn_append_own _ rfl _ _ 42 rfl w.heap.size 9 i0 (.string ⟨#[]⟩) 1 16 Tryz.underlying42 hi hz0 hz1 hz2 rfl (by decide) _ _ _ rfl (hrow.alloc _) ⟨W.heap.size, 0, none⟩ 1 1 [.string x] rfl rfl (cell_one_new _ _ _) (by simp [Value.oneCell']) (by have : maxLen = 9223372036854775807 := rfl; omega) (by omega) (by have := hB.size; simp; omega) ?_; intro v' w1 hown' hgrow _; obtain ⟨g', cap', rfl⟩ := ownsRow_succ hown'; obtain ⟨hv1, hv2, hr2, hk2, hb2⟩ := hv.appended (by decide) hrow hB.size (Nat.le_refl _) hown' hgrow; have hc1 := hv1.cell; have hf1 := hv1.frozen)
    exact ⟨hk2.from _, hb2, ⟨_, hv2, by simpa using hr2, trivial⟩, hB.trans hb2⟩
  case done =>
    rintro D ys W hD rfl ⟨⟨v, hv, hrow, _⟩, hB⟩ hK
    have hc := hv.cell
    gi_wp2
    refine ⟨by simp, .inl ⟨_, _, rfl, run_takeDeferred hK, ?_⟩⟩
    exact ⟨_, results_tmp rfl _ _ _, v, rfl, ownsRow_putObj hrow _ hK rfl, hB.trans (belowK_b (w := w) (Nat.le_refl _) W D _ _ (by simp at hD; omega) hK rfl rfl)⟩
  case stop =>
    rintro D c pre W _ _ h _
    exact h.elim
theorem appendSeq_any (Bs len cap : Nat) (A : Option Addr) (l : List ByteArray) (w : World) (hl : l.length = len) (hreach : len ≤ 1000000) (hc0 : w.cell? ⟨Bs, 0, none⟩ = some (.slice A len cap)) (hr : Rd w w.heap.size 1 A len cap (strs l)) :
    Calls Tryz.prog 142 #[.slice none 0 0, .func (.func 130) #[] #[.pointer (some ⟨Bs, 0, none⟩)]] w fun e W' => ∃ A' c', e = .returned (.slice A' len c') ∧ Own W' w.heap.size 9 1 A' len c' (strs l) ∧ Below w.heap.size w W' := by
  refine callsIn_wide.1 ((appendSeq_in Fence.wide 6 trivial trivial rfl (by omega) Bs len cap A _ hreach w (World.block_lt_of_cell? w _ hc0) hc0 (TextsAt.of_rd hr)).mono ?_)
  rintro e W' ⟨v, rfl, hrow, hb⟩
  rw [upto_get l hl, hl] at hrow
  obtain ⟨A', c', rfl, ho⟩ := Own.of_row hrow (strs_one l)
  exact ⟨A', c', rfl, ho, hb⟩
theorem collect_any (Bs len cap : Nat) (A : Option Addr) (l : List ByteArray) (w : World) (hl : l.length = len) (hreach : len ≤ 1000000) (hc0 : w.cell? ⟨Bs, 0, none⟩ = some (.slice A len cap)) (hr : Rd w w.heap.size 1 A len cap (strs l)) :
    Calls Tryz.prog 128 #[.func (.func 130) #[] #[.pointer (some ⟨Bs, 0, none⟩)]] w fun e W' => ∃ A' c', e = .returned (.slice A' len c') ∧ Own W' w.heap.size 9 1 A' len c' (strs l) ∧ Below w.heap.size w W' := by
  have HC := Lib.hid (appendSeq_any Bs len cap A l w hl hreach hc0 hr)
  clear hl hreach hc0 hr
  go_enter Tryz.func128, Tryz.ntmps128
  go_wp2_with fail
  refine HC.out.mono ?_
  rintro e W' ⟨A', c', rfl, ho, hb⟩
  have HO := Lib.hid ho
  have HB := Lib.hid hb
  clear ho hb
  go_wp2_with fail
  go_ret
  exact ⟨A', c', rfl, HO.out, HB.out⟩
end Tr
end Go.Proofs.YtcbclefemcmhpaaGreat
namespace Go.Proofs.YtcbclefemcmhpaaGreat
open Go.RowKit Go.Shelf Go.Sort
namespace Tr
open Sp Rw
theorem lt_bytes : ∀ x y : List UInt8, x < y ↔ Op.bytesLess x y = true
  | [], [] => by simp [Op.bytesLess]
  | [], _ :: _ => by simp [Op.bytesLess]
  | _ :: _, [] => by simp [Op.bytesLess]
  | x :: a, y :: b => by
    rw [List.cons_lt_cons_iff, lt_bytes a b]
    simp [Op.bytesLess]
theorem le_bytes (x y : List UInt8) : decide (x ≤ y) = !Op.bytesLess y x := by
  have h := lt_bytes y x
  have h2 : x ≤ y ↔ ¬ y < x := Iff.rfl
  cases hb : Op.bytesLess y x with
  | true => rw [decide_eq_false]; · rfl
            rw [h2, h, hb]; simp
  | false => rw [decide_eq_true]; · rfl
             rw [h2, h, hb]; simp
def toL (b : ByteArray) : List UInt8 := b.data.toList
def ofL (l : List UInt8) : ByteArray := ⟨l.toArray⟩
theorem of_to (b : ByteArray) : ofL (toL b) = b := by unfold ofL toL; rw [Array.toArray_toList]
theorem to_of (l : List UInt8) : toL (ofL l) = l := rfl
/-- the texts, rising -/
def sortS (l : List ByteArray) : List ByteArray := ((l.map toL).mergeSort fun x y => decide (x ≤ y)).map ofL
theorem sortS_len (l : List ByteArray) : (sortS l).length = l.length := by unfold sortS; rw [List.length_map, List.length_mergeSort, List.length_map]
theorem sortS_mem {l : List ByteArray} {x : ByteArray} : x ∈ sortS l ↔ x ∈ l := by
  unfold sortS
  constructor
  · intro h
    obtain ⟨y, hy, rfl⟩ := List.mem_map.1 h
    obtain ⟨z, hz, rfl⟩ := List.mem_map.1 (List.mem_mergeSort.1 hy)
    rw [of_to]
    exact hz
  · intro h
    refine List.mem_map.2 ⟨toL x, List.mem_mergeSort.2 (List.mem_map.2 ⟨x, h, rfl⟩), of_to x⟩
theorem sortS_rise (l : List ByteArray) : (sortS l).Pairwise fun a b => ¬ ltS b a := by
  unfold sortS
  rw [List.pairwise_map]
  refine (List.pairwise_mergeSort (fun a b c h1 h2 => ?_) (fun a b => ?_) (l.map toL)).imp fun {a b} h => ?_
  · rw [le_bytes] at h1 h2 ⊢
    simp only [Bool.not_eq_true'] at h1 h2 ⊢
    cases h3 : Op.bytesLess c a with
    | false => rfl
    | true =>
      rcases bytesLess_tri a b with h4 | h4 | h4
      · have := bytesLess_tr c a b h3 h4; rw [h2] at this; cases this
      · subst h4; rw [h2] at h3; cases h3
      · rw [h1] at h4; cases h4
  · rw [le_bytes, le_bytes]
    cases h3 : Op.bytesLess b a with
    | false => rfl
    | true =>
      cases h4 : Op.bytesLess a b with
      | false => rfl
      | true =>
        have := bytesLess_tr a b a h4 h3
        rw [bytesLess_irr] at this
        cases this
  · rw [le_bytes] at h
    unfold ltS
    rw [ByteArray.toList_eq, ByteArray.toList_eq]
    show ¬ Op.bytesLess (toL (ofL b)) (toL (ofL a)) = true
    rw [to_of, to_of]
    intro h2
    rw [h2] at h
    cases h
theorem strs_enc (l : List ByteArray) : strs l = (l.map toL).map encStr := by
  unfold strs
  rw [List.map_map]
  refine List.map_congr_left fun b _ => ?_
  show Value.string b = Value.string (ofL (toL b))
  rw [of_to]
theorem sortS_enc (l : List ByteArray) : strs (sortS l) = ((l.map toL).mergeSort fun x y => decide (x ≤ y)).map encStr := by
  unfold strs sortS
  rw [List.map_map]
  rfl
theorem sortS_own (l : List ByteArray) (n : Nat) (A : Option Addr) (c base : Nat) (w : World) (hl : l.length = n) (hn : n ≤ 900000) (ho : Own w base 9 1 A n c (strs l)) (hb : base ≤ w.heap.size) :
    Calls Tryz.prog 129 #[.slice A n c] w fun e w' => e = .returned (.tuple #[]) ∧ Own w' base 9 1 A n c (strs (sortS l)) ∧ Below base w w' := by
  rcases Nat.eq_zero_or_pos n with h0 | h0
  · subst h0
    have : l = [] := List.eq_nil_of_length_eq_zero hl
    subst this
    refine (Go.Proofs.AnyG.slices_Sort_string_none sortS_lay A c w).mono ?_
    rintro e w' ⟨rfl, rfl⟩
    exact ⟨rfl, by rw [show sortS [] = [] from by unfold sortS; simp]; exact ho, Below.refl _ _⟩
  · subst hl
    rcases ho.row.2 with ⟨_, h⟩ | ⟨g, cap, cur, hv, hg, hh, h1, h2, h3, h4⟩
    · omega
    · injection hv with e1 _ e3
      subst e1; subst e3
      rw [Nat.mul_one, strs_enc] at h4
      have hs := Go.Proofs.AnyG.slices_Sort_string sortS_lay g 0 c (l.map toL) w (holds_of_block hh (by simpa using h4)) (Array.getElem?_eq_some_iff.1 hh).1 (by rw [List.length_map]; omega)
      rw [List.length_map] at hs
      refine hs.mono ?_
      rintro e w' ⟨rfl, k, os, rfl⟩
      refine ⟨rfl, ⟨?_, strs_one _⟩, (Below.refl base w).grown (grownBy_sorted _) hb (fun k hk => by injection hk with hk; omega)⟩
      rw [sortS_enc]
      have := ownsRow_sorted (n := k) (os := os) (ss := l.map toL) (ts := (l.map toL).mergeSort fun x y => decide (x ≤ y)) (List.length_mergeSort _) hg hh (by rw [List.length_map]; exact h1) h2 h3
      rw [List.length_map] at this
      exact this
theorem sorted_any (Bs len cap : Nat) (A : Option Addr) (l : List ByteArray) (w : World) (hl : l.length = len) (hreach : len ≤ 900000) (hc0 : w.cell? ⟨Bs, 0, none⟩ = some (.slice A len cap)) (hr : Rd w w.heap.size 1 A len cap (strs l)) :
    Calls Tryz.prog 101 #[.func (.func 130) #[] #[.pointer (some ⟨Bs, 0, none⟩)]] w fun e W' => ∃ A' c', e = .returned (.slice A' len c') ∧ Own W' w.heap.size 9 1 A' len c' (strs (sortS l)) ∧ Below w.heap.size w W' := by
  have HC := Lib.hid (collect_any Bs len cap A l w hl (by omega) hc0 hr)
  have HL := Lib.hid hl
  clear hl hc0 hr
  go_enter Tryz.func101, Tryz.ntmps101
  go_wp2_with fail
  refine HC.out.mono ?_
  rintro e W1 ⟨A', c', rfl, ho, hb⟩
  have HS := Lib.hid (sortS_own l len A' c' w.heap.size W1 HL.out hreach ho hb.size)
  have HB := Lib.hid hb
  clear ho hb
  go_wp2_with fail
  refine HS.out.mono ?_
  rintro e W2 ⟨rfl, ho, hb⟩
  have HO := Lib.hid ho
  have HB2 := Lib.hid (HB.out.trans hb)
  clear ho hb
  go_wp2_with fail
  go_ret
  exact ⟨A', c', rfl, HO.out, HB2.out⟩
end Tr
end Go.Proofs.YtcbclefemcmhpaaGreat
namespace Go.Proofs.YtcbclefemcmhpaaGreat
open Go.ChangeShapes Go.WideShapes Go.ChangeAt Go.RowKit
namespace Tr
open Sp Rw
theorem infoE : (Tryz.prog.info? 58).map (fun i => (i.zero, i.size, i.bytes)) = some (some (.agg #[.int .i64 0, .int .i64 0, .string ⟨#[]⟩, .int .i64 0]), 4, 40) := by kernel_rfl
theorem infoK : (Tryz.prog.info? 85).map (fun i => (i.zero, i.size, i.bytes)) = some (some (.agg #[.string ⟨#[]⟩, .slice none 0 0, .slice none 0 0]), 3, 64) := by kernel_rfl
theorem values_any (A : Option Addr) (n c : Nat) (w : World) : Calls Tryz.prog 102 #[.slice A n c] w fun e w' => e = .returned (.func (.func 130) #[] #[.pointer (some ⟨w.heap.size, 0, none⟩)]) ∧ w' = w.alloc (.cells #[.slice A n c] 42) := by
  go_enter Tryz.func102, Tryz.ntmps102
  go_wp2
  go_ret
  exact ⟨rfl, rfl⟩
open Classical in
/-- is it one of these? -/
noncomputable def inB (l : List ByteArray) (k : ByteArray) : Bool := decide (k ∈ l)
open Classical in
theorem inB_iff {l : List ByteArray} {k : ByteArray} : inB l k = true ↔ k ∈ l := decide_eq_true_iff
theorem inB_nil (k : ByteArray) : inB [] k = false := by
  cases h : inB [] k with
  | false => rfl
  | true => exact absurd (inB_iff.1 h) (by simp)
theorem keepK_succ (f : ByteArray → Bool) {ks : List (ByteArray × T)} {k : Nat} (h : k < ks.length) : keepK f (ks.take (k + 1)) = if f (ks[k]).1 then keepK f (ks.take k) ++ [ks[k]] else keepK f (ks.take k) := by
  unfold keepK
  rw [List.take_succ_eq_append_getElem h, List.filter_append, List.filter_cons, List.filter_nil]
  split <;> simp
theorem keepK_all (ks : List (ByteArray × T)) {f : ByteArray → Bool} (h : ∀ k, f k = true) : keepK f ks = ks := by
  unfold keepK
  rw [List.filter_eq_self]
  exact fun k _ => h k.1
theorem keepK_len (f : ByteArray → Bool) (ks : List (ByteArray × T)) (k : Nat) : (keepK f (ks.take k)).length ≤ k := by
  unfold keepK
  exact Nat.le_trans (List.length_filter_le _ _) (by rw [List.length_take]; omega)
set_option maxHeartbeats 800000 in
theorem entries_any (es : List E) (ks : List (ByteArray × T)) (Ae Ak : Option Addr) (ne nk ce ck : Nat) (w : World) (hn : ne ≤ 900000) (hr : RdT w w.heap.size (.mk es ks) ⟨Ae, ne, ce⟩ ⟨Ak, nk, ck⟩) :
    Calls Tryz.prog 105 #[.agg #[.slice Ae ne ce, .slice Ak nk ck]] w fun e w' => ∃ A' c', e = .returned (.slice A' ne c') ∧ Own w' w.heap.size 58 4 A' ne c' (entsC es) ∧ Below w.heap.size w w' := by
  have hbx : Below w.heap.size w (w.alloc (.cells #[.slice Ae ne ce, .slice Ak nk ck] 25)) := Dt.box_below _ _ _
  have hr2 := hr
  rw [rdT_mk] at hr2
  have hre := (hr2.2.1.below hbx).more hbx.size
  have hle := hr2.1
  clear hr hr2
  dsimp only at hre hle
  obtain ⟨W, hW⟩ : ∃ W, W = w.alloc (.cells #[.slice Ae ne ce, .slice Ak nk ck] 25) := ⟨_, rfl⟩
  rw [← hW] at hre hbx
  obtain ⟨i0, hi0, hz0, hz1, hz2⟩ := info_of infoE
  obtain ⟨v', w', r1, r2, r3, _⟩ := run_app (P := Tryz.prog) W w.heap.size 22 22 58 i0 _ 4 40 Tryz.underlying22 hi0 hz0 hz1 hz2 rfl (by omega) (v := .slice none 0 0) (n := 0) (xs := []) (World.ownsRow_nil _ _ _ _) hre (by omega) (by omega) hbx.size
  rw [List.nil_append, Nat.zero_add] at r2
  obtain ⟨A', c', rfl, ho⟩ := Own.of_row r2 (fun u hu => hre.one u hu)
  have HO := Lib.hid ho
  have HB := Lib.hid (hbx.grown r3 hbx.size (fun k hk => by simp [Value.ownBlock] at hk))
  have Hrun := Lib.hid r1
  have HW := Lib.hid hW
  clear hre r1 r2 r3 ho hbx hW hle
  go_enter Tryz.func105, Tryz.ntmps105
  go_wp2_with (at_builtin; rw [← HW.out]; refine Lib.wpList_append_run _ rfl _ _ _ _ rfl _ _ rfl rfl _ _ Hrun.out ?_)
  go_ret
  exact ⟨A', c', rfl, HO.out, HB.out⟩
/-- what copied answers -/
def CopyIs (t : T) (ne nk : Nat) (w : World) (e : Ending) (w' : World) : Prop := ∃ Ae ce Ak ck, e = .returned (.agg #[.slice Ae ne ce, .slice Ak nk ck]) ∧ RdO w' (fun b => w.heap.size ≤ b) t ⟨Ae, ne, ce⟩ ⟨Ak, nk, ck⟩ ∧ Below w.heap.size w w'
/-- what kids answers -/
def KidsIs (f : ByteArray → Bool) (ks : List (ByteArray × T)) (w : World) (e : Ending) (w' : World) : Prop := ∃ base A m c kr, e = .returned (.slice A m c) ∧ w.heap.size ≤ base ∧ base ≤ w'.heap.size ∧ KidRow w' base 85 A m c (keepK f ks) kr ∧ Below w.heap.size w w'
set_option maxRecDepth 100000 in
set_option maxHeartbeats 4000000 in
theorem kids_of (es : List E) (ks : List (ByteArray × T)) (ih : ∀ k ∈ ks, ∀ (Ae Ak : Option Addr) (ne nk ce ck : Nat) (w : World), nodes k.2 ≤ 100000 → RdT w w.heap.size k.2 ⟨Ae, ne, ce⟩ ⟨Ak, nk, ck⟩ → Calls Tryz.prog 81 #[.agg #[.slice Ae ne ce, .slice Ak nk ck]] w (CopyIs k.2 ne nk w))
    (l : List ByteArray) (A : Option Addr) (n c : Nat) (am : Bool) (Ae Ak : Option Addr) (ne nk ce ck : Nat) (w : World) (hl : l.length = n) (hn5 : n ≤ 100000) (hrk : Rd w w.heap.size 1 A n c (strs l)) (hn : nodes (.mk es ks) ≤ 100000) (hr : RdT w w.heap.size (.mk es ks) ⟨Ae, ne, ce⟩ ⟨Ak, nk, ck⟩) :
    Calls Tryz.prog 77 #[.agg #[.slice Ae ne ce, .slice Ak nk ck], .slice A n c, .bool am] w (KidsIs (fun k => inB l k == am) ks w) := by
  obtain ⟨hle, hlk⟩ := rd_lens hr
  have HR := Lib.hid hr
  have HLE := Lib.hid hle
  have HLK := Lib.hid hlk
  clear hle hlk hr
  have HIH := Lib.hid ih
  have HN := Lib.hid hn
  have HL := Lib.hid hl
  have hnk : nk ≤ 100000 := by have := nodes_es es ks; have := HLK.out; omega
  have HRK := Lib.hid hrk
  obtain ⟨f, hf⟩ : ∃ f : ByteArray → Bool, f = fun k => inB l k == am := ⟨_, rfl⟩
  rw [← hf]
  have HF := Lib.hid hf
  clear ih hn hl hrk hf
  obtain ⟨g, hg⟩ : ∃ g, g = w.heap.size := ⟨_, rfl⟩
  have HK := Lib.hid (tree_box w Ae Ak ne nk ce ck)
  rw [← hg] at HK
  obtain ⟨W0, hW0⟩ : ∃ W, W = w.alloc (.cells #[.slice Ae ne ce, .slice Ak nk ck] 25) := ⟨_, rfl⟩
  rw [← hW0] at HK
  have HG := Lib.hid hg
  have HW0 := Lib.hid hW0
  have k0 := HK.out.c0
  have k1 := HK.out.c1
  clear hg hW0
  go_enter Tryz.func77, Tryz.ntmps77
  go_wp2_with fail
  rw [← HG.out, ← HW0.out]
  refine (values_any A n c W0).mono ?_
  rintro e w1 ⟨rfl, hw1⟩
  have hb1 : Below W0.heap.size W0 w1 := by rw [hw1]; exact (Below.refl _ _).alloc (Nat.le_refl _) _
  have HK1 := Lib.hid (HK.out.later hb1)
  have hbx : w1.cell? ⟨W0.heap.size, 0, none⟩ = some (.slice A n c) := by rw [hw1]; go_simp
  have HSO := Lib.hid (sorted_any W0.heap.size n c A l w1 HL.out (by omega) hbx ((HRK.out.below HK1.out.below).more HK1.out.below.size))
  clear hb1 hw1 hbx k0 k1
  go_wp2_with fail
  refine HSO.out.mono ?_
  rintro e w2 ⟨As, cs, rfl, hos, hb2⟩
  have HK2 := Lib.hid (HK1.out.later hb2)
  have HSR := Lib.hid hos.rd
  have k0 := HK2.out.c0
  have k1 := HK2.out.c1
  clear hos hb2 HSO
  go_wp2_with fail
  go_loopw [8, 19] (fun s i wr => ∃ (k : Nat) (Ax : Option Addr) (m cx : Nat) (kr : List (ByteArray × SV × SV)), k ≤ nk ∧ i = .int .i64 k ∧ s = .slice Ax m cx ∧ m ≤ k ∧ Hid (KidRow wr w2.heap.size 85 Ax m cx (keepK f (ks.take k)) kr) ∧ Hid (Below w2.heap.size w2 wr)) (fun _ i _ => nk - (intOf i).toNat)
  case atStart => exact ⟨0, none, 0, 0, [], by omega, rfl, rfl, by omega, KidRow.nil _ _ _, Below.refl _ _⟩
  case round =>
    obtain ⟨k, Ax, m, cx, kr, hk, rfl, rfl, hmk, HKR, HBW⟩ := hrel
    have HKW := Lib.hid (HK2.out.later HBW.out)
    clear k0 k1
    have k0 := HKW.out.c0
    have k1 := HKW.out.c1
    by_cases hlt : k < nk
    · have hkl : k < ks.length := by rw [HLK.out]; exact hlt
      obtain ⟨b, o, rfl, hb, hc⟩ := rd_kid HR.out (by omega)
      obtain ⟨⟨Ae', ne', ce'⟩, ⟨Ak', nk', ck'⟩, c0, c1, c2, hkid⟩ := hc k hkl
      dsimp only at c0 c1 c2
      have c0 := (HKW.out.below.cell (p := ⟨b, o + k * 3, none⟩) hb).trans c0
      have c1 := (HKW.out.below.cell (p := ⟨b, o + k * 3 + 1, none⟩) hb).trans c1
      have c2 := (HKW.out.below.cell (p := ⟨b, o + k * 3 + 2, none⟩) hb).trans c2
      obtain ⟨key, hkey⟩ : ∃ key, key = (ks[k]).1 := ⟨_, rfl⟩
      rw [← hkey] at c0
      clear hc
      have hkeq : ks[k] = (key, (ks[k]).2) := by rw [hkey]
      have HKEY := Lib.hid hkeq
      clear hkeq
      obtain ⟨p, hp⟩ : ∃ p, p = wr.heap.size := ⟨_, rfl⟩
      obtain ⟨W1, hW1⟩ : ∃ W, W = wr.alloc (.cells #[.string key, .slice Ae' ne' ce', .slice Ak' nk' ck'] 85) := ⟨_, rfl⟩
      have hb1 : Below wr.heap.size wr W1 := by rw [hW1]; exact Dt.box_below _ _ _
      have hk1 := HKW.out.later hb1
      have hrd1 := RdT.more hk1.below.size _ (RdT.below hkid hk1.below)
      have HK1 := Lib.hid hk1
      have HW1 := Lib.hid hW1
      clear hW1 hb1 hkid
      have p0 : W1.cell? ⟨p, 0, none⟩ = some (.string key) := by rw [HW1.out, hp]; go_simp
      have p1 : W1.cell? ⟨p, 1, none⟩ = some (.slice Ae' ne' ce') := by rw [HW1.out, hp]; go_simp
      have p2 : W1.cell? ⟨p, 2, none⟩ = some (.slice Ak' nk' ck') := by rw [HW1.out, hp]; go_simp
      have hb1 : Below wr.heap.size wr W1 := by rw [HW1.out]; exact Dt.box_below _ _ _
      have HB1 := Lib.hid (HBW.out.trans (hb1.mono HBW.out.size))
      have HKR1 := Lib.hid (HKR.out.later hb1)
      have HKP := Lib.hid ((((HK1.out.cons_of p2).cons_of p1).cons_of p0))
      have HP := Lib.hid hp
      have hown : (Value.slice Ax m cx).ownBlock ≠ some p := fun e => by have := (HKR.out.own.row.lt p e).2; omega
      have HOWN := Lib.hid hown
      have HSE := Lib.hid (searchS_any (sortS l) n As cs key W1 (by rw [sortS_len]; exact HL.out) (by omega) ((HSR.out.below (HB1.out)).more HB1.out.size) (sortS_rise l))
      have HRD := Lib.hid hrd1
      clear hrd1 hkey hp hb1 hown HBW
      go_wp2_with fail
      rw [← HP.out, ← HW1.out]
      refine HSE.out.mono ?_
      rintro e w3 ⟨i3, z, rfl, ⟨hz1, hz2⟩, hb3⟩
      have HZ : Hid (z = inB l key) := by
        unfold Hid
        cases z with
        | true => exact (inB_iff.2 (sortS_mem.1 (hz1 rfl))).symm
        | false =>
          cases h : inB l key with
          | false => rfl
          | true => exact absurd (sortS_mem.2 (inB_iff.1 h)) (hz2 rfl)
      have HB3 := Lib.hid (HB1.out.trans (hb3.mono HB1.out.size))
      have HKR3 := Lib.hid (HKR1.out.later hb3)
      have HKc := Lib.hid (HKP.out.later hb3)
      have hks := keepK_succ f hkl
      rw [HKEY.out] at hks
      dsimp only at hks
      have HFK : Hid (f key = (z == am)) := by unfold Hid; rw [HF.out, HZ.out]
      have HB13 := Lib.hid hb3
      clear hz1 hz2 hb3 p0 p1 p2 HKR HKR1 HB1
      have s0 := HKc.out.c0
      have s1 := HKc.out.c1
      have s2 := HKc.out.c2
      by_cases hzb : z = am
      · subst hzb
        have hft : f key = true := by rw [HFK.out]; exact beq_self_eq_true z
        rw [hft, if_pos rfl] at hks
        have HKS := Lib.hid hks
        clear hks hft
        have hsz3 : w3.heap.size = w3.drew.heap.size := rfl
        go_wp2_with fail
        have HB3D : Hid (Below W1.heap.size W1 w3.drew) := HB13.out.drew
        have HB3S : Hid (W1.heap.size ≤ w3.drew.heap.size) := HB13.out.size
        refine wp_region_held_drew (S := fun W => W.cell? ⟨p, 0, none⟩ = some (.string key) ∧ W.cell? ⟨p, 1, none⟩ = some (.slice Ae' ne' ce') ∧ W.cell? ⟨p, 2, none⟩ = some (.slice Ak' nk' ck')) (by kernel_rfl) (by go_keep) (fun hHeld => ?_)
        refine Tk 0 33 ?_
        refine Tk 1 34 ?_
        refine Tk 2 35 ?_
        refine Tk 3 36 ?_
        refine Tk 4 37 ?_
        refine wpAnyH_ready (rs := [5]) (by kernel_rfl) (by simp) ?_
        refine AllReadyH.cons (o := ⟨some 38, _, _, _, _, _⟩) rfl (fun K hK => ?_) AllReadyH.nil
        go_simp
        (go_at_call 81; refine (HIH.out _ (List.getElem_mem hkl) Ae' Ak' ne' nk' ce' ck' w3.drew (Nat.le_trans (nodes_kid (List.getElem_mem hkl)) HN.out) (RdT.more HB3S.out _ (RdT.below HRD.out HB3D.out))).mono ?_)
        rintro e w4 ⟨Ae4, ce4, Ak4, ck4, rfl, hro, hb4⟩
        have hb4' : Below w3.heap.size w3 w4 := ((Below.refl w3.heap.size w3).drew).trans hb4
        have HKc := Lib.hid (HKc.out.later hb4')
        have HKR4 := HKR3.out.later hb4'
        have hu : RdO w4 (fun b => w2.heap.size ≤ b ∧ (Value.slice Ax m cx).ownBlock ≠ some b) (ks[k]).2 ⟨Ae4, ne', ce4⟩ ⟨Ak4, nk', ck4⟩ := RdO.mono (fun b hb _ => ⟨Nat.le_trans HB3.out.size hb, fun e => by have h1 := (HKR3.out.own.row.lt b e).2; have h2 : w3.drew.heap.size ≤ b := hb; have h3 : w3.drew.heap.size = w3.heap.size := rfl; omega⟩) _ hro
        obtain ⟨A5, c5, w5, r1, HKR5, hb5, hblk⟩ := KidRow.push (k := (key, ⟨Ae4, ne', ce4⟩, ⟨Ak4, nk', ck4⟩)) Tryz.underlying23 infoK rfl (by omega) HKR4 w4.heap.size rfl (Nat.le_trans HB3.out.size hb4'.size) hu (by omega) #[.string key, .slice Ae4 ne' ce4, .slice Ak4 nk' ck4] rfl
        have t0 := HKc.out.c0
        have t1 := HKc.out.c1
        have t2 := HKc.out.c2
        have hpl : p < w4.heap.size := World.block_lt_of_cell? w4 _ t0
        have u0 : w5.cell? ⟨p, 0, none⟩ = _ := (World.cell?_of_block (a := ⟨p, 0, none⟩) (hblk p HOWN.out hpl)).trans t0
        have u1 : w5.cell? ⟨p, 1, none⟩ = _ := (World.cell?_of_block (a := ⟨p, 1, none⟩) (hblk p HOWN.out hpl)).trans t1
        have u2 : w5.cell? ⟨p, 2, none⟩ = _ := (World.cell?_of_block (a := ⟨p, 2, none⟩) (hblk p HOWN.out hpl)).trans t2
        have Hrun := Lib.hid r1
        have HU := Lib.hid (And.intro u0 (And.intro u1 u2))
        have HKR5' : Hid (KidRow w5 w2.heap.size 85 A5 (m + 1) c5 (keepK f (ks.take (k + 1))) (kr ++ [(key, ⟨Ae4, ne', ce4⟩, ⟨Ak4, nk', ck4⟩)])) := by unfold Hid; rw [HKS.out]; exact HKR5
        have HB5 := Lib.hid ((HB3.out.trans (hb4'.mono HB3.out.size)).trans hb5)
        clear hro hb4 hb4' hu r1 HKR5 hb5 hblk u0 u1 u2 hpl HKR4
        refine hK.out _ _ ?_ (fun hHeld2 => ?_)
        · exact ⟨t0, t1, t2⟩
        clear hK K hHeld
        have hHeld := hHeld2
        clear hHeld2
        try simp only [Act.put, List.setIfInBounds_toArray, List.set_cons_zero, List.set_cons_succ]
        refine Tk 6 39 ?_
        refine wpAnyH_ready (rs := [7]) (by kernel_rfl) (by simp) ?_
        refine AllReadyH.cons (o := ⟨some 40, _, _, _, _, _⟩) rfl (fun K hK => ?_) AllReadyH.nil
        go_simp
        refine hK.out _ _ ?_ (fun hHeld2 => ?_)
        · (try dsimp only); go_keep
        clear hK K hHeld
        have hHeld := hHeld2
        clear hHeld2
        try simp only [Act.put, List.setIfInBounds_toArray, List.set_cons_zero, List.set_cons_succ]
        refine wpAnyH_ready (rs := [8]) (by kernel_rfl) (by simp) ?_
        refine AllReadyH.cons (o := ⟨some 41, _, _, _, _, _⟩) rfl (fun K hK => ?_) AllReadyH.nil
        refine upon_append _ _ _ rfl rfl rfl Hrun.out ?_
        refine hK.out _ _ ?_ (fun hHeld2 => ?_)
        · exact HU.out
        clear hK K hHeld
        have hHeld := hHeld2
        clear hHeld2
        try simp only [Act.put, List.setIfInBounds_toArray, List.set_cons_zero, List.set_cons_succ]
        refine Tk 9 8 ?_
        refine wpAnyH_done (by kernel_rfl) ?_ _
        clear t0 t1 t2 s0 s1 s2 Hrun hHeld
        go_wp2_with fail
        go_roundw
        case rel => exact ⟨k + 1, A5, m + 1, c5, _, by omega, by go_num, rfl, by omega, HKR5'.out, HB5.out⟩
        case measure => simp [intOf]; omega
      · have hft : f key = false := by rw [HFK.out]; exact beq_eq_false_iff_ne.2 hzb
        rw [hft, if_neg (by simp)] at hks
        have HKS := Lib.hid hks
        have fzb : (z == am) = false := beq_eq_false_iff_ne.2 hzb
        have HKR4 : Hid (KidRow w3 w2.heap.size 85 Ax m cx (keepK f (ks.take (k + 1))) kr) := by unfold Hid; rw [HKS.out]; exact HKR3.out
        clear hks hft hzb
        go_wp2_with fail
        go_roundw
        case rel => exact ⟨k + 1, Ax, m, cx, kr, by omega, by go_num, rfl, by omega, HKR4.out, HB3.out⟩
        case measure => simp [intOf]; omega
    · obtain rfl : k = nk := by omega
      have hall : ks.take k = ks := List.take_of_length_le (by rw [HLK.out]; omega)
      have HKR4 : Hid (KidRow wr w2.heap.size 85 Ax m cx (keepK f ks) kr) := by have := HKR.out; rwa [hall] at this
      clear hall
      go_wp2_with fail
      go_ret
      exact ⟨w2.heap.size, Ax, m, cx, kr, rfl, HK2.out.below.size, HBW.out.size, HKR4.out, HKW.out.below⟩
set_option maxRecDepth 100000 in
set_option maxHeartbeats 4000000 in
theorem copied_any : ∀ (t : T) (Ae Ak : Option Addr) (ne nk ce ck : Nat) (w : World), nodes t ≤ 100000 → RdT w w.heap.size t ⟨Ae, ne, ce⟩ ⟨Ak, nk, ck⟩ → Calls Tryz.prog 81 #[.agg #[.slice Ae ne ce, .slice Ak nk ck]] w (CopyIs t ne nk w) := by
  intro t
  induction t using T.ind with
  | h es ks ih =>
    intro Ae Ak ne nk ce ck w hn hr
    obtain ⟨hle, hlk⟩ := rd_lens hr
    have HR := Lib.hid hr
    have HLE := Lib.hid hle
    have HLK := Lib.hid hlk
    clear hle hlk hr
    have HKO := Lib.hid (fun (w : World) => kids_of es ks ih [] none 0 0 false Ae Ak ne nk ce ck w rfl (by omega) (Rd.nil _) hn)
    have hne : ne ≤ 900000 := by have := nodes_es es ks; have := HLE.out; omega
    obtain ⟨g, hg⟩ : ∃ g, g = w.heap.size := ⟨_, rfl⟩
    have HK := Lib.hid (tree_box w Ae Ak ne nk ce ck)
    rw [← hg] at HK
    obtain ⟨W0, hW0⟩ : ∃ W, W = w.alloc (.cells #[.slice Ae ne ce, .slice Ak nk ck] 25) := ⟨_, rfl⟩
    rw [← hW0] at HK
    have HG := Lib.hid hg
    have HW0 := Lib.hid hW0
    have k0 := HK.out.c0
    have k1 := HK.out.c1
    clear hg hW0
    obtain ⟨q, hq⟩ : ∃ q, q = W0.heap.size := ⟨_, rfl⟩
    obtain ⟨W1, hW1⟩ : ∃ W, W = W0.alloc (.cells #[.slice none 0 0, .slice none 0 0] 25) := ⟨_, rfl⟩
    have hb1 : Below W0.heap.size W0 W1 := by rw [hW1]; exact Dt.box_below _ _ _
    have q0 : W1.cell? ⟨q, 0, none⟩ = some (.slice none 0 0) := by rw [hW1, hq]; go_simp
    have q1 : W1.cell? ⟨q, 1, none⟩ = some (.slice none 0 0) := by rw [hW1, hq]; go_simp
    have hfr : Free q W1 := ⟨by rw [hW1, hq]; simp, fun j => by rw [hW1, hq]; go_simp⟩
    have HKc := Lib.hid ((((HK.out.later hb1).cons_of q1).cons_of q0)).drew
    have HFR := Lib.hid hfr.drew
    have HQ : Hid (q = g + 1) := by unfold Hid; rw [hq, HW0.out, HG.out]; simp
    have hgW : g < W0.heap.size := World.block_lt_of_cell? W0 _ HK.out.c0
    have hgq : g ≠ q := by omega
    have hgq2 : ¬ q = g := by omega
    have hqw : w.heap.size < q := by have := HG.out; omega
    have HW1 := Lib.hid hW1
    have s0 : W1.cell? ⟨g, 0, none⟩ = _ := (hb1.cell (p := ⟨g, 0, none⟩) hgW).trans HK.out.c0
    have s1 : W1.cell? ⟨g, 1, none⟩ = _ := (hb1.cell (p := ⟨g, 1, none⟩) hgW).trans HK.out.c1
    have HKW1 : Hid (w.heap.size ≤ W1.heap.size) := HKc.out.below.size
    have HFQ : Hid (q < W1.heap.size) := hfr.1
    clear hq hW1 hb1 hfr q0 q1 k0 k1 hn
    go_enter Tryz.func81, Tryz.ntmps81
    go_wp2_with fail
    rw [← HG.out, ← HW0.out, ← HQ.out, ← HW1.out]
    refine wp_region_held_drew (S := fun W => W.cell? ⟨g, 0, none⟩ = some (.slice Ae ne ce) ∧ W.cell? ⟨g, 1, none⟩ = some (.slice Ak nk ck)) (by kernel_rfl) (by go_keep) (fun hHeld => ?_)
    refine Tk 0 3 ?_
    refine Tk 2 5 ?_
    refine wpAnyH_ready (rs := [1]) (by kernel_rfl) (by simp) ?_
    refine AllReadyH.cons (o := ⟨some 4, _, _, _, _, _⟩) rfl (fun K hK => ?_) AllReadyH.nil
    go_simp
    (go_at_call 105; refine (entries_any es ks Ae Ak ne nk ce ck _ hne (RdT.more HKc.out.below.size _ (RdT.below HR.out HKc.out.below))).mono ?_)
    rintro e w2 ⟨A2, c2, rfl, ho2, hb2⟩
    have HKc := Lib.hid (HKc.out.later hb2)
    have HFR := Lib.hid (HFR.out.later hb2)
    have HO2 := Lib.hid (RO.of_own ho2)
    have hbs2 := hb2.size
    clear ho2 hb2
    refine hK.out _ _ ?_ (fun hHeld2 => ?_)
    · exact ⟨HKc.out.c2, HKc.out.c3⟩
    clear hK K hHeld
    have hHeld := hHeld2
    clear hHeld2
    try simp only [Act.put, List.setIfInBounds_toArray, List.set_cons_zero, List.set_cons_succ]
    refine wpAnyH_ready (rs := [3]) (by kernel_rfl) (by simp) ?_
    refine AllReadyH.cons (o := ⟨some 6, _, _, _, _, _⟩) rfl (fun K hK => ?_) AllReadyH.nil
    go_simp
    (go_at_call 77; refine (HKO.out _ (RdT.more HKc.out.below.size _ (RdT.below HR.out HKc.out.below))).mono ?_)
    rintro e w3 ⟨base, A3, m3, c3, kr, rfl, hbs1, hbs3, hkr, hb3⟩
    have HKc := Lib.hid (HKc.out.later hb3)
    have HFR := Lib.hid (HFR.out.later hb3)
    have hO3 := HO2.out.keep hb3.size (fun b _ hlt => hb3.block b hlt)
    have hsz : W1.drew.heap.size = W1.heap.size := rfl
    have hwW1 : w.heap.size ≤ W1.heap.size := HKW1.out
    have hall : keepK (fun k => inB [] k == false) ks = ks := keepK_all ks (fun k => by rw [inB_nil]; rfl)
    rw [hall] at hkr
    have hm3 : m3 = nk := by rw [← hkr.len, HLK.out]
    subst hm3
    have HT := Lib.hid (hkr.tree (ok := fun b => w.heap.size ≤ b ∧ b ≠ q) (fun b hb hlt => ⟨by omega, fun e => by have := HFQ.out; omega⟩) (es := es) (se := ⟨A2, ne, c2⟩) HLE.out (hO3.mono (fun b hb _ => ⟨by omega, fun e => by have := HFQ.out; omega⟩)))
    have t0 := HKc.out.c0
    have t1 := HKc.out.c1
    have t2 := HKc.out.c2
    have t3 := HKc.out.c3
    have m0 := HFR.out.2 0
    have m1 := HFR.out.2 1
    clear hkr hb3 hO3 hall
    refine hK.out _ _ ?_ (fun hHeld2 => ?_)
    · exact ⟨t2, t3⟩
    clear hK K hHeld
    have hHeld := hHeld2
    clear hHeld2
    try simp only [Act.put, List.setIfInBounds_toArray, List.set_cons_zero, List.set_cons_succ]
    refine Tk 4 7 ?_
    refine wpAnyH_ready (rs := [5]) (by kernel_rfl) (by simp) ?_
    refine AllReadyH.cons (o := ⟨none, _, _, _, _, _⟩) rfl (fun K hK => ?_) AllReadyH.nil
    go_simp
    refine hK.out _ _ ?_ (fun hHeld2 => ?_)
    · (try dsimp only); go_keep
    clear hK K hHeld
    have hHeld := hHeld2
    clear hHeld2
    try simp only [Act.put, List.setIfInBounds_toArray, List.set_cons_zero, List.set_cons_succ]
    refine wpAnyH_done (by kernel_rfl) ?_ _
    obtain ⟨w4, hw4⟩ : ∃ W, W = (w3.setCell ⟨q, 0, none⟩ (.slice A2 ne c2)).setCell ⟨q, 1, none⟩ (.slice A3 m3 c3) := ⟨_, rfl⟩
    have hT4 : RdO w4 (fun b => w.heap.size ≤ b) (.mk es ks) ⟨A2, ne, c2⟩ ⟨A3, m3, c3⟩ := by
      rw [hw4]
      refine RdO.mono (fun b hb _ => hb.1) _ (RdO.keep (by simp [World.setCell]) (fun b hb hlt => ?_) _ HT.out)
      exact (Below.heap_setCell _ ⟨q, 1, none⟩ _ b (fun e => hb.2 e)).trans (Below.heap_setCell _ ⟨q, 0, none⟩ _ b (fun e => hb.2 e))
    have hb4 : Below w.heap.size w w4 := by rw [hw4]; exact (HKc.out.below.setCell (p := ⟨q, 0, none⟩) (Nat.le_of_lt hqw) _).setCell (p := ⟨q, 1, none⟩) (Nat.le_of_lt hqw) _
    have j0 : w4.cell? ⟨q, 0, none⟩ = some (.slice A2 ne c2) := by rw [hw4]; go_simp
    have j1 : w4.cell? ⟨q, 1, none⟩ = some (.slice A3 m3 c3) := by rw [hw4]; go_simp
    have HT4 := Lib.hid hT4
    have HB4 := Lib.hid hb4
    have HW4 := Lib.hid hw4
    clear hT4 hb4 hw4 t0 t1 t2 t3 m0 m1 hHeld s0 s1
    go_wp2_with fail
    rw [← HW4.out]
    refine bodyPost_ret (v := .agg #[.slice A2 ne c2, .slice A3 m3 c3]) (by simp [results, Tryz.results81, go_sem, j0, j1]) rfl ⟨A2, c2, A3, c3, rfl, HT4.out, HB4.out⟩
theorem kids_any (es : List E) (ks : List (ByteArray × T)) (l : List ByteArray) (A : Option Addr) (n c : Nat) (am : Bool) (Ae Ak : Option Addr) (ne nk ce ck : Nat) (w : World) (hl : l.length = n) (hn5 : n ≤ 100000) (hrk : Rd w w.heap.size 1 A n c (strs l)) (hn : nodes (.mk es ks) ≤ 100000) (hr : RdT w w.heap.size (.mk es ks) ⟨Ae, ne, ce⟩ ⟨Ak, nk, ck⟩) :
    Calls Tryz.prog 77 #[.agg #[.slice Ae ne ce, .slice Ak nk ck], .slice A n c, .bool am] w (KidsIs (fun k => inB l k == am) ks w) :=
  kids_of es ks (fun k _ => copied_any k.2) l A n c am Ae Ak ne nk ce ck w hl hn5 hrk hn hr
end Tr
end Go.Proofs.YtcbclefemcmhpaaGreat
namespace Go.Proofs.YtcbclefemcmhpaaGreat
open Go.ChangeShapes Go.WideShapes Go.ChangeAt Go.RowKit
namespace Tr
open Rw Sp
namespace KidRow
variable {w w' : World} {base e n c : Nat} {A : Option Addr} {ks : List (ByteArray × T)} {kr : List (ByteArray × SV × SV)}
/-- one kid is appended; what else lay there stays, and is not the new row -/
theorem push2 {t by_ : Nat} {z : Value} (ht : Tryz.prog.underlying t = some (.slice e)) (hi : (Tryz.prog.info? e).map (fun i => (i.zero, i.size, i.bytes)) = some (some z, 3, by_)) (hzs : z.cells.size = 3) (hby : by_ ≤ 1000000)
    (h : KidRow w base e A n c ks kr) (p : Nat) (hp : w.heap.size = p) (hb : base ≤ w.heap.size) {k : ByteArray × SV × SV} {u : T} (hu : RdO w (fun b => base ≤ b ∧ (Value.slice A n c).ownBlock ≠ some b) u k.2.1 k.2.2) (hn : n ≤ 900000) (cs : Array Value) (hcs : cs = (kidC k).toArray) :
    ∃ A' c' w', (Builtin.append_ #[t, t] t #[.slice A n c, .slice (some ⟨p, 0, none⟩) 1 1]).run Tryz.prog (w.alloc (.cells cs e)) = .ok (.slice A' (n + 1) c') w' ∧
      KidRow w' base e A' (n + 1) c' (ks ++ [(k.1, u)]) (kr ++ [k]) ∧ Below base w w' ∧ ∀ b, (Value.slice A n c).ownBlock ≠ some b → b < w.heap.size → (w'.heap[b]? = w.heap[b]? ∧ (Value.slice A' (n + 1) c').ownBlock ≠ some b) := by
  subst hp
  subst hcs
  obtain ⟨i0, hi0, hz0, hz1, hz2⟩ := info_of hi
  have hown := h.own.row
  obtain ⟨v', w', r1, r2, r3, r4⟩ := run_app (P := Tryz.prog) (w.alloc (.cells (kidC k).toArray e)) base t t e i0 z 3 by_ ht hi0 hz0 hz1 hz2 hzs (by omega)
    (hown.alloc _) (B := w.heap.size + 1) (A := some ⟨w.heap.size, 0, none⟩) (m := 1) (c := 1) (news := kidC k)
    ⟨rfl, by omega, kidC_one k, fun _ => ⟨_, _, rfl, by omega, fun j u hu => by
      rw [Nat.zero_add, cell_of_row _ _ j _ _ (0, 0) (heap_alloc_new _ _)]
      simpa using hu⟩⟩ (by omega) hby (by simp; omega)
  obtain ⟨A', c', rfl, ho⟩ := Own.of_row r2 (fun u hu => by
    rcases List.mem_append.1 hu with hu | hu
    · exact h.own.one u hu
    · exact kidC_one k u hu)
  have hbel : Below base w w' := ((Below.refl base w).alloc hb _).grown r3 (by simp; omega) (fun k hk => (hown.lt k hk).1)
  have hsize : w.heap.size ≤ w'.heap.size := by have := r3.size; simp at this; omega
  have hnew2 : ∀ b, (Value.slice A n c).ownBlock ≠ some b → b < w.heap.size → (Value.slice A' (n + 1) c').ownBlock ≠ some b := fun b hb hlt he => by
    rcases r4 with r4 | r4
    · exact hb (r4.symm.trans he)
    · have : some b = some (w.alloc (.cells (kidC k).toArray e)).heap.size := he.symm.trans r4
      injection this with this
      simp at this
      omega
  have hnew : ∀ b, (base ≤ b ∧ (Value.slice A n c).ownBlock ≠ some b) → b < w.heap.size → base ≤ b ∧ (Value.slice A' (n + 1) c').ownBlock ≠ some b := fun b hb hlt => ⟨hb.1, fun he => by
    rcases r4 with r4 | r4
    · exact hb.2 (r4.symm.trans he)
    · have : some b = some (w.alloc (.cells (kidC k).toArray e)).heap.size := he.symm.trans r4
      injection this with this
      simp at this
      omega⟩
  have hto : ∀ {t : T} {se sk : SV}, RdO w (fun b => base ≤ b ∧ (Value.slice A n c).ownBlock ≠ some b) t se sk → RdO w' (fun b => base ≤ b ∧ (Value.slice A' (n + 1) c').ownBlock ≠ some b) t se sk := fun {t se sk} ht =>
    RdO.keep hsize (fun b hb hlt => (r3.block b (by simp; omega) (fun e => hb.2.2 e.symm)).trans (heap_alloc_old w _ hlt)) t (RdO.mono (ok' := fun b => (base ≤ b ∧ (Value.slice A' (n + 1) c').ownBlock ≠ some b) ∧ (base ≤ b ∧ (Value.slice A n c).ownBlock ≠ some b)) (fun b hb hlt => ⟨hnew b hb hlt, hb⟩) t ht) |> RdO.mono (fun b hb _ => hb.1) t
  refine ⟨A', c', w', r1, ⟨by simp [h.len], by simp [h.lenr], ?_, fun i hi hi' => ?_⟩, hbel, fun b hb hlt => ⟨(r3.block b (by simp; omega) (fun e => hb e.symm)).trans (heap_alloc_old w _ hlt), hnew2 b hb hlt⟩⟩
  · have e1 : (kr ++ [k]).flatMap kidC = kr.flatMap kidC ++ kidC k := by simp
    rw [e1]
    exact ho
  · by_cases hlt : i < n
    · have h1 : i < ks.length := by rw [h.len]; exact hlt
      have h2 : i < kr.length := by rw [h.lenr]; exact hlt
      rw [List.getElem_append_left h1, List.getElem_append_left h2]
      exact ⟨(h.kid i h1 h2).1, hto (h.kid i h1 h2).2⟩
    · have e0 : i = n := by simp [h.len] at hi; omega
      have e1 : (ks ++ [(k.1, u)])[i] = (k.1, u) := by rw [List.getElem_append_right (by rw [h.len]; omega)]; simp
      have e2 : (kr ++ [k])[i] = k := by rw [List.getElem_append_right (by rw [h.lenr]; omega)]; simp
      rw [e1, e2]
      exact ⟨rfl, hto hu⟩
end KidRow
end Tr
end Go.Proofs.YtcbclefemcmhpaaGreat
namespace Go.Proofs.YtcbclefemcmhpaaGreat
open Go.ChangeShapes Go.WideShapes Go.ChangeAt Go.RowKit
namespace Tr
open Sp Rw
theorem KidRow.set7 {w w7 : World} {base e n c : Nat} {A : Option Addr} {ks : List (ByteArray × T)} {kr : List (ByteArray × SV × SV)} {r j : Nat} {v : Value} (h : KidRow w base e A n c ks kr) (hr : r < base) (hw : w7 = w.setCell ⟨r, j, none⟩ v) : KidRow w7 base e A n c ks kr := by
  subst hw
  refine ⟨h.len, h.lenr, h.own.set_below (a := ⟨r, j, none⟩) hr v, fun i hi hi' => ⟨(h.kid i hi hi').1, ?_⟩⟩
  exact RdO.keep (by simp [World.setCell]) (fun b hb _ => Below.heap_setCell _ ⟨r, j, none⟩ _ b (fun e => by have : b = r := e; omega)) _ (h.kid i hi hi').2
set_option maxRecDepth 100000 in
set_option maxHeartbeats 4000000 in
theorem refclone_any : ∀ (t : T) (Ae Ak : Option Addr) (ne nk ce ck : Nat) (w : World), nodes t ≤ 100000 → RdT w w.heap.size t ⟨Ae, ne, ce⟩ ⟨Ak, nk, ck⟩ → Calls Tryz.prog 57 #[.agg #[.slice Ae ne ce, .slice Ak nk ck]] w (CopyIs t ne nk w) := by
  intro t
  induction t using T.ind with
  | h es ks ih =>
    intro Ae Ak ne nk ce ck w hn hr
    obtain ⟨hle, hlk⟩ := rd_lens hr
    have HR := Lib.hid hr
    have HLE := Lib.hid hle
    have HLK := Lib.hid hlk
    clear hle hlk hr
    have IH := Lib.hid ih
    have HN := Lib.hid hn
    have hne5 : ne ≤ 100000 := by have := nodes_es es ks; have := HLE.out; omega
    have hnk5 : nk ≤ 100000 := by have := nodes_es es ks; have := HLK.out; omega
    clear ih
    obtain ⟨g, hg⟩ : ∃ g, g = w.heap.size := ⟨_, rfl⟩
    have HK := Lib.hid (tree_box w Ae Ak ne nk ce ck)
    rw [← hg] at HK
    obtain ⟨W0, hW0⟩ : ∃ W, W = w.alloc (.cells #[.slice Ae ne ce, .slice Ak nk ck] 25) := ⟨_, rfl⟩
    rw [← hW0] at HK
    have HG := Lib.hid hg
    have HW0 := Lib.hid hW0
    have k0 := HK.out.c0
    have k1 := HK.out.c1
    clear hg hW0
    obtain ⟨q, hq⟩ : ∃ q, q = W0.heap.size := ⟨_, rfl⟩
    obtain ⟨W1, hW1⟩ : ∃ W, W = W0.alloc (.cells #[.slice none 0 0, .slice none 0 0] 25) := ⟨_, rfl⟩
    have hb1 : Below W0.heap.size W0 W1 := by rw [hW1]; exact Dt.box_below _ _ _
    have q0 : W1.cell? ⟨q, 0, none⟩ = some (.slice none 0 0) := by rw [hW1, hq]; go_simp
    have q1 : W1.cell? ⟨q, 1, none⟩ = some (.slice none 0 0) := by rw [hW1, hq]; go_simp
    have HFQ : Hid (Free q W1) := ⟨by rw [hW1, hq]; simp, fun j => by rw [hW1, hq]; go_simp⟩
    have HFG : Hid (Free g W1) := (show Free g W0 from ⟨World.block_lt_of_cell? W0 _ HK.out.c0, fun j => by rw [HW0.out, HG.out]; go_simp⟩).later hb1
    have HKB := Lib.hid (((HK.out.later hb1).cons_of q1).cons_of q0)
    have HQ : Hid (q = g + 1) := by unfold Hid; rw [hq, HW0.out, HG.out]; simp
    have hgW : g < W0.heap.size := World.block_lt_of_cell? W0 _ HK.out.c0
    have hgq : g ≠ q := by omega
    have hgq2 : ¬ q = g := by omega
    have hwg : w.heap.size ≤ g := by have := HG.out; omega
    have hwq : w.heap.size ≤ q := by omega
    have HW1 := Lib.hid hW1
    have HBq : Hid (Below w.heap.size w W1) := HKB.out.below
    clear hq hW1 hb1 q0 q1 k0 k1
    obtain ⟨r, hr⟩ : ∃ r, r = W1.heap.size := ⟨_, rfl⟩
    obtain ⟨W2, hW2⟩ : ∃ W, W = W1.alloc (.cells #[.slice none 0 0, .slice none 0 0] 25) := ⟨_, rfl⟩
    have hb1 : Below W1.heap.size W1 W2 := by rw [hW2]; exact Dt.box_below _ _ _
    have r0 : W2.cell? ⟨r, 0, none⟩ = some (.slice none 0 0) := by rw [hW2, hr]; go_simp
    have r1 : W2.cell? ⟨r, 1, none⟩ = some (.slice none 0 0) := by rw [hW2, hr]; go_simp
    have HR2 : Hid (r = g + 2) := by unfold Hid; rw [hr, HW1.out, HW0.out, HG.out]; simp
    have hs2 : W2.heap.size = r + 1 := by rw [hW2, hr]; simp
    have HK2 := Lib.hid (((HKB.out.later hb1).cons_of r1).cons_of r0)
    have HFQ2 := Lib.hid (HFQ.out.later hb1)
    have HFR2 : Hid (Free r W2) := ⟨by rw [hW2, hr]; simp, fun j => by rw [hW2, hr]; go_simp⟩
    have HW2 := Lib.hid hW2
    clear hr hW2 hb1 r0 r1
    have s0 := HK2.out.c0
    have s1 := HK2.out.c1
    have s2 := HK2.out.c2
    have s3 := HK2.out.c3
    have s4 := HK2.out.c4
    have s5 := HK2.out.c5
    have HR3 : Hid (r = q + 1) := by unfold Hid; rw [HR2.out, HQ.out]
    have hqr : q ≠ r := by have := HR3.out; omega
    have hrq : ¬ r = q := by omega
    have hgr : g ≠ r := by have := HR2.out; omega
    have hrg : ¬ r = g := by omega
    -- the entries, appended to nothing
    have hre : Rd W2 W2.heap.size 4 Ae ne ce (entsC es) := by
      have := HR.out
      rw [rdT_mk] at this
      exact (this.2.1.below HK2.out.below).more HK2.out.below.size
    obtain ⟨i0, hi0, hz0, hz1, hz2⟩ := info_of infoE
    obtain ⟨v', w3, r1, r2, r3, _⟩ := run_app (P := Tryz.prog) W2 (r + 1) 22 22 58 i0 _ 4 40 Tryz.underlying22 hi0 hz0 hz1 hz2 rfl (by omega) (v := .slice none 0 0) (n := 0) (xs := []) (World.ownsRow_nil _ _ _ _) hre (by omega) (by omega) (by omega)
    rw [List.nil_append, Nat.zero_add] at r2
    obtain ⟨A3, c3, rfl, ho⟩ := Own.of_row r2 (fun u hu => hre.one u hu)
    have hb3 : Below W2.heap.size W2 w3 := by rw [hs2]; exact (Below.refl _ W2).grown r3 (by omega) (fun k hk => by simp [Value.ownBlock] at hk)
    have HK3 := HK2.out.later hb3
    have HFR3 := HFR2.out.later hb3
    have HFQ3 := HFQ2.out.later hb3
    have t0 := HK3.c0
    have t1 := HK3.c1
    have t2 := HK3.c2
    have t3 := HK3.c3
    have t4 := HK3.c4
    have t5 := HK3.c5
    have n0 := HFR3.2 0
    obtain ⟨w4, hw4⟩ : ∃ W, W = w3.setCell ⟨r, 0, none⟩ (.slice A3 ne c3) := ⟨_, rfl⟩
    have hb4 : Below w.heap.size w w4 := by rw [hw4]; exact HK3.below.setCell (p := ⟨r, 0, none⟩) (by have := HR2.out; have := HG.out; show w.heap.size ≤ r; omega) _
    have y0 : w4.cell? ⟨r, 0, none⟩ = some (.slice A3 ne c3) := by rw [hw4]; go_simp
    have y1 : w4.cell? ⟨r, 1, none⟩ = some (.slice none 0 0) := by rw [hw4]; go_simp
    have y2 : w4.cell? ⟨q, 0, none⟩ = some (.slice none 0 0) := by rw [hw4]; go_simp
    have y3 : w4.cell? ⟨q, 1, none⟩ = some (.slice none 0 0) := by rw [hw4]; go_simp
    have y4 : w4.cell? ⟨g, 0, none⟩ = some (.slice Ae ne ce) := by rw [hw4]; go_simp
    have y5 : w4.cell? ⟨g, 1, none⟩ = some (.slice Ak nk ck) := by rw [hw4]; go_simp
    have HO4 : Hid (RO w4 (fun b => r + 1 ≤ b) 4 A3 ne c3 (entsC es)) := by
      unfold Hid
      rw [hw4]
      exact ((RO.of_own ho).mono (fun b hb _ => hb.1)).keep (by simp [World.setCell]) (fun b hb _ => Below.heap_setCell _ ⟨r, 0, none⟩ _ b (fun e => by have : b = r := e; omega))
    have hs4 : r + 1 ≤ w4.heap.size := by rw [hw4]; have := r3.size; simp [World.setCell]; omega
    have HFR4 : Hid (Free r w4) := by unfold Hid; rw [hw4]; exact HFR3.set _ _
    have HFQ4 : Hid (Free q w4) := by unfold Hid; rw [hw4]; exact HFQ3.set _ _
    have HB4 := Lib.hid hb4
    have HRUN := Lib.hid r1
    have HW4 := Lib.hid hw4
    have HY := Lib.hid (And.intro y0 (And.intro y1 (And.intro y2 (And.intro y3 (And.intro y4 y5)))))
    clear hre r1 r2 r3 ho hb3 HK3 HFR3 HFQ3 hw4 hb4 y0 y1 y2 y3 y4 y5
    go_enter Tryz.func57, Tryz.ntmps57
    go_wp2_with (at_builtin; rw [← HG.out, ← HW0.out, ← HQ.out, ← HW1.out, ← HR3.out, ← HW2.out]; refine Lib.wpList_append_run _ rfl _ _ _ _ rfl _ _ rfl rfl _ _ HRUN.out ?_)
    rw [← HW4.out]
    go_loopw [14] (fun i wr => ∃ (k : Nat) (Ax : Option Addr) (cx : Nat) (kr : List (ByteArray × SV × SV)), k ≤ nk ∧ i = .int .i64 k ∧ Hid (KidRow wr (r + 1) 85 Ax k cx (ks.take k) kr) ∧ Hid (RO wr (fun b => r + 1 ≤ b ∧ (Value.slice Ax k cx).ownBlock ≠ some b) 4 A3 ne c3 (entsC es)) ∧ Hid (wr.cell? ⟨r, 0, none⟩ = some (.slice A3 ne c3) ∧ wr.cell? ⟨r, 1, none⟩ = some (.slice Ax k cx) ∧ wr.cell? ⟨q, 0, none⟩ = some (.slice none 0 0) ∧ wr.cell? ⟨q, 1, none⟩ = some (.slice none 0 0) ∧ wr.cell? ⟨g, 0, none⟩ = some (.slice Ae ne ce) ∧ wr.cell? ⟨g, 1, none⟩ = some (.slice Ak nk ck)) ∧ Hid (Free r wr) ∧ Hid (Free q wr) ∧ Hid (r + 1 ≤ wr.heap.size) ∧ Hid (Below w.heap.size w wr)) (fun i _ => nk - (intOf i).toNat)
    case atStart => exact ⟨0, none, 0, [], by omega, rfl, KidRow.nil _ _ _, HO4.out.mono (fun b hb _ => ⟨hb, by simp [Value.ownBlock]⟩), HY.out, HFR4.out, HFQ4.out, hs4, HB4.out⟩
    case round =>
      obtain ⟨k, Ax, cx, kr, hk, rfl, HKR, HRO, HCC, HFR, HFQ, HSZ, HB⟩ := hrel
      clear t0 t1 t2 t3 t4 t5 s0 s1 s2 s3 s4 s5 n0
      have s0 := HCC.out.2.1
      have s1 := HCC.out.2.2.2.2.2
      by_cases hlt : k < nk
      · have hkl : k < ks.length := by rw [HLK.out]; exact hlt
        obtain ⟨b, o, rfl, hb, hc⟩ := rd_kid HR.out (by omega)
        obtain ⟨⟨Ae', ne', ce'⟩, ⟨Ak', nk', ck'⟩, c0, c1, c2, hkid⟩ := hc k hkl
        dsimp only at c0 c1 c2
        have c0 := (HB.out.cell (p := ⟨b, o + k * 3, none⟩) hb).trans c0
        have c1 := (HB.out.cell (p := ⟨b, o + k * 3 + 1, none⟩) hb).trans c1
        have c2 := (HB.out.cell (p := ⟨b, o + k * 3 + 2, none⟩) hb).trans c2
        obtain ⟨key, hkey⟩ : ∃ key, key = (ks[k]).1 := ⟨_, rfl⟩
        rw [← hkey] at c0
        have HKEY : Hid (ks.take (k + 1) = ks.take k ++ [(key, (ks[k]).2)]) := by unfold Hid; rw [hkey, List.take_succ_eq_append_getElem hkl]
        have hrd := RdT.more (w := wr.drew) HB.out.drew.size _ (RdT.below hkid HB.out.drew)
        have HCALL := Lib.hid (IH.out _ (List.getElem_mem hkl) Ae' Ak' ne' nk' ce' ck' wr.drew (Nat.le_trans (nodes_kid (List.getElem_mem hkl)) HN.out) hrd)
        have hwr : w.heap.size ≤ r := by have := HR2.out; have := HG.out; omega
        have hgr2 : g ≤ r := by have := HR2.out; omega
        clear hc hkey hrd hkid
        go_wp2_with fail
        refine wp_region_held_drew (S := fun W => W.cell? ⟨g, 1, none⟩ = some (.slice (some ⟨b, o, none⟩) nk ck) ∧ W.cell? ⟨b, o + k * 3, none⟩ = some (.string key) ∧ W.cell? ⟨b, o + k * 3 + 1, none⟩ = some (.slice Ae' ne' ce') ∧ W.cell? ⟨b, o + k * 3 + 2, none⟩ = some (.slice Ak' nk' ck')) (by kernel_rfl) (by go_keep) (fun hHeld => ?_)
        refine Tk 0 17 ?_
        refine Tk 2 19 ?_
        refine Tk 3 20 ?_
        refine Tk 4 21 ?_
        refine Tk 5 22 ?_
        refine Tk 6 23 ?_
        refine Tk 7 24 ?_
        refine Tk 8 25 ?_
        refine Tk 9 26 ?_
        refine Tk 10 27 ?_
        refine Tk 11 28 ?_
        refine Tk 12 29 ?_
        refine Tk 13 30 ?_
        refine wpAnyH_ready (rs := [1, 14]) (by kernel_rfl) (by simp) ?_
        refine AllReadyH.cons (o := ⟨some 18, _, _, _, _, _⟩) rfl (fun K hK => ?_) (AllReadyH.cons (o := ⟨some 31, _, _, _, _, _⟩) rfl (fun K hK => ?_) (AllReadyH.nil))
        · go_simp
          refine hK.out _ _ ?_ (fun hHeld2 => ?_)
          · exact hHeld
          clear hK K hHeld
          have hHeld := hHeld2
          clear hHeld2
          try simp only [Act.put, List.setIfInBounds_toArray, List.set_cons_zero, List.set_cons_succ]
          refine wpAnyH_ready (rs := [14]) (by kernel_rfl) (by simp) ?_
          refine AllReadyH.cons (o := ⟨some 31, _, _, _, _, _⟩) rfl (fun K hK => ?_) AllReadyH.nil
          go_simp
          (go_at_call 57; refine HCALL.out.mono ?_)
          rintro e w5 ⟨Ae5, ce5, Ak5, ck5, rfl, hro5, hb5⟩
          have hb5' : Below wr.heap.size wr w5 := ((Below.refl wr.heap.size wr).drew).trans hb5
          have HKR5 := HKR.out.later hb5'
          have hRO5 := HRO.out.keep hb5'.size (fun b _ hlt => hb5'.block b hlt)
          have hu : RdO w5 (fun b => r + 1 ≤ b ∧ (Value.slice Ax k cx).ownBlock ≠ some b) (ks[k]).2 ⟨Ae5, ne', ce5⟩ ⟨Ak5, nk', ck5⟩ := RdO.mono (fun b hb _ => ⟨Nat.le_trans HSZ.out hb, fun e => by have h1 := (HKR.out.own.row.lt b e).2; have h2 : wr.drew.heap.size ≤ b := hb; have h3 : wr.drew.heap.size = wr.heap.size := rfl; omega⟩) _ hro5
          obtain ⟨A6, c6, w6, r1, HKR6, hb6, hblk⟩ := KidRow.push2 (k := (key, ⟨Ae5, ne', ce5⟩, ⟨Ak5, nk', ck5⟩)) Tryz.underlying23 infoK rfl (by omega) HKR5 w5.heap.size rfl (Nat.le_trans HSZ.out hb5'.size) hu (by omega) #[.string key, .slice Ae5 ne' ce5, .slice Ak5 nk' ck5] rfl
          have hb6s := hb6.size
          have hbw5 : b < w5.heap.size := Nat.lt_of_lt_of_le (World.block_lt_of_cell? wr _ c0) hb5'.size
          have hrw5 : r < w5.heap.size := Nat.lt_of_lt_of_le HFR.out.1 hb5'.size
          have hqw5 : q < w5.heap.size := Nat.lt_of_lt_of_le HFQ.out.1 hb5'.size
          have hgw5 : g < w5.heap.size := Nat.lt_of_lt_of_le (World.block_lt_of_cell? wr _ s1) hb5'.size
          have hob : ∀ x, x ≤ r → (Value.slice Ax k cx).ownBlock ≠ some x := fun x hx e => by have h1 := (HKR.out.own.row.lt x e).1; omega
          have hbr : b < r := by omega
          have t0 := (hb5'.cell (p := ⟨r, 1, none⟩) HFR.out.1).trans s0
          have t1 := (hb5'.cell (p := ⟨g, 1, none⟩) (World.block_lt_of_cell? wr _ s1)).trans s1
          have t2 := (hb5'.cell (p := ⟨b, o + k * 3, none⟩) (World.block_lt_of_cell? wr _ c0)).trans c0
          have t3 := (hb5'.cell (p := ⟨b, o + k * 3 + 1, none⟩) (World.block_lt_of_cell? wr _ c1)).trans c1
          have t4 := (hb5'.cell (p := ⟨b, o + k * 3 + 2, none⟩) (World.block_lt_of_cell? wr _ c2)).trans c2
          have K6 : ∀ x, x ≤ r → x < w5.heap.size → ∀ j, w6.cell? ⟨x, j, none⟩ = w5.cell? ⟨x, j, none⟩ := fun x hx hl j => World.cell?_of_block (a := ⟨x, j, none⟩) (hblk x (hob x hx) hl).1
          have F6 : ∀ x, x ≤ r → x < w5.heap.size → ∀ j, w6.frozen? ⟨x, j, none⟩ = w5.frozen? ⟨x, j, none⟩ := fun x hx hl j => World.frozen?_of_block (a := ⟨x, j, none⟩) (hblk x (hob x hx) hl).1
          have u0 := (K6 r (Nat.le_refl _) hrw5 1).trans t0
          have u1 := (K6 g (by omega) hgw5 1).trans t1
          have u2 := (K6 b (by omega) hbw5 (o + k * 3)).trans t2
          have u3 := (K6 b (by omega) hbw5 (o + k * 3 + 1)).trans t3
          have u4 := (K6 b (by omega) hbw5 (o + k * 3 + 2)).trans t4
          have mr := (F6 r (Nat.le_refl _) hrw5 1).trans ((HFR.out.later hb5').2 1)
          have hbr2 : ¬ b = r := by omega
          have hrb2 : ¬ r = b := by omega
          obtain ⟨w7, hw7⟩ : ∃ W, W = w6.setCell ⟨r, 1, none⟩ (.slice A6 (k + 1) c6) := ⟨_, rfl⟩
          have hk7 : ∀ x, x ≠ r → w7.heap[x]? = w6.heap[x]? := fun x hx => by rw [hw7]; exact Below.heap_setCell _ ⟨r, 1, none⟩ _ x (fun e => hx e)
          have v0 : w7.cell? ⟨r, 1, none⟩ = some (.slice A6 (k + 1) c6) := by rw [hw7]; go_simp
          have v1 : w7.cell? ⟨r, 0, none⟩ = some (.slice A3 ne c3) := by
            rw [hw7, World.cell?_setCell_other w6 ⟨r, 1, none⟩ ⟨r, 0, none⟩ _ (fun e => by injection e with _ e; cases e), K6 r (Nat.le_refl _) hrw5 0]
            exact (hb5'.cell (p := ⟨r, 0, none⟩) HFR.out.1).trans HCC.out.1
          have v2 : ∀ x j, x ≠ r → x ≤ r → x < wr.heap.size → w7.cell? ⟨x, j, none⟩ = wr.cell? ⟨x, j, none⟩ := fun x j hx hl hlt => ((World.cell?_of_block (a := ⟨x, j, none⟩) (hk7 x hx)).trans (K6 x hl (Nat.lt_of_lt_of_le hlt hb5'.size) j)).trans (hb5'.cell (p := ⟨x, j, none⟩) hlt)
          have HCC7 : Hid (w7.cell? ⟨r, 0, none⟩ = some (.slice A3 ne c3) ∧ w7.cell? ⟨r, 1, none⟩ = some (.slice A6 (k + 1) c6) ∧ w7.cell? ⟨q, 0, none⟩ = some (.slice none 0 0) ∧ w7.cell? ⟨q, 1, none⟩ = some (.slice none 0 0) ∧ w7.cell? ⟨g, 0, none⟩ = some (.slice Ae ne ce) ∧ w7.cell? ⟨g, 1, none⟩ = some (.slice (some ⟨b, o, none⟩) nk ck)) :=
            ⟨v1, v0, (v2 q 0 hqr (by have := HR3.out; omega) HFQ.out.1).trans HCC.out.2.2.1, (v2 q 1 hqr (by have := HR3.out; omega) HFQ.out.1).trans HCC.out.2.2.2.1, (v2 g 0 hgr (by have := HR2.out; omega) (World.block_lt_of_cell? wr _ s1)).trans HCC.out.2.2.2.2.1, (v2 g 1 hgr (by have := HR2.out; omega) (World.block_lt_of_cell? wr _ s1)).trans HCC.out.2.2.2.2.2⟩
          have hsz7 : w7.heap.size = w6.heap.size := by rw [hw7]; simp [World.setCell]
          have hsz6 : w5.heap.size ≤ w6.heap.size := by
            exact hb6s
          have HKR7 : Hid (KidRow w7 (r + 1) 85 A6 (k + 1) c6 (ks.take (k + 1)) (kr ++ [(key, ⟨Ae5, ne', ce5⟩, ⟨Ak5, nk', ck5⟩)])) := by
            unfold Hid
            rw [HKEY.out]
            exact HKR6.set7 (Nat.lt_succ_self r) hw7
          have HRO7 : Hid (RO w7 (fun b => r + 1 ≤ b ∧ (Value.slice A6 (k + 1) c6).ownBlock ≠ some b) 4 A3 ne c3 (entsC es)) :=
            ((hRO5.mono (ok' := fun b => r + 1 ≤ b ∧ (Value.slice Ax k cx).ownBlock ≠ some b ∧ (Value.slice A6 (k + 1) c6).ownBlock ≠ some b) (fun b hb hlt => ⟨hb.1, hb.2, (hblk b hb.2 hlt).2⟩)).keep (by omega) (fun b hb hlt => (hk7 b (by omega)).trans (hblk b hb.2.1 hlt).1)).mono (fun b hb _ => ⟨hb.1, hb.2.2⟩)
          have HFR7 : Hid (Free r w7) := by
            unfold Hid
            refine ⟨by omega, fun j => ?_⟩
            rw [hw7, World.frozen?_setCell]
            exact (F6 r (Nat.le_refl _) hrw5 j).trans ((HFR.out.later hb5').2 j)
          have HFQ7 : Hid (Free q w7) := by
            unfold Hid
            refine ⟨by omega, fun j => ?_⟩
            rw [hw7, World.frozen?_setCell]
            exact (F6 q (by have := HR3.out; omega) hqw5 j).trans ((HFQ.out.later hb5').2 j)
          have HSZ7 : Hid (r + 1 ≤ w7.heap.size) := by have := HSZ.out; have := hb5'.size; unfold Hid; omega
          have HB7 : Hid (Below w.heap.size w w7) := by
            unfold Hid
            rw [hw7]
            exact ((HB.out.trans (hb5'.mono HB.out.size)).trans (hb6.mono (by omega))).setCell (p := ⟨r, 1, none⟩) hwr _
          have Hrun := Lib.hid r1
          have HW7 := Lib.hid hw7
          clear hro5 hb5 hb5' HKR5 hRO5 hu r1 HKR6 hb6 hblk hob K6 F6 hw7 hk7 v0 v1 v2 hsz7 hsz6
          refine hK.out _ _ ?_ (fun hHeld2 => ?_)
          · exact ⟨t1, t2, t3, t4⟩
          clear hK K hHeld
          have hHeld := hHeld2
          clear hHeld2
          try simp only [Act.put, List.setIfInBounds_toArray, List.set_cons_zero, List.set_cons_succ]
          refine Tk 15 32 ?_
          refine wpAnyH_ready (rs := [16]) (by kernel_rfl) (by simp) ?_
          refine AllReadyH.cons (o := ⟨some 33, _, _, _, _, _⟩) rfl (fun K hK => ?_) AllReadyH.nil
          go_simp
          refine hK.out _ _ ?_ (fun hHeld2 => ?_)
          · (try dsimp only); go_keep
          clear hK K hHeld
          have hHeld := hHeld2
          clear hHeld2
          try simp only [Act.put, List.setIfInBounds_toArray, List.set_cons_zero, List.set_cons_succ]
          refine wpAnyH_ready (rs := [17]) (by kernel_rfl) (by simp) ?_
          refine AllReadyH.cons (o := ⟨some 34, _, _, _, _, _⟩) rfl (fun K hK => ?_) AllReadyH.nil
          refine upon_append _ _ _ rfl rfl rfl Hrun.out ?_
          refine hK.out _ _ ?_ (fun hHeld2 => ?_)
          · exact ⟨u1, u2, u3, u4⟩
          clear hK K hHeld
          have hHeld := hHeld2
          clear hHeld2
          try simp only [Act.put, List.setIfInBounds_toArray, List.set_cons_zero, List.set_cons_succ]
          refine Tk 18 35 ?_
          refine wpAnyH_ready (rs := [19]) (by kernel_rfl) (by simp) ?_
          refine AllReadyH.cons (o := ⟨none, _, _, _, _, _⟩) rfl (fun K hK => ?_) AllReadyH.nil
          go_simp
          refine hK.out _ _ ?_ (fun hHeld2 => ?_)
          · (try dsimp only); go_keep
          clear hK K hHeld
          have hHeld := hHeld2
          clear hHeld2
          try simp only [Act.put, List.setIfInBounds_toArray, List.set_cons_zero, List.set_cons_succ]
          refine wpAnyH_done (by kernel_rfl) ?_ _
          clear t0 t1 t2 t3 t4 u0 u1 u2 u3 u4 mr Hrun hHeld
          go_wp2_with fail
          rw [← HW7.out]
          go_roundw
          case rel => exact ⟨k + 1, A6, c6, _, by omega, by go_num, HKR7.out, HRO7.out, HCC7.out, HFR7.out, HFQ7.out, HSZ7.out, HB7.out⟩
          case measure => simp [intOf]; omega
        · go_simp
          (go_at_call 57; refine HCALL.out.mono ?_)
          rintro e w5 ⟨Ae5, ce5, Ak5, ck5, rfl, hro5, hb5⟩
          have hb5' : Below wr.heap.size wr w5 := ((Below.refl wr.heap.size wr).drew).trans hb5
          have HKR5 := HKR.out.later hb5'
          have hRO5 := HRO.out.keep hb5'.size (fun b _ hlt => hb5'.block b hlt)
          have hu : RdO w5 (fun b => r + 1 ≤ b ∧ (Value.slice Ax k cx).ownBlock ≠ some b) (ks[k]).2 ⟨Ae5, ne', ce5⟩ ⟨Ak5, nk', ck5⟩ := RdO.mono (fun b hb _ => ⟨Nat.le_trans HSZ.out hb, fun e => by have h1 := (HKR.out.own.row.lt b e).2; have h2 : wr.drew.heap.size ≤ b := hb; have h3 : wr.drew.heap.size = wr.heap.size := rfl; omega⟩) _ hro5
          obtain ⟨A6, c6, w6, r1, HKR6, hb6, hblk⟩ := KidRow.push2 (k := (key, ⟨Ae5, ne', ce5⟩, ⟨Ak5, nk', ck5⟩)) Tryz.underlying23 infoK rfl (by omega) HKR5 w5.heap.size rfl (Nat.le_trans HSZ.out hb5'.size) hu (by omega) #[.string key, .slice Ae5 ne' ce5, .slice Ak5 nk' ck5] rfl
          have hb6s := hb6.size
          have hbw5 : b < w5.heap.size := Nat.lt_of_lt_of_le (World.block_lt_of_cell? wr _ c0) hb5'.size
          have hrw5 : r < w5.heap.size := Nat.lt_of_lt_of_le HFR.out.1 hb5'.size
          have hqw5 : q < w5.heap.size := Nat.lt_of_lt_of_le HFQ.out.1 hb5'.size
          have hgw5 : g < w5.heap.size := Nat.lt_of_lt_of_le (World.block_lt_of_cell? wr _ s1) hb5'.size
          have hob : ∀ x, x ≤ r → (Value.slice Ax k cx).ownBlock ≠ some x := fun x hx e => by have h1 := (HKR.out.own.row.lt x e).1; omega
          have hbr : b < r := by omega
          have t0 := (hb5'.cell (p := ⟨r, 1, none⟩) HFR.out.1).trans s0
          have t1 := (hb5'.cell (p := ⟨g, 1, none⟩) (World.block_lt_of_cell? wr _ s1)).trans s1
          have t2 := (hb5'.cell (p := ⟨b, o + k * 3, none⟩) (World.block_lt_of_cell? wr _ c0)).trans c0
          have t3 := (hb5'.cell (p := ⟨b, o + k * 3 + 1, none⟩) (World.block_lt_of_cell? wr _ c1)).trans c1
          have t4 := (hb5'.cell (p := ⟨b, o + k * 3 + 2, none⟩) (World.block_lt_of_cell? wr _ c2)).trans c2
          have K6 : ∀ x, x ≤ r → x < w5.heap.size → ∀ j, w6.cell? ⟨x, j, none⟩ = w5.cell? ⟨x, j, none⟩ := fun x hx hl j => World.cell?_of_block (a := ⟨x, j, none⟩) (hblk x (hob x hx) hl).1
          have F6 : ∀ x, x ≤ r → x < w5.heap.size → ∀ j, w6.frozen? ⟨x, j, none⟩ = w5.frozen? ⟨x, j, none⟩ := fun x hx hl j => World.frozen?_of_block (a := ⟨x, j, none⟩) (hblk x (hob x hx) hl).1
          have u0 := (K6 r (Nat.le_refl _) hrw5 1).trans t0
          have u1 := (K6 g (by omega) hgw5 1).trans t1
          have u2 := (K6 b (by omega) hbw5 (o + k * 3)).trans t2
          have u3 := (K6 b (by omega) hbw5 (o + k * 3 + 1)).trans t3
          have u4 := (K6 b (by omega) hbw5 (o + k * 3 + 2)).trans t4
          have mr := (F6 r (Nat.le_refl _) hrw5 1).trans ((HFR.out.later hb5').2 1)
          have hbr2 : ¬ b = r := by omega
          have hrb2 : ¬ r = b := by omega
          obtain ⟨w7, hw7⟩ : ∃ W, W = w6.setCell ⟨r, 1, none⟩ (.slice A6 (k + 1) c6) := ⟨_, rfl⟩
          have hk7 : ∀ x, x ≠ r → w7.heap[x]? = w6.heap[x]? := fun x hx => by rw [hw7]; exact Below.heap_setCell _ ⟨r, 1, none⟩ _ x (fun e => hx e)
          have v0 : w7.cell? ⟨r, 1, none⟩ = some (.slice A6 (k + 1) c6) := by rw [hw7]; go_simp
          have v1 : w7.cell? ⟨r, 0, none⟩ = some (.slice A3 ne c3) := by
            rw [hw7, World.cell?_setCell_other w6 ⟨r, 1, none⟩ ⟨r, 0, none⟩ _ (fun e => by injection e with _ e; cases e), K6 r (Nat.le_refl _) hrw5 0]
            exact (hb5'.cell (p := ⟨r, 0, none⟩) HFR.out.1).trans HCC.out.1
          have v2 : ∀ x j, x ≠ r → x ≤ r → x < wr.heap.size → w7.cell? ⟨x, j, none⟩ = wr.cell? ⟨x, j, none⟩ := fun x j hx hl hlt => ((World.cell?_of_block (a := ⟨x, j, none⟩) (hk7 x hx)).trans (K6 x hl (Nat.lt_of_lt_of_le hlt hb5'.size) j)).trans (hb5'.cell (p := ⟨x, j, none⟩) hlt)
          have HCC7 : Hid (w7.cell? ⟨r, 0, none⟩ = some (.slice A3 ne c3) ∧ w7.cell? ⟨r, 1, none⟩ = some (.slice A6 (k + 1) c6) ∧ w7.cell? ⟨q, 0, none⟩ = some (.slice none 0 0) ∧ w7.cell? ⟨q, 1, none⟩ = some (.slice none 0 0) ∧ w7.cell? ⟨g, 0, none⟩ = some (.slice Ae ne ce) ∧ w7.cell? ⟨g, 1, none⟩ = some (.slice (some ⟨b, o, none⟩) nk ck)) :=
            ⟨v1, v0, (v2 q 0 hqr (by have := HR3.out; omega) HFQ.out.1).trans HCC.out.2.2.1, (v2 q 1 hqr (by have := HR3.out; omega) HFQ.out.1).trans HCC.out.2.2.2.1, (v2 g 0 hgr (by have := HR2.out; omega) (World.block_lt_of_cell? wr _ s1)).trans HCC.out.2.2.2.2.1, (v2 g 1 hgr (by have := HR2.out; omega) (World.block_lt_of_cell? wr _ s1)).trans HCC.out.2.2.2.2.2⟩
          have hsz7 : w7.heap.size = w6.heap.size := by rw [hw7]; simp [World.setCell]
          have hsz6 : w5.heap.size ≤ w6.heap.size := by
            exact hb6s
          have HKR7 : Hid (KidRow w7 (r + 1) 85 A6 (k + 1) c6 (ks.take (k + 1)) (kr ++ [(key, ⟨Ae5, ne', ce5⟩, ⟨Ak5, nk', ck5⟩)])) := by
            unfold Hid
            rw [HKEY.out]
            exact HKR6.set7 (Nat.lt_succ_self r) hw7
          have HRO7 : Hid (RO w7 (fun b => r + 1 ≤ b ∧ (Value.slice A6 (k + 1) c6).ownBlock ≠ some b) 4 A3 ne c3 (entsC es)) :=
            ((hRO5.mono (ok' := fun b => r + 1 ≤ b ∧ (Value.slice Ax k cx).ownBlock ≠ some b ∧ (Value.slice A6 (k + 1) c6).ownBlock ≠ some b) (fun b hb hlt => ⟨hb.1, hb.2, (hblk b hb.2 hlt).2⟩)).keep (by omega) (fun b hb hlt => (hk7 b (by omega)).trans (hblk b hb.2.1 hlt).1)).mono (fun b hb _ => ⟨hb.1, hb.2.2⟩)
          have HFR7 : Hid (Free r w7) := by
            unfold Hid
            refine ⟨by omega, fun j => ?_⟩
            rw [hw7, World.frozen?_setCell]
            exact (F6 r (Nat.le_refl _) hrw5 j).trans ((HFR.out.later hb5').2 j)
          have HFQ7 : Hid (Free q w7) := by
            unfold Hid
            refine ⟨by omega, fun j => ?_⟩
            rw [hw7, World.frozen?_setCell]
            exact (F6 q (by have := HR3.out; omega) hqw5 j).trans ((HFQ.out.later hb5').2 j)
          have HSZ7 : Hid (r + 1 ≤ w7.heap.size) := by have := HSZ.out; have := hb5'.size; unfold Hid; omega
          have HB7 : Hid (Below w.heap.size w w7) := by
            unfold Hid
            rw [hw7]
            exact ((HB.out.trans (hb5'.mono HB.out.size)).trans (hb6.mono (by omega))).setCell (p := ⟨r, 1, none⟩) hwr _
          have Hrun := Lib.hid r1
          have HW7 := Lib.hid hw7
          clear hro5 hb5 hb5' HKR5 hRO5 hu r1 HKR6 hb6 hblk hob K6 F6 hw7 hk7 v0 v1 v2 hsz7 hsz6
          refine hK.out _ _ ?_ (fun hHeld2 => ?_)
          · exact ⟨t1, t2, t3, t4⟩
          clear hK K hHeld
          have hHeld := hHeld2
          clear hHeld2
          try simp only [Act.put, List.setIfInBounds_toArray, List.set_cons_zero, List.set_cons_succ]
          refine Tk 15 32 ?_
          refine wpAnyH_ready (rs := [1, 16]) (by kernel_rfl) (by simp) ?_
          refine AllReadyH.cons (o := ⟨some 18, _, _, _, _, _⟩) rfl (fun K hK => ?_) (AllReadyH.cons (o := ⟨some 33, _, _, _, _, _⟩) rfl (fun K hK => ?_) (AllReadyH.nil))
          · go_simp
            refine hK.out _ _ ?_ (fun hHeld2 => ?_)
            · exact hHeld
            clear hK K hHeld
            have hHeld := hHeld2
            clear hHeld2
            try simp only [Act.put, List.setIfInBounds_toArray, List.set_cons_zero, List.set_cons_succ]
            refine wpAnyH_ready (rs := [16]) (by kernel_rfl) (by simp) ?_
            refine AllReadyH.cons (o := ⟨some 33, _, _, _, _, _⟩) rfl (fun K hK => ?_) AllReadyH.nil
            go_simp
            refine hK.out _ _ ?_ (fun hHeld2 => ?_)
            · (try dsimp only); go_keep
            clear hK K hHeld
            have hHeld := hHeld2
            clear hHeld2
            try simp only [Act.put, List.setIfInBounds_toArray, List.set_cons_zero, List.set_cons_succ]
            refine wpAnyH_ready (rs := [17]) (by kernel_rfl) (by simp) ?_
            refine AllReadyH.cons (o := ⟨some 34, _, _, _, _, _⟩) rfl (fun K hK => ?_) AllReadyH.nil
            refine upon_append _ _ _ rfl rfl rfl Hrun.out ?_
            refine hK.out _ _ ?_ (fun hHeld2 => ?_)
            · exact ⟨u1, u2, u3, u4⟩
            clear hK K hHeld
            have hHeld := hHeld2
            clear hHeld2
            try simp only [Act.put, List.setIfInBounds_toArray, List.set_cons_zero, List.set_cons_succ]
            refine Tk 18 35 ?_
            refine wpAnyH_ready (rs := [19]) (by kernel_rfl) (by simp) ?_
            refine AllReadyH.cons (o := ⟨none, _, _, _, _, _⟩) rfl (fun K hK => ?_) AllReadyH.nil
            go_simp
            refine hK.out _ _ ?_ (fun hHeld2 => ?_)
            · (try dsimp only); go_keep
            clear hK K hHeld
            have hHeld := hHeld2
            clear hHeld2
            try simp only [Act.put, List.setIfInBounds_toArray, List.set_cons_zero, List.set_cons_succ]
            refine wpAnyH_done (by kernel_rfl) ?_ _
            clear t0 t1 t2 t3 t4 u0 u1 u2 u3 u4 mr Hrun hHeld
            go_wp2_with fail
            rw [← HW7.out]
            go_roundw
            case rel => exact ⟨k + 1, A6, c6, _, by omega, by go_num, HKR7.out, HRO7.out, HCC7.out, HFR7.out, HFQ7.out, HSZ7.out, HB7.out⟩
            case measure => simp [intOf]; omega
          · go_simp
            refine hK.out _ _ ?_ (fun hHeld2 => ?_)
            · (try dsimp only); go_keep
            clear hK K hHeld
            have hHeld := hHeld2
            clear hHeld2
            try simp only [Act.put, List.setIfInBounds_toArray, List.set_cons_zero, List.set_cons_succ]
            refine wpAnyH_ready (rs := [1]) (by kernel_rfl) (by simp) ?_
            refine AllReadyH.cons (o := ⟨some 18, _, _, _, _, _⟩) rfl (fun K hK => ?_) AllReadyH.nil
            go_simp
            refine hK.out _ _ ?_ (fun hHeld2 => ?_)
            · exact hHeld
            clear hK K hHeld
            have hHeld := hHeld2
            clear hHeld2
            try simp only [Act.put, List.setIfInBounds_toArray, List.set_cons_zero, List.set_cons_succ]
            refine wpAnyH_ready (rs := [17]) (by kernel_rfl) (by simp) ?_
            refine AllReadyH.cons (o := ⟨some 34, _, _, _, _, _⟩) rfl (fun K hK => ?_) AllReadyH.nil
            refine upon_append _ _ _ rfl rfl rfl Hrun.out ?_
            refine hK.out _ _ ?_ (fun hHeld2 => ?_)
            · exact ⟨u1, u2, u3, u4⟩
            clear hK K hHeld
            have hHeld := hHeld2
            clear hHeld2
            try simp only [Act.put, List.setIfInBounds_toArray, List.set_cons_zero, List.set_cons_succ]
            refine Tk 18 35 ?_
            refine wpAnyH_ready (rs := [19]) (by kernel_rfl) (by simp) ?_
            refine AllReadyH.cons (o := ⟨none, _, _, _, _, _⟩) rfl (fun K hK => ?_) AllReadyH.nil
            go_simp
            refine hK.out _ _ ?_ (fun hHeld2 => ?_)
            · (try dsimp only); go_keep
            clear hK K hHeld
            have hHeld := hHeld2
            clear hHeld2
            try simp only [Act.put, List.setIfInBounds_toArray, List.set_cons_zero, List.set_cons_succ]
            refine wpAnyH_done (by kernel_rfl) ?_ _
            clear t0 t1 t2 t3 t4 u0 u1 u2 u3 u4 mr Hrun hHeld
            go_wp2_with fail
            rw [← HW7.out]
            go_roundw
            case rel => exact ⟨k + 1, A6, c6, _, by omega, by go_num, HKR7.out, HRO7.out, HCC7.out, HFR7.out, HFQ7.out, HSZ7.out, HB7.out⟩
            case measure => simp [intOf]; omega
      · obtain rfl : k = nk := by omega
        have hall : ks.take k = ks := List.take_of_length_le (by rw [HLK.out]; omega)
        have hkr := HKR.out
        rw [hall] at hkr
        have hwr : w.heap.size ≤ r := by have := HR2.out; have := HG.out; omega
        have HT := Lib.hid (hkr.tree (ok := fun b => w.heap.size ≤ b ∧ b ≠ q) (fun b hb _ => ⟨by omega, fun e => by have := HR3.out; omega⟩) (es := es) (se := ⟨A3, ne, c3⟩) HLE.out (HRO.out.mono (fun b hb _ => ⟨by omega, fun e => by have := HR3.out; omega⟩)))
        have z0 := HCC.out.1
        have z1 := HCC.out.2.1
        have z2 := HCC.out.2.2.1
        have z3 := HCC.out.2.2.2.1
        have m0 := HFQ.out.2 0
        have m1 := HFQ.out.2 1
        clear s0 s1 hall hkr
        obtain ⟨w9, hw9⟩ : ∃ W, W = (wr.setCell ⟨q, 0, none⟩ (.slice A3 ne c3)).setCell ⟨q, 1, none⟩ (.slice Ax k cx) := ⟨_, rfl⟩
        have HT9 : Hid (RdO w9 (fun b => w.heap.size ≤ b) (.mk es ks) ⟨A3, ne, c3⟩ ⟨Ax, k, cx⟩) := by
          unfold Hid
          rw [hw9]
          refine RdO.mono (fun b hb _ => hb.1) _ (RdO.keep (ok := fun b => w.heap.size ≤ b ∧ b ≠ q) (by simp [World.setCell]) (fun b hb hlt => ?_) _ HT.out)
          exact (Below.heap_setCell _ ⟨q, 1, none⟩ _ b (fun e => hb.2 e)).trans (Below.heap_setCell _ ⟨q, 0, none⟩ _ b (fun e => hb.2 e))
        have HB9 : Hid (Below w.heap.size w w9) := by unfold Hid; rw [hw9]; exact (HB.out.setCell (p := ⟨q, 0, none⟩) hwq _).setCell (p := ⟨q, 1, none⟩) hwq _
        have j0 : w9.cell? ⟨q, 0, none⟩ = some (.slice A3 ne c3) := by rw [hw9]; go_simp
        have j1 : w9.cell? ⟨q, 1, none⟩ = some (.slice Ax k cx) := by rw [hw9]; go_simp
        have HW9 := Lib.hid hw9
        clear hw9
        go_wp2_with fail
        rw [← HW9.out]
        refine bodyPost_ret (v := .agg #[.slice A3 ne c3, .slice Ax k cx]) (by simp [results, Tryz.results57, go_sem, j0, j1]) rfl ⟨A3, c3, Ax, cx, rfl, HT9.out, HB9.out⟩
end Tr
end Go.Proofs.YtcbclefemcmhpaaGreat
namespace Go.Proofs.YtcbclefemcmhpaaGreat
open Go.ChangeShapes Go.WideShapes Go.ChangeAt Go.RowKit
namespace Tr
open Rw Sp
abbrev Lf := List ByteArray × E
/-- a leaf's cells -/
def leafC (x : SV × E) : List Value := [.slice x.1.A x.1.n x.1.c, .int .i64 x.2.a, .int .i64 x.2.n, .string x.2.s, .int .i64 x.2.v]
theorem leafC_len (x : SV × E) : (leafC x).length = 5 := rfl
theorem leafC_one (x : SV × E) : ∀ u ∈ leafC x, u.oneCell' = true := by
  intro u hu
  simp [leafC] at hu
  rcases hu with rfl | rfl | rfl | rfl | rfl <;> rfl
/-- The slice value holds the cells xs, in a block that meets ok. -/
structure RX (w : World) (ok : Nat → Prop) (sz : Nat) (A : Option Addr) (n c : Nat) (xs : List Value) : Prop where
  len : xs.length = n * sz
  cap : n ≤ c
  one : ∀ u ∈ xs, u.oneCell' = true
  at_ : 0 < n → ∃ b o, A = some ⟨b, o, none⟩ ∧ ok b ∧ b < w.heap.size ∧ ∀ j u, xs[j]? = some u → w.cell? ⟨b, o + j, none⟩ = some u
namespace RX
variable {w w' : World} {ok ok' : Nat → Prop} {sz n c : Nat} {A : Option Addr} {xs : List Value}
theorem rd (h : RX w ok sz A n c xs) : Rd w w.heap.size sz A n c xs := ⟨h.len, h.cap, h.one, fun hn => by obtain ⟨b, o, e, _, hb, hc⟩ := h.at_ hn; exact ⟨b, o, e, hb, hc⟩⟩
theorem of_rd {B : Nat} (h : Rd w B sz A n c xs) (hB : B ≤ w.heap.size) (hok : ∀ b, b < B → ok b) : RX w ok sz A n c xs := ⟨h.len, h.cap, h.one, fun hn => by obtain ⟨b, o, e, hb, hc⟩ := h.at_ hn; exact ⟨b, o, e, hok b hb, by omega, hc⟩⟩
theorem mono (h : RX w ok sz A n c xs) (ho : ∀ b, ok b → b < w.heap.size → ok' b) : RX w ok' sz A n c xs :=
  ⟨h.len, h.cap, h.one, fun hn => by obtain ⟨b, o, e, h1, hb, hc⟩ := h.at_ hn; exact ⟨b, o, e, ho b h1 hb, hb, hc⟩⟩
theorem keep (h : RX w ok sz A n c xs) (hs : w.heap.size ≤ w'.heap.size) (hk : ∀ b, ok b → b < w.heap.size → w'.heap[b]? = w.heap[b]?) : RX w' ok sz A n c xs :=
  ⟨h.len, h.cap, h.one, fun hn => by
    obtain ⟨b, o, e, h1, hb, hc⟩ := h.at_ hn
    exact ⟨b, o, e, h1, Nat.lt_of_lt_of_le hb hs, fun j u hu => (World.cell?_of_block (a := ⟨b, o + j, none⟩) (hk b h1 hb)).trans (hc j u hu)⟩⟩
theorem later (h : RX w ok sz A n c xs) (hb : Below w.heap.size w w') : RX w' ok sz A n c xs := h.keep hb.size fun b _ hlt => hb.block b hlt
end RX
/-- the paths that leaves' cells point to read so, in blocks that meet ok -/
def Paths (w : World) (ok : Nat → Prop) (ls : List Lf) (lr : List (SV × E)) : Prop := ls.length = lr.length ∧ ∀ (i : Nat) (h : i < ls.length) (h' : i < lr.length), lr[i].2 = ls[i].2 ∧ ls[i].1.length = lr[i].1.n ∧ RX w ok 1 lr[i].1.A lr[i].1.n lr[i].1.c (strs ls[i].1)
namespace Paths
variable {w w' : World} {ok ok' : Nat → Prop} {ls ls2 : List Lf} {lr lr2 : List (SV × E)}
theorem nil (w : World) (ok : Nat → Prop) : Paths w ok [] [] := ⟨rfl, fun i h => by simp at h⟩
theorem mono (h : Paths w ok ls lr) (ho : ∀ b, ok b → b < w.heap.size → ok' b) : Paths w ok' ls lr := ⟨h.1, fun i hi hi' => ⟨(h.2 i hi hi').1, (h.2 i hi hi').2.1, (h.2 i hi hi').2.2.mono ho⟩⟩
theorem keep (h : Paths w ok ls lr) (hs : w.heap.size ≤ w'.heap.size) (hk : ∀ b, ok b → b < w.heap.size → w'.heap[b]? = w.heap[b]?) : Paths w' ok ls lr := ⟨h.1, fun i hi hi' => ⟨(h.2 i hi hi').1, (h.2 i hi hi').2.1, (h.2 i hi hi').2.2.keep hs hk⟩⟩
theorem later (h : Paths w ok ls lr) (hb : Below w.heap.size w w') : Paths w' ok ls lr := h.keep hb.size fun b _ hlt => hb.block b hlt
theorem app (h : Paths w ok ls lr) (h2 : Paths w ok ls2 lr2) : Paths w ok (ls ++ ls2) (lr ++ lr2) := by
  refine ⟨by rw [List.length_append, List.length_append, h.1, h2.1], fun i hi hi' => ?_⟩
  by_cases hlt : i < ls.length
  · have hlt' : i < lr.length := by rw [← h.1]; exact hlt
    rw [List.getElem_append_left hlt, List.getElem_append_left hlt']
    exact h.2 i hlt hlt'
  · have e1 := h.1
    have e2 : i - ls.length < ls2.length := by rw [List.length_append] at hi; omega
    have e3 : i - lr.length < lr2.length := by rw [List.length_append] at hi'; omega
    rw [List.getElem_append_right (by omega), List.getElem_append_right (by omega)]
    have := h2.2 (i - ls.length) e2 (by rw [e1]; exact e3)
    simpa [e1] using this
theorem one {p : List ByteArray} {e : E} {s : SV} (hl : p.length = s.n) (h : RX w ok 1 s.A s.n s.c (strs p)) : Paths w ok [(p, e)] [(s, e)] := ⟨rfl, fun i hi hi' => by
  obtain rfl : i = 0 := by simp at hi; omega
  exact ⟨rfl, hl, h⟩⟩
theorem take (h : Paths w ok ls lr) (k : Nat) : Paths w ok (ls.take k) (lr.take k) := ⟨by rw [List.length_take, List.length_take, h.1], fun i hi hi' => by
  rw [List.length_take] at hi hi'
  rw [List.getElem_take, List.getElem_take]
  exact h.2 i (by omega) (by omega)⟩
end Paths
/-- a slice that came in, or was answered: it reads as these leaves -/
def LfRd (w : World) (B : Nat) (A : Option Addr) (n c : Nat) (ls : List Lf) : Prop := ls.length = n ∧ ∃ lr : List (SV × E), Rd w B 5 A n c (lr.flatMap leafC) ∧ Paths w (fun b => b < B) ls lr
namespace LfRd
variable {w w' : World} {B n c : Nat} {A : Option Addr} {ls : List Lf}
theorem below (h : LfRd w B A n c ls) (_hB : B ≤ w.heap.size) (hb : Below B w w') : LfRd w' B A n c ls := by
  obtain ⟨h1, lr, h2, h3⟩ := h
  exact ⟨h1, lr, h2.below hb, h3.keep hb.size fun b hlt _ => hb.block b hlt⟩
theorem more {B' : Nat} (h : LfRd w B A n c ls) (hB : B ≤ B') : LfRd w B' A n c ls := by
  obtain ⟨h1, lr, h2, h3⟩ := h
  exact ⟨h1, lr, h2.more hB, h3.mono fun b hlt _ => Nat.lt_of_lt_of_le hlt hB⟩
theorem later (h : LfRd w w.heap.size A n c ls) (hb : Below w.heap.size w w') : LfRd w' w'.heap.size A n c ls := (h.below (Nat.le_refl _) hb).more hb.size
/-- the cells of the i-th leaf, and its path -/
theorem at_ (h : LfRd w B A n c ls) (hn : 0 < n) : ∃ b o, A = some ⟨b, o, none⟩ ∧ b < B ∧ ∀ (i : Nat) (hi : i < ls.length), ∃ s : SV, w.cell? ⟨b, o + i * 5, none⟩ = some (.slice s.A s.n s.c) ∧ w.cell? ⟨b, o + i * 5 + 1, none⟩ = some (.int .i64 (ls[i]).2.a) ∧ w.cell? ⟨b, o + i * 5 + 2, none⟩ = some (.int .i64 (ls[i]).2.n) ∧ w.cell? ⟨b, o + i * 5 + 3, none⟩ = some (.string (ls[i]).2.s) ∧ w.cell? ⟨b, o + i * 5 + 4, none⟩ = some (.int .i64 (ls[i]).2.v) ∧ (ls[i]).1.length = s.n ∧ RX w (fun b => b < B) 1 s.A s.n s.c (strs (ls[i]).1) := by
  obtain ⟨h1, lr, h2, h3⟩ := h
  obtain ⟨b, o, e, hb, hc⟩ := rd_elem leafC_len h2 hn
  refine ⟨b, o, e, hb, fun i hi => ?_⟩
  have hi' : i < lr.length := by rw [← h3.1]; exact hi
  obtain ⟨e1, e2, e3⟩ := h3.2 i hi hi'
  refine ⟨lr[i].1, hc i hi' 0 _ rfl, ?_, ?_, ?_, ?_, e2, e3⟩
  · rw [← e1]; exact hc i hi' 1 _ rfl
  · rw [← e1]; exact hc i hi' 2 _ rfl
  · rw [← e1]; exact hc i hi' 3 _ rfl
  · rw [← e1]; exact hc i hi' 4 _ rfl
end LfRd
/-- a row of the call's own, of type e, that holds these leaves; no path lies in the row itself -/
structure LfRow (w : World) (base e : Nat) (A : Option Addr) (n c : Nat) (ls : List Lf) (lr : List (SV × E)) : Prop where
  len : ls.length = n
  own : Own w base e 5 A n c (lr.flatMap leafC)
  paths : Paths w (fun b => (Value.slice A n c).ownBlock ≠ some b) ls lr
namespace LfRow
variable {w w' : World} {base e n c : Nat} {A : Option Addr} {ls : List Lf} {lr : List (SV × E)}
theorem nil (w : World) (base e : Nat) : LfRow w base e none 0 0 [] [] := ⟨rfl, ⟨World.ownsRow_nil _ _ _ _, by simp⟩, Paths.nil _ _⟩
theorem later (h : LfRow w base e A n c ls lr) (hb : Below w.heap.size w w') : LfRow w' base e A n c ls lr := ⟨h.len, own_later h.own hb, h.paths.later hb⟩
theorem mono {base' : Nat} (h : LfRow w base e A n c ls lr) (hb : base' ≤ base) : LfRow w base' e A n c ls lr := ⟨h.len, h.own.mono hb, h.paths⟩
theorem rd (h : LfRow w base e A n c ls lr) : LfRd w w.heap.size A n c ls := ⟨h.len, lr, h.own.rd, ⟨h.paths.1, fun i hi hi' => ⟨(h.paths.2 i hi hi').1, (h.paths.2 i hi hi').2.1, ((h.paths.2 i hi hi').2.2).mono fun _ _ hlt => hlt⟩⟩⟩
/-- more leaves are appended -/
theorem app {t by_ : Nat} {z : Value} (ht : Tryz.prog.underlying t = some (.slice e)) (hi : (Tryz.prog.info? e).map (fun i => (i.zero, i.size, i.bytes)) = some (some z, 5, by_)) (hzs : z.cells.size = 5) (hby : by_ ≤ 1000000)
    (h : LfRow w base e A n c ls lr) (hb : base ≤ w.heap.size) {B : Nat} {A2 : Option Addr} {m c2 : Nat} {ls2 : List Lf} {lr2 : List (SV × E)} (hr : Rd w B 5 A2 m c2 (lr2.flatMap leafC)) (hl2 : ls2.length = m) (hp : Paths w (fun b => (Value.slice A n c).ownBlock ≠ some b) ls2 lr2) (hn : n + m ≤ 900000) :
    ∃ A' c' w', (Builtin.append_ #[t, t] t #[.slice A n c, .slice A2 m c2]).run Tryz.prog w = .ok (.slice A' (n + m) c') w' ∧ LfRow w' base e A' (n + m) c' (ls ++ ls2) (lr ++ lr2) ∧ Below base w w' ∧ ∀ (P : Nat → Prop) (ls : List Lf) (lr : List (SV × E)), Paths w (fun b => (Value.slice A n c).ownBlock ≠ some b ∧ P b) ls lr → Paths w' (fun b => (Value.slice A' (n + m) c').ownBlock ≠ some b ∧ P b) ls lr := by
  obtain ⟨i0, hi0, hz0, hz1, hz2⟩ := info_of hi
  obtain ⟨v', w', r1, r2, r3, r4⟩ := run_app (P := Tryz.prog) w base t t e i0 z 5 by_ ht hi0 hz0 hz1 hz2 hzs (by omega) h.own.row hr (by omega) hby hb
  have e1 : (lr ++ lr2).flatMap leafC = lr.flatMap leafC ++ lr2.flatMap leafC := by simp
  rw [← e1] at r2
  obtain ⟨A', c', rfl, ho⟩ := Own.of_row r2 (fun u hu => by
    obtain ⟨x, _, hu⟩ := List.mem_flatMap.1 hu
    exact leafC_one x u hu)
  have hk : ∀ b, (Value.slice A n c).ownBlock ≠ some b → b < w.heap.size → w'.heap[b]? = w.heap[b]? := fun b hb hlt => r3.block b hlt (fun e => hb e.symm)
  have hnew : ∀ b, (Value.slice A n c).ownBlock ≠ some b → b < w.heap.size → (Value.slice A' (n + m) c').ownBlock ≠ some b := fun b hb hlt he => by
    rcases r4 with r4 | r4
    · exact hb (r4.symm.trans he)
    · have : some b = some w.heap.size := he.symm.trans r4
      injection this with this
      omega
  have hto : ∀ {ls : List Lf} {lr : List (SV × E)}, Paths w (fun b => (Value.slice A n c).ownBlock ≠ some b) ls lr → Paths w' (fun b => (Value.slice A' (n + m) c').ownBlock ≠ some b) ls lr := fun hp =>
    ((hp.mono (ok' := fun b => (Value.slice A' (n + m) c').ownBlock ≠ some b ∧ (Value.slice A n c).ownBlock ≠ some b) (fun b hb hlt => ⟨hnew b hb hlt, hb⟩)).keep r3.size (fun b hb hlt => hk b hb.2 hlt)).mono (fun b hb _ => hb.1)
  exact ⟨A', c', w', r1, ⟨by rw [List.length_append, h.len, hl2], ho, (hto h.paths).app (hto hp)⟩, (Below.refl base w).grown r3 hb (fun k hk => (h.own.row.lt k hk).1), fun P ls lr hp => ((hp.mono (ok' := fun b => (Value.slice A' (n + m) c').ownBlock ≠ some b ∧ (Value.slice A n c).ownBlock ≠ some b ∧ P b) (fun b hb hlt => ⟨hnew b hb.1 hlt, hb⟩)).keep r3.size (fun b hb hlt => hk b hb.2.1 hlt)).mono (fun b hb _ => ⟨hb.1, hb.2.2⟩)⟩
end LfRow
theorem infoL : (Tryz.prog.info? 70).map (fun i => (i.zero, i.size, i.bytes)) = some (some (.agg #[.slice none 0 0, .int .i64 0, .int .i64 0, .string ⟨#[]⟩, .int .i64 0]), 5, 64) := by kernel_rfl
/-- one leaf, in a block that has just been laid -/
theorem rd_leaf (w : World) (s : SV) (e : E) (ty : TypeId) : Rd (w.alloc (.cells #[.slice s.A s.n s.c, .int .i64 e.a, .int .i64 e.n, .string e.s, .int .i64 e.v] ty)) (w.heap.size + 1) 5 (some ⟨w.heap.size, 0, none⟩) 1 1 ([(s, e)].flatMap leafC) :=
  ⟨rfl, Nat.le_refl _, fun u hu => leafC_one (s, e) u (by simpa using hu), fun _ => ⟨_, _, rfl, by omega, fun j u hu => by
    rw [Nat.zero_add, cell_of_row _ _ j _ _ (0, 0) (heap_alloc_new _ _)]
    simpa [leafC] using hu⟩⟩
/-- one leaf is appended -/
theorem LfRow.push {w : World} {base n c : Nat} {A : Option Addr} {ls : List Lf} {lr : List (SV × E)} (h : LfRow w base 70 A n c ls lr) (hb : base ≤ w.heap.size) {p : List ByteArray} {e : E} {s : SV} (hl : p.length = s.n) (hp : RX w (fun b => (Value.slice A n c).ownBlock ≠ some b) 1 s.A s.n s.c (strs p)) (hn : n ≤ 800000) :
    ∃ A' c' w', (Builtin.append_ #[67, 67] 67 #[.slice A n c, .slice (some ⟨w.heap.size, 0, none⟩) 1 1]).run Tryz.prog (w.alloc (.cells #[.slice s.A s.n s.c, .int .i64 e.a, .int .i64 e.n, .string e.s, .int .i64 e.v] 70)) = .ok (.slice A' (n + 1) c') w' ∧ LfRow w' base 70 A' (n + 1) c' (ls ++ [(p, e)]) (lr ++ [(s, e)]) ∧ Below base w w' ∧ ∀ (P : Nat → Prop) (ls : List Lf) (lr : List (SV × E)), Paths w (fun b => (Value.slice A n c).ownBlock ≠ some b ∧ P b) ls lr → Paths w' (fun b => (Value.slice A' (n + 1) c').ownBlock ≠ some b ∧ P b) ls lr := by
  have hal : Below w.heap.size w (w.alloc (.cells #[.slice s.A s.n s.c, .int .i64 e.a, .int .i64 e.n, .string e.s, .int .i64 e.v] 70)) := (Below.refl _ _).alloc (Nat.le_refl _) _
  obtain ⟨A', c', w', r1, r2, r3, r4⟩ := (h.later hal).app Tryz.underlying67 infoL rfl (by omega) (by simp; omega) (rd_leaf w s e _) rfl (Paths.one hl (hp.later hal)) (by omega)
  exact ⟨A', c', w', r1, r2, (hal.mono hb).trans r3, fun P ls lr hp => r4 P ls lr (hp.later hal)⟩
end Tr
end Go.Proofs.YtcbclefemcmhpaaGreat
namespace Go.Proofs.YtcbclefemcmhpaaGreat
open Go.ChangeShapes Go.WideShapes Go.ChangeAt Go.RowKit
namespace Tr
open Sp Rw
open Classical in
/-- are they alike? -/
noncomputable def eqB {α : Type} (x y : α) : Bool := decide (x = y)
open Classical in
theorem eqB_yes {α : Type} {x y : α} (h : x = y) : eqB x y = true := decide_eq_true h
open Classical in
theorem eqB_no {α : Type} {x y : α} (h : ¬ x = y) : eqB x y = false := decide_eq_false h
open Classical in
theorem eqB_iff {α : Type} {x y : α} : eqB x y = true ↔ x = y := decide_eq_true_iff
theorem bytes_ne {a b : ByteArray} (h : ¬ a = b) : (a.toList == b.toList) = false := by
  rw [beq_eq_false_iff_ne]
  exact fun h2 => h (bytes_ext h2)
/-- alike as far as they have been looked at -/
def SameTo {α : Type} (l m : List α) (k : Nat) : Prop := ∀ (i : Nat) (h : i < l.length) (h' : i < m.length), i < k → l[i] = m[i]
theorem SameTo.zero {α : Type} (l m : List α) : SameTo l m 0 := fun _ _ _ h => absurd h (Nat.not_lt_zero _)
theorem SameTo.succ {α : Type} {l m : List α} {k : Nat} (h : SameTo l m k) (h1 : ∀ (a : k < l.length) (b : k < m.length), l[k] = m[k]) : SameTo l m (k + 1) := fun i hi hi' hlt => by
  by_cases he : i = k
  · subst he; exact h1 hi hi'
  · exact h i hi hi' (by omega)
theorem SameTo.all {α : Type} {l m : List α} {k : Nat} (h : SameTo l m k) (hl : l.length = k) (hm : m.length = k) : l = m := List.ext_getElem (by omega) fun i h1 h2 => h i h1 h2 (by omega)
theorem not_same {α : Type} {l m : List α} {k : Nat} (h : k < l.length) (h' : k < m.length) (hne : ¬ l[k] = m[k]) : ¬ l = m := fun e => hne (by subst e; rfl)
set_option maxRecDepth 100000 in
set_option maxHeartbeats 4000000 in
theorem equalE_any (fes fes2 : List E) (n m : Nat) (A B : Option Addr) (c d : Nat) (w : World) (hl : fes.length = n) (hm : fes2.length = m) (hn : n ≤ 1000000) (hr : Rd w w.heap.size 4 A n c (entsC fes)) (hs : Rd w w.heap.size 4 B m d (entsC fes2)) :
    Calls Tryz.prog 98 #[.slice A n c, .slice B m d] w fun e w' => e = .returned (.bool (eqB fes fes2)) ∧ Below w.heap.size w w' := by
  have HR := Lib.hid hr
  have HS := Lib.hid hs
  have HL := Lib.hid hl
  have HM := Lib.hid hm
  obtain ⟨z, hz⟩ : ∃ z, eqB fes fes2 = z := ⟨_, rfl⟩
  rw [hz]
  have HZ := Lib.hid hz
  clear hr hs hl hm hz
  by_cases hnm : n = m
  · subst hnm
    have fz : ((n : Int) != (n : Int)) = false := by simp
    go_enter Tryz.func98, Tryz.ntmps98
    go_wp2_with fail
    go_loopw [13] (fun i wr => ∃ k : Nat, k ≤ n ∧ i = .int .i64 k ∧ Hid (SameTo fes fes2 k) ∧ Hid (Below w.heap.size w wr)) (fun i _ => n - (intOf i).toNat)
    case atStart => exact ⟨0, by omega, rfl, SameTo.zero _ _, Below.refl _ _⟩
    case round =>
      obtain ⟨k, hk, rfl, HT, HB⟩ := hrel
      by_cases hlt : k < n
      · obtain ⟨b1, o1, rfl, hb1, hc1⟩ := rd_elem entC_len HR.out (m := k) hlt
        have hk1 : k < fes.length := by rw [HL.out]; exact hlt
        obtain ⟨xa, xn, xs, xv, hxe⟩ : ∃ a n s v, fes[k] = ⟨a, n, s, v⟩ := ⟨_, _, _, _, rfl⟩
        have x0 := (HB.out.cell (p := ⟨b1, o1 + k * 4 + 0, none⟩) hb1).trans (hc1 k hk1 0 _ rfl)
        have x1 := (HB.out.cell (p := ⟨b1, o1 + k * 4 + 1, none⟩) hb1).trans (hc1 k hk1 1 _ rfl)
        have x2 := (HB.out.cell (p := ⟨b1, o1 + k * 4 + 2, none⟩) hb1).trans (hc1 k hk1 2 _ rfl)
        have x3 := (HB.out.cell (p := ⟨b1, o1 + k * 4 + 3, none⟩) hb1).trans (hc1 k hk1 3 _ rfl)
        rw [hxe] at x0 x1 x2 x3
        dsimp only [Nat.add_zero] at x0 x1 x2 x3
        obtain ⟨b2, o2, rfl, hb2, hc2⟩ := rd_elem entC_len HS.out (m := k) hlt
        have hk2 : k < fes2.length := by rw [HM.out]; exact hlt
        obtain ⟨ya, yn, ys, yv, hye⟩ : ∃ a n s v, fes2[k] = ⟨a, n, s, v⟩ := ⟨_, _, _, _, rfl⟩
        have y0 := (HB.out.cell (p := ⟨b2, o2 + k * 4 + 0, none⟩) hb2).trans (hc2 k hk2 0 _ rfl)
        have y1 := (HB.out.cell (p := ⟨b2, o2 + k * 4 + 1, none⟩) hb2).trans (hc2 k hk2 1 _ rfl)
        have y2 := (HB.out.cell (p := ⟨b2, o2 + k * 4 + 2, none⟩) hb2).trans (hc2 k hk2 2 _ rfl)
        have y3 := (HB.out.cell (p := ⟨b2, o2 + k * 4 + 3, none⟩) hb2).trans (hc2 k hk2 3 _ rfl)
        rw [hye] at y0 y1 y2 y3
        dsimp only [Nat.add_zero] at y0 y1 y2 y3
        have HX := Lib.hid hxe
        have HY := Lib.hid hye
        clear hc1 hc2 hxe hye
        by_cases q0 : xa = ya
        · subst q0
          by_cases q1 : xn = yn
          · subst q1
            by_cases q2 : xs = ys
            · subst q2
              by_cases q3 : xv = yv
              · subst q3
                have HEQ : Hid (fes[k] = fes2[k]) := by unfold Hid; rw [HX.out, HY.out]
                go_wp2_with fail
                refine wp_region_held_drew (S := fun W => W.cell? ⟨b1, o1 + k * 4, none⟩ = some (.int .i64 xa) ∧ W.cell? ⟨b1, o1 + k * 4 + 1, none⟩ = some (.int .i64 xn) ∧ W.cell? ⟨b1, o1 + k * 4 + 2, none⟩ = some (.string xs) ∧ W.cell? ⟨b1, o1 + k * 4 + 3, none⟩ = some (.int .i64 xv) ∧ W.cell? ⟨b2, o2 + k * 4, none⟩ = some (.int .i64 xa) ∧ W.cell? ⟨b2, o2 + k * 4 + 1, none⟩ = some (.int .i64 xn) ∧ W.cell? ⟨b2, o2 + k * 4 + 2, none⟩ = some (.string xs) ∧ W.cell? ⟨b2, o2 + k * 4 + 3, none⟩ = some (.int .i64 xv)) (by kernel_rfl) (by go_keep) (fun hHeld => ?_)
                refine Tk 0 16 ?_
                refine Tk 1 17 ?_
                refine Tk 2 18 ?_
                refine Tk 3 19 ?_
                refine Tk 4 20 ?_
                refine Tk 5 21 ?_
                refine Tk 6 22 ?_
                refine Tk 7 23 ?_
                refine Tk 8 24 ?_
                refine wpAnyH_done (by kernel_rfl) ?_ _
                have HT2 : Hid (SameTo fes fes2 (k + 1)) := HT.out.succ fun _ _ => HEQ.out
                have HB2 := Lib.hid HB.out.drew
                go_wp2_with fail
                go_roundw
                case rel => exact ⟨k + 1, by omega, by go_num, HT2.out, HB2.out⟩
                case measure => simp [intOf]; omega
              · have v0 : (xv == yv) = false := beq_eq_false_iff_ne.2 q3
                have HNE : Hid (¬ fes[k] = fes2[k]) := by unfold Hid; rw [HX.out, HY.out]; intro e; injection e with _ _ _ e; exact q3 e
                clear q3
                go_wp2_with fail
                refine wp_region_held_drew (S := fun W => W.cell? ⟨b1, o1 + k * 4, none⟩ = some (.int .i64 xa) ∧ W.cell? ⟨b1, o1 + k * 4 + 1, none⟩ = some (.int .i64 xn) ∧ W.cell? ⟨b1, o1 + k * 4 + 2, none⟩ = some (.string xs) ∧ W.cell? ⟨b1, o1 + k * 4 + 3, none⟩ = some (.int .i64 xv) ∧ W.cell? ⟨b2, o2 + k * 4, none⟩ = some (.int .i64 xa) ∧ W.cell? ⟨b2, o2 + k * 4 + 1, none⟩ = some (.int .i64 xn) ∧ W.cell? ⟨b2, o2 + k * 4 + 2, none⟩ = some (.string xs) ∧ W.cell? ⟨b2, o2 + k * 4 + 3, none⟩ = some (.int .i64 yv)) (by kernel_rfl) (by go_keep) (fun hHeld => ?_)
                refine Tk 0 16 ?_
                refine Tk 1 17 ?_
                refine Tk 2 18 ?_
                refine Tk 3 19 ?_
                refine Tk 4 20 ?_
                refine Tk 5 21 ?_
                refine Tk 6 22 ?_
                refine Tk 7 23 ?_
                refine Tk 8 24 ?_
                refine wpAnyH_done (by kernel_rfl) ?_ _
                go_wp2_with fail
                go_ret
                exact ⟨Dt.ret_bool (by rw [← HZ.out]; exact (eqB_no (not_same hk1 hk2 HNE.out)).symm), HB.out.drew⟩
            · have v0 : (xs.toList == ys.toList) = false := bytes_ne q2
              have HNE : Hid (¬ fes[k] = fes2[k]) := by unfold Hid; rw [HX.out, HY.out]; intro e; injection e with _ _ e _; exact q2 e
              clear q2
              go_wp2_with fail
              refine wp_region_held_drew (S := fun W => W.cell? ⟨b1, o1 + k * 4, none⟩ = some (.int .i64 xa) ∧ W.cell? ⟨b1, o1 + k * 4 + 1, none⟩ = some (.int .i64 xn) ∧ W.cell? ⟨b1, o1 + k * 4 + 2, none⟩ = some (.string xs) ∧ W.cell? ⟨b1, o1 + k * 4 + 3, none⟩ = some (.int .i64 xv) ∧ W.cell? ⟨b2, o2 + k * 4, none⟩ = some (.int .i64 xa) ∧ W.cell? ⟨b2, o2 + k * 4 + 1, none⟩ = some (.int .i64 xn) ∧ W.cell? ⟨b2, o2 + k * 4 + 2, none⟩ = some (.string ys) ∧ W.cell? ⟨b2, o2 + k * 4 + 3, none⟩ = some (.int .i64 yv)) (by kernel_rfl) (by go_keep) (fun hHeld => ?_)
              refine Tk 0 16 ?_
              refine Tk 1 17 ?_
              refine Tk 2 18 ?_
              refine Tk 3 19 ?_
              refine Tk 4 20 ?_
              refine Tk 5 21 ?_
              refine Tk 6 22 ?_
              refine Tk 7 23 ?_
              refine Tk 8 24 ?_
              refine wpAnyH_done (by kernel_rfl) ?_ _
              go_wp2_with fail
              go_ret
              exact ⟨Dt.ret_bool (by rw [← HZ.out]; exact (eqB_no (not_same hk1 hk2 HNE.out)).symm), HB.out.drew⟩
          · have v0 : (xn == yn) = false := beq_eq_false_iff_ne.2 q1
            have HNE : Hid (¬ fes[k] = fes2[k]) := by unfold Hid; rw [HX.out, HY.out]; intro e; injection e with _ e _ _; exact q1 e
            clear q1
            go_wp2_with fail
            refine wp_region_held_drew (S := fun W => W.cell? ⟨b1, o1 + k * 4, none⟩ = some (.int .i64 xa) ∧ W.cell? ⟨b1, o1 + k * 4 + 1, none⟩ = some (.int .i64 xn) ∧ W.cell? ⟨b1, o1 + k * 4 + 2, none⟩ = some (.string xs) ∧ W.cell? ⟨b1, o1 + k * 4 + 3, none⟩ = some (.int .i64 xv) ∧ W.cell? ⟨b2, o2 + k * 4, none⟩ = some (.int .i64 xa) ∧ W.cell? ⟨b2, o2 + k * 4 + 1, none⟩ = some (.int .i64 yn) ∧ W.cell? ⟨b2, o2 + k * 4 + 2, none⟩ = some (.string ys) ∧ W.cell? ⟨b2, o2 + k * 4 + 3, none⟩ = some (.int .i64 yv)) (by kernel_rfl) (by go_keep) (fun hHeld => ?_)
            refine Tk 0 16 ?_
            refine Tk 1 17 ?_
            refine Tk 2 18 ?_
            refine Tk 3 19 ?_
            refine Tk 4 20 ?_
            refine Tk 5 21 ?_
            refine Tk 6 22 ?_
            refine Tk 7 23 ?_
            refine Tk 8 24 ?_
            refine wpAnyH_done (by kernel_rfl) ?_ _
            go_wp2_with fail
            go_ret
            exact ⟨Dt.ret_bool (by rw [← HZ.out]; exact (eqB_no (not_same hk1 hk2 HNE.out)).symm), HB.out.drew⟩
        · have v0 : (xa == ya) = false := beq_eq_false_iff_ne.2 q0
          have HNE : Hid (¬ fes[k] = fes2[k]) := by unfold Hid; rw [HX.out, HY.out]; intro e; injection e with e _ _ _; exact q0 e
          clear q0
          go_wp2_with fail
          refine wp_region_held_drew (S := fun W => W.cell? ⟨b1, o1 + k * 4, none⟩ = some (.int .i64 xa) ∧ W.cell? ⟨b1, o1 + k * 4 + 1, none⟩ = some (.int .i64 xn) ∧ W.cell? ⟨b1, o1 + k * 4 + 2, none⟩ = some (.string xs) ∧ W.cell? ⟨b1, o1 + k * 4 + 3, none⟩ = some (.int .i64 xv) ∧ W.cell? ⟨b2, o2 + k * 4, none⟩ = some (.int .i64 ya) ∧ W.cell? ⟨b2, o2 + k * 4 + 1, none⟩ = some (.int .i64 yn) ∧ W.cell? ⟨b2, o2 + k * 4 + 2, none⟩ = some (.string ys) ∧ W.cell? ⟨b2, o2 + k * 4 + 3, none⟩ = some (.int .i64 yv)) (by kernel_rfl) (by go_keep) (fun hHeld => ?_)
          refine Tk 0 16 ?_
          refine Tk 1 17 ?_
          refine Tk 2 18 ?_
          refine Tk 3 19 ?_
          refine Tk 4 20 ?_
          refine Tk 5 21 ?_
          refine Tk 6 22 ?_
          refine Tk 7 23 ?_
          refine Tk 8 24 ?_
          refine wpAnyH_done (by kernel_rfl) ?_ _
          go_wp2_with fail
          go_ret
          exact ⟨Dt.ret_bool (by rw [← HZ.out]; exact (eqB_no (not_same hk1 hk2 HNE.out)).symm), HB.out.drew⟩
      · obtain rfl : k = n := by omega
        go_wp2_with fail
        go_ret
        exact ⟨Dt.ret_bool (by rw [← HZ.out]; exact (eqB_yes (HT.out.all HL.out HM.out)).symm), HB.out⟩
  · have fz : ((n : Int) != (m : Int)) = true := by simp; omega
    go_enter Tryz.func98, Tryz.ntmps98
    go_wp2_with fail
    go_ret
    exact ⟨Dt.ret_bool (by rw [← HZ.out]; exact (eqB_no (fun e => hnm (by rw [← HL.out, ← HM.out, e]))).symm), Below.refl _ _⟩
end Tr
end Go.Proofs.YtcbclefemcmhpaaGreat
namespace Go.Proofs.YtcbclefemcmhpaaGreat
open Go.ChangeShapes Go.WideShapes Go.ChangeAt Go.RowKit
namespace Cx
open Sp Rw
/-- a box of four slices -/
theorem box4 (w : World) (s : Nat → SV) (d : Nat) (hd : d < 4) : (w.alloc (.cells #[.slice (s 0).A (s 0).n (s 0).c, .slice (s 1).A (s 1).n (s 1).c, .slice (s 2).A (s 2).n (s 2).c, .slice (s 3).A (s 3).n (s 3).c] 109)).cell? ⟨w.heap.size, d, none⟩ = some (.slice (s d).A (s d).n (s d).c) := by
  rw [cell_of_row _ _ d _ _ (0, 0) (heap_alloc_new _ _)]
  rcases (by omega : d = 0 ∨ d = 1 ∨ d = 2 ∨ d = 3) with rfl | rfl | rfl | rfl <;> rfl
set_option maxHeartbeats 400000 in
theorem rightC_any (l : List S3) (n : Nat) (A : Option Addr) (c : Nat) (w : World) (hl : l.length = n) (hn : n ≤ 100000) (hr : Rd w w.heap.size 3 A n c (spsC l)) (b : Bool) (hb : rightCB l = b) :
    Calls Tryz.prog 63 #[.slice A n c] w fun e w' => e = .returned (.bool b) ∧ Below w.heap.size w w' := by
  have HC := Lib.hid (split_any l n A c w hl hn hr b hb)
  clear hl hr hb
  go_enter Tryz.func63, Tryz.ntmps63
  go_wp2_with (go_at_call 87; refine HC.out.mono ?_; rintro e w1 ⟨s, rfl, HS, hb1⟩)
  go_ret
  exact ⟨rfl, hb1.alloc hb1.size _⟩
/-- how many dots the first d centers have -/
def cntC (l : List S3) : Nat → Int
  | 0 => 0
  | d + 1 => cntC l d + countI (part l d)
theorem cntC_four (l : List S3) : cntC l 4 = countC l := by simp [cntC, countC]
theorem SvIs.later {w w' : World} {s : SV} {r : List (Int × Int)} (h : SvIs w s r) (hb : Below w.heap.size w w') : SvIs w' s r := ⟨h.1, h.2.later hb⟩
theorem rightB_part {l : List S3} {b : Bool} (hb : rightCB l = b) (d : Nat) (hd : d < 4) : RightF 1 (if b then part l d else []) := by
  cases b with
  | true => exact (of_rightCB hb).part d (by unfold Cen; omega)
  | false => trivial
theorem rightB_true {l : List (Int × Int)} (h : RightF 1 l) : rightB l = true := by unfold rightB; exact decide_eq_true h
end Cx
end Go.Proofs.YtcbclefemcmhpaaGreat
namespace Go.Proofs.YtcbclefemcmhpaaGreat
open Go.ChangeShapes Go.WideShapes Go.ChangeAt Go.RowKit
namespace Rw
open Sp
/-- block h holds four cells, and may be written -/
structure Cells4 (W : World) (h : Nat) (v : Nat → Value) : Prop where
  free : Free h W
  cell : ∀ j, j < 4 → W.cell? ⟨h, j, none⟩ = some (v j)
namespace Cells4
variable {W W' : World} {h : Nat} {v : Nat → Value}
theorem later (c : Cells4 W h v) (hb : Below W.heap.size W W') : Cells4 W' h v := ⟨c.free.later hb, fun j hj => (hb.cell (p := ⟨h, j, none⟩) c.free.1).trans (c.cell j hj)⟩
theorem new (W : World) (v : Nat → Value) (x0 x1 x2 x3 : Value) (t : TypeId) (e : (#[x0, x1, x2, x3] : Array Value) = #[v 0, v 1, v 2, v 3]) : Cells4 (W.alloc (.cells #[x0, x1, x2, x3] t)) W.heap.size v := by
  rw [e]
  refine ⟨⟨by simp, fun j => by go_simp⟩, fun j hj => ?_⟩
  rw [cell_of_row _ _ j _ _ (0, 0) (heap_alloc_new _ _)]
  rcases (by omega : j = 0 ∨ j = 1 ∨ j = 2 ∨ j = 3) with rfl | rfl | rfl | rfl <;> rfl
theorem set (c : Cells4 W h v) {d : Nat} (hd : d < 4) (u : Value) : Cells4 (W.setCell ⟨h, d, none⟩ u) h (upd v d u) := by
  refine ⟨c.free.set _ _, fun j hj => ?_⟩
  by_cases he : j = d
  · subst he
    rw [upd_same]
    have k0 := c.cell j hj
    have m0 := c.free.2 j
    go_simp
  · rw [upd_other _ _ he, World.cell?_setCell_other W ⟨h, d, none⟩ ⟨h, j, none⟩ _ (fun e => by injection e with _ e; exact he e.symm)]
    exact c.cell j hj
theorem other (c : Cells4 W h v) {a : Addr} (ha : a.block ≠ h) (u : Value) : Cells4 (W.setCell a u) h v :=
  ⟨c.free.set _ _, fun j hj => (World.cell?_setCell_other W a ⟨h, j, none⟩ u (fun e => ha (by rw [e]))).trans (c.cell j hj)⟩
theorem congr (c : Cells4 W h v) {v' : Nat → Value} (e : ∀ j, j < 4 → v j = v' j) : Cells4 W h v' := ⟨c.free, fun j hj => by rw [← e j hj]; exact c.cell j hj⟩
/-- all four are written -/
theorem put (c : Cells4 W h v) (x0 x1 x2 x3 : Value) : (Cx.put4 h x0 x1 x2 x3 W).cell? ⟨h, 0, none⟩ = some x0 ∧ (Cx.put4 h x0 x1 x2 x3 W).cell? ⟨h, 1, none⟩ = some x1 ∧ (Cx.put4 h x0 x1 x2 x3 W).cell? ⟨h, 2, none⟩ = some x2 ∧ (Cx.put4 h x0 x1 x2 x3 W).cell? ⟨h, 3, none⟩ = some x3 :=
  Cx.put4_cells c.free (c.cell 0 (by omega)) (c.cell 1 (by omega)) (c.cell 2 (by omega)) (c.cell 3 (by omega))
end Cells4
theorem rd_set {w : World} {B sz n c : Nat} {A : Option Addr} {xs : List Value} (h : Rd w B sz A n c xs) {a : Addr} (ha : ∀ b o, A = some ⟨b, o, none⟩ → 0 < n → b ≠ a.block) (u : Value) : Rd (w.setCell a u) B sz A n c xs :=
  ⟨h.len, h.cap, h.one, fun hn => by
    obtain ⟨b, o, e, hb, hc⟩ := h.at_ hn
    exact ⟨b, o, e, hb, fun j u' hu => (World.cell?_setCell_other w a ⟨b, o + j, none⟩ u (fun e2 => ha b o e hn (by rw [e2]))).trans (hc j u' hu)⟩⟩
theorem rb_set {w : World} {lo sz n c : Nat} {A : Option Addr} {xs : List Value} (h : Rb w lo sz A n c xs) {a : Addr} (ha : a.block < lo) (u : Value) : Rb (w.setCell a u) lo sz A n c xs :=
  ⟨h.len, h.cap, h.one, fun hn => by
    obtain ⟨b, o, e, hl, hb, hc⟩ := h.at_ hn
    exact ⟨b, o, e, hl, by simpa [World.setCell] using hb, fun j u' hu => (World.cell?_setCell_other w a ⟨b, o + j, none⟩ u (fun e2 => by rw [e2] at ha; dsimp only at ha; omega)).trans (hc j u' hu)⟩⟩
end Rw
end Go.Proofs.YtcbclefemcmhpaaGreat
namespace Go.Proofs.YtcbclefemcmhpaaGreat
open Go.ChangeShapes Go.WideShapes Go.ChangeAt Go.RowKit
namespace Sp
/-- what was found -/
def FoundIs (l : List (Int × Int)) (v : Int) (w : World) (e : Ending) (w' : World) : Prop := ∃ z : Int, e = .returned (.int .i64 z) ∧ decide (0 ≤ z) = hasB l v ∧ Below w.heap.size w w'
end Sp
end Go.Proofs.YtcbclefemcmhpaaGreat
namespace Go.Proofs.YtcbclefemcmhpaaGreat
open Go.RowKit
namespace Sp
theorem run_apps {w : World} {base n m c c' : Nat} {A A' : Option Addr} {xs ys : List Int} (ho : Own w base 2 1 A n c (intsC xs)) (hr : Rd w w.heap.size 1 A' m c' (intsC ys)) (hn : n + m ≤ 1000000) (hb : base ≤ w.heap.size) :
    ∃ A2 c2 w2, (Builtin.append_ #[105, 105] 105 #[.slice A n c, .slice A' m c']).run Tryz.prog w = .ok (.slice A2 (n + m) c2) w2 ∧ Own w2 base 2 1 A2 (n + m) c2 (intsC (xs ++ ys)) ∧ Below base w w2 := by
  obtain ⟨i0, hi0, hz0, hz1, hz2⟩ := info_of infoI
  obtain ⟨v', w', h1, h2, h3, h4⟩ := run_app (P := Tryz.prog) w base 105 105 2 i0 _ 1 8 Tryz.underlying105 hi0 hz0 hz1 hz2 rfl (by omega) ho.row hr hn (by omega) hb
  rw [← intsC_append] at h2
  obtain ⟨A2, c2, rfl, h5⟩ := Own.of_row h2 (intsC_one _)
  exact ⟨A2, c2, w', h1, h5, (Below.refl base w).grown h3 hb (fun k hk => (ho.row.lt k hk).1)⟩
theorem nil_or_snoc (l : List (Int × Int)) : l = [] ∨ ∃ d r, l = d ++ [r] := by
  by_cases h : l = []
  · exact .inl h
  · exact .inr ⟨_, _, (List.dropLast_concat_getLast h).symm⟩
theorem ends_mem {l : List (Int × Int)} {r : Int × Int} (h : r ∈ l) : r.1 ∈ endsL l ∧ r.2 + 1 ∈ endsL l := ⟨List.mem_flatMap.2 ⟨r, h, by simp⟩, List.mem_flatMap.2 ⟨r, h, by simp⟩⟩
/-- no end between: alike -/
theorem has_between {l : List (Int × Int)} {u n : Int} (hu : u ≤ n) (h : ∀ x ∈ endsL l, u < x → n < x) : hasB l n = hasB l u := by
  have key : ∀ r ∈ l, (r.1 ≤ n ∧ n ≤ r.2) ↔ (r.1 ≤ u ∧ u ≤ r.2) := fun r hr => by
    obtain ⟨m1, m2⟩ := ends_mem hr
    have h1 := h _ m1
    have h2 := h _ m2
    omega
  cases hx : hasB l u with
  | true =>
    obtain ⟨r, hr, h2⟩ := has_true.1 hx
    exact has_true.2 ⟨r, hr, (key r hr).2 h2⟩
  | false => exact has_false.2 fun r hr h2 => has_false.1 hx r hr ((key r hr).1 h2)
theorem cnt_step : ∀ {L : List Int} {t u : Int}, t ∈ L → t < u → L.countP (fun x => decide (x < t)) + 1 ≤ L.countP (fun x => decide (x < u))
  | [], _, _, h, _ => by simp at h
  | x :: L, t, u, h, hu => by
    have mono : L.countP (fun x => decide (x < t)) ≤ L.countP (fun x => decide (x < u)) := List.countP_mono_left (fun y _ hy => by simp at hy ⊢; omega)
    rw [List.countP_cons, List.countP_cons]
    by_cases hx : x = t
    · subst hx
      have e1 : decide (x < x) = false := by simp
      have e2 : decide (x < u) = true := by simpa using hu
      simp only [e1, e2, if_true, Bool.false_eq_true, if_false]
      omega
    · have h' : t ∈ L := by
        rcases List.mem_cons.1 h with h | h
        · exact absurd h.symm hx
        · exact h
      have ih := cnt_step h' hu
      by_cases h1 : x < t
      · have e1 : decide (x < t) = true := by simpa using h1
        have e2 : decide (x < u) = true := by simp; omega
        simp only [e1, e2, if_true]
        omega
      · have e1 : decide (x < t) = false := by simpa using h1
        simp only [e1, Bool.false_eq_true, if_false]
        split <;> omega
theorem ends_bounds {l : List (Int × Int)} (h : RightF 1 l) {x : Int} (hx : x ∈ endsL l) : 1 ≤ x ∧ x ≤ 1099511627777 := by
  obtain ⟨r, hr, hx⟩ := List.mem_flatMap.1 hx
  have := h.mem r hr
  simp at hx
  omega
/-- how far the document's way is -/
structure ByInv (f : Bool → Bool → Bool) (a b out : List (Int × Int)) (t : Int) (ok : Bool) : Prop where
  right : RightF 1 out
  on : ok = true → t ∈ endsL a ++ endsL b ∧ 1 ≤ t ∧ t ≤ 1099511627777 ∧ (∀ r ∈ out, r.2 < t) ∧ (∀ n, n < t → hasB out n = f (hasB a n) (hasB b n)) ∧ out.length ≤ (endsL a ++ endsL b).countP (fun x => decide (x < t))
  off : ok = false → ∀ n, hasB out n = f (hasB a n) (hasB b n)
theorem between_both {a b : List (Int × Int)} {u n : Int} (hu : u ≤ n) (h : ∀ x ∈ endsL a ++ endsL b, u < x → n < x) : hasB a n = hasB a u ∧ hasB b n = hasB b u :=
  ⟨has_between hu fun x hx => h x (List.mem_append_left _ hx), has_between hu fun x hx => h x (List.mem_append_right _ hx)⟩
theorem ByInv.zero {f : Bool → Bool → Bool} (hf : f false false = false) {a b : List (Int × Int)} (ha : RightF 1 a) (hb : RightF 1 b) : ByInv f a b [] ((nextL 0 (endsL a ++ endsL b)).getD 0) (nextL 0 (endsL a ++ endsL b)).isSome := by
  have hN := nextL_is 0 (endsL a ++ endsL b)
  have h0 : ∀ n, n ≤ 0 → hasB a n = false ∧ hasB b n = false := fun n hn => ⟨has_lt ha (by omega), has_lt hb (by omega)⟩
  cases hx : nextL 0 (endsL a ++ endsL b) with
  | none =>
    rw [hx] at hN
    refine ⟨trivial, fun h => (by cases h), fun _ n => ?_⟩
    rcases (by omega : n ≤ 0 ∨ 0 < n) with hn | hn
    · rw [(h0 n hn).1, (h0 n hn).2, hf]; rfl
    · obtain ⟨e1, e2⟩ := between_both (a := a) (b := b) (u := 0) (n := n) (by omega) (fun x hx h => by have := hN x hx; omega)
      rw [e1, e2, (h0 0 (by omega)).1, (h0 0 (by omega)).2, hf]; rfl
  | some t =>
    rw [hx] at hN
    obtain ⟨h1, h2, h3⟩ := hN
    have hb' : 1 ≤ t ∧ t ≤ 1099511627777 := by
      rcases List.mem_append.1 h1 with h | h
      · exact ends_bounds ha h
      · exact ends_bounds hb h
    refine ⟨trivial, fun _ => ⟨h1, hb'.1, hb'.2, by simp, fun n hn => ?_, Nat.zero_le _⟩, fun h => by cases h⟩
    show hasB [] n = _
    rcases (by omega : n ≤ 0 ∨ 0 < n) with hn0 | hn0
    · rw [(h0 n hn0).1, (h0 n hn0).2, hf]; rfl
    · obtain ⟨e1, e2⟩ := between_both (a := a) (b := b) (u := 0) (n := n) (by omega) (fun x hx h => by have := h3 x hx h; have hn : n < t := hn; omega)
      rw [e1, e2, (h0 0 (by omega)).1, (h0 0 (by omega)).2, hf]; rfl
section
variable {f : Bool → Bool → Bool} {a b out : List (Int × Int)} {t : Int}
theorem ByInv.last (hf : f false false = false) (ha : RightF 1 a) (hb : RightF 1 b) (h : ByInv f a b out t true) (hN : nextL t (endsL a ++ endsL b) = none) : f (hasB a t) (hasB b t) = false ∧ ∀ u, ByInv f a b out u false := by
  have hN' := nextL_is t (endsL a ++ endsL b)
  rw [hN] at hN'
  obtain ⟨h1, h2, h3, h4, h5, h6⟩ := h.on rfl
  have hbt : ∀ n, t ≤ n → hasB a n = hasB a t ∧ hasB b n = hasB b t := fun n hn => between_both hn (fun x hx h => by have := hN' x hx; omega)
  have hz : f (hasB a t) (hasB b t) = false := by
    obtain ⟨e1, e2⟩ := hbt 1099511627778 (by omega)
    rw [← e1, ← e2, has_gt ha (by omega), has_gt hb (by omega), hf]
  refine ⟨hz, fun u => ⟨h.right, fun h => (by cases h), fun _ n => ?_⟩⟩
  rcases (by omega : n < t ∨ t ≤ n) with hn | hn
  · exact h5 n hn
  · obtain ⟨e1, e2⟩ := hbt n hn
    rw [e1, e2, hz]
    exact has_false.2 fun r hr => by have := h4 r hr; omega
theorem ByInv.next {u : Int} (ha : RightF 1 a) (hb : RightF 1 b) (h : ByInv f a b out t true) (hN : nextL t (endsL a ++ endsL b) = some u) :
    t < u ∧ 1 ≤ t ∧ u ≤ 1099511627777 ∧ (f (hasB a t) (hasB b t) = false → ByInv f a b out u true) ∧
    (f (hasB a t) (hasB b t) = true → (∀ r ∈ out, r.2 + 2 ≤ t) → ByInv f a b (out ++ [(t, u - 1)]) u true) ∧
    (f (hasB a t) (hasB b t) = true → ∀ d s, out = d ++ [(s, t - 1)] → ByInv f a b (d ++ [(s, u - 1)]) u true) := by
  have hN' := nextL_is t (endsL a ++ endsL b)
  rw [hN] at hN'
  obtain ⟨g1, g2, g3⟩ := hN'
  obtain ⟨h1, h2, h3, h4, h5, h6⟩ := h.on rfl
  have hbt : ∀ n, t ≤ n → n < u → hasB a n = hasB a t ∧ hasB b n = hasB b t := fun n hn hnu => between_both hn (fun x hx h => by have := g3 x hx h; omega)
  have hub : 1 ≤ u ∧ u ≤ 1099511627777 := by
    rcases List.mem_append.1 g1 with h | h
    · exact ends_bounds ha h
    · exact ends_bounds hb h
  have hcnt := cnt_step h1 g2
  have hno : ∀ n, t ≤ n → hasB out n = false := fun n hn => has_false.2 fun r hr => by have := h4 r hr; omega
  refine ⟨g2, h2, hub.2, fun hin => ?_, fun hin hgap => ?_, fun hin d s hd => ?_⟩
  · refine ⟨h.right, fun _ => ⟨g1, hub.1, hub.2, fun r hr => by have := h4 r hr; omega, fun n hn => ?_, by omega⟩, fun h => by cases h⟩
    rcases (by omega : n < t ∨ t ≤ n) with hn' | hn'
    · exact h5 n hn'
    · obtain ⟨e1, e2⟩ := hbt n hn' hn
      rw [e1, e2, hin, hno n hn']
  · refine ⟨h.right.snoc hgap h2 (by show t ≤ u - 1; omega) (by show u - 1 ≤ _; omega), fun _ => ⟨g1, hub.1, hub.2, fun r hr => ?_, fun n hn => ?_, by rw [List.length_append, List.length_singleton]; omega⟩, fun h => by cases h⟩
    · rcases List.mem_append.1 hr with hr | hr
      · have := h4 r hr; omega
      · rw [List.mem_singleton.1 hr]; show u - 1 < u; omega
    · rw [has_append, has_cons, has_nil, Bool.or_false]
      rcases (by omega : n < t ∨ t ≤ n) with hn' | hn'
      · have e : decide (t ≤ n ∧ n ≤ u - 1) = false := by simp; omega
        rw [e, Bool.or_false]
        exact h5 n hn'
      · obtain ⟨e1, e2⟩ := hbt n hn' hn
        have e : decide (t ≤ n ∧ n ≤ u - 1) = true := by simp; omega
        rw [e1, e2, hin, e, Bool.or_true]
  · subst hd
    obtain ⟨k1, k2, k3, k4, k5⟩ := h.right.of_snoc
    dsimp only at k2 k3 k4 k5
    refine ⟨k1.snoc k2 k3 (by show s ≤ u - 1; omega) (by show u - 1 ≤ _; omega), fun _ => ⟨g1, hub.1, hub.2, fun r hr => ?_, fun n hn => ?_, by rw [List.length_append, List.length_singleton] at h6 ⊢; omega⟩, fun h => by cases h⟩
    · rcases List.mem_append.1 hr with hr | hr
      · have := h4 r (List.mem_append_left _ hr); omega
      · rw [List.mem_singleton.1 hr]; show u - 1 < u; omega
    · rw [has_append, has_cons, has_nil, Bool.or_false]
      rcases (by omega : n < t ∨ t ≤ n) with hn' | hn'
      · have e5 := h5 n hn'
        rw [has_append, has_cons, has_nil, Bool.or_false] at e5
        have e : decide (s ≤ n ∧ n ≤ u - 1) = decide (s ≤ n ∧ n ≤ t - 1) := by
          congr 1
          exact propext ⟨fun h => ⟨h.1, by omega⟩, fun h => ⟨h.1, by omega⟩⟩
        rw [e]
        exact e5
      · obtain ⟨e1, e2⟩ := hbt n hn' hn
        have e : decide (s ≤ n ∧ n ≤ u - 1) = true := by simp; omega
        rw [e1, e2, hin, e, Bool.or_true]
end
/-- the set of numbers, as far as the document's way is -/
structure OfInv (ns : List Int) (out : List (Int × Int)) (t : Int) (ok : Bool) : Prop where
  right : RightF 1 out
  on : ok = true → t ∈ ns ∧ (∀ r ∈ out, r.2 < t) ∧ (∀ n, hasB out n = true ↔ (n ∈ ns ∧ n < t)) ∧ out.length ≤ ns.countP (fun x => decide (x < t))
  off : ok = false → ∀ n, hasB out n = true ↔ n ∈ ns
theorem OfInv.zero {ns : List Int} (hb : ∀ x ∈ ns, 1 ≤ x ∧ x ≤ 1099511627776) : OfInv ns [] ((nextL 0 ns).getD 0) (nextL 0 ns).isSome := by
  have hN := nextL_is 0 ns
  cases hx : nextL 0 ns with
  | none =>
    rw [hx] at hN
    refine ⟨trivial, fun h => (by cases h), fun _ n => ⟨fun h => (by cases h), fun h => ?_⟩⟩
    have := hN n h; have := hb n h; omega
  | some t =>
    rw [hx] at hN
    obtain ⟨h1, h2, h3⟩ := hN
    refine ⟨trivial, fun _ => ⟨h1, by simp, fun n => ⟨fun h => (by cases h), fun h => ?_⟩, Nat.zero_le _⟩, fun h => by cases h⟩
    have h' : n < t := h.2
    have := h3 n h.1 (by have := hb n h.1; omega)
    omega
section
variable {ns : List Int} {out : List (Int × Int)} {t : Int}
/-- one number more -/
theorem OfInv.one (_hb : ∀ x ∈ ns, 1 ≤ x ∧ x ≤ 1099511627776) (h : OfInv ns out t true) (out' : List (Int × Int)) (hr : RightF 1 out') (he : ∀ r ∈ out', r.2 ≤ t) (hh : ∀ n, hasB out' n = (hasB out n || decide (n = t))) (hl : out'.length ≤ out.length + 1) :
    OfInv ns out' ((nextL t ns).getD 0) (nextL t ns).isSome := by
  have hN := nextL_is t ns
  obtain ⟨h1, h2, h3, h4⟩ := h.on rfl
  have key : ∀ n, hasB out' n = true ↔ (n ∈ ns ∧ n ≤ t) := fun n => by
    rw [hh, Bool.or_eq_true, h3 n, decide_eq_true_eq]
    constructor
    · rintro (h | rfl)
      · exact ⟨h.1, by omega⟩
      · exact ⟨h1, Int.le_refl _⟩
    · rintro ⟨ha, hb⟩
      rcases (by omega : n < t ∨ n = t) with h | h
      · exact .inl ⟨ha, h⟩
      · exact .inr h
  cases hx : nextL t ns with
  | none =>
    rw [hx] at hN
    refine ⟨hr, fun h => (by cases h), fun _ n => (key n).trans ⟨fun h => h.1, fun h => ⟨h, hN n h⟩⟩⟩
  | some u =>
    rw [hx] at hN
    obtain ⟨g1, g2, g3⟩ := hN
    have hcnt := cnt_step h1 g2
    refine ⟨hr, fun _ => ⟨g1, fun r hr => ?_, fun n => (key n).trans ⟨fun h => ⟨h.1, ?_⟩, fun h => ⟨h.1, ?_⟩⟩, ?_⟩, fun h => by cases h⟩
    · have := he r hr
      show r.2 < u
      omega
    · show n < u
      omega
    · have h' : n < u := h.2
      rcases (by omega : n ≤ t ∨ t < n) with h2 | h2
      · exact h2
      · have := g3 n h.1 h2; omega
    · show out'.length ≤ ns.countP (fun x => decide (x < u))
      omega
/-- it stands by itself -/
theorem OfInv.push (hb : ∀ x ∈ ns, 1 ≤ x ∧ x ≤ 1099511627776) (h : OfInv ns out t true) (hg : ∀ r ∈ out, r.2 + 2 ≤ t) : OfInv ns (out ++ [(t, t)]) ((nextL t ns).getD 0) (nextL t ns).isSome := by
  obtain ⟨h1, h2, h3, h4⟩ := h.on rfl
  have hbt := hb t h1
  refine h.one hb _ (h.right.snoc hg hbt.1 (Int.le_refl _) hbt.2) (fun r hr => ?_) (fun n => ?_) (by simp)
  · rcases List.mem_append.1 hr with hr | hr
    · have := h2 r hr; omega
    · rw [List.mem_singleton.1 hr]; exact Int.le_refl _
  · rw [has_append, has_cons, has_nil, Bool.or_false]
    congr 2
    exact propext ⟨fun h => by dsimp only at h; omega, fun h => ⟨by dsimp only; omega, by dsimp only; omega⟩⟩
/-- it is the next one behind the last run -/
theorem OfInv.grow {d : List (Int × Int)} {s : Int} (hb : ∀ x ∈ ns, 1 ≤ x ∧ x ≤ 1099511627776) (h : OfInv ns (d ++ [(s, t - 1)]) t true) : OfInv ns (d ++ [(s, t)]) ((nextL t ns).getD 0) (nextL t ns).isSome := by
  obtain ⟨h1, h2, h3, h4⟩ := h.on rfl
  have hbt := hb t h1
  obtain ⟨k1, k2, k3, k4, k5⟩ := h.right.of_snoc
  dsimp only at k2 k3 k4 k5
  refine h.one hb _ (k1.snoc k2 k3 (by show s ≤ t; omega) hbt.2) (fun r hr => ?_) (fun n => ?_) (by simp)
  · rcases List.mem_append.1 hr with hr | hr
    · have := h2 r (List.mem_append_left _ hr); omega
    · rw [List.mem_singleton.1 hr]; exact Int.le_refl _
  · rw [has_append, has_append, has_cons, has_cons, has_nil, Bool.or_false, Bool.or_false, Bool.or_assoc]
    congr 1
    rw [← Bool.decide_or]
    congr 1
    exact propext ⟨fun h => by dsimp only at h ⊢; omega, fun h => by dsimp only at h ⊢; omega⟩
end
end Sp
end Go.Proofs.YtcbclefemcmhpaaGreat
namespace Go.Proofs.YtcbclefemcmhpaaGreat
open Go.ChangeShapes Go.WideShapes Go.ChangeAt Go.RowKit
namespace Sp
/-- the set of these numbers -/
def SetIs (ns : List Int) (l : List (Int × Int)) : Prop := RightF 1 l ∧ ∀ n, hasB l n = true ↔ n ∈ ns
theorem SetIs.eq {ns : List Int} {a b : List (Int × Int)} (ha : SetIs ns a) (hb : SetIs ns b) : a = b := ext ha.1 hb.1 fun n => by
  rw [Bool.eq_iff_iff, ha.2 n, hb.2 n]
set_option maxRecDepth 100000 in
set_option maxHeartbeats 4000000 in
theorem refof_any (ns : List Int) (n : Nat) (A : Option Addr) (c : Nat) (w : World) (hl : ns.length = n) (hn : n ≤ 100000) (hr : Rd w w.heap.size 1 A n c (intsC ns)) (hb : ∀ x ∈ ns, 1 ≤ x ∧ x ≤ 1099511627776) :
    Calls Tryz.prog 94 #[.slice A n c] w fun e w' => ∃ l A' c', e = .returned (.slice A' l.length c') ∧ SetIs ns l ∧ Own w' w.heap.size 103 2 A' l.length c' (runsC l) ∧ Below w.heap.size w w' := by
  have HL := Lib.hid hl
  have HBD := Lib.hid hb
  have HN := fun v W (h : Below w.heap.size w W) => Lib.hid (next_any ns n A c W hl (by omega) ((hr.below h).more h.size) v)
  have HZ := Lib.hid (OfInv.zero hb)
  clear hl hr hb
  obtain ⟨t0, ht0⟩ : ∃ t, t = (nextL 0 ns).getD 0 := ⟨_, rfl⟩
  obtain ⟨k0, hk0⟩ : ∃ k, k = (nextL 0 ns).isSome := ⟨_, rfl⟩
  have HN0 := HN 0 w (Below.refl _ _)
  rw [← ht0, ← hk0] at HZ HN0
  clear ht0 hk0
  go_enter Tryz.func94, Tryz.ntmps94
  go_wp2_with fail
  refine HN0.out.mono ?_
  rintro e w3 ⟨rfl, rfl⟩
  clear HN0
  go_wp2
  go_loopw [3, 4, 5] (fun lv tv kv wr => ∃ (q : Nat) (A' : Option Addr) (c' : Nat) (out : List (Int × Int)) (t : Int) (ok : Bool), lv = .slice A' q c' ∧ tv = .int .i64 t ∧ kv = .bool ok ∧ Hid (q = out.length) ∧ Hid (OfInv ns out t ok) ∧ Hid (Own wr w3.heap.size 103 2 A' q c' (runsC out)) ∧ Hid (Below w3.heap.size w3 wr)) (fun _ tv kv _ => match kv with | .bool true => (1099511627780 - intOf tv).toNat | _ => 0)
  case atStart => exact ⟨0, none, 0, [], t0, k0, rfl, rfl, rfl, rfl, HZ.out, ⟨World.ownsRow_nil _ _ _ _, by simp [runsC]⟩, Below.refl _ _⟩
  case round =>
    obtain ⟨q, A', c', out, t, ok, rfl, rfl, rfl, HQ, HI, HO, HB⟩ := hrel
    cases ok with
    | false =>
      have HF := Lib.hid (HI.out.off rfl)
      have HRT := Lib.hid HI.out.right
      have hq := HQ.out
      subst hq
      go_wp2
      go_ret
      exact ⟨out, _, _, rfl, ⟨HRT.out, HF.out⟩, HO.out, HB.out⟩
    | true =>
      obtain ⟨ht0, htl, _, htc⟩ := HI.out.on rfl
      obtain ⟨ht1, ht2⟩ := HBD.out t ht0
      have hlen : out.length ≤ 100000 := by
        have := List.countP_le_length (p := fun x => decide (x < t)) (l := ns)
        rw [HL.out] at this
        omega
      obtain ⟨t', ht'⟩ : ∃ t', t' = (nextL t ns).getD 0 := ⟨_, rfl⟩
      obtain ⟨k', hk'⟩ : ∃ k', k' = (nextL t ns).isSome := ⟨_, rfl⟩
      have HM : Hid (k' = true → t < t' ∧ t' ≤ 1099511627776) := fun hk => by
        have hN := nextL_is t ns
        cases hx : nextL t ns with
        | none => rw [hk', hx] at hk; cases hk
        | some u =>
          rw [hx] at hN ht'
          rw [ht']
          exact ⟨hN.2.1, (HBD.out u hN.1).2⟩
      have HNX := fun W (h : Below w3.heap.size w3 W) => HN t W h
      rw [← ht', ← hk'] at HNX
      have hgap : ∀ r ∈ out, r.2 < t := htl
      clear htc htl ht0
      rcases nil_or_snoc out with rfl | ⟨dd, r, rfl⟩
      · have hq : q = 0 := HQ.out
        subst hq
        have HY := Lib.hid (HI.out.push HBD.out (by simp))
        rw [← ht', ← hk'] at HY
        obtain ⟨A2, c2, w2', hrun2, ho2', hb2'⟩ := push_run Tryz.underlying81 infoP wr w3.heap.size wr.heap.size rfl HB.out.size _ ([] : List (Int × Int)) HO.out.row t t (by omega)
        have Hrun2 := Lib.hid hrun2
        have HO2 := Lib.hid ho2'
        have HB2 := Lib.hid (HB.out.trans hb2')
        obtain ⟨q2, hq2⟩ : ∃ q2, q2 = (([] : List (Int × Int)) ++ [(t, t)]).length := ⟨_, rfl⟩
        rw [← hq2] at Hrun2 HO2
        have HQ2 := Lib.hid hq2
        clear hrun2 ho2' hb2' hq2 ht' hk' hgap
        go_wp2_with (at_builtin; refine Lib.wpList_append_run _ rfl _ _ _ _ rfl _ _ rfl rfl _ _ Hrun2.out ?_)
        go_wp2_with fail
        refine (HNX _ HB2.out).out.mono ?_
        rintro e wr' ⟨rfl, rfl⟩
        go_wp2
        go_roundw
        case rel => exact ⟨q2, A2, c2, ([] : List (Int × Int)) ++ [(t, t)], t', k', rfl, rfl, rfl, HQ2.out, HY.out, HO2.out, HB2.out⟩
        case measure => cases k' <;> simp [intOf] <;> (try have := (HM.out rfl)) <;> omega
      · obtain ⟨s, e0⟩ := r
        by_cases he : e0 = t - 1
        · subst he
          have HY := Lib.hid (HI.out.grow HBD.out)
          rw [← ht', ← hk'] at HY
          obtain ⟨D, hD⟩ : ∃ D, D = dd.length := ⟨_, rfl⟩
          have hq : q = D + 1 := by rw [hD]; have := HQ.out; simpa using this
          subst hq
          have hD2 : D ≤ 400000 := by rw [List.length_append, List.length_singleton] at hlen; omega
          obtain ⟨g, rfl, hgb, hgl, hfz, hcell⟩ := Own.place HO.out (by omega)
          have hcl : wr.cell? ⟨g, D * 2 + 1, none⟩ = some (.int .i64 (t - 1)) := by
            have := (runsC_at (dd ++ [(s, (t - 1))]) D (by simp [hD])).2
            rw [show (dd ++ [(s, (t - 1))])[D]'(by simp [hD]) = (s, (t - 1)) from by simp [hD]] at this
            exact hcell _ _ this
          have hfz := hfz (D * 2 + 1)
          have HO2 : Hid (Own (wr.setCell ⟨g, D * 2 + 1, none⟩ (.int .i64 t)) w3.heap.size 103 2 (some ⟨g, 0, none⟩) (D + 1) c' (runsC (dd ++ [(s, t)]))) := by
            rw [hD]
            exact own_close (by rw [← hD]; exact HO.out)
          have HB2 : Hid (Below w3.heap.size w3 (wr.setCell ⟨g, D * 2 + 1, none⟩ (.int .i64 t))) := HB.out.setCell hgb _
          have HQ2 : Hid (D + 1 = (dd ++ [(s, t)]).length) := by unfold Hid; rw [hD]; simp
          clear hcell hD ht' hk' hgap hlen
          go_wp2_with fail
          refine (HNX _ HB2.out).out.mono ?_
          rintro e wr' ⟨rfl, rfl⟩
          go_wp2
          go_roundw
          case rel => exact ⟨D + 1, _, c', dd ++ [(s, t)], t', k', rfl, rfl, rfl, HQ2.out, HY.out, HO2.out, HB2.out⟩
          case measure => cases k' <;> simp [intOf] <;> (try have := (HM.out rfl)) <;> omega
        · have f5 : (e0 == t - 1) = false := by simpa using he
          have HY := Lib.hid (HI.out.push HBD.out (fun r hr => by
            obtain ⟨_, j2, _, j4, _⟩ := HI.out.right.of_snoc
            dsimp only at j2 j4
            have k5 : e0 < t := hgap (s, e0) (by simp)
            rcases List.mem_append.1 hr with hr | hr
            · have := j2 r hr; omega
            · rw [List.mem_singleton.1 hr]; show e0 + 2 ≤ t; omega))
          rw [← ht', ← hk'] at HY
          obtain ⟨D, hD⟩ : ∃ D, D = dd.length := ⟨_, rfl⟩
          have hq : q = D + 1 := by rw [hD]; have := HQ.out; simpa using this
          subst hq
          have hD2 : D ≤ 400000 := by rw [List.length_append, List.length_singleton] at hlen; omega
          obtain ⟨g, rfl, hgb, hgl, hfz, hcell⟩ := Own.place HO.out (by omega)
          have hcl : wr.cell? ⟨g, D * 2 + 1, none⟩ = some (.int .i64 e0) := by
            have := (runsC_at (dd ++ [(s, e0)]) D (by simp [hD])).2
            rw [show (dd ++ [(s, e0)])[D]'(by simp [hD]) = (s, e0) from by simp [hD]] at this
            exact hcell _ _ this
          have eD : (dd ++ [(s, e0)]).length = D + 1 := by simp [hD]
          have hown : wr.ownsRow w3.heap.size 103 2 (.slice (some ⟨g, 0, none⟩) (D + 1) c') (dd ++ [(s, e0)]).length (runsC (dd ++ [(s, e0)])) := by rw [eD]; exact HO.out.row
          obtain ⟨A2, c2, w2', hrun2, ho2', hb2'⟩ := push_run Tryz.underlying81 infoP wr w3.heap.size wr.heap.size rfl HB.out.size _ (dd ++ [(s, e0)]) hown t t (by omega)
          have Hrun2 := Lib.hid hrun2
          have HO2 := Lib.hid ho2'
          have HB2 := Lib.hid (HB.out.trans hb2')
          obtain ⟨q2, hq2⟩ : ∃ q2, q2 = ((dd ++ [(s, e0)]) ++ [(t, t)]).length := ⟨_, rfl⟩
          rw [← hq2] at Hrun2 HO2
          have HQ2 := Lib.hid hq2
          clear hrun2 ho2' hb2' hq2 ht' hk' hgap
          clear hown eD hfz hcell hD he hlen
          go_wp2_with (at_builtin; refine Lib.wpList_append_run _ rfl _ _ _ _ rfl _ _ rfl rfl _ _ Hrun2.out ?_)
          go_wp2_with fail
          refine (HNX _ HB2.out).out.mono ?_
          rintro e wr' ⟨rfl, rfl⟩
          go_wp2
          go_roundw
          case rel => exact ⟨q2, A2, c2, (dd ++ [(s, e0)]) ++ [(t, t)], t', k', rfl, rfl, rfl, HQ2.out, HY.out, HO2.out, HB2.out⟩
          case measure => cases k' <;> simp [intOf] <;> (try have := (HM.out rfl)) <;> omega
end Sp
end Go.Proofs.YtcbclefemcmhpaaGreat
namespace Go.Proofs.YtcbclefemcmhpaaGreat
open Go.Shelf
namespace Sp
def sortI_ren : Go.Shelf.Ren := ⟨fun | 53 => 112 | 64 => 138 | 63 => 137 | 78 => 156 | 79 => 157 | 70 => 147 | 71 => 148 | 72 => 149 | 73 => 150 | 74 => 151 | 75 => 152 | 59 => 153 | 76 => 154 | 77 => 155 | 88 => 166 | 89 => 167 | 90 => 168 | 91 => 169 | 92 => 170 | 68 => 146 | 96 => 174 | n => n, fun | 22 => 105 | 23 => 2 | 3 => 3 | 51 => 132 | 0 => 0 | 67 => 178 | 69 => 180 | 4 => 4 | 61 => 171 | 60 => 170 | 44 => 99 | 5 => 5 | 9 => 9 | 75 => 186 | 79 => 190 | 83 => 194 | 84 => 195 | n => n, fun | n => n⟩
theorem sortI : Go.Proofs.SlLaysN.n53 Tryz.prog sortI_ren := {
  mixed := by kernel_rfl
  f53 := ⟨Tryz.f112.name, by decide, Tryz.func112.trans (congrArg some (by kernel_rfl))⟩
  f59 := ⟨Tryz.f153.name, by decide, Tryz.func153.trans (congrArg some (by kernel_rfl))⟩
  f63 := ⟨Tryz.f137.name, by decide, Tryz.func137.trans (congrArg some (by kernel_rfl))⟩
  f64 := Tryz.func138.trans (congrArg some (by kernel_rfl))
  f68 := ⟨Tryz.f146.name, by decide, Tryz.func146.trans (congrArg some (by kernel_rfl))⟩
  f70 := ⟨Tryz.f147.name, by decide, Tryz.func147.trans (congrArg some (by kernel_rfl))⟩
  f71 := ⟨Tryz.f148.name, by decide, Tryz.func148.trans (congrArg some (by kernel_rfl))⟩
  f72 := ⟨Tryz.f149.name, by decide, Tryz.func149.trans (congrArg some (by kernel_rfl))⟩
  f73 := ⟨Tryz.f150.name, by decide, Tryz.func150.trans (congrArg some (by kernel_rfl))⟩
  f74 := ⟨Tryz.f151.name, by decide, Tryz.func151.trans (congrArg some (by kernel_rfl))⟩
  f75 := ⟨Tryz.f152.name, by decide, Tryz.func152.trans (congrArg some (by kernel_rfl))⟩
  f76 := ⟨Tryz.f154.name, by decide, Tryz.func154.trans (congrArg some (by kernel_rfl))⟩
  f77 := ⟨Tryz.f155.name, by decide, Tryz.func155.trans (congrArg some (by kernel_rfl))⟩
  f78 := Tryz.func156.trans (congrArg some (by kernel_rfl))
  f79 := Tryz.func157.trans (congrArg some (by kernel_rfl))
  f88 := ⟨Tryz.f166.name, by decide, Tryz.func166.trans (congrArg some (by kernel_rfl))⟩
  f89 := Tryz.func167.trans (congrArg some (by kernel_rfl))
  f90 := Tryz.func168.trans (congrArg some (by kernel_rfl))
  f91 := ⟨Tryz.f169.name, by decide, Tryz.func169.trans (congrArg some (by kernel_rfl))⟩
  f92 := ⟨Tryz.f170.name, by decide, Tryz.func170.trans (congrArg some (by kernel_rfl))⟩
  f96 := ⟨Tryz.f174.name, by decide, Tryz.func174.trans (congrArg some (by kernel_rfl))⟩
  t0 := Tryz.underlying0
  a0 := Tryz.isAgg0
  z0 := Tryz.sizeOf0
  v0 := Tryz.zeroValue0
  t3 := Tryz.underlying3
  a3 := Tryz.isAgg3
  z3 := Tryz.sizeOf3
  v3 := Tryz.zeroValue3
  t4 := Tryz.underlying4
  a4 := Tryz.isAgg4
  z4 := Tryz.sizeOf4
  v4 := Tryz.zeroValue4
  t5 := Tryz.underlying5
  a5 := Tryz.isAgg5
  z5 := Tryz.sizeOf5
  v5 := Tryz.zeroValue5
  t9 := Tryz.underlying9
  a9 := Tryz.isAgg9
  z9 := Tryz.sizeOf9
  v9 := Tryz.zeroValue9
  t22 := Tryz.underlying105
  a22 := Tryz.isAgg105
  z22 := Tryz.sizeOf105
  v22 := Tryz.zeroValue105
  t23 := Tryz.underlying2
  a23 := Tryz.isAgg2
  z23 := Tryz.sizeOf2
  v23 := Tryz.zeroValue2
  t44 := Tryz.underlying99
  a44 := Tryz.isAgg99
  z44 := Tryz.sizeOf99
  v44 := Tryz.zeroValue99
  t51 := Tryz.underlying132
  a51 := Tryz.isAgg132
  z51 := Tryz.sizeOf132
  v51 := Tryz.zeroValue132
  t60 := Tryz.underlying170
  a60 := Tryz.isAgg170
  z60 := Tryz.sizeOf170
  v60 := Tryz.zeroValue170
  t61 := Tryz.underlying171
  a61 := Tryz.isAgg171
  z61 := Tryz.sizeOf171
  v61 := Tryz.zeroValue171
  t67 := Tryz.underlying178
  a67 := Tryz.isAgg178
  z67 := Tryz.sizeOf178
  v67 := Tryz.zeroValue178
  t69 := Tryz.underlying180
  a69 := Tryz.isAgg180
  z69 := Tryz.sizeOf180
  v69 := Tryz.zeroValue180
  t75 := Tryz.underlying186
  a75 := Tryz.isAgg186
  z75 := Tryz.sizeOf186
  v75 := Tryz.zeroValue186
  t79 := Tryz.underlying190
  a79 := Tryz.isAgg190
  z79 := Tryz.sizeOf190
  v79 := Tryz.zeroValue190
  t83 := Tryz.underlying194
  a83 := Tryz.isAgg194
  z83 := Tryz.sizeOf194
  v83 := Tryz.zeroValue194
  t84 := Tryz.underlying195
  a84 := Tryz.isAgg195
  z84 := Tryz.sizeOf195
  v84 := Tryz.zeroValue195 }
end Sp
end Go.Proofs.YtcbclefemcmhpaaGreat
namespace Go.Proofs.YtcbclefemcmhpaaGreat
open Go.ChangeShapes Go.WideShapes Go.ChangeAt Go.RowKit
namespace Sp
def srt (ns : List Int) : List Int := ns.mergeSort fun x y => decide (x ≤ y)
theorem srt_len (ns : List Int) : (srt ns).length = ns.length := List.length_mergeSort _
theorem srt_mem {ns : List Int} {x : Int} : x ∈ srt ns ↔ x ∈ ns := List.mem_mergeSort
theorem srt_le (ns : List Int) {i j : Nat} (hi : i < j) (hj : j < (srt ns).length) : (srt ns)[i] ≤ (srt ns)[j] := by
  have h := List.pairwise_mergeSort (le := fun x y : Int => decide (x ≤ y)) (by intro a b c; simp; omega) (by intro a b; simp; omega) ns
  exact of_decide_eq_true (List.pairwise_iff_getElem.1 h i j (Nat.lt_trans hi hj) hj hi)
/-- a new row without a number -/
theorem own_emptyI (w : World) : Own (w.alloc (.cells #[] 2)) w.heap.size 2 1 (some ⟨w.heap.size, 0, none⟩) 0 0 (intsC []) :=
  ⟨⟨rfl, .inr ⟨w.heap.size, 0, #[], rfl, Nat.le_refl _, heap_alloc_new _ _, Nat.le_refl _, by simp [maxLen], rfl, rfl⟩⟩, by simp [intsC]⟩
set_option maxHeartbeats 400000 in
theorem clone_any (ns : List Int) (n : Nat) (A : Option Addr) (c : Nat) (w : World) (hl : ns.length = n) (hn : n ≤ 900000) (hr : Rd w w.heap.size 1 A n c (intsC ns)) :
    Calls Tryz.prog 111 #[.slice A n c] w fun e w' => ∃ A' c', e = .returned (.slice A' n c') ∧ Own w' w.heap.size 2 1 A' n c' (intsC ns) ∧ Below w.heap.size w w' := by
  have hnil : ∀ (W : World) (a : Option Addr) (n c n' c' : Nat), (binOp .eql 105 (.slice a n c) (.slice none n' c')).run Tryz.prog W = .ok (.bool a.isNone) W := fun W a n c n' c' => Lib.run_eql_slice_nil W _ _ a n c n' c' Tryz.underlying105
  cases A with
  | none =>
    have hn0 : n = 0 := by
      rcases Nat.eq_zero_or_pos n with h | h
      · exact h
      · obtain ⟨b, o, e, _⟩ := hr.at_ h
        cases e
    subst hn0
    have : ns = [] := List.eq_nil_of_length_eq_zero hl
    subst this
    clear hr hl
    go_enter Tryz.func111, Tryz.ntmps111
    go_wp2
    go_ret
    exact ⟨none, 0, rfl, ⟨World.ownsRow_nil _ _ _ _, by simp [intsC]⟩, Below.refl _ _⟩
  | some a =>
    obtain ⟨A2, c2, w2, hrun, ho, hb⟩ := run_apps (own_emptyI w) ((hr.alloc (Nat.le_refl _) (.cells #[] 2)).more (by simp)) (by omega) (by simp)
    rw [List.nil_append, Nat.zero_add] at ho
    rw [Nat.zero_add] at hrun
    have Hrun := Lib.hid hrun
    have HO := Lib.hid ho
    have HB := Lib.hid (((Below.refl w.heap.size w).alloc (Nat.le_refl _) (.cells #[] 2)).trans hb)
    clear hr hl hrun ho hb
    go_enter Tryz.func111, Tryz.ntmps111
    go_wp2_with (at_builtin; refine Lib.wpList_append_run _ rfl _ _ _ _ rfl _ _ rfl rfl _ _ Hrun.out ?_)
    go_ret
    exact ⟨A2, c2, rfl, HO.out, HB.out⟩
theorem sort_own (ns : List Int) (n : Nat) (A : Option Addr) (c base : Nat) (w : World) (hl : ns.length = n) (hn : n ≤ 900000) (ho : Own w base 2 1 A n c (intsC ns)) (hb : base ≤ w.heap.size) :
    Calls Tryz.prog 112 #[.slice A n c] w fun e w' => e = .returned (.tuple #[]) ∧ Own w' base 2 1 A n c (intsC (srt ns)) ∧ Below base w w' := by
  rcases Nat.eq_zero_or_pos n with h0 | h0
  · subst h0
    have : ns = [] := List.eq_nil_of_length_eq_zero hl
    subst this
    refine (Go.Proofs.AnyG.slices_Sort_int_none sortI A c w).mono ?_
    rintro e w' ⟨rfl, rfl⟩
    exact ⟨rfl, by rw [show srt [] = [] from List.mergeSort_nil]; exact ho, Below.refl _ _⟩
  · subst hl
    rcases ho.row.2 with ⟨_, h⟩ | ⟨g, cap, cur, hv, hg, hh, h1, h2, h3, h4⟩
    · omega
    · injection hv with e1 _ e3
      subst e1; subst e3
      rw [Nat.mul_one] at h4
      refine (Go.Proofs.AnyG.slices_Sort_int sortI g 0 c ns w (holds_of_blockI hh h4) (Array.getElem?_eq_some_iff.1 hh).1 (by omega)).mono ?_
      rintro e w' ⟨rfl, k, os, rfl⟩
      refine ⟨rfl, ⟨?_, intsC_one _⟩, (Below.refl base w).grown (grownBy_sortedI _) hb (fun k hk => by injection hk with hk; omega)⟩
      exact ownsRow_sortedI (List.length_mergeSort _) hg hh h1 h2 h3
/-- a new row of numbers reads as it lies -/
theorem rd_new (w : World) (ns : List Int) (n : Nat) (hn : ns.length = n) : Rd (w.alloc (.cells (intsC ns).toArray 2)) (w.alloc (.cells (intsC ns).toArray 2)).heap.size 1 (some ⟨w.heap.size, 0, none⟩) n n (intsC ns) :=
  ⟨by rw [intsC_len, hn], Nat.le_refl _, intsC_one _, fun _ => ⟨_, _, rfl, by simp, fun j u hu => by
    rw [Nat.zero_add, cell_of_row _ _ j _ _ (0, 0) (heap_alloc_new _ _)]
    simpa using hu⟩⟩
/-- how far the set is -/
structure OfP (ys : List Int) (k : Nat) (out : List (Int × Int)) : Prop where
  right : RightF 1 out
  has : ∀ n, hasB out n = true ↔ n ∈ ys.take k
  len : out.length ≤ k
  last : ∀ (j : Nat) (h : j < ys.length), k = j + 1 → ∃ d s, out = d ++ [(s, ys[j])]
theorem OfP.zero (ys : List Int) : OfP ys 0 [] := ⟨trivial, fun n => by simp [hasB], Nat.zero_le _, fun j _ h => by omega⟩
theorem OfP.first {ys : List Int} (h : 0 < ys.length) (hb : 1 ≤ ys[0] ∧ ys[0] ≤ 1099511627776) : OfP ys 1 [(ys[0], ys[0])] := by
  refine ⟨⟨hb.1, Int.le_refl _, hb.2, trivial⟩, fun n => ?_, by simp, fun j hj e => ?_⟩
  · rw [List.take_one, List.head?_eq_getElem?, List.getElem?_eq_getElem h]
    simp [hasB]; omega
  · obtain rfl : j = 0 := by omega
    exact ⟨[], ys[0], rfl⟩
theorem OfP.push {ys _d : List Int} {out : List (Int × Int)} {j : Nat} (h : OfP ys (j + 1) out) (hj : j + 1 < ys.length) (hle : ys[j] + 1 < ys[j + 1]) (hb : ys[j + 1] ≤ 1099511627776) : OfP ys (j + 1 + 1) (out ++ [(ys[j + 1], ys[j + 1])]) := by
  obtain ⟨d, s, hd⟩ := h.last j (by omega) rfl
  have hr := h.right
  rw [hd] at hr
  obtain ⟨k1, k2, k3, k4, k5⟩ := hr.of_snoc
  dsimp only at k2 k3 k4 k5
  refine ⟨h.right.snoc (fun q hq => ?_) (by show 1 ≤ ys[j + 1]; omega) (Int.le_refl _) hb, fun n => ?_, by have := h.len; simp; omega, fun i hi e => ?_⟩
  · show q.2 + 2 ≤ ys[j + 1]
    rw [hd] at hq
    rcases List.mem_append.1 hq with hq | hq
    · have := k2 q hq; omega
    · rw [List.mem_singleton.1 hq]; show ys[j] + 2 ≤ _; omega
  · rw [has_append, Bool.or_eq_true, h.has n, List.take_succ_eq_append_getElem hj, List.mem_append, has_cons, has_nil, Bool.or_false, List.mem_singleton, decide_eq_true_eq]
    dsimp only
    constructor
    · rintro (h | h)
      · exact .inl h
      · right; omega
    · rintro (h | h)
      · exact .inl h
      · right; omega
  · obtain rfl : i = j + 1 := by omega
    exact ⟨out, ys[j + 1], rfl⟩
theorem OfP.grow {ys : List Int} {d : List (Int × Int)} {s : Int} {j : Nat} (hj : j + 1 < ys.length) (h : OfP ys (j + 1) (d ++ [(s, ys[j])])) (hle : ys[j] ≤ ys[j + 1]) (hle2 : ys[j + 1] ≤ ys[j] + 1) (hb : ys[j + 1] ≤ 1099511627776) : OfP ys (j + 1 + 1) (d ++ [(s, ys[j + 1])]) := by
  obtain ⟨k1, k2, k3, k4, k5⟩ := h.right.of_snoc
  dsimp only at k2 k3 k4 k5
  refine ⟨k1.snoc k2 k3 (by show s ≤ ys[j + 1]; omega) hb, fun n => ?_, by have := h.len; simp at this ⊢; omega, fun i hi e => ?_⟩
  · have h1 := h.has n
    rw [has_append, Bool.or_eq_true, has_cons, has_nil, Bool.or_false, decide_eq_true_eq] at h1
    rw [has_append, Bool.or_eq_true, List.take_succ_eq_append_getElem hj, List.mem_append, ← h1, has_cons, has_nil, Bool.or_false, List.mem_singleton, decide_eq_true_eq]
    dsimp only at h1 ⊢
    constructor
    · rintro (h | h)
      · exact .inl (.inl h)
      · rcases (by omega : n ≤ ys[j] ∨ n = ys[j + 1]) with h' | h'
        · exact .inl (.inr ⟨h.1, h'⟩)
        · exact .inr h'
    · rintro ((h | h) | h)
      · exact .inl h
      · right; omega
      · right; omega
  · obtain rfl : i = j + 1 := by omega
    exact ⟨d, s, rfl⟩
/-- what 'Of' answers -/
def OfIs (ns : List Int) (w : World) (e : Ending) (w' : World) : Prop :=
  ((∀ x ∈ ns, 1 ≤ x ∧ x ≤ 1099511627776) ∧ ∃ l A c, e = .returned (.tuple #[.slice A l.length c, .int .i64 0]) ∧ SetIs ns l ∧ l.length ≤ ns.length ∧ Own w' w.heap.size 138 2 A l.length c (runsC l) ∧ Below w.heap.size w w') ∨
  ((∃ x ∈ ns, x < 1 ∨ 1099511627776 < x) ∧ e = .returned (.tuple #[.slice none 0 0, .int .i64 1]) ∧ Below w.heap.size w w')
set_option maxRecDepth 100000 in
set_option maxHeartbeats 4000000 in
theorem of_any (ns : List Int) (n : Nat) (A : Option Addr) (c : Nat) (w : World) (hl : ns.length = n) (hn : n ≤ 100000) (hr : Rd w w.heap.size 1 A n c (intsC ns)) :
    Calls Tryz.prog 85 #[.slice A n c] w (OfIs ns w) := by
  have HC := Lib.hid (clone_any ns n A c w hl (by omega) hr)
  have HL := Lib.hid hl
  clear hl hr
  go_enter Tryz.func85, Tryz.ntmps85
  go_wp2_with fail
  refine HC.out.mono ?_
  rintro e w1 ⟨A1, c1, rfl, ho1, hb1⟩
  have HS := Lib.hid (sort_own ns n A1 c1 w.heap.size w1 HL.out (by omega) ho1 hb1.size)
  have HB1 := Lib.hid hb1
  clear ho1 hb1 HC
  go_wp2_with fail
  refine HS.out.mono ?_
  rintro e w2 ⟨rfl, ho2, hb2⟩
  have HB2 := Lib.hid (HB1.out.trans hb2)
  have HR := Lib.hid ho2.rd
  clear ho2 hb2 HS HB1
  obtain ⟨ys, hys⟩ : ∃ ys, ys = srt ns := ⟨_, rfl⟩
  have HLE : Hid (∀ (i j : Nat) (hi : i < j) (hj : j < ys.length), ys[i] ≤ ys[j]) := by
    subst hys
    exact fun i j hi hj => srt_le ns hi hj
  have HYL : Hid (ys.length = n) := by rw [hys]; exact (srt_len ns).trans HL.out
  have HM : Hid (∀ x, x ∈ ys ↔ x ∈ ns) := by rw [hys]; exact fun x => srt_mem
  rw [← hys] at HR
  clear hys
  go_wp2
  go_loopw [5, 14] (fun lv iv wr => ∃ (k q : Nat) (A' : Option Addr) (c' : Nat) (out : List (Int × Int)), k ≤ n ∧ lv = .slice A' q c' ∧ iv = .int .i64 k ∧ Hid (q = out.length) ∧ Hid (OfP ys k out) ∧ Hid (∀ x ∈ ys.take k, 1 ≤ x ∧ x ≤ 1099511627776) ∧ Hid (Own wr w2.heap.size 138 2 A' q c' (runsC out)) ∧ Hid (Below w2.heap.size w2 wr)) (fun _ iv _ => n - (intOf iv).toNat)
  case atStart => exact ⟨0, 0, none, 0, [], by omega, rfl, rfl, rfl, OfP.zero _, Lib.hid (by simp), ⟨World.ownsRow_nil _ _ _ _, by simp [runsC]⟩, Below.refl _ _⟩
  case round =>
    obtain ⟨k, q, A', c', out, hk, rfl, rfl, HQ, HI, HG, HO, HB⟩ := hrel
    by_cases hlt : k < n
    · have hky : k < ys.length := by rw [HYL.out]; exact hlt
      obtain ⟨b, o, rfl, hbl, hc⟩ := rd_int HR.out HYL.out hlt
      have q0 := hc k hky
      obtain ⟨x, hx⟩ : ∃ x, x = ys[k] := ⟨_, rfl⟩
      have HX := Lib.hid hx
      rw [← hx] at q0
      have q0 := (HB.out.cell (p := ⟨b, o + k, none⟩) hbl).trans q0
      have HBW : Hid (Below w.heap.size w wr) := HB2.out.trans (HB.out.mono HB2.out.size)
      by_cases h1 : x < 1
      · have f1 : decide (x < 1) = true := by simpa using h1
        have HE : Hid (∃ x ∈ ns, x < 1 ∨ 1099511627776 < x) := ⟨x, (HM.out x).1 (by rw [hx]; exact List.getElem_mem hky), .inl h1⟩
        clear hc hx
        go_wp2
        go_ret2
        exact .inr ⟨HE.out, rfl, HBW.out⟩
      · have f1 : decide (x < 1) = false := by simpa using h1
        by_cases h2 : 1099511627776 < x
        · have f2 : decide (1099511627776 < x) = true := by simpa using h2
          have HE : Hid (∃ x ∈ ns, x < 1 ∨ 1099511627776 < x) := ⟨x, (HM.out x).1 (by rw [hx]; exact List.getElem_mem hky), .inr h2⟩
          clear hc hx
          go_wp2
          go_ret2
          exact .inr ⟨HE.out, rfl, HBW.out⟩
        · have f2 : decide (1099511627776 < x) = false := by simpa using h2
          have HG2 : Hid (∀ x ∈ ys.take (k + 1), 1 ≤ x ∧ x ≤ 1099511627776) := fun y hy => by
            rw [List.take_succ_eq_append_getElem hky] at hy
            rcases List.mem_append.1 hy with hy | hy
            · exact HG.out y hy
            · rw [List.mem_singleton.1 hy, ← hx]; omega
          have hlen := HI.out.len
          rcases Nat.eq_zero_or_pos k with rfl | hk0
          · have hout : out = [] := List.eq_nil_of_length_eq_zero (by omega)
            subst hout
            have hq : q = 0 := HQ.out
            subst hq
            have HY : Hid (OfP ys 1 ([] ++ [(x, x)])) := by
              unfold Hid
              rw [HX.out]
              exact OfP.first hky (by rw [← hx]; omega)
            simp only [Nat.add_zero] at q0
            obtain ⟨A2, c2, w3, hrun2, ho2', hb2'⟩ := push_run Tryz.underlying107 infoR wr w2.heap.size wr.heap.size rfl HB.out.size _ ([] : List (Int × Int)) HO.out.row x x (by omega)
            have Hrun2 := Lib.hid hrun2
            have HO2 := Lib.hid ho2'
            have HB3 := Lib.hid (HB.out.trans hb2')
            obtain ⟨q2, hq2⟩ : ∃ q2, q2 = (([] : List (Int × Int)) ++ [(x, x)]).length := ⟨_, rfl⟩
            rw [← hq2] at Hrun2 HO2
            have HQ2 := Lib.hid hq2
            clear hrun2 ho2' hb2' hq2 hc hx hlen
            go_wp2_with (at_builtin; refine Lib.wpList_append_run _ rfl _ _ _ _ rfl _ _ rfl rfl _ _ Hrun2.out ?_)
            go_roundw
            case rel => exact ⟨1, q2, A2, c2, ([] : List (Int × Int)) ++ [(x, x)], by omega, rfl, rfl, HQ2.out, HY.out, HG2.out, HO2.out, HB3.out⟩
            case measure => simp [intOf]; omega
          · obtain ⟨j, rfl⟩ : ∃ j, k = j + 1 := ⟨k - 1, by omega⟩
            obtain ⟨dd, s, hd⟩ := HI.out.last j (by omega) rfl
            obtain ⟨e0, he0⟩ : ∃ e, e = ys[j] := ⟨_, rfl⟩
            have hord := HLE.out j (j + 1) (by omega) hky
            have hjy : j < ys.length := by omega
            have he1 := HG.out e0 (by rw [he0, List.take_succ_eq_append_getElem hjy]; exact List.mem_append_right _ List.mem_cons_self)
            rw [← he0] at hd hord
            rw [← hx] at hord
            subst hd
            obtain ⟨D, hD⟩ : ∃ D, D = dd.length := ⟨_, rfl⟩
            have hq : q = D + 1 := by rw [hD]; have := HQ.out; simpa using this
            subst hq
            have hD2 : D ≤ 400000 := by rw [List.length_append, List.length_singleton] at hlen; omega
            obtain ⟨g, rfl, hgb, hgl, hfz, hcell⟩ := Own.place HO.out (by omega)
            have hfz := hfz (D * 2 + 1)
            have hcl : wr.cell? ⟨g, D * 2 + 1, none⟩ = some (.int .i64 e0) := by
              have := (runsC_at (dd ++ [(s, e0)]) D (by simp [hD])).2
              rw [show (dd ++ [(s, e0)])[D]'(by simp [hD]) = (s, e0) from by simp [hD]] at this
              exact hcell _ _ this
            have eD : (dd ++ [(s, e0)]).length = D + 1 := by simp [hD]
            by_cases he : e0 + 1 < x
            · have f5 : decide (e0 + 1 < x) = true := by simpa using he
              have HY : Hid (OfP ys (j + 1 + 1) ((dd ++ [(s, e0)]) ++ [(x, x)])) := by
                unfold Hid
                rw [HX.out]
                exact OfP.push (_d := []) HI.out hky (by rw [← hx, ← he0]; exact he) (by rw [← hx]; omega)
              have hown : wr.ownsRow w2.heap.size 138 2 (.slice (some ⟨g, 0, none⟩) (D + 1) c') (dd ++ [(s, e0)]).length (runsC (dd ++ [(s, e0)])) := by rw [eD]; exact HO.out.row
              obtain ⟨A2, c2, w3, hrun2, ho2', hb2'⟩ := push_run Tryz.underlying107 infoR wr w2.heap.size wr.heap.size rfl HB.out.size _ (dd ++ [(s, e0)]) hown x x (by omega)
              have Hrun2 := Lib.hid hrun2
              have HO2 := Lib.hid ho2'
              have HB3 := Lib.hid (HB.out.trans hb2')
              obtain ⟨q2, hq2⟩ : ∃ q2, q2 = ((dd ++ [(s, e0)]) ++ [(x, x)]).length := ⟨_, rfl⟩
              rw [← hq2] at Hrun2 HO2
              have HQ2 := Lib.hid hq2
              clear hrun2 ho2' hb2' hq2 hcell hD eD hown hc hx he0 hlen he
              go_wp2_with (at_builtin; refine Lib.wpList_append_run _ rfl _ _ _ _ rfl _ _ rfl rfl _ _ Hrun2.out ?_)
              go_roundw
              case rel => exact ⟨j + 1 + 1, q2, A2, c2, (dd ++ [(s, e0)]) ++ [(x, x)], by omega, rfl, by go_num, HQ2.out, HY.out, HG2.out, HO2.out, HB3.out⟩
              case measure => simp [intOf]; omega
            · have f5 : decide (e0 + 1 < x) = false := by simpa using he
              have HY : Hid (OfP ys (j + 1 + 1) (dd ++ [(s, x)])) := by
                unfold Hid
                rw [HX.out]
                refine OfP.grow hky (by rw [← he0]; exact HI.out) (by rw [← hx, ← he0]; exact hord) (by rw [← hx, ← he0]; omega) (by rw [← hx]; omega)
              have HO2 : Hid (Own (wr.setCell ⟨g, D * 2 + 1, none⟩ (.int .i64 x)) w2.heap.size 138 2 (some ⟨g, 0, none⟩) (D + 1) c' (runsC (dd ++ [(s, x)]))) := by
                rw [hD]
                exact own_close (by rw [← hD]; exact HO.out)
              have HB3 : Hid (Below w2.heap.size w2 (wr.setCell ⟨g, D * 2 + 1, none⟩ (.int .i64 x))) := HB.out.setCell hgb _
              have HQ2 : Hid (D + 1 = (dd ++ [(s, x)]).length) := by unfold Hid; rw [hD]; simp
              clear hcell hD eD hc hx he0 hlen he
              go_wp2
              go_roundw
              case rel => exact ⟨j + 1 + 1, D + 1, _, c', dd ++ [(s, x)], by omega, rfl, by go_num, HQ2.out, HY.out, HG2.out, HO2.out, HB3.out⟩
              case measure => simp [intOf]; omega
    · obtain rfl : k = n := by omega
      have hI := HI.out
      have hG := HG.out
      have htk : ys.take k = ys := List.take_of_length_le (by rw [HYL.out]; omega)
      have HSET : Hid (SetIs ns out) := ⟨hI.right, fun m => by rw [hI.has m, htk]; exact HM.out m⟩
      have HGD : Hid (∀ x ∈ ns, 1 ≤ x ∧ x ≤ 1099511627776) := fun x hx => hG x (by rw [htk]; exact (HM.out x).2 hx)
      have HLN : Hid (out.length ≤ ns.length) := by unfold Hid; rw [HL.out]; exact hI.len
      have hq := HQ.out
      subst hq
      clear hI hG htk
      go_wp2
      go_ret2
      exact .inl ⟨HGD.out, out, _, _, rfl, HSET.out, HLN.out, HO.out.mono HB2.out.size, HB2.out.trans (HB.out.mono HB2.out.size)⟩
end Sp
end Go.Proofs.YtcbclefemcmhpaaGreat
namespace Go.Proofs.YtcbclefemcmhpaaGreat
open Go.ChangeShapes Go.WideShapes Go.ChangeAt Go.RowKit
namespace Cx
open Sp Rw
set_option maxRecDepth 100000 in
set_option maxHeartbeats 1000000 in
theorem part_any (l : List S3) (n : Nat) (A : Option Addr) (c : Nat) (dc : Int) (w : World) (hl : l.length = n) (hn : n ≤ 800000) (hr : Rd w w.heap.size 3 A n c (spsC l)) :
    Calls Tryz.prog 56 #[.slice A n c, .int .i64 dc] w fun e w' => ∃ A' q c', e = .returned (.slice A' q c') ∧ Hid ((part l dc).length = q) ∧ Own w' w.heap.size 103 2 A' q c' (runsC (part l dc)) ∧ Below w.heap.size w w' := by
  have HR := Lib.hid hr
  have HL := Lib.hid hl
  clear hr hl
  go_enter Tryz.func56, Tryz.ntmps56
  go_wp2
  go_loopw [5, 9] (fun v i wr => ∃ (k m : Nat) (A' : Option Addr) (c' : Nat), k ≤ n ∧ v = .slice A' m c' ∧ i = .int .i64 k ∧ Hid ((part (l.take k) dc).length = m) ∧ Hid (Own wr w.heap.size 103 2 A' m c' (runsC (part (l.take k) dc))) ∧ Hid (Below w.heap.size w wr)) (fun _ i _ => n - (intOf i).toNat)
  case atStart => exact ⟨0, 0, none, 0, by omega, rfl, rfl, rfl, ⟨World.ownsRow_nil _ _ _ _, by simp [part, runsC]⟩, Below.refl _ _⟩
  case round =>
    obtain ⟨k, m, A', c', hk, rfl, rfl, HM, HO, HB⟩ := hrel
    by_cases hlt : k < n
    · have hkl : k < l.length := by rw [HL.out]; exact hlt
      obtain ⟨b, o, rfl, hbl, hc⟩ := rd_span HR.out hlt
      obtain ⟨q0, q1, q2⟩ := hc k hkl
      obtain ⟨p, hp⟩ : ∃ p, p = l[k] := ⟨_, rfl⟩
      have htk := part_take hkl hp dc
      rw [← hp] at q0 q1 q2
      obtain ⟨a, x, y⟩ := p
      have q0 := (HB.out.cell (p := ⟨b, o + k * 3, none⟩) hbl).trans q0
      have q1 := (HB.out.cell (p := ⟨b, o + k * 3 + 1, none⟩) hbl).trans q1
      have q2 := (HB.out.cell (p := ⟨b, o + k * 3 + 2, none⟩) hbl).trans q2
      clear hc hp
      by_cases he : a = dc
      · have f1 : (a == dc) = true := by simpa using he
        rw [if_pos he] at htk
        dsimp only at htk
        have hml : (part (l.take k) dc).length ≤ 800000 := Nat.le_trans (part_len _ _) (by rw [List.length_take]; omega)
        have hown := ownsRow_later HO.out.row ((Below.refl wr.heap.size wr).drew)
        rw [← HM.out] at hown
        obtain ⟨A2, c2, w2, hrun, ho2, hb2⟩ := push_run Tryz.underlying81 infoP wr.drew w.heap.size wr.heap.size (by simp) (by have := HB.out.size; simp; omega) _ (part (l.take k) dc) hown x y (by omega)
        rw [← htk] at hrun ho2
        rw [HM.out] at hrun
        obtain ⟨m2, hm2⟩ : ∃ m2, m2 = (part (l.take (k + 1)) dc).length := ⟨_, rfl⟩
        rw [← hm2] at hrun ho2
        have Hrun := Lib.hid hrun
        have HO2 := Lib.hid ho2
        have HB2 := Lib.hid ((HB.out.drew).trans hb2)
        have HM2 : Hid ((part (l.take (k + 1)) dc).length = m2) := hm2.symm
        clear hrun ho2 hb2 htk hown hm2 HO HM hml
        go_wp2
        go_region_law (refine upon_append _ _ _ rfl rfl rfl Hrun.out ?_)
        all_goals
          clear Hrun q0 q1 q2
          go_wp2
          go_roundw
          case rel => exact ⟨k + 1, m2, A2, c2, by omega, rfl, by go_num, HM2.out, HO2.out, HB2.out⟩
          case measure => simp [intOf]; omega
      · have f1 : (a == dc) = false := by simpa using he
        rw [if_neg he] at htk
        rw [← htk] at HO HM
        clear htk
        go_wp2
        go_roundw
        case rel => exact ⟨k + 1, m, A', c', by omega, rfl, by go_num, HM.out, HO.out, HB.out⟩
        case measure => simp [intOf]; omega
    · obtain rfl : k = n := by omega
      have HE : Hid (l.take k = l) := List.take_of_length_le (by rw [HL.out]; omega)
      rw [HE.out] at HO HM
      go_wp2
      go_ret
      exact ⟨_, m, _, rfl, HM.out, HO.out, HB.out⟩
theorem spansTake {d : Int} {l : List (Int × Int)} {k : Nat} (h : k < l.length) {r : Int × Int} (hr : r = l[k]) : spans d (l.take (k + 1)) = spans d (l.take k) ++ [(d, r)] := by
  rw [List.take_succ_eq_append_getElem h, ← hr]
  simp [spans]
theorem spansLen (d : Int) (l : List (Int × Int)) : (spans d l).length = l.length := by simp [spans]
set_option maxRecDepth 100000 in
set_option maxHeartbeats 1000000 in
theorem spans_any (l : List (Int × Int)) (n : Nat) (A : Option Addr) (c : Nat) (dc : Int) (w : World) (hl : l.length = n) (hn : n ≤ 800000) (hr : Rd w w.heap.size 2 A n c (runsC l)) :
    Calls Tryz.prog 92 #[.int .i64 dc, .slice A n c] w fun e w' => ∃ A' c', e = .returned (.slice A' n c') ∧ Own w' w.heap.size 55 3 A' n c' (spsC (spans dc l)) ∧ Below w.heap.size w w' := by
  have HR := Lib.hid hr
  have HL := Lib.hid hl
  clear hr hl
  go_enter Tryz.func92, Tryz.ntmps92
  go_wp2
  go_loopw [5, 9] (fun v i wr => ∃ (k : Nat) (A' : Option Addr) (c' : Nat), k ≤ n ∧ v = .slice A' k c' ∧ i = .int .i64 k ∧ Hid (Own wr w.heap.size 55 3 A' k c' (spsC (spans dc (l.take k)))) ∧ Hid (Below w.heap.size w wr)) (fun _ i _ => n - (intOf i).toNat)
  case atStart => exact ⟨0, none, 0, by omega, rfl, rfl, ⟨World.ownsRow_nil _ _ _ _, by simp [spans, spsC]⟩, Below.refl _ _⟩
  case round =>
    obtain ⟨k, A', c', hk, rfl, rfl, HO, HB⟩ := hrel
    by_cases hlt : k < n
    · have hkl : k < l.length := by rw [HL.out]; exact hlt
      obtain ⟨b, o, rfl, hbl, hc⟩ := rd_run HR.out HL.out hlt
      obtain ⟨q0, q1⟩ := hc k hkl
      obtain ⟨p, hp⟩ : ∃ p, p = l[k] := ⟨_, rfl⟩
      have htk := spansTake (d := dc) hkl hp
      rw [← hp] at q0 q1
      obtain ⟨x, y⟩ := p
      have q0 := (HB.out.cell (p := ⟨b, o + k * 2, none⟩) hbl).trans q0
      have q1 := (HB.out.cell (p := ⟨b, o + k * 2 + 1, none⟩) hbl).trans q1
      have hlk : (spans dc (l.take k)).length = k := by rw [spansLen, List.length_take]; omega
      have hown := ownsRow_later HO.out.row ((Below.refl wr.heap.size wr).drew)
      rw [show (k : Nat) = (spans dc (l.take k)).length from hlk.symm] at hown
      obtain ⟨A2, c2, w2, hrun, ho2, hb2⟩ := push spC_len spC_one Tryz.underlying27 infoS rfl (by omega) (by omega) wr.drew w.heap.size wr.heap.size (by simp) (by have := HB.out.size; simp; omega) _ (spans dc (l.take k)) (by rw [hlk] at hown ⊢; exact hown) (dc, x, y) #[.int .i64 dc, .int .i64 x, .int .i64 y] rfl (by rw [hlk]; omega)
      have e2 : (spans dc (l.take k) ++ [(dc, x, y)]).length = k + 1 := by simp [hlk]
      have e3 : (spans dc (l.take k) ++ [(dc, x, y)]).flatMap spC = spsC (spans dc (l.take (k + 1))) := by rw [htk]; rfl
      rw [e2] at hrun
      rw [e2, e3] at ho2
      have Hrun := Lib.hid hrun
      have HO2 := Lib.hid ho2
      have HB2 := Lib.hid ((HB.out.drew).trans hb2)
      clear hc hp hrun ho2 hb2 hown htk hlk e2 e3 HO
      go_wp2
      go_region_law (refine upon_append _ _ _ rfl rfl rfl Hrun.out ?_)
      all_goals
        clear Hrun q0 q1
        go_wp2
        go_roundw
        case rel => exact ⟨k + 1, A2, c2, by omega, by go_num, by go_num, HO2.out, HB2.out⟩
        case measure => simp [intOf]; omega
    · obtain rfl : k = n := by omega
      have HE : Hid (l.take k = l) := List.take_of_length_le (by rw [HL.out]; omega)
      rw [HE.out] at HO
      go_wp2
      go_ret
      exact ⟨_, _, rfl, HO.out, HB.out⟩
end Cx
end Go.Proofs.YtcbclefemcmhpaaGreat
namespace Go.Proofs.YtcbclefemcmhpaaGreat
open Go.ChangeShapes Go.WideShapes Go.ChangeAt Go.RowKit
namespace Cx
open Sp Rw
theorem ownsNo (l : List S3) (h : ¬ RiseC 0 l) {b : Bool} (hb : rightCB l = b) : false = b := by rw [← hb]; exact (rightCB_false fun h2 => h h2.rise).symm
set_option maxRecDepth 100000 in
set_option maxHeartbeats 2000000 in
theorem refrightC_any (l : List S3) (n : Nat) (A : Option Addr) (c : Nat) (w : World) (hl : l.length = n) (hn : n ≤ 100000) (hr : Rd w w.heap.size 3 A n c (spsC l)) (b : Bool) (hb : rightCB l = b) :
    Calls Tryz.prog 37 #[.slice A n c] w fun e w' => e = .returned (.bool b) ∧ Below w.heap.size w w' := by
  have HR := Lib.hid hr
  have HL := Lib.hid hl
  have HRB := Lib.hid hb
  clear hr hl hb
  go_enter Tryz.func37, Tryz.ntmps37
  go_wp2
  go_loopw [7] (fun i wr => ∃ (k : Nat) (m : Int), k ≤ n ∧ i = .int .i64 k ∧ Hid (0 ≤ m) ∧ Hid (k = 0 → m = 0) ∧ Hid (∀ (j : Nat) (h : j < l.length), k = j + 1 → m = l[j].1) ∧ Hid (RiseC 0 l ↔ RiseC m (l.drop k)) ∧ Hid (Below w.heap.size w wr)) (fun i _ => n - (intOf i).toNat)
  case atStart => exact ⟨0, 0, by omega, rfl, Int.le_refl 0, fun _ => rfl, fun j _ h => by omega, Iff.rfl, Below.refl _ _⟩
  case round =>
    obtain ⟨k, m, hk, rfl, HM, HM0, HM1, HI, HB⟩ := hrel
    by_cases hlt : k < n
    · have hkl : k < l.length := by rw [HL.out]; exact hlt
      obtain ⟨b1, o, rfl, hbl, hc⟩ := rd_span HR.out hlt
      obtain ⟨q0, _, _⟩ := hc k hkl
      obtain ⟨p, hp⟩ : ∃ p, p = l[k] := ⟨_, rfl⟩
      have HD := Lib.hid (dropC_at hkl hp)
      have HP : Hid (p = l[k]) := Lib.hid hp
      rw [← hp] at q0
      obtain ⟨a, xy⟩ := p
      dsimp only at q0
      have q0 := (HB.out.cell (p := ⟨b1, o + k * 3, none⟩) hbl).trans q0
      have HBe : ∀ q', Hid (Below w.heap.size w (wr.drewN q')) := fun q' => bel_drewN HB.out _
      have hm := HM.out
      by_cases h1 : a < 0
      · have f1 : decide (a < 0) = true := by simpa using h1
        have HE : Hid (false = b) := ownsNo l (fun h => by have := HI.out.1 h; rw [HD.out] at this; have := this.1; dsimp only at this; omega) HRB.out
        clear hc hp
        go_wp2
        go_quiet (fail)
        go_wp2
        go_ret
        exact ⟨ret_bool HE.out, (HBe _).out⟩
      · have f1 : decide (a < 0) = false := by simpa using h1
        by_cases h2 : 4 ≤ a
        · have f2 : decide (4 ≤ a) = true := by simpa using h2
          have HE : Hid (false = b) := ownsNo l (fun h => by have := HI.out.1 h; rw [HD.out] at this; have := this.2.1; dsimp only at this; omega) HRB.out
          clear hc hp
          go_wp2
          go_quiet (fail)
          go_wp2
          go_ret
          exact ⟨ret_bool HE.out, (HBe _).out⟩
        · have f2 : decide (4 ≤ a) = false := by simpa using h2
          have hstep : m ≤ a → (RiseC 0 l ↔ RiseC a (l.drop (k + 1))) := fun h => by
            refine Iff.trans HI.out ?_
            rw [HD.out]
            exact ⟨fun h => h.2.2, fun h3 => ⟨h, by show a < 4; omega, h3⟩⟩
          have hnext : Hid (∀ (j : Nat) (h : j < l.length), k + 1 = j + 1 → a = l[j].1) := fun j h e => by
            have : j = k := by omega
            subst this
            rw [← HP.out]
          rcases Nat.eq_zero_or_pos k with rfl | hk0
          · have hm0 := HM0.out rfl
            have HST := hstep (by omega)
            clear hc hp hstep
            simp only [Nat.zero_mul, Nat.add_zero] at q0
            go_wp2
            go_quiet (fail)
            go_wp2
            go_roundw
            case rel => exact ⟨1, a, by omega, rfl, by unfold Hid; omega, fun h => by omega, hnext.out, HST, (HBe _).out⟩
            case measure => simp [intOf]; omega
          · obtain ⟨k, rfl⟩ : ∃ j, k = j + 1 := ⟨k - 1, by omega⟩
            obtain ⟨r0, _, _⟩ := hc k (by omega)
            have hme := HM1.out k (by omega) rfl
            rw [← hme] at r0
            have r0 := (HB.out.cell (p := ⟨b1, o + k * 3, none⟩) hbl).trans r0
            have hk1 : ((k + 1 : Nat) : Int) - 1 = (k : Int) := by omega
            have hk2 : decide ((0 : Int) < ((k + 1 : Nat) : Int)) = true := decide_eq_true (by omega)
            by_cases h4 : a < m
            · have f4 : decide (a < m) = true := by simpa using h4
              have HE : Hid (false = b) := ownsNo l (fun h => by have := HI.out.1 h; rw [HD.out] at this; have := this.1; dsimp only at this; omega) HRB.out
              clear hc hp hstep hnext hme
              go_wp2
              go_quiet (fail)
              go_wp2
              go_ret
              exact ⟨ret_bool HE.out, (HBe _).out⟩
            · have f4 : decide (a < m) = false := by simpa using h4
              have HST := Lib.hid (hstep (by omega))
              clear hc hp hstep hme
              go_wp2
              go_quiet (fail)
              go_wp2
              go_roundw
              case rel => exact ⟨k + 1 + 1, a, by omega, by go_num, by unfold Hid; omega, fun h => by omega, hnext.out, HST.out, (HBe _).out⟩
              case measure => simp [intOf]; omega
    · obtain rfl : k = n := by omega
      have HRI : Hid (RiseC 0 l) := HI.out.2 (by rw [List.drop_eq_nil_of_le (by rw [HL.out]; omega)]; trivial)
      clear HI HM HM0 HM1
      go_wp2
      go_loopw [43] (fun i wr => ∃ (d : Nat), d ≤ 4 ∧ i = .int .i64 d ∧ Hid (∀ j : Nat, j < d → Sp.rightB (part l j) = true) ∧ Hid (Below w.heap.size w wr)) (fun i _ => 4 - (intOf i).toNat)
      case atStart => exact ⟨0, by omega, rfl, fun j hj => by omega, HB.out⟩
      case round =>
        clear HB
        obtain ⟨d, hd, rfl, HG, HB⟩ := hrel
        by_cases hd4 : d < 4
        · have HC := Lib.hid (part_any l k A c d wr HL.out (by omega) ((HR.out.below HB.out).more HB.out.size))
          have HPL : Hid ((part l d).length ≤ 100000) := Nat.le_trans (part_len _ _) (by rw [HL.out]; exact hn)
          cases hrb : Sp.rightB (part l d) with
          | false =>
            have HBF : Hid (false = b) := by
              unfold Hid
              rw [← HRB.out]
              refine (rightCB_false fun h => ?_).symm
              have := rightB_true (h.part d (by unfold Cen; omega))
              rw [hrb] at this
              cases this
            have HRB := Lib.hid hrb
            clear hrb
            go_wp2_with fail
            refine HC.out.mono ?_
            rintro e w1 ⟨A1, q1, c1, rfl, HL1, ho1, hb1⟩
            have HC2 := Lib.hid (refright_any (part l d) q1 A1 c1 w1 HL1.out (by have := HL1.out; have := HPL.out; omega) ho1.rd)
            rw [HRB.out] at HC2
            have HB1 := Lib.hid (HB.out.trans (hb1.mono HB.out.size))
            clear ho1 hb1
            go_wp2_with (go_at_call 66; refine HC2.out.mono ?_; rintro e w2 ⟨rfl, hb2⟩)
            go_ret
            exact ⟨ret_bool HBF.out, HB1.out.trans (hb2.mono HB1.out.size)⟩
          | true =>
            have HG2 : Hid (∀ j : Nat, j < d + 1 → Sp.rightB (part l j) = true) := fun j hj => by
              rcases (by omega : j < d ∨ j = d) with h | rfl
              · exact HG.out j h
              · exact hrb
            have HRB := Lib.hid hrb
            clear hrb
            go_wp2_with fail
            refine HC.out.mono ?_
            rintro e w1 ⟨A1, q1, c1, rfl, HL1, ho1, hb1⟩
            have HC2 := Lib.hid (refright_any (part l d) q1 A1 c1 w1 HL1.out (by have := HL1.out; have := HPL.out; omega) ho1.rd)
            rw [HRB.out] at HC2
            have HB1 := Lib.hid (HB.out.trans (hb1.mono HB.out.size))
            clear ho1 hb1
            go_wp2_with (go_at_call 66; refine HC2.out.mono ?_; rintro e w2 ⟨rfl, hb2⟩; have HB2 := Lib.hid (HB1.out.trans (hb2.mono HB1.out.size)); clear hb2)
            go_roundw
            case rel => exact ⟨d + 1, by omega, by go_num, HG2.out, HB2.out⟩
            case measure => simp [intOf]; omega
        · obtain rfl : d = 4 := by omega
          have HBT : Hid (true = b) := by
            unfold Hid
            rw [← HRB.out]
            refine (rightCB_true ⟨HRI.out, fun e he => ?_⟩).symm
            rcases cen_cases he with rfl | rfl | rfl | rfl
            · exact of_decide_eq_true (HG.out 0 (by omega))
            · exact of_decide_eq_true (HG.out 1 (by omega))
            · exact of_decide_eq_true (HG.out 2 (by omega))
            · exact of_decide_eq_true (HG.out 3 (by omega))
          go_wp2
          go_ret
          exact ⟨ret_bool HBT.out, HB.out⟩
end Cx
end Go.Proofs.YtcbclefemcmhpaaGreat
namespace Go.Proofs.YtcbclefemcmhpaaGreat
open Go.RowKit Go.Shelf
namespace Tr
open Sp Rw
attribute [local go_sem] Oper.semAt_some
/-- what a round keeps: all below n₀, and a box -/
def KpB (n₀ Bs : Nat) (W W' : World) : Prop := Below n₀ W W' ∧ W'.cell? ⟨Bs, 0, none⟩ = W.cell? ⟨Bs, 0, none⟩
theorem kpB_t {n₀ Bs : Nat} {A B C : World} (h : KpB n₀ Bs A B) (k : KpB n₀ Bs B C) : KpB n₀ Bs A C := ⟨h.1.trans k.1, k.2.trans h.2⟩
theorem kpB_b {n₀ Bs : Nat} {w : World} (hn : n₀ ≤ w.heap.size) (hb : Bs < w.heap.size) (W : World) (l : Nat) (o o' : Obj) (hl : w.heap.size ≤ l) (h : W.heap[l]? = some o) (hc : o.isCells = false) (hw : o.isWalk = false) : KpB n₀ Bs W (W.putObj l o') :=
  ⟨belowK_b hn W l o o' hl h hc hw, World.cell?_of_block (a := ⟨Bs, 0, none⟩) (World.putObj_heap_other (show Bs ≠ l by omega))⟩
/-- the texts from the last one on -/
def backOf (f : Nat → ByteArray) (len : Nat) (j : Nat) : Nat × ByteArray := (len - 1 - j, f (len - 1 - j))
/-- the keys, the last one first -/
theorem back_all (l : List ByteArray) {n : Nat} (h : l.length = n) : ((upto (backOf (fun j => l[j]?.getD ByteArray.empty) n) n).map fun x => x.2).reverse = l := by
  subst h
  apply List.ext_getElem
  · simp [upto]
  · intro i h1 h2
    have e : l.length - 1 - (l.length - 1 - i) = i := by omega
    simp [upto, backOf, List.getElem_reverse, e, h2]
/-- a tree of rows that are cells stays, whatever else turns -/
theorem RO.kept {w w' : World} {ok : Nat → Prop} {sz n c : Nat} {A : Option Addr} {xs : List Value} {row : Option Nat} (hsz : 0 < sz) (h : RO w ok sz A n c xs) (hg : w.grownBy w' row) (hr : ∀ r, row = some r → ∃ o : Obj, w.heap[r]? = some o ∧ o.isCells = false) : RO w' ok sz A n c xs :=
  ⟨h.len, h.cap, h.one, fun hn => by
    obtain ⟨b, o, e, h1, hb, h2, hc⟩ := h.at_ hn
    have hpos : 0 < xs.length := by rw [h.len]; exact Nat.mul_pos hn hsz
    have h0 := hc 0 _ (List.getElem?_eq_getElem hpos)
    have hne : some b ≠ row := fun e2 => by
      obtain ⟨ob, ho, hcl⟩ := hr b e2.symm
      unfold World.cell? at h0
      rw [ho] at h0
      cases ob <;> first | (cases hcl; done) | (cases h0; done)
    have hk := hg.block b hb hne
    exact ⟨b, o, e, h1, Nat.lt_of_lt_of_le hb hg.size, fun j => (World.frozen?_of_block (a := ⟨b, j, none⟩) hk).trans (h2 j), fun j u hu => (World.cell?_of_block (a := ⟨b, o + j, none⟩) hk).trans (hc j u hu)⟩⟩
theorem RdO.kept {w w' : World} {ok : Nat → Prop} {row : Option Nat} (hg : w.grownBy w' row) (hr : ∀ r, row = some r → ∃ o : Obj, w.heap[r]? = some o ∧ o.isCells = false) : ∀ (t : T) {se sk : SV}, RdO w ok t se sk → RdO w' ok t se sk := by
  intro t
  induction t using T.ind with
  | h es ks ih =>
    intro se sk h
    rw [rdO_mk] at h ⊢
    obtain ⟨h1, h2, h3, xs, h4, h5⟩ := h
    refine ⟨h1, h2.kept (by omega) hg hr, h3, xs, h4.kept (by omega) hg hr, fun i hi => ?_⟩
    obtain ⟨se', sk', e1, e2, e3, e4⟩ := h5 i hi
    exact ⟨se', sk', e1, e2, e3, ih _ (List.getElem_mem hi) e4⟩
/-- one kid in a new row -/
theorem RdO.one {w : World} {ok : Nat → Prop} {t : T} {A B : Option Addr} {n c m d : Nat} (h : RdO w ok t ⟨A, n, c⟩ ⟨B, m, d⟩) (hok : ok w.heap.size) (k : ByteArray) (ty : TypeId) :
    RdO (w.alloc (.cells #[.string k, .slice A n c, .slice B m d] ty)) ok (.mk [] [(k, t)]) ⟨Option.none, 0, 0⟩ ⟨some ⟨w.heap.size, 0, Option.none⟩, 1, 1⟩ := by
  rw [rdO_mk]
  refine ⟨rfl, RO.nil _ _ _ _ _, rfl, [.string k, .slice A n c, .slice B m d], ⟨rfl, Nat.le_refl _, fun u hu => ?_, fun _ => ⟨w.heap.size, 0, rfl, hok, by simp, fun j => by go_simp, fun j u hu => ?_⟩⟩, fun i hi => ?_⟩
  · simp at hu
    rcases hu with rfl | rfl | rfl <;> rfl
  · rw [Nat.zero_add, cell_of_row _ _ j _ _ (0, 0) (heap_alloc_new _ _)]
    simpa using hu
  · have : i = 0 := by simp at hi; omega
    subst this
    exact ⟨⟨A, n, c⟩, ⟨B, m, d⟩, rfl, rfl, rfl, RdO.later h ((Below.refl _ _).alloc (Nat.le_refl _) _)⟩
/-- is a key among these that may not be? -/
def badB (l : List ByteArray) : Bool := l.any fun k => !keyB k
theorem badB_iff {l : List ByteArray} : badB l = false ↔ ∀ k ∈ l, KeyOk k := by
  unfold badB
  rw [List.any_eq_false]
  simp only [Bool.not_eq_true', Bool.not_eq_false]
  exact ⟨fun h k hk => keyB_iff.1 (h k hk), fun h k hk => keyB_iff.2 (h k hk)⟩
end Tr
end Go.Proofs.YtcbclefemcmhpaaGreat
namespace Go.Proofs.YtcbclefemcmhpaaGreat
open Go.ChangeShapes Go.WideShapes Go.ChangeAt Go.RowKit
namespace Cx
open Sp Rw
set_option maxRecDepth 100000 in
set_option maxHeartbeats 2000000 in
theorem refsameC_any (a b : List S3) (n m : Nat) (A B : Option Addr) (c d : Nat) (w : World) (ha : a.length = n) (hb : b.length = m) (hn : n ≤ 1000000) (hra : Rd w w.heap.size 3 A n c (spsC a)) (hrb : Rd w w.heap.size 3 B m d (spsC b)) (z : Bool) (hz : z = decide (a = b)) :
    Calls Tryz.prog 42 #[.slice A n c, .slice B m d] w fun e w' => e = .returned (.bool z) ∧ Below w.heap.size w w' := by
  have HZ := Lib.hid hz
  clear hz
  have HA := Lib.hid hra
  have HB := Lib.hid hrb
  have HLA := Lib.hid ha
  have HLB := Lib.hid hb
  clear hra hrb ha hb
  by_cases hnm : n = m
  · subst hnm
    have f0 : (n != n) = false := by simp
    go_enter Tryz.func42, Tryz.ntmps42
    go_wp2
    go_loopw [13] (fun i wr => ∃ (k : Nat), k ≤ n ∧ i = .int .i64 k ∧ Hid (a.take k = b.take k) ∧ Hid (Below w.heap.size w wr)) (fun i _ => n - (intOf i).toNat)
    case atStart => exact ⟨0, by omega, rfl, Lib.hid (by rw [List.take_zero, List.take_zero]), Below.refl _ _⟩
    case round =>
      obtain ⟨k, hk, rfl, HT, HBL⟩ := hrel
      by_cases hlt : k < n
      · have hka : k < a.length := by rw [HLA.out]; exact hlt
        have hkb : k < b.length := by rw [HLB.out]; exact hlt
        obtain ⟨g, o, rfl, hgl, hc⟩ := rd_span HA.out hlt
        obtain ⟨g2, o2, rfl, hgl2, hc2⟩ := rd_span HB.out hlt
        obtain ⟨q0, q1, q2⟩ := hc k hka
        obtain ⟨r0, r1, r2⟩ := hc2 k hkb
        have hT1 : a.take (k + 1) = a.take k ++ [a[k]] := List.take_succ_eq_append_getElem hka
        have hT2 : b.take (k + 1) = b.take k ++ [b[k]] := List.take_succ_eq_append_getElem hkb
        obtain ⟨p, hp⟩ : ∃ p, p = a[k] := ⟨_, rfl⟩
        obtain ⟨s, hs⟩ : ∃ s, s = b[k] := ⟨_, rfl⟩
        rw [← hp] at q0 q1 q2 hT1
        rw [← hs] at r0 r1 r2 hT2
        obtain ⟨x, y, z1⟩ := p
        obtain ⟨x', y', z1'⟩ := s
        dsimp only at q0 q1 q2 r0 r1 r2
        have q0 := (HBL.out.cell (p := ⟨g, o + k * 3, none⟩) hgl).trans q0
        have q1 := (HBL.out.cell (p := ⟨g, o + k * 3 + 1, none⟩) hgl).trans q1
        have q2 := (HBL.out.cell (p := ⟨g, o + k * 3 + 2, none⟩) hgl).trans q2
        have r0 := (HBL.out.cell (p := ⟨g2, o2 + k * 3, none⟩) hgl2).trans r0
        have r1 := (HBL.out.cell (p := ⟨g2, o2 + k * 3 + 1, none⟩) hgl2).trans r1
        have r2 := (HBL.out.cell (p := ⟨g2, o2 + k * 3 + 2, none⟩) hgl2).trans r2
        by_cases h0 : x = x'
        · subst h0
          by_cases h1 : y = y'
          · subst h1
            by_cases h2 : z1 = z1'
            · subst h2
              have HT2 : Hid (a.take (k + 1) = b.take (k + 1)) := by unfold Hid; rw [hT1, hT2, HT.out]
              clear hc hc2 hT1 hT2 hp hs
              go_wp2
              go_quiet (fail)
              go_wp2
              go_roundw
              case rel => exact ⟨k + 1, by omega, by go_num, HT2.out, bel_drewN HBL.out _⟩
              case measure => simp [intOf]; omega
            · have f2 : (z1 == z1') = false := by simpa using h2
              have hne : Hid (decide (a = b) = false) := by
                apply decide_eq_false
                rintro rfl
                have := hp.trans hs.symm
                injection this with e1 e2
                injection e2 with e2 e3
                omega
              clear hc hc2 hT1 hT2 hp hs
              go_wp2
              go_quiet (fail)
              go_wp2
              go_ret
              exact ⟨ret_bool (by rw [HZ.out, hne.out]), bel_drewN HBL.out _⟩
          · have f1 : (y == y') = false := by simpa using h1
            have hne : Hid (decide (a = b) = false) := by
              apply decide_eq_false
              rintro rfl
              have := hp.trans hs.symm
              injection this with e1 e2
              injection e2 with e2 e3
              omega
            clear hc hc2 hT1 hT2 hp hs
            go_wp2
            go_quiet (fail)
            go_wp2
            go_ret
            exact ⟨ret_bool (by rw [HZ.out, hne.out]), bel_drewN HBL.out _⟩
        · have f0' : (x == x') = false := by simpa using h0
          have hne : Hid (decide (a = b) = false) := by
            apply decide_eq_false
            rintro rfl
            have := hp.trans hs.symm
            injection this with e1 e2
            injection e2 with e2 e3
            omega
          clear hc hc2 hT1 hT2 hp hs
          go_wp2
          go_quiet (fail)
          go_wp2
          go_ret
          exact ⟨ret_bool (by rw [HZ.out, hne.out]), bel_drewN HBL.out _⟩
      · have hE : Hid (decide (a = b) = true) := by
          have := HT.out
          rw [List.take_of_length_le (by rw [HLA.out]; omega), List.take_of_length_le (by rw [HLB.out]; omega)] at this
          exact decide_eq_true this
        go_wp2
        go_ret
        exact ⟨ret_bool (by rw [HZ.out, hE.out]), HBL.out⟩
  · have f0 : ((n : Int) != (m : Int)) = true := by simp; omega
    have hne : decide (a = b) = false := by
      apply decide_eq_false
      rintro rfl
      exact hnm (by rw [← HLA.out, HLB.out])
    have HNE := Lib.hid hne
    clear hne
    go_enter Tryz.func42, Tryz.ntmps42
    go_wp2
    go_ret
    exact ⟨ret_bool (by rw [HZ.out, HNE.out]), Below.refl _ _⟩
set_option maxRecDepth 100000 in
set_option maxHeartbeats 2000000 in
theorem equalC_any (a b : List S3) (n m : Nat) (A B : Option Addr) (c d : Nat) (w : World) (ha : a.length = n) (hb : b.length = m) (hn : n ≤ 1000000) (hra : Rd w w.heap.size 3 A n c (spsC a)) (hrb : Rd w w.heap.size 3 B m d (spsC b)) (z : Bool) (hz : z = decide (a = b)) :
    Calls Tryz.prog 76 #[.slice A n c, .slice B m d] w fun e w' => e = .returned (.bool z) ∧ Below w.heap.size w w' := by
  have HZ := Lib.hid hz
  clear hz
  have HA := Lib.hid hra
  have HB := Lib.hid hrb
  have HLA := Lib.hid ha
  have HLB := Lib.hid hb
  clear hra hrb ha hb
  by_cases hnm : n = m
  · subst hnm
    have f0 : (n != n) = false := by simp
    go_enter Tryz.func76, Tryz.ntmps76
    go_wp2
    go_loopw [13] (fun i wr => ∃ (k : Nat), k ≤ n ∧ i = .int .i64 k ∧ Hid (a.take k = b.take k) ∧ Hid (Below w.heap.size w wr)) (fun i _ => n - (intOf i).toNat)
    case atStart => exact ⟨0, by omega, rfl, Lib.hid (by rw [List.take_zero, List.take_zero]), Below.refl _ _⟩
    case round =>
      obtain ⟨k, hk, rfl, HT, HBL⟩ := hrel
      by_cases hlt : k < n
      · have hka : k < a.length := by rw [HLA.out]; exact hlt
        have hkb : k < b.length := by rw [HLB.out]; exact hlt
        obtain ⟨g, o, rfl, hgl, hc⟩ := rd_span HA.out hlt
        obtain ⟨g2, o2, rfl, hgl2, hc2⟩ := rd_span HB.out hlt
        obtain ⟨q0, q1, q2⟩ := hc k hka
        obtain ⟨r0, r1, r2⟩ := hc2 k hkb
        have hT1 : a.take (k + 1) = a.take k ++ [a[k]] := List.take_succ_eq_append_getElem hka
        have hT2 : b.take (k + 1) = b.take k ++ [b[k]] := List.take_succ_eq_append_getElem hkb
        obtain ⟨p, hp⟩ : ∃ p, p = a[k] := ⟨_, rfl⟩
        obtain ⟨s, hs⟩ : ∃ s, s = b[k] := ⟨_, rfl⟩
        rw [← hp] at q0 q1 q2 hT1
        rw [← hs] at r0 r1 r2 hT2
        obtain ⟨x, y, z1⟩ := p
        obtain ⟨x', y', z1'⟩ := s
        dsimp only at q0 q1 q2 r0 r1 r2
        have q0 := (HBL.out.cell (p := ⟨g, o + k * 3, none⟩) hgl).trans q0
        have q1 := (HBL.out.cell (p := ⟨g, o + k * 3 + 1, none⟩) hgl).trans q1
        have q2 := (HBL.out.cell (p := ⟨g, o + k * 3 + 2, none⟩) hgl).trans q2
        have r0 := (HBL.out.cell (p := ⟨g2, o2 + k * 3, none⟩) hgl2).trans r0
        have r1 := (HBL.out.cell (p := ⟨g2, o2 + k * 3 + 1, none⟩) hgl2).trans r1
        have r2 := (HBL.out.cell (p := ⟨g2, o2 + k * 3 + 2, none⟩) hgl2).trans r2
        by_cases h0 : x = x'
        · subst h0
          by_cases h1 : y = y'
          · subst h1
            by_cases h2 : z1 = z1'
            · subst h2
              have HT2 : Hid (a.take (k + 1) = b.take (k + 1)) := by unfold Hid; rw [hT1, hT2, HT.out]
              clear hc hc2 hT1 hT2 hp hs
              go_wp2
              go_quiet (fail)
              go_wp2
              go_roundw
              case rel => exact ⟨k + 1, by omega, by go_num, HT2.out, bel_drewN HBL.out _⟩
              case measure => simp [intOf]; omega
            · have f2 : (z1 == z1') = false := by simpa using h2
              have hne : Hid (decide (a = b) = false) := by
                apply decide_eq_false
                rintro rfl
                have := hp.trans hs.symm
                injection this with e1 e2
                injection e2 with e2 e3
                omega
              clear hc hc2 hT1 hT2 hp hs
              go_wp2
              go_quiet (fail)
              go_wp2
              go_ret
              exact ⟨ret_bool (by rw [HZ.out, hne.out]), bel_drewN HBL.out _⟩
          · have f1 : (y == y') = false := by simpa using h1
            have hne : Hid (decide (a = b) = false) := by
              apply decide_eq_false
              rintro rfl
              have := hp.trans hs.symm
              injection this with e1 e2
              injection e2 with e2 e3
              omega
            clear hc hc2 hT1 hT2 hp hs
            go_wp2
            go_quiet (fail)
            go_wp2
            go_ret
            exact ⟨ret_bool (by rw [HZ.out, hne.out]), bel_drewN HBL.out _⟩
        · have f0' : (x == x') = false := by simpa using h0
          have hne : Hid (decide (a = b) = false) := by
            apply decide_eq_false
            rintro rfl
            have := hp.trans hs.symm
            injection this with e1 e2
            injection e2 with e2 e3
            omega
          clear hc hc2 hT1 hT2 hp hs
          go_wp2
          go_quiet (fail)
          go_wp2
          go_ret
          exact ⟨ret_bool (by rw [HZ.out, hne.out]), bel_drewN HBL.out _⟩
      · have hE : Hid (decide (a = b) = true) := by
          have := HT.out
          rw [List.take_of_length_le (by rw [HLA.out]; omega), List.take_of_length_le (by rw [HLB.out]; omega)] at this
          exact decide_eq_true this
        go_wp2
        go_ret
        exact ⟨ret_bool (by rw [HZ.out, hE.out]), HBL.out⟩
  · have f0 : ((n : Int) != (m : Int)) = true := by simp; omega
    have hne : decide (a = b) = false := by
      apply decide_eq_false
      rintro rfl
      exact hnm (by rw [← HLA.out, HLB.out])
    have HNE := Lib.hid hne
    clear hne
    go_enter Tryz.func76, Tryz.ntmps76
    go_wp2
    go_ret
    exact ⟨ret_bool (by rw [HZ.out, HNE.out]), Below.refl _ _⟩
set_option maxHeartbeats 400000 in
theorem sameC_any (a b : List S3) (n m : Nat) (A B : Option Addr) (c d : Nat) (w : World) (ha : a.length = n) (hb : b.length = m) (hn : n ≤ 100000) (hra : Rd w w.heap.size 3 A n c (spsC a)) (hrb : Rd w w.heap.size 3 B m d (spsC b)) (z : Bool) (hz : z = (rightCB a && decide (a = b))) :
    Calls Tryz.prog 48 #[.slice A n c, .slice B m d] w fun e w' => e = .returned (.bool z) ∧ Below w.heap.size w w' := by
  obtain ⟨x, hx⟩ : ∃ x, x = rightCB a := ⟨_, rfl⟩
  rw [← hx] at hz
  have HC1 := Lib.hid (rightC_any a n A c w ha hn hra x hx.symm)
  have HC2 := fun W (h : Below w.heap.size w W) => Lib.hid (equalC_any a b n m A B c d W ha hb (by omega) ((hra.below h).more h.size) ((hrb.below h).more h.size) _ rfl)
  clear ha hb hra hrb hx
  cases x with
  | false =>
    rw [Bool.false_and] at hz
    subst hz
    go_enter Tryz.func48, Tryz.ntmps48
    go_wp2_with fail
    refine HC1.out.mono ?_
    rintro e w1 ⟨rfl, hb1⟩
    go_wp2
    go_ret
    exact ⟨rfl, hb1⟩
  | true =>
    rw [Bool.true_and] at hz
    rw [← hz] at HC2
    clear hz
    go_enter Tryz.func48, Tryz.ntmps48
    go_wp2_with fail
    refine HC1.out.mono ?_
    rintro e w1 ⟨rfl, hb1⟩
    go_wp2_with fail
    refine (HC2 w1 hb1).out.mono ?_
    rintro e w2 ⟨rfl, hb2⟩
    go_wp2
    go_ret
    exact ⟨rfl, hb1.trans (hb2.mono hb1.size)⟩
end Cx
end Go.Proofs.YtcbclefemcmhpaaGreat
