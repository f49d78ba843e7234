/- The document's: what is in a list, its front, how many; ends of runs, the next number. -/
import Derived.Test.YtfkkjgebemnhnaaSpan2
namespace Go.Proofs.Ytfkkjgebemnhnaa
open Go.ChangeShapes Go.WideShapes Go.ChangeAt Go.RowKit
namespace Sp
theorem upon_append {P : Program} {o : Oper} {a : Go.Act} {K : Go.Act → World → Prop} {Q : Exit → Go.Act → World → Prop} {w w' : World} {v xv v' : Value} (s x : Operand) (t : TypeId)
    (ho : o.op = .call { callee := .builtin .append, args := #[s, x], argTypes := #[t, t] }) (hs : a.eval s = v) (hx : a.eval x = xv)
    (hr : (Builtin.append_ #[t, t] o.type #[v, xv]).run P w = .ok v' w') (h : K (a.put o.dst v') w') : Oper.upon P o a K Q ((execOp a.eval o).run P w) := by
  unfold execOp
  simp only [ho, resolve, invoke, builtin, Sem.run_bind, Sem.run_pure, Result.andThen_ok, List.map_toArray, List.map_cons, List.map_nil, hs, hx, hr]
  exact h
set_option maxRecDepth 100000 in
set_option maxHeartbeats 1000000 in
theorem refhas_any (l : List (Int × Int)) (n : Nat) (A : Option Addr) (c : Nat) (w : World) (hl : l.length = n) (hn : n ≤ 1000000) (hr : Rd w w.heap.size 2 A n c (runsC l)) (v : Int) :
    Calls Try.prog 54 #[.slice A n c, .int .i64 v] w fun e w' => e = .returned (.bool (hasB l v)) ∧ w' = w := by
  obtain ⟨z, hz⟩ : ∃ z, z = hasB l v := ⟨_, rfl⟩
  rw [← hz]
  have HZ := Lib.hid hz
  have HR := Lib.hid hr
  have HL := Lib.hid hl
  clear hr hl hz
  go_enter Try.func54, Try.ntmps54
  go_wp2
  go_loop [8] (fun i => ∃ (k : Nat), k ≤ n ∧ i = .int .i64 k ∧ Hid (hasB (l.take k) v = false)) (fun i => n - (intOf i).toNat)
  case atStart => exact ⟨0, by omega, rfl, Lib.hid (by rw [List.take_zero]; rfl)⟩
  case round =>
    obtain ⟨k, hk, rfl, HF⟩ := hrel
    by_cases hlt : k < n
    · have hkl : k < l.length := by rw [HL.out]; exact hlt
      obtain ⟨b, o, rfl, hbl, hc⟩ := rd_run HR.out HL.out hlt
      obtain ⟨q0, q1⟩ := hc k hkl
      obtain ⟨p, hp⟩ : ∃ p, p = l[k] := ⟨_, rfl⟩
      have htk : l.take (k + 1) = l.take k ++ [l[k]] := List.take_succ_eq_append_getElem hkl
      rw [← hp] at q0 q1 htk
      obtain ⟨x, y⟩ := p
      by_cases h1 : x ≤ v
      · have f1 : decide (x ≤ v) = true := by simpa using h1
        by_cases h2 : v ≤ y
        · have f2 : decide (v ≤ y) = true := by simpa using h2
          have HE : Hid (true = z) := by
            unfold Hid
            rw [HZ.out]
            exact (has_true.2 ⟨(x, y), by rw [hp]; exact List.getElem_mem hkl, h1, h2⟩).symm
          clear hc hp htk
          go_wp2
          go_ret
          exact ⟨ret_bool HE.out, rfl⟩
        · have f2 : decide (v ≤ y) = false := by simpa using h2
          have HF2 : Hid (hasB (l.take (k + 1)) v = false) := by
            unfold Hid
            rw [htk, has_append, HF.out]
            simp [hasB]; omega
          clear hc hp htk
          go_wp2
          go_round
          case rel => exact ⟨k + 1, by omega, by go_num, HF2.out⟩
          case measure => simp [intOf]; omega
      · have f1 : decide (x ≤ v) = false := by simpa using h1
        have HF2 : Hid (hasB (l.take (k + 1)) v = false) := by
          unfold Hid
          rw [htk, has_append, HF.out]
          simp [hasB]; omega
        clear hc hp htk
        go_wp2
        go_round
        case rel => exact ⟨k + 1, by omega, by go_num, HF2.out⟩
        case measure => simp [intOf]; omega
    · have HE : Hid (false = z) := by
        unfold Hid
        have := HF.out
        rw [List.take_of_length_le (by rw [HL.out]; omega)] at this
        rw [HZ.out, this]
      go_wp2
      go_ret
      exact ⟨ret_bool HE.out, rfl⟩
theorem right_later {l : List (Int × Int)} (h : RightF 1 l) {k : Nat} (hk : k < l.length) (h0 : 0 < k) : 3 ≤ l[k].1 := by
  cases l with
  | nil => simp at hk
  | cons r l =>
    obtain ⟨h1, h2, h3, h4⟩ := h
    cases k with
    | zero => omega
    | succ k =>
      have hk' : k < l.length := by simpa using hk
      have := h4.mem l[k] (List.getElem_mem hk')
      show 3 ≤ (l[k]'hk').1
      omega
set_option maxRecDepth 100000 in
set_option maxHeartbeats 1000000 in
theorem reffront_any (l : List (Int × Int)) (n : Nat) (A : Option Addr) (c : Nat) (w : World) (hl : l.length = n) (hn : n ≤ 1000000) (hr : Rd w w.heap.size 2 A n c (runsC l)) (hR : RightF 1 l) :
    Calls Try.prog 47 #[.slice A n c] w fun e w' => e = .returned (.int .i64 (frontI l)) ∧ w' = w := by
  obtain ⟨z, hz⟩ : ∃ z, z = frontI l := ⟨_, rfl⟩
  rw [← hz]
  have HZ := Lib.hid hz
  have HR := Lib.hid hr
  have HL := Lib.hid hl
  have HO := Lib.hid hR
  clear hr hl hz hR
  go_enter Try.func47, Try.ntmps47
  go_wp2
  go_loop [6] (fun i => ∃ (k : Nat), k ≤ n ∧ i = .int .i64 k ∧ Hid (k = 0 ∨ z = 0)) (fun i => n - (intOf i).toNat)
  case atStart => exact ⟨0, by omega, rfl, .inl rfl⟩
  case round =>
    obtain ⟨k, hk, rfl, HF⟩ := hrel
    by_cases hlt : k < n
    · have hkl : k < l.length := by rw [HL.out]; exact hlt
      obtain ⟨b, o, rfl, hbl, hc⟩ := rd_run HR.out HL.out hlt
      obtain ⟨q0, q1⟩ := hc k hkl
      have hlat := right_later HO.out hkl
      obtain ⟨p, hp⟩ : ∃ p, p = l[k] := ⟨_, rfl⟩
      rw [← hp] at q0 q1 hlat
      obtain ⟨x, y⟩ := p
      dsimp only at hlat
      have hfr : k = 0 → z = if x = 1 then y else 0 := by
        rintro rfl
        cases l with
        | nil => simp at hkl
        | cons r l =>
          rw [HZ.out]
          simp only [List.getElem_cons_zero] at hp
          subst hp
          rfl
      by_cases h1 : x = 1
      · subst h1
        have hk0 : k = 0 := by omega
        have HE := Lib.hid (hfr hk0)
        rw [if_pos rfl] at HE
        clear hfr hlat hk0 hp hc
        go_wp2
        go_ret
        exact ⟨ret_int HE.out.symm, rfl⟩
      · have f1 : (x == 1) = false := by simpa using h1
        have HF2 : Hid (k + 1 = 0 ∨ z = 0) := by
          right
          rcases HF.out with h | h
          · rw [hfr h, if_neg h1]
          · exact h
        clear hc hp hfr hlat
        go_wp2
        go_round
        case rel => exact ⟨k + 1, by omega, by go_num, HF2.out⟩
        case measure => simp [intOf]; omega
    · have HE : Hid (z = 0) := by
        rcases HF.out with h | h
        · have hl0 := HL.out
          have : l = [] := List.eq_nil_of_length_eq_zero (by omega)
          rw [HZ.out, this]; rfl
        · exact h
      go_wp2
      go_ret
      exact ⟨ret_int HE.out.symm, rfl⟩
set_option maxRecDepth 100000 in
set_option maxHeartbeats 1000000 in
theorem refcount_any (l : List (Int × Int)) (n : Nat) (A : Option Addr) (c : Nat) (w : World) (hl : l.length = n) (hn : n ≤ 1000000) (hr : Rd w w.heap.size 2 A n c (runsC l)) (hR : RightF 1 l) :
    Calls Try.prog 18 #[.slice A n c] w fun e w' => e = .returned (.int .i64 (countI l)) ∧ Below w.heap.size w w' := by
  obtain ⟨z, hz⟩ : ∃ z, z = countI l := ⟨_, rfl⟩
  rw [← hz]
  have HZ := Lib.hid hz
  have HR := Lib.hid hr
  have HL := Lib.hid hl
  have HO := Lib.hid hR
  clear hr hl hz hR
  go_enter Try.func18, Try.ntmps18
  go_wp2
  go_loopw [3, 7] (fun h i wr => ∃ (k : Nat) (s : Int), k ≤ n ∧ h = .int .i64 s ∧ i = .int .i64 k ∧ 0 ≤ s ∧ s ≤ 1099511627776 ∧ Hid (s = countI (l.take k)) ∧ Hid (∃ q, wr = w.drewN q)) (fun _ i _ => n - (intOf i).toNat)
  case atStart => exact ⟨0, 0, by omega, rfl, rfl, by omega, by omega, rfl, ⟨0, rfl⟩⟩
  case round =>
    obtain ⟨k, s, hk, rfl, rfl, hs0, hs1, HS, HB⟩ := hrel
    obtain ⟨q, rfl⟩ := HB.out
    by_cases hlt : k < n
    · have hkl : k < l.length := by rw [HL.out]; exact hlt
      obtain ⟨b, o, rfl, hbl, hc⟩ := rd_run HR.out HL.out hlt
      obtain ⟨q0, q1⟩ := hc k hkl
      obtain ⟨p, hp⟩ : ∃ p, p = l[k] := ⟨_, rfl⟩
      have hT := countI_take hkl hp
      have hm := HO.out.mem l[k] (List.getElem_mem hkl)
      have hbd := countI_bound (HO.out.take (k + 1))
      rw [← hp] at q0 q1 hm
      rw [← HS.out] at hT
      obtain ⟨x, y⟩ := p
      obtain ⟨hm1, hm2, hm3⟩ := hm
      dsimp only at hm1 hm2 hm3 hT
      rw [hT] at hbd
      obtain ⟨hd1, hd2⟩ := hbd
      have HT := Lib.hid hT
      clear hc hp hT
      go_wp2
      go_quiet (fail)
      go_wp2
      go_roundw
      case rel => exact ⟨k + 1, s + 1 + y - x, by omega, by go_num, by go_num, by omega, by omega, by unfold Hid; rw [HT.out]; omega, ⟨q + _, rfl⟩⟩
      case measure => simp [intOf]; omega
    · have HE : Hid (s = z) := by
        have := HS.out
        rw [List.take_of_length_le (by rw [HL.out]; omega)] at this
        unfold Hid
        rw [this, HZ.out]
      go_wp2
      go_ret
      exact ⟨ret_int HE.out, bel_drewN (Below.refl _ _) _⟩
/-- the places at which runs begin, and behind which they end -/
def endsL (l : List (Int × Int)) : List Int := l.flatMap fun r => [r.1, r.2 + 1]
theorem endsL_snoc (l : List (Int × Int)) (r : Int × Int) : endsL (l ++ [r]) = endsL l ++ [r.1, r.2 + 1] := by simp [endsL]
theorem endsL_len (l : List (Int × Int)) : (endsL l).length = l.length * 2 := by
  induction l with
  | nil => rfl
  | cons r l ih =>
    have : endsL (r :: l) = r.1 :: (r.2 + 1) :: endsL l := rfl
    rw [this]; simp [ih]; omega
/-- the least number above one -/
def nstep (above : Int) (acc : Option Int) (x : Int) : Option Int := if above < x ∧ (∀ b, acc = some b → x < b) then some x else acc
def nextL (above : Int) (l : List Int) : Option Int := l.foldl (nstep above) none
theorem nextL_snoc (above : Int) (l : List Int) (x : Int) : nextL above (l ++ [x]) = nstep above (nextL above l) x := by unfold nextL; rw [List.foldl_append]; rfl
/-- what the next one is -/
def NextIs (above : Int) (l : List Int) : Option Int → Prop
  | none => ∀ x ∈ l, x ≤ above
  | some t => t ∈ l ∧ above < t ∧ ∀ x ∈ l, above < x → t ≤ x
theorem nextL_is (above : Int) (l : List Int) : NextIs above l (nextL above l) := by
  have key : ∀ k, k ≤ l.length → NextIs above (l.take k) (nextL above (l.take k)) := by
    intro k
    induction k with
    | zero => intro _; simp [nextL, NextIs]
    | succ k ih =>
      intro hk
      have ih := ih (by omega)
      rw [List.take_succ_eq_append_getElem (by omega), nextL_snoc]
      obtain ⟨d, hd⟩ : ∃ d, d = l[k] := ⟨_, rfl⟩
      obtain ⟨acc, hacc⟩ : ∃ acc, acc = nextL above (l.take k) := ⟨_, rfl⟩
      rw [← hd, ← hacc]
      rw [← hacc] at ih
      unfold nstep
      by_cases h : above < d ∧ (∀ b, acc = some b → d < b)
      · rw [if_pos h]
        refine ⟨by simp, h.1, fun x hx hax => ?_⟩
        rcases List.mem_append.1 hx with hx | hx
        · cases acc with
          | none => have := ih x hx; omega
          | some b => have := ih.2.2 x hx hax; have := h.2 b rfl; omega
        · rw [List.mem_singleton.1 hx]; omega
      · rw [if_neg h]
        cases acc with
        | none =>
          intro x hx
          rcases List.mem_append.1 hx with hx | hx
          · exact ih x hx
          · rw [List.mem_singleton.1 hx]
            have : ¬ above < d := fun hlt => h ⟨hlt, by simp⟩
            omega
        | some b =>
          refine ⟨List.mem_append_left _ ih.1, ih.2.1, fun x hx hax => ?_⟩
          rcases List.mem_append.1 hx with hx | hx
          · exact ih.2.2 x hx hax
          · rw [List.mem_singleton.1 hx] at hax ⊢
            have : ¬ d < b := fun hlt => h ⟨hax, fun b' e => by injection e with e; omega⟩
            omega
  have := key l.length (Nat.le_refl _)
  rwa [List.take_of_length_le (Nat.le_refl _)] at this
set_option maxRecDepth 100000 in
set_option maxHeartbeats 1000000 in
theorem next_any (l : List Int) (n : Nat) (A : Option Addr) (c : Nat) (w : World) (hl : l.length = n) (hn : n ≤ 1000000) (hr : Rd w w.heap.size 1 A n c (intsC l)) (v : Int) :
    Calls Try.prog 66 #[.slice A n c, .int .i64 v] w fun e w' => e = .returned (.tuple #[.int .i64 ((nextL v l).getD 0), .bool (nextL v l).isSome]) ∧ w' = w := by
  obtain ⟨z, hz⟩ : ∃ z, z = nextL v l := ⟨_, rfl⟩
  rw [← hz]
  obtain ⟨zb, hzb⟩ : ∃ x, x = z.getD 0 := ⟨_, rfl⟩
  obtain ⟨zo, hzo⟩ : ∃ x, x = z.isSome := ⟨_, rfl⟩
  rw [← hzb, ← hzo]
  have HZB := Lib.hid hzb
  have HZO := Lib.hid hzo
  have HZ := Lib.hid hz
  have HR := Lib.hid hr
  have HL := Lib.hid hl
  clear hr hl hz hzb hzo
  go_enter Try.func66, Try.ntmps66
  go_wp2
  go_loop [6, 7, 11] (fun b s i => ∃ (k : Nat) (best : Int) (ok : Bool), k ≤ n ∧ b = .int .i64 best ∧ s = .bool ok ∧ i = .int .i64 k ∧ Hid (best = (nextL v (l.take k)).getD 0 ∧ ok = (nextL v (l.take k)).isSome)) (fun _ _ i => n - (intOf i).toNat)
  case atStart => exact ⟨0, 0, false, by omega, rfl, rfl, rfl, Lib.hid (by rw [List.take_zero]; exact ⟨rfl, rfl⟩)⟩
  case round =>
    obtain ⟨k, best, ok, hk, rfl, rfl, rfl, HF⟩ := hrel
    by_cases hlt : k < n
    · have hkl : k < l.length := by rw [HL.out]; exact hlt
      obtain ⟨b, o, rfl, hbl, hc⟩ := rd_int HR.out HL.out hlt
      have q0 := hc k hkl
      have htk : nextL v (l.take (k + 1)) = nstep v (nextL v (l.take k)) l[k] := by rw [List.take_succ_eq_append_getElem hkl, nextL_snoc]
      obtain ⟨x, hx⟩ : ∃ x, x = l[k] := ⟨_, rfl⟩
      obtain ⟨acc, hacc⟩ : ∃ acc, acc = nextL v (l.take k) := ⟨_, rfl⟩
      rw [← hx] at q0 htk
      rw [← hacc] at htk HF
      have hyes : nstep v acc x = some x → Hid (x = (nextL v (l.take (k + 1))).getD 0 ∧ true = (nextL v (l.take (k + 1))).isSome) := fun e => by
        unfold Hid
        rw [htk, e]
        exact ⟨rfl, rfl⟩
      have hno : nstep v acc x = acc → Hid (best = (nextL v (l.take (k + 1))).getD 0 ∧ ok = (nextL v (l.take (k + 1))).isSome) := fun e => by
        unfold Hid
        rw [htk, e]
        exact HF.out
      clear hc hx htk hacc
      by_cases h1 : v < x
      · have f1 : decide (v < x) = true := by simpa using h1
        cases acc with
        | none =>
          have hok : ok = false := HF.out.2
          subst hok
          have HY := hyes (by unfold nstep; rw [if_pos ⟨h1, by simp⟩])
          clear hyes hno
          go_wp2
          go_round
          case rel => exact ⟨k + 1, x, true, by omega, rfl, rfl, by go_num, HY.out⟩
          case measure => simp [intOf]; omega
        | some b0 =>
          have hok : ok = true := HF.out.2
          have hb0 : best = b0 := HF.out.1
          subst hok; subst hb0
          by_cases h2 : x < best
          · have f2 : decide (x < best) = true := by simpa using h2
            have HY := hyes (by unfold nstep; rw [if_pos ⟨h1, fun b' e => by injection e with e; omega⟩])
            clear hyes hno
            go_wp2
            go_round
            case rel => exact ⟨k + 1, x, true, by omega, rfl, rfl, by go_num, HY.out⟩
            case measure => simp [intOf]; omega
          · have f2 : decide (x < best) = false := by simpa using h2
            have HY := hno (by unfold nstep; rw [if_neg (fun h => h2 (h.2 best rfl))])
            clear hyes hno
            go_wp2
            go_round
            case rel => exact ⟨k + 1, best, true, by omega, rfl, rfl, by go_num, HY.out⟩
            case measure => simp [intOf]; omega
      · have f1 : decide (v < x) = false := by simpa using h1
        have HY := hno (by unfold nstep; rw [if_neg (fun h => h1 h.1)])
        clear hyes hno
        go_wp2
        go_round
        case rel => exact ⟨k + 1, best, ok, by omega, rfl, rfl, by go_num, HY.out⟩
        case measure => simp [intOf]; omega
    · have HE : Hid (best = z.getD 0 ∧ ok = z.isSome) := by
        have := HF.out
        rw [List.take_of_length_le (by rw [HL.out]; omega)] at this
        unfold Hid
        rw [HZ.out]
        exact this
      have hE : best = zb ∧ ok = zo := by rw [HZB.out, HZO.out]; exact HE.out
      clear HE HZB HZO HF
      obtain ⟨rfl, rfl⟩ := hE
      go_wp2
      go_ret2
      exact ⟨rfl, rfl⟩
set_option maxRecDepth 100000 in
set_option maxHeartbeats 1000000 in
theorem ends_any (l : List (Int × Int)) (n : Nat) (A : Option Addr) (c : Nat) (w : World) (hl : l.length = n) (hn : n ≤ 1000) (hr : Rd w w.heap.size 2 A n c (runsC l)) (hR : RightF 1 l) :
    Calls Try.prog 73 #[.slice A n c] w fun e w' => ∃ A' c', e = .returned (.slice A' (n * 2) c') ∧ Own w' w.heap.size 2 1 A' (n * 2) c' (intsC (endsL l)) ∧ Below w.heap.size w w' := by
  have HR := Lib.hid hr
  have HL := Lib.hid hl
  have HO := Lib.hid hR
  clear hr hl hR
  go_enter Try.func73, Try.ntmps73
  go_wp2
  go_loopw [3, 7] (fun v i wr => ∃ (k m : Nat) (A' : Option Addr) (c' : Nat), k ≤ n ∧ v = .slice A' m c' ∧ i = .int .i64 k ∧ Hid (m = k * 2) ∧ Hid (Own wr w.heap.size 2 1 A' m c' (intsC (endsL (l.take k)))) ∧ Hid (Below w.heap.size w wr)) (fun _ i _ => n - (intOf i).toNat)
  case atStart => exact ⟨0, 0, none, 0, by omega, rfl, rfl, rfl, ⟨World.ownsRow_nil _ _ _ _, by simp [endsL, intsC]⟩, Below.refl _ _⟩
  case round =>
    obtain ⟨k, m, A', c', hk, rfl, rfl, HM, HOW, HB⟩ := hrel
    by_cases hlt : k < n
    · have hkl : k < l.length := by rw [HL.out]; exact hlt
      obtain ⟨b, o, rfl, hbl, hc⟩ := rd_run HR.out HL.out hlt
      obtain ⟨q0, q1⟩ := hc k hkl
      have htk : l.take (k + 1) = l.take k ++ [l[k]] := List.take_succ_eq_append_getElem hkl
      have hm := HO.out.mem l[k] (List.getElem_mem hkl)
      obtain ⟨p, hp⟩ : ∃ p, p = l[k] := ⟨_, rfl⟩
      rw [← hp] at q0 q1 htk hm
      obtain ⟨x, y⟩ := p
      obtain ⟨hm1, hm2, hm3⟩ := hm
      dsimp only at hm1 hm2 hm3
      have q0 := (HB.out.cell (p := ⟨b, o + k * 2, none⟩) hbl).trans q0
      have q1 := (HB.out.cell (p := ⟨b, o + k * 2 + 1, none⟩) hbl).trans q1
      obtain ⟨v2, w2, hrun, ho2, hb2⟩ := run_push Try.underlying69 infoI rfl (by omega) (by omega) wr.drew w.heap.size wr.heap.size (by simp) (by have := HB.out.size; simp; omega) _ m _ (ownsRow_later HOW.out.row (Below.refl _ _).drew) [.int .i64 x, .int .i64 (y + 1)] 2 rfl (by intro u hu; simp at hu; rcases hu with rfl | rfl <;> rfl) (by have := HM.out; omega)
      have e2 : intsC (endsL (l.take k)) ++ [.int .i64 x, .int .i64 (y + 1)] = intsC (endsL (l.take (k + 1))) := by rw [htk, endsL_snoc, intsC_append]; rfl
      rw [e2] at ho2
      obtain ⟨A2, c2, rfl, ho3⟩ := Own.of_row ho2 (intsC_one _)
      have Hrun := Lib.hid hrun
      have HO2 := Lib.hid ho3
      have HB2 := Lib.hid ((HB.out.drew).trans hb2)
      have HM2 : Hid (m + 2 = (k + 1) * 2) := by unfold Hid; have := HM.out; omega
      have hwy : IntKind.i64.wrap (y + 1) = y + 1 := IntWalk.i64_in _ (by omega)
      clear hc hp hrun ho2 ho3 hb2 htk e2 HOW
      go_wp2
      go_region_law (refine upon_append _ _ _ rfl rfl rfl Hrun.out ?_)
      all_goals
        clear Hrun q0 q1
        go_wp2
        go_roundw
        case rel => exact ⟨k + 1, m + 2, A2, c2, by omega, rfl, by go_num, HM2.out, HO2.out, HB2.out⟩
        case measure => simp [intOf]; omega
    · obtain rfl : k = n := by omega
      have HE : Hid (l.take k = l) := List.take_of_length_le (by rw [HL.out]; omega)
      rw [HE.out] at HOW
      have hm := HM.out
      subst hm
      go_wp2
      go_ret
      exact ⟨_, _, rfl, HOW.out, HB.out⟩
end Sp
end Go.Proofs.Ytfkkjgebemnhnaa
