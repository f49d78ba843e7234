/- One operation of a region that draws its order is taken: in short. -/
import Derived.Test.YtcffbgehopjgpaaKept
import Derived.Deep.RegionHeld
namespace Go.Proofs.Ytcffbgehopjgpaa
/-- equal: no rule of simp closes it -/
structure Is {α : Type} (x y : α) : Prop where
  out : x = y
theorem Is.rfl {α : Type} {x : α} : Is x x := ⟨Eq.refl x⟩
section
variable {P : Program} {md : Region.Mode} {ops : Array Oper} {Q : Exit → Act → World → Prop} {S : World → Prop} {fuel : Nat} {listed l2 : Array Bool} {a a2 : Act} {w : World}
/-- it is wanted, and yields v wherever S holds -/
theorem Tk (i d : Nat) {oi : Oper} {v : Value} (h : wpAnyH P md ops Q S fuel l2 a2 w) (hi : ops[i]? = some oi := by rfl) (hd : oi.dst = some d := by rfl) (hs : Region.noSelect ops = true := by kernel_rfl) (hf : Region.free md ops listed i = true := by kernel_rfl) (hr : (Region.ready md ops listed).contains i = true := by kernel_rfl)
    (hw : Region.wanted oi (yielded ops a.tmps) = true := by kernel_rfl)
    (hy : ∀ wz, S wz → (execOp a.eval oi).run P wz = .ok (.value v) wz := by (intro wz hSw; (try dsimp only at hSw); (try simp only [Conj] at hSw); go_simp; try with_reducible rfl))
    (hQ : ∀ c a w, Q (.panic c) (a.put oi.dst v) w → Q (.panic c) a w := by exact fun _ _ _ h => h) (hS : S w := by assumption)
    (ha : Is (a.put (some d) v) a2 := by first | (simp only [Act.put, List.setIfInBounds_toArray, List.set_cons_zero, List.set_cons_succ]; exact Is.rfl) | exact Is.rfl) (hl : Is (listed.setIfInBounds i true) l2 := by first | (simp only [List.setIfInBounds_toArray, List.set_cons_zero, List.set_cons_succ]; exact Is.rfl) | exact Is.rfl) : wpAnyH P md ops Q S (fuel + 1) listed a w :=
  wpAnyH_take hi hs hf hr hQ (Or.inl ⟨hw, hy⟩) hS (by rw [hd, ha.out, hl.out]; exact h)
/-- it isn't wanted -/
theorem Tn (i d : Nat) {oi : Oper} (h : wpAnyH P md ops Q S fuel l2 a2 w) (hi : ops[i]? = some oi := by rfl) (hd : oi.dst = some d := by rfl) (hs : Region.noSelect ops = true := by kernel_rfl) (hf : Region.free md ops listed i = true := by kernel_rfl) (hr : (Region.ready md ops listed).contains i = true := by kernel_rfl)
    (hw : Region.wanted oi (yielded ops a.tmps) = false := by kernel_rfl)
    (hQ : ∀ c a w, Q (.panic c) (a.put oi.dst undef) w → Q (.panic c) a w := by exact fun _ _ _ h => h) (hS : S w := by assumption)
    (ha : Is (a.put (some d) undef) a2 := by first | (simp only [Act.put, List.setIfInBounds_toArray, List.set_cons_zero, List.set_cons_succ]; exact Is.rfl) | exact Is.rfl) (hl : Is (listed.setIfInBounds i true) l2 := by first | (simp only [List.setIfInBounds_toArray, List.set_cons_zero, List.set_cons_succ]; exact Is.rfl) | exact Is.rfl) : wpAnyH P md ops Q S (fuel + 1) listed a w :=
  wpAnyH_take hi hs hf hr hQ (Or.inr ⟨hw, rfl⟩) hS (by rw [hd, ha.out, hl.out]; exact h)
/-- one operation alone is ready, and does something -/
theorem Tc (i : Nat) {oi : Oper} (h : ∀ K' : Act → World → Prop, Shut (∀ a w, S w → (S w → wpAnyH P md ops Q S fuel (listed.setIfInBounds i true) a w) → K' a w) → if Region.wanted oi (yielded ops a.tmps) = true then Oper.wp P oi a w K' Q else K' (a.put oi.dst undef) w)
    (hi : ops[i]? = some oi := by rfl) (hr : Region.ready md ops listed = [i] := by kernel_rfl) : wpAnyH P md ops Q S (fuel + 1) listed a w :=
  wpAnyH_ready hr (by simp) (AllReadyH.cons hi h AllReadyH.nil)
/-- behind it -/
theorem Th {K' : Act → World → Prop} (hK : Shut (∀ a w, S w → (S w → wpAnyH P md ops Q S fuel listed a w) → K' a w)) (hS : S w) (h : S w → wpAnyH P md ops Q S fuel l2 a2 w)
    (ha : Is a a2 := by first | (simp only [Act.put, List.setIfInBounds_toArray, List.set_cons_zero, List.set_cons_succ]; exact Is.rfl) | exact Is.rfl) (hl : Is listed l2 := by first | (simp only [List.setIfInBounds_toArray, List.set_cons_zero, List.set_cons_succ]; exact Is.rfl) | exact Is.rfl) : K' a w :=
  hK.out _ _ hS fun hs => by rw [ha.out, hl.out]; exact h hs
end
end Go.Proofs.Ytcffbgehopjgpaa
