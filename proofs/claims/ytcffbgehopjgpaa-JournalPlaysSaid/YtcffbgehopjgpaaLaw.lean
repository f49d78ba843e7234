/- From a walk to a law's statement: whatever law of plain data that answers true and changes nothing. -/
import Derived.Test.YtcffbgehopjgpaaWords
import Derived.ProofKit
import Derived.OpenShut
import Derived.Deep.Slices
namespace Go.Proofs.Ytcffbgehopjgpaa
open Go.ChangeShapes Go.WideShapes Go.ChangeAt Go.RowKit
theorem own : ownKnob Try.prog.godebug = none := by kernel_rfl
theorem laidOut : laidOutB Try.prog = true := by kernel_rfl

theorem trodAll_later {H : Type} {enc : TypeId × Value → H} {P : Program} (hl : laidOutB P = true) {W W' : World} (hb : Below W.heap.size W W') :
    ∀ {ts : List TypeId} {vs : List Value} {ds : List (DataW H)} {ps : List MemPlace}, ts.all (fun t => P.readableRec t && decide (t < P.types.size)) = true →
      DataW.TrodAll enc P W 0 (fun _ => true) true ts vs ds ps → (∀ x ∈ ps, x.block < W.heap.size) → DataW.TrodAll enc P W' 0 (fun b => decide (b < W.heap.size)) true ts vs ds ps
  | [], _, _, _, _, h, _ => by
    obtain ⟨rfl, rfl, rfl⟩ := trodAll_nil h
    exact trodAll_mk0
  | t :: ts, _, _, _, ha, h, hlt => by
    obtain ⟨v, vs', d, ds', p, q, rfl, rfl, rfl, h0, hr⟩ := trodAll_cons h
    simp only [List.all_cons, Bool.and_eq_true, decide_eq_true_eq] at ha
    exact trodAll_cons_mk (Below.trod hl ha.1.1 ha.1.2 h0 hb (fun x hx => hlt x (List.mem_append_left _ hx))) (trodAll_later hl hb (by simpa using ha.2) hr (fun x hx => hlt x (List.mem_append_right _ hx)))

theorem law_post {H : Type} {enc : TypeId × Value → H} {f : Func} {s : ChangeSpec} {W W' : World} {args : Array Value} {ds gs : List (DataW H)} {before : List MemPlace}
    (hW : DataW.Whole enc Try.prog f.params.toList s.vars false W args.toList ds gs before) (hall : f.params.toList.all (fun t => Try.prog.readableRec t && decide (t < Try.prog.types.size)) = true)
    (hvars : s.vars = []) (hrt : f.resultTypes = #[4]) (hfn : s.fn H ds = { results := [.lit (.bool true)], args := ds }) (hb : Below W.heap.size W W') :
    s.post enc Try.prog f false true false false W args (.bool true) W' := by
  have hW0 := hW
  obtain ⟨p, q, hA, hV, rfl, hfz, hnd⟩ := hW
  rw [hvars] at hV
  obtain ⟨rfl, rfl⟩ := trodVars_none hV
  have hlt : ∀ x ∈ p, x.block < W.heap.size := fun x hx => by simpa using hW0.lt x (by simpa using hx)
  refine ⟨ds, [], p ++ [], [], p, [], hW0, ?_, ?_, ?_, ?_, fun h => by cases h⟩
  · rw [List.append_nil, hfn, hrt]
    exact trodAll_mk1 (shut_bool Try.underlying4 true)
  · rw [List.append_nil, hfn]
    exact trodAll_later laidOut hb hall hA hlt
  · rw [hvars, List.append_nil, hfn]
    rfl
  · exact hb.frame _

/-- cells of a slice that came in -/
theorem rd_of_cells {w : World} {a : Addr} {sz n c : Nat} {xs : List Value} (hl : xs.length = n * sz) (hc : n ≤ c) (h1 : ∀ u ∈ xs, u.oneCell' = true) (hsz : 0 < sz) (h : ∀ j u, xs[j]? = some u → w.cell? (a.add j) = some u) : Rd w w.heap.size sz (some a) n c xs := by
  refine ⟨hl, hc, h1, fun hn => ?_⟩
  have hpos : 0 < xs.length := by rw [hl]; exact Nat.mul_pos hn hsz
  have h0 := h 0 _ (List.getElem?_eq_getElem hpos)
  have hs : a.spot = none := by
    cases he : a.spot with
    | none => rfl
    | some q =>
      simp only [Addr.add, if_true] at h0
      unfold World.cell? at h0
      split at h0
      · rw [he] at h0; simp at h0
      · cases h0
  obtain ⟨b, o, sp⟩ := a
  dsimp only at hs
  subst hs
  have hb : b < w.heap.size := by
    simp only [Addr.add, if_true] at h0
    exact World.block_lt_of_cell? w _ h0
  refine ⟨b, o, rfl, hb, fun j u hu => ?_⟩
  have := h j u hu
  unfold Addr.add at this
  split at this
  · rename_i hj; subst hj; exact this
  · exact this
theorem add_add' (a : Addr) (i j : Nat) : (a.add i).add j = a.add (i + j) := by
  unfold Addr.add
  by_cases hi : i = 0 <;> by_cases hj : j = 0 <;> simp [hi, hj, Nat.add_assoc]
theorem flatMap_len {α : Type} {f : α → List Value} {sz : Nat} (hf : ∀ a, (f a).length = sz) : ∀ l : List α, (l.flatMap f).length = l.length * sz
  | [] => by simp
  | c :: l => by rw [List.flatMap_cons, List.length_append, hf, flatMap_len hf l, List.length_cons, Nat.succ_mul, Nat.add_comm]
/-- A slice that came in, element by element. -/
theorem rd_of_trod {H : Type} {enc : TypeId × Value → H} {P : Program} {W : World} {t e : TypeId} {sz : Nat} {α : Type} (f : α → List Value) (hf : ∀ a, (f a).length = sz) (h1 : ∀ a, ∀ u ∈ f a, u.oneCell' = true) (hsz : 0 < sz)
    (ht : P.underlying t = some (.slice e)) (hce : P.cellsOf e = sz) (dec : ∀ n cs y, DataW.trod enc P W 0 (fun _ => true) true n e cs = some y → ∃ a, cs = f a)
    {A : Option Addr} {len cap : Nat} {fuel : Nat} {x : DataW H × List MemPlace} (h : DataW.trod enc P W 0 (fun _ => true) true fuel t (Value.slice A len cap).cells.toList = some x) :
    ∃ l : List α, l.length = len ∧ Rd W W.heap.size sz A len cap (l.flatMap f) ∧ len ≤ maxLen := by
  rcases Deep.open_slice ht h with ⟨hcs, _⟩ | ⟨a, len', cap', m, n, D, Pl, hcs, _, hl, hm, hmm, _, hel⟩
  · simp only [Value.cells] at hcs
    injection hcs with hcs
    injection hcs with e1 e2 e3
    subst e1; subst e2; subst e3
    exact ⟨[], rfl, Rd.nil _, by simp [maxLen]⟩
  · simp only [Value.cells] at hcs
    injection hcs with hcs
    injection hcs with e1 e2 e3
    subst e1; subst e2; subst e3
    have hmm' : m = cap := by simpa using hmm
    clear hmm
    subst hmm'
    have key : ∀ q, q ≤ len → ∃ l : List α, l.length = q ∧ ∀ k u, (l.flatMap f)[k]? = some u → W.cell? (a.add k) = some u := by
      intro q
      induction q with
      | zero => intro _; exact ⟨[], rfl, by simp⟩
      | succ q ih =>
        intro hq
        obtain ⟨l, hlq, hcell⟩ := ih (by omega)
        obtain ⟨cs', hc, htr⟩ := hel q (by omega)
        obtain ⟨b, rfl⟩ := dec _ _ _ htr
        obtain ⟨_, hlen, hat⟩ := World.cells?_some hc
        refine ⟨l ++ [b], by simp [hlq], fun k u hu => ?_⟩
        have hfl : (l.flatMap f).length = q * sz := by
          rw [flatMap_len hf, hlq]
        rw [List.flatMap_append] at hu
        rcases Nat.lt_or_ge k (q * sz) with h5 | h5
        · rw [List.getElem?_append_left (by omega)] at hu
          exact hcell k u hu
        · rw [List.getElem?_append_right (by omega), hfl] at hu
          simp only [List.flatMap_cons, List.flatMap_nil, List.append_nil] at hu
          have hk : k - q * sz < sz := by
            have := (List.getElem?_eq_some_iff.1 hu).1
            rw [hf] at this
            exact this
          have := hat (k - q * sz) (by rw [hce]; exact hk)
          rw [add_add', hce] at this
          have e2 : q * sz + (k - q * sz) = k := by omega
          rw [e2, hu] at this
          exact this
    obtain ⟨l, hll, hcell⟩ := key len (Nat.le_refl _)
    refine ⟨l, hll, rd_of_cells ?_ hl ?_ hsz hcell, Nat.le_trans hl hm⟩
    · rw [flatMap_len hf, hll]
    · intro u hu
      obtain ⟨b, _, hu⟩ := List.mem_flatMap.1 hu
      exact h1 b u hu
end Go.Proofs.Ytcffbgehopjgpaa
