/- Layer 18: how acts that come in are opened. -/
import Derived.Test.YtcffbgehopjgpaaJournalActs
import Derived.Test.YtcffbgehopjgpaaLaw
namespace Go.Proofs.Ytcffbgehopjgpaa
open Go.ChangeShapes Go.WideShapes Go.ChangeAt Go.RowKit
namespace Jrn
open By Tpe
set_option maxRecDepth 100000
set_option maxHeartbeats 1000000
section
variable {H : Type} {enc : TypeId × Value → H} {P : Program} {W : World}
/-- a slice that came in, row by row: each element's cells, and that they are told -/
theorem row_of_trod {t e : TypeId} {sz fuel : Nat} {cs : List Value} {x : DataW H × List MemPlace} (ht : P.underlying t = some (.slice e)) (hce : P.cellsOf e = sz) (hsz : 0 < sz)
    (h1 : ∀ n cs y, n < fuel → DataW.trod enc P W 0 (fun _ => true) true n e cs = some y → ∀ u ∈ cs, u.oneCell' = true)
    (h : DataW.trod enc P W 0 (fun _ => true) true fuel t cs = some x) :
    ∃ (A : Option Addr) (len cap : Nat) (f : Nat → List Value), cs = [.slice A len cap] ∧ (∀ i, (f i).length = sz) ∧ (∀ i, i < len → ∃ n y, DataW.trod enc P W 0 (fun _ => true) true n e (f i) = some y) ∧ Rd W W.heap.size sz A len cap ((List.range len).flatMap f) ∧ len ≤ maxLen := by
  rcases DataW.trod_slice ht h with ⟨rfl, _⟩ | ⟨a, len, cap, elems, rest, n, rfl, rfl, rfl, _, hl, hm, hlen, hel, _⟩
  · exact ⟨none, 0, 0, fun _ => List.replicate sz (.int .i64 0), rfl, fun _ => by simp, fun i hi => absurd hi (Nat.not_lt_zero _), Rd.nil _, by simp [maxLen]⟩
  · have hex : ∀ i, ∃ c : List Value, c.length = sz ∧ (i < len → (∃ y, DataW.trod enc P W 0 (fun _ => true) true n e c = some y ∧ y ∈ elems) ∧ ∀ j, j < sz → W.cell? (a.add (i * sz + j)) = c[j]?) := by
      intro i
      by_cases hi : i < len
      · have := hel i hi
        rw [List.getElem?_eq_getElem (by omega)] at this
        obtain ⟨c, hc, hy⟩ := Option.bind_eq_some_iff.1 this
        obtain ⟨_, hcl, hat⟩ := World.cells?_some hc
        rw [hce] at hcl hat
        refine ⟨c, hcl, fun _ => ⟨⟨_, hy, List.getElem_mem _⟩, fun j hj => ?_⟩⟩
        have := hat j hj
        rwa [add_add'] at this
      · exact ⟨List.replicate sz (.int .i64 0), by simp, fun h => absurd h hi⟩
    obtain ⟨f, hf⟩ := Classical.axiomOfChoice hex
    have hfl : ∀ i, (f i).length = sz := fun i => (hf i).1
    refine ⟨some a, len, cap, f, rfl, hfl, fun i hi => ?_, ?_, Nat.le_trans hl hm⟩
    · obtain ⟨y, hy, hmem⟩ := ((hf i).2 hi).1
      exact ⟨n, y, hy⟩
    · refine rd_of_cells (by rw [flatMap_len hfl, List.length_range]) hl (fun u hu => ?_) hsz (fun k u hu => ?_)
      · obtain ⟨i, hi, hu⟩ := List.mem_flatMap.1 hu
        obtain ⟨y, hy, _⟩ := ((hf i).2 (List.mem_range.1 hi)).1
        exact h1 n (f i) y (Nat.lt_succ_self n) hy u hu
      · have hk : k < len * sz := by
          have := (List.getElem?_eq_some_iff.1 hu).1
          rwa [flatMap_len hfl, List.length_range] at this
        have hq : k / sz < len := Nat.div_lt_of_lt_mul (by rw [Nat.mul_comm]; exact hk)
        have hr : k % sz < sz := Nat.mod_lt _ hsz
        have he : k / sz * sz + k % sz = k := by rw [Nat.mul_comm]; exact Nat.div_add_mod k sz
        have h3 := flat_at (f := f) (k := sz) hfl (List.range len) (k / sz) (k % sz) (by rw [List.length_range]; exact hq) hr
        rw [he, List.getElem_range] at h3
        have h4 := ((hf (k / sz)).2 hq).2 (k % sz) hr
        rw [he] at h4
        rw [h4, ← h3]
        exact hu
end
section
variable {H : Type} {enc : TypeId × Value → H} {W : World}
theorem act_of_trod {fuel : Nat} {cs : List Value} {z : DataW H × List MemPlace} (h : DataW.trod enc Try.prog W 0 (fun _ => true) true fuel 40 cs = some z) : ∃ x : Ac, cs = acC x ∧ Rd W W.heap.size 1 x.A x.n x.c (u8s x.b) ∧ AcN x := by
  obtain ⟨f0, f1, f2, f3, hT, t0, o0, t1, o1, t2, o2, t3, o3⟩ : ∃ f0 f1 f2 f3 : Field, Try.prog.underlying 40 = some (.struct #[f0, f1, f2, f3]) ∧ f0.type = 5 ∧ f0.offset = 0 ∧ f1.type = 23 ∧ f1.offset = 1 ∧ f2.type = 3 ∧ f2.offset = 2 ∧ f3.type = 5 ∧ f3.offset = 3 := ⟨_, _, _, _, Try.underlying40, rfl, rfl, rfl, rfl, rfl, rfl, rfl, rfl⟩
  obtain ⟨xs, n, rfl, rfl, hlen, hxl, hfs⟩ := DataW.trod_struct hT h
  have hc4 : Try.prog.cellsOf 40 = 4 := by kernel_rfl
  have hcb : Try.prog.cellsOf 23 = 1 := by kernel_rfl
  have hci : Try.prog.cellsOf 3 = 1 := by kernel_rfl
  have hcu : Try.prog.cellsOf 5 = 1 := by kernel_rfl
  rw [hc4] at hlen
  obtain ⟨c0, c1, c2, c3, rfl⟩ : ∃ c0 c1 c2 c3, cs = [c0, c1, c2, c3] := by
    match cs, hlen with
    | [c0, c1, c2, c3], _ => exact ⟨_, _, _, _, rfl⟩
  obtain ⟨x0, x1, x2, x3, rfl⟩ : ∃ x0 x1 x2 x3, xs = [x0, x1, x2, x3] := by
    match xs, hxl with
    | [x0, x1, x2, x3], _ => exact ⟨_, _, _, _, rfl⟩
  have h0 := hfs 0 f0 rfl
  have h1 := hfs 1 f1 rfl
  have h2 := hfs 2 f2 rfl
  have h3 := hfs 3 f3 rfl
  rw [t0, o0, hcu] at h0
  rw [t1, o1, hcb] at h1
  rw [t2, o2, hci] at h2
  rw [t3, o3, hcu] at h3
  simp at h0 h1 h2 h3
  obtain ⟨kd, e0, _, w0⟩ := DataW.trod_int Try.underlying5 h0
  obtain ⟨A, m, c, rfl⟩ : ∃ A m c, c1 = .slice A m c := by
    rcases DataW.trod_slice Try.underlying23 h1 with ⟨e, _⟩ | ⟨a, len, cap, _, _, _, _, e, _⟩ <;> exact ⟨_, _, _, by simpa using e⟩
  obtain ⟨bs, _, hr, _⟩ := bytes_of_trod (A := A) (len := m) (cap := c) h1
  obtain ⟨v, e2, _, w2⟩ := DataW.trod_int Try.underlying3 h2
  obtain ⟨y, e3, _, w3⟩ := DataW.trod_int Try.underlying5 h3
  simp at e0 e2 e3
  subst e0; subst e2; subst e3
  obtain ⟨yb, rfl⟩ : ∃ yb : UInt8, y = (yb.toNat : Int) := by
    have := wf_u8 w3
    exact ⟨UInt8.ofNat y.toNat, by rw [UInt8.toNat_ofNat']; omega⟩
  exact ⟨⟨kd, bs, v, yb, A, m, c⟩, rfl, hr, wf_u8 w0, wf_i64 w2⟩
theorem acC_one (x : Ac) : ∀ u ∈ acC x, u.oneCell' = true := by
  intro u hu
  simp [acC] at hu
  rcases hu with rfl | rfl | rfl | rfl <;> rfl
theorem acts_of_trod {A : Option Addr} {len cap fuel : Nat} {x : DataW H × List MemPlace}
    (h : DataW.trod enc Try.prog W 0 (fun _ => true) true fuel 24 (Value.slice A len cap).cells.toList = some x) : ∃ l : List Ac, AcRd W W.heap.size A len cap l ∧ len ≤ maxLen := by
  obtain ⟨A', n, c, f, e, hfl, hel, hrd, hm⟩ := row_of_trod (sz := 4) Try.underlying24 (by kernel_rfl) (by omega) (fun n cs y _ hy u hu => by
    obtain ⟨x, rfl, _⟩ := act_of_trod hy
    exact acC_one x u hu) h
  simp [Value.cells] at e
  obtain ⟨e1, e2, e3⟩ := e
  subst e1; subst e2; subst e3
  have hex : ∀ i, ∃ x : Ac, i < len → f i = acC x ∧ Rd W W.heap.size 1 x.A x.n x.c (u8s x.b) ∧ AcN x := by
    intro i
    by_cases hi : i < len
    · obtain ⟨m, y, hy⟩ := hel i hi
      obtain ⟨x, h1⟩ := act_of_trod hy
      exact ⟨x, fun _ => h1⟩
    · exact ⟨⟨0, [], 0, 0, none, 0, 0⟩, fun h => absurd h hi⟩
  obtain ⟨xf, hxf⟩ := Classical.axiomOfChoice hex
  refine ⟨(List.range len).map xf, ⟨by simp, ?_, fun x hx => ?_⟩, hm⟩
  · have e : ((List.range len).map xf).flatMap acC = (List.range len).flatMap f := by
      rw [List.flatMap_map]
      unfold List.flatMap
      congr 1
      exact List.map_congr_left fun i hi => ((hxf i (List.mem_range.1 hi)).1).symm
    rw [e]
    exact hrd
  · obtain ⟨i, hi, rfl⟩ := List.mem_map.1 hx
    exact (hxf i (List.mem_range.1 hi)).2
end
end Jrn
end Go.Proofs.Ytcffbgehopjgpaa
