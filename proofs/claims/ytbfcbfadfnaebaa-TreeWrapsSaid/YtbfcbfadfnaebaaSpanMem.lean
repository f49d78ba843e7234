/- Lists of runs in memory: as they came in, in a row of the call's own that grows and is written. -/
import Derived.Test.YtbfcbfadfnaebaaLaw
import Derived.Test.YtbfcbfadfnaebaaBytes
import Derived.Test.YtbfcbfadfnaebaaKept
import Derived.Test.YtbfcbfadfnaebaaSpanBits
import Derived.WalkKit
import Derived.StillTailTactics
import Derived.Deep.QuietTactic
import Derived.BigQuiet
import Derived.Deep.RegionHeld3
import Derived.Deep.RegionLaw
import Derived.Deep.DeepCutAuto
import Derived.IntWalk
import Derived.OpenShut
namespace Go.Proofs.Ytbfcbfadfnaebaa
open Go.ChangeShapes Go.WideShapes Go.ChangeAt Go.RowKit
namespace Sp
/-- a run's cells -/
def runC (r : Int × Int) : List Value := [.int .i64 r.1, .int .i64 r.2]
def runsC (l : List (Int × Int)) : List Value := l.flatMap runC
theorem runsC_append (a b : List (Int × Int)) : runsC (a ++ b) = runsC a ++ runsC b := by simp [runsC]
theorem runsC_len (l : List (Int × Int)) : (runsC l).length = l.length * 2 := flatMap_len (f := runC) (fun _ => rfl) l
theorem runsC_one (l : List (Int × Int)) : ∀ u ∈ runsC l, u.oneCell' = true := by
  intro u hu
  obtain ⟨r, _, hu⟩ := List.mem_flatMap.1 hu
  simp [runC] at hu
  rcases hu with rfl | rfl <;> rfl
theorem runsC_at (l : List (Int × Int)) (k : Nat) (h : k < l.length) : (runsC l)[k * 2]? = some (.int .i64 l[k].1) ∧ (runsC l)[k * 2 + 1]? = some (.int .i64 l[k].2) := by
  unfold runsC
  induction l generalizing k with
  | nil => simp at h
  | cons d l ih =>
    cases k with
    | zero => simp [runC]
    | succ k =>
      have := ih k (by simpa using h)
      rw [List.flatMap_cons, show (k + 1) * 2 = (k * 2 + 1) + 1 from by omega]
      simp only [runC, List.cons_append, List.nil_append, List.getElem?_cons_succ, List.getElem_cons_succ]
      exact this
/-- cells of whole numbers -/
def intsC (l : List Int) : List Value := l.map fun x => Value.int .i64 x
theorem intsC_len (l : List Int) : (intsC l).length = l.length * 1 := by simp [intsC]
theorem intsC_one (l : List Int) : ∀ u ∈ intsC l, u.oneCell' = true := by
  intro u hu
  obtain ⟨r, _, rfl⟩ := List.mem_map.1 hu
  rfl
theorem intsC_at (l : List Int) (k : Nat) (h : k < l.length) : (intsC l)[k]? = some (.int .i64 l[k]) := by
  simp [intsC, h]
theorem intsC_append (a b : List Int) : intsC (a ++ b) = intsC a ++ intsC b := by simp [intsC]
theorem ints_flat : ∀ l : List Int, intsC l = l.flatMap fun b : Int => [Value.int .i64 b]
  | [] => rfl
  | b :: l => by
    have := ints_flat l
    unfold intsC at this ⊢
    rw [List.map_cons, List.flatMap_cons, this]; rfl
/-- the two cells of a run that a slice tells -/
theorem rd_run {w : World} {B n c : Nat} {A : Option Addr} {l : List (Int × Int)} (h : Rd w B 2 A n c (runsC l)) (hl : l.length = n) {k : Nat} (hk : k < n) :
    ∃ b o, A = some ⟨b, o, none⟩ ∧ b < B ∧ ∀ (k : Nat) (hk : k < l.length), w.cell? ⟨b, o + k * 2, none⟩ = some (.int .i64 l[k].1) ∧ w.cell? ⟨b, o + k * 2 + 1, none⟩ = some (.int .i64 l[k].2) := by
  obtain ⟨b, o, e, hb, hc⟩ := h.at_ (by omega)
  refine ⟨b, o, e, hb, fun k hk => ?_⟩
  obtain ⟨q0, q1⟩ := runsC_at l k hk
  exact ⟨hc _ _ q0, by rw [Nat.add_assoc]; exact hc _ _ q1⟩
theorem rd_int {w : World} {B n c : Nat} {A : Option Addr} {l : List Int} (h : Rd w B 1 A n c (intsC l)) (_ : l.length = n) {k : Nat} (hk : k < n) :
    ∃ b o, A = some ⟨b, o, none⟩ ∧ b < B ∧ ∀ (k : Nat) (hk : k < l.length), w.cell? ⟨b, o + k, none⟩ = some (.int .i64 l[k]) := by
  obtain ⟨b, o, e, hb, hc⟩ := h.at_ (by omega)
  exact ⟨b, o, e, hb, fun k hk => hc _ _ (intsC_at l k hk)⟩
theorem info_of {t sz by_ : Nat} {z : Value} (h : (Try.prog.info? t).map (fun i => (i.zero, i.size, i.bytes)) = some (some z, sz, by_)) : ∃ i, Try.prog.info? t = some i ∧ i.zero = some z ∧ i.size = sz ∧ i.bytes = by_ := by
  cases hi : Try.prog.info? t with
  | none => rw [hi] at h; cases h
  | some i =>
    rw [hi] at h
    simp only [Option.map_some, Option.some.injEq, Prod.mk.injEq] at h
    exact ⟨i, rfl, h.1, h.2.1, h.2.2⟩
theorem infoR : (Try.prog.info? 119).map (fun i => (i.zero, i.size, i.bytes)) = some (some (.agg #[.int .i64 0, .int .i64 0]), 2, 16) := by kernel_rfl
theorem infoP : (Try.prog.info? 118).map (fun i => (i.zero, i.size, i.bytes)) = some (some (.agg #[.int .i64 0, .int .i64 0]), 2, 16) := by kernel_rfl
theorem infoI : (Try.prog.info? 2).map (fun i => (i.zero, i.size, i.bytes)) = some (some (.int .i64 0), 1, 8) := by kernel_rfl
/-- append of what a new row holds -/
theorem run_push {t e sz by_ : Nat} {z : Value} (ht : Try.prog.underlying t = some (.slice e)) (hi : (Try.prog.info? e).map (fun i => (i.zero, i.size, i.bytes)) = some (some z, sz, by_)) (hzs : z.cells.size = sz) (hsz : 0 < sz) (hby : by_ ≤ 1000000)
    (W : World) (base q : Nat) (hq : W.heap.size = q) (hb : base ≤ W.heap.size) (v : Value) (n : Nat) (xs : List Value) (hown : W.ownsRow base e sz v n xs) (news : List Value) (m : Nat) (hm : news.length = m * sz) (h1 : ∀ u ∈ news, u.oneCell' = true) (hn : n + m ≤ 1000000) :
    ∃ v' w', (Builtin.append_ #[t, t] t #[v, .slice (some ⟨q, 0, none⟩) m m]).run Try.prog (W.alloc (.cells news.toArray e)) = .ok v' w' ∧
      w'.ownsRow base e sz v' (n + m) (xs ++ news) ∧ Below base W w' := by
  subst hq
  obtain ⟨i0, hi0, hz0, hz1, hz2⟩ := info_of hi
  obtain ⟨v', w', h1, h2, h3, h4⟩ := run_app (P := Try.prog) (W.alloc (.cells news.toArray e)) base t t e i0 z sz by_ ht hi0 hz0 hz1 hz2 hzs hsz
    (hown.alloc _) (B := W.heap.size + 1) (A := some ⟨W.heap.size, 0, none⟩) (m := m) (c := m) (news := news)
    ⟨hm, by omega, h1, fun _ => ⟨_, _, rfl, by omega, fun j u hu => by
      rw [Nat.zero_add, cell_of_row _ _ j _ _ (0, 0) (heap_alloc_new _ _)]
      simpa using hu⟩⟩ hn hby (by simp; omega)
  exact ⟨v', w', h1, h2, ((Below.refl base W).alloc hb _).grown h3 (by simp; omega) (fun k hk => (hown.lt k hk).1)⟩
/-- append of one run -/
theorem push_run {t e : Nat} (ht : Try.prog.underlying t = some (.slice e)) (hi : (Try.prog.info? e).map (fun i => (i.zero, i.size, i.bytes)) = some (some (.agg #[.int .i64 0, .int .i64 0]), 2, 16))
    (W : World) (base q : Nat) (hq : W.heap.size = q) (hb : base ≤ W.heap.size) (v : Value) (l : List (Int × Int)) (hown : W.ownsRow base e 2 v l.length (runsC l)) (x y : Int) (hn : l.length ≤ 900000) :
    ∃ A' c' w', (Builtin.append_ #[t, t] t #[v, .slice (some ⟨q, 0, none⟩) 1 1]).run Try.prog (W.alloc (.cells #[.int .i64 x, .int .i64 y] e)) = .ok (.slice A' (l ++ [(x, y)]).length c') w' ∧
      Own w' base e 2 A' (l ++ [(x, y)]).length c' (runsC (l ++ [(x, y)])) ∧ Below base W w' := by
  obtain ⟨v', w', h1, h2, h3⟩ := run_push ht hi rfl (by omega) (by omega) W base q hq hb v l.length (runsC l) hown [.int .i64 x, .int .i64 y] 1 rfl (by intro u hu; simp at hu; rcases hu with rfl | rfl <;> rfl) (by omega)
  have e1 : runsC (l ++ [(x, y)]) = runsC l ++ [.int .i64 x, .int .i64 y] := by rw [runsC_append]; rfl
  have e2 : (l ++ [(x, y)]).length = l.length + 1 := by simp
  rw [← e1, ← e2] at h2
  obtain ⟨A', c', rfl, ho⟩ := Own.of_row h2 (runsC_one _)
  exact ⟨A', c', w', h1, ho, h3⟩
/-- a cell of a row of the call's own is written -/
theorem ownsRow_set {w : World} {base e sz n cap g : Nat} {xs : List Value} (h : w.ownsRow base e sz (.slice (some ⟨g, 0, none⟩) n cap) n xs) (i : Nat) (u : Value) : (w.setCell ⟨g, i, none⟩ u).ownsRow base e sz (.slice (some ⟨g, 0, none⟩) n cap) n (xs.set i u) := by
  obtain ⟨h1, h2⟩ := h
  refine ⟨by rw [List.length_set]; exact h1, ?_⟩
  rcases h2 with ⟨h2, _⟩ | ⟨g', cap', cur, hv, hg, hh, hn, hm, hs, hx⟩
  · cases h2
  · injection hv with e1 e2 e3
    injection e1 with e1
    injection e1 with e1
    subst e1; subst e3
    refine .inr ⟨g, cap, cur.setIfInBounds i u, rfl, hg, heap_setCell_same w g i cur e u hh, hn, hm, by simpa using hs, ?_⟩
    rw [← hx]
    simp [List.take_set]
/-- where a row of the call's own lies -/
theorem Own.place {w : World} {base e sz n c : Nat} {A : Option Addr} {xs : List Value} (h : Own w base e sz A n c xs) (hn : 0 < n) : ∃ g, A = some ⟨g, 0, none⟩ ∧ base ≤ g ∧ g < w.heap.size ∧ (∀ j, w.frozen? ⟨g, j, none⟩ = false) ∧ ∀ j u, xs[j]? = some u → w.cell? ⟨g, j, none⟩ = some u := by
  rcases h.row.2 with ⟨_, h0⟩ | ⟨g, cap, cur, hv, hg, hh, _⟩
  · omega
  · injection hv with e1 e2 e3
    subst e1
    obtain ⟨b, o, e4, hb, hc⟩ := h.rd.at_ hn
    injection e4 with e4
    injection e4 with e4 e5
    subst e4; subst e5
    exact ⟨g, rfl, hg, hb, fun j => by simp [World.frozen?, hh], fun j u hu => by have := hc j u hu; rwa [Nat.zero_add] at this⟩
theorem own_later {w w' : World} {base e sz n c : Nat} {A : Option Addr} {xs : List Value} (h : Own w base e sz A n c xs) (hb : Below w.heap.size w w') : Own w' base e sz A n c xs := ⟨ownsRow_later h.row hb, h.one⟩
/-- the last run's end is written -/
theorem own_close {w : World} {base e n c g : Nat} {done : List (Int × Int)} {s t t' : Int} (h : Own w base e 2 (some ⟨g, 0, none⟩) n c (runsC (done ++ [(s, t)]))) : Own (w.setCell ⟨g, done.length * 2 + 1, none⟩ (.int .i64 t')) base e 2 (some ⟨g, 0, none⟩) n c (runsC (done ++ [(s, t')])) := by
  have e1 : (runsC (done ++ [(s, t)])).set (done.length * 2 + 1) (.int .i64 t') = runsC (done ++ [(s, t')]) := by
    have e2 : ¬ done.length * 2 + 1 < (runsC done).length := by rw [runsC_len]; omega
    rw [runsC_append, runsC_append, List.set_append, if_neg e2, runsC_len, Nat.add_sub_cancel_left]
    rfl
  refine ⟨?_, runsC_one _⟩
  rw [← e1]
  exact ownsRow_set h.row _ _
/-- two whole numbers in an array that came in -/
theorem pair_of_trod {H : Type} {enc : TypeId × Value → H} {W : World} {fuel : Nat} {cs : List Value} {x : DataW H × List MemPlace} (h : DataW.trod enc Try.prog W 0 (fun _ => true) true fuel 118 cs = some x) : ∃ r : Int × Int, cs = runC r := by
  obtain ⟨xs, m, _, _, hlen, hn, hf⟩ := DataW.trod_array Try.underlying118 h
  have hc2 : Try.prog.cellsOf 118 = 2 := by kernel_rfl
  have hci : Try.prog.cellsOf 2 = 1 := by kernel_rfl
  rw [hc2] at hlen
  rw [hci] at hf
  obtain ⟨c0, c1, rfl⟩ : ∃ c0 c1, cs = [c0, c1] := by
    match cs, hlen with
    | [c0, c1], _ => exact ⟨_, _, rfl⟩
  match xs, hn with
  | [y0, y1], _ =>
    have h0 := hf 0 (by omega)
    have h1 := hf 1 (by omega)
    simp at h0 h1
    obtain ⟨a, e0, _, _⟩ := DataW.trod_int Try.underlying2 h0
    obtain ⟨b, e1, _, _⟩ := DataW.trod_int Try.underlying2 h1
    simp at e0 e1
    subst e0; subst e1
    exact ⟨(a, b), rfl⟩
/-- lists of runs that came in -/
theorem runs_of_trod {H : Type} {enc : TypeId × Value → H} {W : World} {A : Option Addr} {len cap fuel : Nat} {x : DataW H × List MemPlace}
    (h : DataW.trod enc Try.prog W 0 (fun _ => true) true fuel 99 (Value.slice A len cap).cells.toList = some x) :
    ∃ l : List (Int × Int), l.length = len ∧ Rd W W.heap.size 2 A len cap (runsC l) ∧ len ≤ maxLen :=
  rd_of_trod runC (fun _ => rfl) (fun _ u hu => by simp [runC] at hu; rcases hu with rfl | rfl <;> rfl) (by omega) Try.underlying99 (by kernel_rfl) (fun _ _ _ hy => pair_of_trod hy) h
theorem wf_i64 {n : Int} (h : (Lit.int .i64 n).wf = true) : -9223372036854775808 ≤ n ∧ n ≤ 9223372036854775807 := by
  have e1 : IntKind.i64.min = -9223372036854775808 := by decide
  have e2 : IntKind.i64.max = 9223372036854775807 := by decide
  simp [Lit.wf, e1, e2] at h
  exact h
/-- whole numbers that came in -/
theorem ints_of_trod {H : Type} {enc : TypeId × Value → H} {W : World} {A : Option Addr} {len cap fuel : Nat} {x : DataW H × List MemPlace}
    (h : DataW.trod enc Try.prog W 0 (fun _ => true) true fuel 89 (Value.slice A len cap).cells.toList = some x) :
    ∃ l : List Int, l.length = len ∧ Rd W W.heap.size 1 A len cap (intsC l) ∧ len ≤ maxLen := by
  obtain ⟨l, h1, h2, h3⟩ := rd_of_trod (fun b : Int => [Value.int .i64 b]) (fun _ => rfl) (fun _ u hu => by simp at hu; subst hu; rfl) (Nat.zero_lt_one) Try.underlying89 (by kernel_rfl)
    (fun n cs y hy => by
      obtain ⟨v, e, _, hw⟩ := DataW.trod_int Try.underlying2 hy
      exact ⟨v, e⟩) h
  refine ⟨l, h1, ?_, h3⟩
  rw [ints_flat]; exact h2
end Sp
end Go.Proofs.Ytbfcbfadfnaebaa
