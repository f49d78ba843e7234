/- What layer 7's texts say that this seat needs, in one text. -/
import Derived.Test.YtbfcbfadfnaebaaSpanBits
import Derived.Test.YtbfcbfadfnaebaaSpanMem
import Derived.Test.YtbfcbfadfnaebaaRows4
/- Sets of dots as spans, center by center, as mathematics: what is right, a center's part, that a set has one such list. Nothing here speaks of a program. -/
namespace Go.Proofs.Ytbfcbfadfnaebaa
namespace Cx
open Sp
/-- a span: its center, from, to -/
abbrev S3 := Int × Int × Int
/-- a center's numbers -/
def part (c : List S3) (d : Int) : List (Int × Int) := (c.filter fun s => decide (s.1 = d)).map fun s => s.2
def spans (d : Int) (l : List (Int × Int)) : List S3 := l.map fun r => (d, r)
theorem part_nil (d : Int) : part [] d = [] := rfl
theorem part_append (a b : List S3) (d : Int) : part (a ++ b) d = part a d ++ part b d := by simp [part]
theorem part_cons (s : S3) (c : List S3) (d : Int) : part (s :: c) d = if s.1 = d then s.2 :: part c d else part c d := by
  unfold part
  by_cases h : s.1 = d
  · simp [h]
  · simp [h]
theorem part_spans (d e : Int) (l : List (Int × Int)) : part (spans d l) e = if d = e then l else [] := by
  induction l with
  | nil => simp [spans, part]
  | cons r l ih =>
    show part ((d, r) :: spans d l) e = _
    rw [part_cons, ih]
    by_cases h : d = e <;> simp [h]
theorem part_mem {c : List S3} {d : Int} {r : Int × Int} : r ∈ part c d ↔ (d, r) ∈ c := by
  unfold part
  simp only [List.mem_map, List.mem_filter, decide_eq_true_eq]
  constructor
  · rintro ⟨s, ⟨hs, he⟩, rfl⟩
    subst he
    exact hs
  · intro h
    exact ⟨(d, r), ⟨h, rfl⟩, rfl⟩
theorem part_len (c : List S3) (d : Int) : (part c d).length ≤ c.length := by
  unfold part
  rw [List.length_map]
  exact List.length_filter_le _ _
/-- may a center be? -/
def Cen (d : Int) : Prop := 0 ≤ d ∧ d < 4
/-- centers rise, and may be -/
def RiseC : Int → List S3 → Prop
  | _, [] => True
  | m, s :: c => m ≤ s.1 ∧ s.1 < 4 ∧ RiseC s.1 c
structure RightC (c : List S3) : Prop where
  rise : RiseC 0 c
  part : ∀ d, Cen d → RightF 1 (part c d)
theorem RiseC.mem : ∀ {c : List S3} {m : Int}, RiseC m c → ∀ s ∈ c, m ≤ s.1 ∧ s.1 < 4
  | [], _, _, s, h => by simp at h
  | t :: c, m, h, s, hs => by
    obtain ⟨h1, h2, h3⟩ := h
    rcases List.mem_cons.1 hs with rfl | hs
    · exact ⟨h1, h2⟩
    · have := RiseC.mem h3 s hs
      omega
theorem RiseC.mono {m m' : Int} (hm : m' ≤ m) : ∀ {c : List S3}, RiseC m c → RiseC m' c
  | [], _ => trivial
  | _ :: _, h => ⟨by have := h.1; omega, h.2.1, h.2.2⟩
theorem RiseC.append : ∀ {a b : List S3} {m : Int}, RiseC m a → (∀ k, (∀ s ∈ a, s.1 ≤ k) → m ≤ k → (∀ s ∈ b, k ≤ s.1) → RiseC k b) → ∀ {k : Int}, (∀ s ∈ a, s.1 ≤ k) → m ≤ k → (∀ s ∈ b, k ≤ s.1) → RiseC m (a ++ b)
  | [], b, m, _, hb, k, h1, h2, h3 => (hb k h1 h2 h3).mono h2
  | t :: a, b, m, ha, hb, k, h1, h2, h3 => by
    obtain ⟨a1, a2, a3⟩ := ha
    refine ⟨a1, a2, RiseC.append a3 (fun k' g1 g2 g3 => hb k' (fun s hs => ?_) (by omega) g3) (fun s hs => h1 s (List.mem_cons_of_mem _ hs)) (h1 t List.mem_cons_self) h3⟩
    rcases List.mem_cons.1 hs with rfl | hs
    · exact g2
    · exact g1 s hs
theorem rise_spans {d : Int} (hd : Cen d) (l : List (Int × Int)) : RiseC d (spans d l) := by
  induction l with
  | nil => trivial
  | cons r l ih => exact ⟨Int.le_refl _, hd.2, ih⟩
theorem spans_mem {d : Int} {l : List (Int × Int)} {s : S3} (h : s ∈ spans d l) : s.1 = d := by
  obtain ⟨r, _, rfl⟩ := List.mem_map.1 h
  rfl
/-- all centers' parts, one behind the other -/
def glue (p : Int → List (Int × Int)) : List S3 := spans 0 (p 0) ++ (spans 1 (p 1) ++ (spans 2 (p 2) ++ spans 3 (p 3)))
theorem cen_cases {d : Int} (h : Cen d) : d = 0 ∨ d = 1 ∨ d = 2 ∨ d = 3 := by unfold Cen at h; omega
theorem part_glue (p : Int → List (Int × Int)) {d : Int} (h : Cen d) : part (glue p) d = p d := by
  unfold glue
  rw [part_append, part_append, part_append, part_spans, part_spans, part_spans, part_spans]
  rcases cen_cases h with rfl | rfl | rfl | rfl <;> simp
theorem rise_cat {d : Int} (hd : Cen d) (l : List (Int × Int)) {b : List S3} (hb : RiseC (d + 1) b) : RiseC d (spans d l ++ b) := by
  induction l with
  | nil => exact hb.mono (by omega)
  | cons r l ih => exact ⟨Int.le_refl _, hd.2, ih⟩
theorem rise_glue (p : Int → List (Int × Int)) : RiseC 0 (glue p) :=
  rise_cat (by unfold Cen; omega) _ (rise_cat (by unfold Cen; omega) _ (rise_cat (by unfold Cen; omega) _ (rise_spans (by unfold Cen; omega) _)))
theorem right_glue {p : Int → List (Int × Int)} (h : ∀ d, Cen d → RightF 1 (p d)) : RightC (glue p) := ⟨rise_glue p, fun d hd => by rw [part_glue p hd]; exact h d hd⟩
/-- whose centers rise from d on: its part of d ahead of all else -/
theorem rise_split : ∀ {c : List S3} {d : Int}, RiseC d c → ∃ b, c = spans d (part c d) ++ b ∧ RiseC (d + 1) b ∧ ∀ e, d < e → part c e = part b e
  | [], _, _ => ⟨[], rfl, trivial, fun _ _ => rfl⟩
  | s :: c, d, h => by
    obtain ⟨h1, h2, h3⟩ := h
    by_cases hs : s.1 = d
    · rw [hs] at h3
      obtain ⟨b, e1, e2, e3⟩ := rise_split h3
      refine ⟨b, ?_, e2, fun e he => ?_⟩
      · rw [part_cons, if_pos hs]
        show s :: c = (d, s.2) :: (spans d (part c d) ++ b)
        rw [← e1, ← hs]
      · rw [part_cons, if_neg (by omega)]
        exact e3 e he
    · have hno : part (s :: c) d = [] := by
        rw [part_cons, if_neg hs]
        apply List.eq_nil_iff_forall_not_mem.2
        intro r hr
        have := h3.mem _ (part_mem.1 hr)
        have h4 : s.1 ≤ d := this.1
        omega
      refine ⟨s :: c, by rw [hno]; rfl, ⟨by omega, h2, h3⟩, fun _ _ => rfl⟩
theorem rise_last {b : List S3} (h : RiseC 4 b) : b = [] := by
  cases b with
  | nil => rfl
  | cons s b => have := h.1; have := h.2.1; omega
/-- a list whose centers rise is its parts, one behind the other -/
theorem glue_part {c : List S3} (h : RiseC 0 c) : c = glue (part c) := by
  obtain ⟨b1, e1, r1, p1⟩ := rise_split h
  obtain ⟨b2, e2, r2, p2⟩ := rise_split r1
  obtain ⟨b3, e3, r3, p3⟩ := rise_split r2
  obtain ⟨b4, e4, r4, p4⟩ := rise_split r3
  have e5 := rise_last r4
  have q1 : part b1 1 = part c 1 := (p1 1 (by omega)).symm
  have q2 : part b2 2 = part c 2 := ((p1 2 (by omega)).trans (p2 2 (by omega))).symm
  have q3 : part b3 3 = part c 3 := ((p1 3 (by omega)).trans ((p2 3 (by omega)).trans (p3 3 (by omega)))).symm
  rw [show (0 : Int) + 1 = 1 from rfl] at e2
  rw [show (0 : Int) + 1 + 1 = 2 from rfl] at e3
  rw [show (0 : Int) + 1 + 1 + 1 = 3 from rfl, e5, List.append_nil] at e4
  unfold glue
  rw [← q1, ← q2, ← q3, ← e4, ← e3, ← e2, ← e1]
theorem ext_part {a b : List S3} (ha : RiseC 0 a) (hb : RiseC 0 b) (h : ∀ d, Cen d → part a d = part b d) : a = b := by
  rw [glue_part ha, glue_part hb]
  unfold glue
  rw [h 0 (by unfold Cen; omega), h 1 (by unfold Cen; omega), h 2 (by unfold Cen; omega), h 3 (by unfold Cen; omega)]
/-- is the dot there? -/
def hasC (c : List S3) (d n : Int) : Bool := hasB (part c d) n
/-- a set of dots has one list -/
theorem extC {a b : List S3} (ha : RightC a) (hb : RightC b) (h : ∀ d n, Cen d → hasC a d n = hasC b d n) : a = b :=
  ext_part ha.rise hb.rise fun d hd => ext (ha.part d hd) (hb.part d hd) fun n => h d n hd
/-- what two sets of dots make -/
structure PutC (f : Bool → Bool → Bool) (a b l : List S3) : Prop where
  right : RightC l
  has : ∀ d n, Cen d → hasC l d n = f (hasC a d n) (hasC b d n)
theorem PutC.eq {f : Bool → Bool → Bool} {a b l l' : List S3} (h : PutC f a b l) (h' : PutC f a b l') : l = l' := extC h.right h'.right fun d n hd => by rw [h.has d n hd, h'.has d n hd]
theorem PutC.of {f : Bool → Bool → Bool} {a b : List S3} {p : Int → List (Int × Int)} (h : ∀ d, Cen d → RightF 1 (p d) ∧ ∀ n, hasB (p d) n = f (hasC a d n) (hasC b d n)) : PutC f a b (glue p) :=
  ⟨right_glue fun d hd => (h d hd).1, fun d n hd => by unfold hasC; rw [part_glue p hd]; exact (h d hd).2 n⟩
end Cx
end Go.Proofs.Ytbfcbfadfnaebaa
/- Sets of numbers: what is right, edges; the program's, the document's. -/
namespace Go.Proofs.Ytbfcbfadfnaebaa
open Go.ChangeShapes Go.WideShapes Go.ChangeAt Go.RowKit
namespace Sp
theorem ret_bool {a b : Bool} (h : a = b) : Ending.returned (.bool a) = .returned (.bool b) := by rw [h]
theorem ret_int {a b : Int} (h : a = b) : Ending.returned (.int .i64 a) = .returned (.int .i64 b) := by rw [h]
theorem drop_at {l : List (Int × Int)} {k : Nat} (hk : k < l.length) {r : Int × Int} (hr : r = l[k]) : l.drop k = r :: l.drop (k + 1) := by rw [hr]; exact List.drop_eq_getElem_cons hk
theorem rightB_of {l : List (Int × Int)} {P : Prop} (h : RightF 1 l ↔ P) {b : Bool} (hb : b = true ↔ P) : b = rightB l := by
  unfold rightB
  cases b with
  | true => simp only [true_iff] at hb; simp [h.2 hb]
  | false =>
    have : ¬ P := fun hp => by have := hb.2 hp; cases this
    simp [h, this]
/-- the i-th edge -/
theorem edge_div {l : List (Int × Int)} {i : Nat} (h : i < 2 * l.length) : (i % 2 = 0 ∧ ∃ hk : i / 2 < l.length, edge l i = l[i / 2].1) ∨ (i % 2 = 1 ∧ ∃ hk : i / 2 < l.length, edge l i = l[i / 2].2 + 1) := by
  have hk : i / 2 < l.length := by omega
  rcases Nat.mod_two_eq_zero_or_one i with h0 | h0
  · have e : i = 2 * (i / 2) := by omega
    exact .inl ⟨h0, hk, by have := edge_even hk; rwa [← e] at this⟩
  · have e : i = 2 * (i / 2) + 1 := by omega
    exact .inr ⟨h0, hk, by have := edge_odd hk; rwa [← e] at this⟩
end Sp
end Go.Proofs.Ytbfcbfadfnaebaa
/- Sets of numbers: the front, how many numbers there are, what is in them; the program's, the document's; lists laid over. -/
namespace Go.Proofs.Ytbfcbfadfnaebaa
open Go.ChangeShapes Go.WideShapes Go.ChangeAt Go.RowKit
namespace Sp
def frontI : List (Int × Int) → Int
  | [] => 0
  | r :: _ => if r.1 = 1 then r.2 else 0
def countI : List (Int × Int) → Int
  | [] => 0
  | r :: l => (r.2 - r.1 + 1) + countI l
theorem countI_append (a b : List (Int × Int)) : countI (a ++ b) = countI a + countI b := by
  induction a with
  | nil => simp [countI]
  | cons r a ih => simp only [List.cons_append, countI, ih]; omega
theorem countI_take {l : List (Int × Int)} {k : Nat} (hk : k < l.length) {r : Int × Int} (hr : r = l[k]) : countI (l.take (k + 1)) = countI (l.take k) + (r.2 - r.1 + 1) := by
  rw [List.take_succ_eq_append_getElem hk, countI_append, ← hr]; simp [countI]
theorem RightF.of_append : ∀ {a b : List (Int × Int)} {m : Int}, RightF m (a ++ b) → RightF m a
  | [], _, _, _ => trivial
  | _ :: _, _, _, h => ⟨h.1, h.2.1, h.2.2.1, RightF.of_append h.2.2.2⟩
theorem RightF.take {l : List (Int × Int)} {m : Int} (h : RightF m l) (k : Nat) : RightF m (l.take k) := RightF.of_append (b := l.drop k) (by rwa [List.take_append_drop])
theorem countI_nonneg : ∀ {l : List (Int × Int)} {m : Int}, RightF m l → 0 ≤ countI l
  | [], _, _ => by simp [countI]
  | r :: l, _, h => by have := countI_nonneg h.2.2.2; have := h.2.1; simp only [countI]; omega
theorem countI_le : ∀ {l : List (Int × Int)} {m : Int}, RightF m l → l = [] ∨ m + countI l ≤ 1099511627777
  | [], _, _ => .inl rfl
  | r :: l, m, h => by
    right
    obtain ⟨h1, h2, h3, h4⟩ := h
    simp only [countI]
    rcases countI_le h4 with rfl | h5
    · simp only [countI]; omega
    · omega
theorem countI_bound {l : List (Int × Int)} (h : RightF 1 l) : 0 ≤ countI l ∧ countI l ≤ 1099511627776 := by
  refine ⟨countI_nonneg h, ?_⟩
  rcases countI_le h with rfl | h5
  · simp [countI]
  · omega
/-! ## the document's -/
end Sp
end Go.Proofs.Ytbfcbfadfnaebaa
/- Solid sets of dots and their vectors, as mathematics. Nothing here speaks of a program. -/
namespace Go.Proofs.Ytbfcbfadfnaebaa
namespace Cx
open Sp
/-- of a center all numbers up to v -/
def upTo (v : Int) : List (Int × Int) := if 0 < v then [(1, v)] else []
/-- may a number of a vector be? -/
def MayB (v : Int) : Prop := 0 ≤ v ∧ v ≤ 1099511627776
theorem upTo_right {v : Int} (h : MayB v) : RightF 1 (upTo v) := by
  unfold upTo
  split
  · exact ⟨Int.le_refl _, by show (1 : Int) ≤ v; omega, h.2, trivial⟩
  · trivial
theorem upTo_has (v n : Int) : hasB (upTo v) n = decide (1 ≤ n ∧ n ≤ v) := by
  unfold upTo
  split
  · rw [has_cons, has_nil, Bool.or_false]
  · rw [has_nil]
    symm
    exact decide_eq_false (by omega)
theorem upTo_front {v : Int} (h : MayB v) : frontI (upTo v) = v := by
  unfold upTo
  split
  · simp [frontI]
  · have := h.1; simp [frontI]; omega
theorem front_may {l : List (Int × Int)} (h : RightF 1 l) : MayB (frontI l) := by
  cases l with
  | nil => exact ⟨Int.le_refl _, by decide⟩
  | cons r l =>
    obtain ⟨h1, h2, h3, _⟩ := h
    by_cases hr : r.1 = 1
    · rw [show frontI (r :: l) = r.2 by simp [frontI, hr]]
      exact ⟨by omega, h3⟩
    · rw [show frontI (r :: l) = 0 by simp [frontI, hr]]
      exact ⟨Int.le_refl _, by decide⟩
/-- two united -/
theorem upTo_union {v w : Int} {l : List (Int × Int)} (hv : MayB v) (hw : MayB w) (hl : RightF 1 l) (h : ∀ n, hasB l n = (hasB (upTo v) n || hasB (upTo w) n)) : l = upTo (max v w) := by
  refine ext hl (upTo_right (v := max v w) ⟨by have := hv.1; have := hw.1; omega, by have := hv.2; have := hw.2; omega⟩) fun n => ?_
  rw [h, upTo_has, upTo_has, upTo_has, ← Bool.decide_or]
  congr 1
  exact propext ⟨fun h => by omega, fun h => by omega⟩
/-- the one within the other -/
theorem upTo_leq {v w : Int} (_ : MayB v) : (∀ n, hasB (upTo v) n = true → hasB (upTo w) n = true) ↔ (v ≤ w ∨ v ≤ 0) := by
  constructor
  · intro h
    by_cases h0 : 0 < v
    · have := h v (by rw [upTo_has]; exact decide_eq_true ⟨by omega, Int.le_refl _⟩)
      rw [upTo_has] at this
      have := of_decide_eq_true this
      exact .inl this.2
    · exact .inr (by omega)
  · intro h n hn
    rw [upTo_has] at hn ⊢
    have := of_decide_eq_true hn
    exact decide_eq_true (by omega)
/-- the vector's solid set of dots -/
def full (v : Int → Int) : List S3 := glue fun d => upTo (v d)
theorem full_right {v : Int → Int} (h : ∀ d, Cen d → MayB (v d)) : RightC (full v) := right_glue fun d hd => upTo_right (h d hd)
theorem full_part (v : Int → Int) {d : Int} (h : Cen d) : part (full v) d = upTo (v d) := part_glue _ h
/-- of each center the front -/
def vec (c : List S3) (d : Int) : Int := frontI (part c d)
theorem full_vec {v : Int → Int} (h : ∀ d, Cen d → MayB (v d)) {d : Int} (hd : Cen d) : vec (full v) d = v d := by
  unfold vec
  rw [full_part v hd, upTo_front (h d hd)]
/-- of each center one span at most, from 1 on -/
def SolidC (c : List S3) : Prop := ∀ d, Cen d → part c d = upTo (vec c d)
theorem solid_full {c : List S3} (h : RightC c) : SolidC c ↔ c = full (vec c) :=
  ⟨fun hs => ext_part h.rise (rise_glue _) fun d hd => by rw [hs d hd, full_part _ hd], fun he d hd => by rw [he, full_part _ hd, ← he]⟩
/-- how many dots there are -/
def countC (c : List S3) : Int := countI (part c 0) + countI (part c 1) + countI (part c 2) + countI (part c 3)
end Cx
end Go.Proofs.Ytbfcbfadfnaebaa
/- The document's: what is in a list, its front, how many; ends of runs, the next number. -/
namespace Go.Proofs.Ytbfcbfadfnaebaa
open Go.ChangeShapes Go.WideShapes Go.ChangeAt Go.RowKit
namespace Sp
theorem upon_append {P : Program} {o : Oper} {a : Go.Act} {K : Go.Act → World → Prop} {Q : Exit → Go.Act → World → Prop} {w w' : World} {v xv v' : Value} (s x : Operand) (t : TypeId)
    (ho : o.op = .call { callee := .builtin .append, args := #[s, x], argTypes := #[t, t] }) (hs : a.eval s = v) (hx : a.eval x = xv)
    (hr : (Builtin.append_ #[t, t] o.type #[v, xv]).run P w = .ok v' w') (h : K (a.put o.dst v') w') : Oper.upon P o a K Q ((execOp a.eval o).run P w) := by
  unfold execOp
  simp only [ho, resolve, invoke, builtin, Sem.run_bind, Sem.run_pure, Result.andThen_ok, List.map_toArray, List.map_cons, List.map_nil, hs, hx, hr]
  exact h
theorem right_later {l : List (Int × Int)} (h : RightF 1 l) {k : Nat} (hk : k < l.length) (h0 : 0 < k) : 3 ≤ l[k].1 := by
  cases l with
  | nil => simp at hk
  | cons r l =>
    obtain ⟨h1, h2, h3, h4⟩ := h
    cases k with
    | zero => omega
    | succ k =>
      have hk' : k < l.length := by simpa using hk
      have := h4.mem l[k] (List.getElem_mem hk')
      show 3 ≤ (l[k]'hk').1
      omega
/-- the places at which runs begin, and behind which they end -/
def endsL (l : List (Int × Int)) : List Int := l.flatMap fun r => [r.1, r.2 + 1]
theorem endsL_snoc (l : List (Int × Int)) (r : Int × Int) : endsL (l ++ [r]) = endsL l ++ [r.1, r.2 + 1] := by simp [endsL]
theorem endsL_len (l : List (Int × Int)) : (endsL l).length = l.length * 2 := by
  induction l with
  | nil => rfl
  | cons r l ih =>
    have : endsL (r :: l) = r.1 :: (r.2 + 1) :: endsL l := rfl
    rw [this]; simp [ih]; omega
/-- the least number above one -/
def nstep (above : Int) (acc : Option Int) (x : Int) : Option Int := if above < x ∧ (∀ b, acc = some b → x < b) then some x else acc
def nextL (above : Int) (l : List Int) : Option Int := l.foldl (nstep above) none
theorem nextL_snoc (above : Int) (l : List Int) (x : Int) : nextL above (l ++ [x]) = nstep above (nextL above l) x := by unfold nextL; rw [List.foldl_append]; rfl
/-- what the next one is -/
def NextIs (above : Int) (l : List Int) : Option Int → Prop
  | none => ∀ x ∈ l, x ≤ above
  | some t => t ∈ l ∧ above < t ∧ ∀ x ∈ l, above < x → t ≤ x
theorem nextL_is (above : Int) (l : List Int) : NextIs above l (nextL above l) := by
  have key : ∀ k, k ≤ l.length → NextIs above (l.take k) (nextL above (l.take k)) := by
    intro k
    induction k with
    | zero => intro _; simp [nextL, NextIs]
    | succ k ih =>
      intro hk
      have ih := ih (by omega)
      rw [List.take_succ_eq_append_getElem (by omega), nextL_snoc]
      obtain ⟨d, hd⟩ : ∃ d, d = l[k] := ⟨_, rfl⟩
      obtain ⟨acc, hacc⟩ : ∃ acc, acc = nextL above (l.take k) := ⟨_, rfl⟩
      rw [← hd, ← hacc]
      rw [← hacc] at ih
      unfold nstep
      by_cases h : above < d ∧ (∀ b, acc = some b → d < b)
      · rw [if_pos h]
        refine ⟨by simp, h.1, fun x hx hax => ?_⟩
        rcases List.mem_append.1 hx with hx | hx
        · cases acc with
          | none => have := ih x hx; omega
          | some b => have := ih.2.2 x hx hax; have := h.2 b rfl; omega
        · rw [List.mem_singleton.1 hx]; omega
      · rw [if_neg h]
        cases acc with
        | none =>
          intro x hx
          rcases List.mem_append.1 hx with hx | hx
          · exact ih x hx
          · rw [List.mem_singleton.1 hx]
            have : ¬ above < d := fun hlt => h ⟨hlt, by simp⟩
            omega
        | some b =>
          refine ⟨List.mem_append_left _ ih.1, ih.2.1, fun x hx hax => ?_⟩
          rcases List.mem_append.1 hx with hx | hx
          · exact ih.2.2 x hx hax
          · rw [List.mem_singleton.1 hx] at hax ⊢
            have : ¬ d < b := fun hlt => h ⟨hax, fun b' e => by injection e with e; omega⟩
            omega
  have := key l.length (Nat.le_refl _)
  rwa [List.take_of_length_le (Nat.le_refl _)] at this
set_option maxRecDepth 100000 in
set_option maxHeartbeats 1000000 in
theorem next_any (l : List Int) (n : Nat) (A : Option Addr) (c : Nat) (w : World) (hl : l.length = n) (hn : n ≤ 1000000) (hr : Rd w w.heap.size 1 A n c (intsC l)) (v : Int) :
    Calls Try.prog 85 #[.slice A n c, .int .i64 v] w fun e w' => e = .returned (.tuple #[.int .i64 ((nextL v l).getD 0), .bool (nextL v l).isSome]) ∧ w' = w := by
  obtain ⟨z, hz⟩ : ∃ z, z = nextL v l := ⟨_, rfl⟩
  rw [← hz]
  obtain ⟨zb, hzb⟩ : ∃ x, x = z.getD 0 := ⟨_, rfl⟩
  obtain ⟨zo, hzo⟩ : ∃ x, x = z.isSome := ⟨_, rfl⟩
  rw [← hzb, ← hzo]
  have HZB := Lib.hid hzb
  have HZO := Lib.hid hzo
  have HZ := Lib.hid hz
  have HR := Lib.hid hr
  have HL := Lib.hid hl
  clear hr hl hz hzb hzo
  go_enter Try.func85, Try.ntmps85
  go_wp2
  go_loop [6, 7, 11] (fun b s i => ∃ (k : Nat) (best : Int) (ok : Bool), k ≤ n ∧ b = .int .i64 best ∧ s = .bool ok ∧ i = .int .i64 k ∧ Hid (best = (nextL v (l.take k)).getD 0 ∧ ok = (nextL v (l.take k)).isSome)) (fun _ _ i => n - (intOf i).toNat)
  case atStart => exact ⟨0, 0, false, by omega, rfl, rfl, rfl, Lib.hid (by rw [List.take_zero]; exact ⟨rfl, rfl⟩)⟩
  case round =>
    obtain ⟨k, best, ok, hk, rfl, rfl, rfl, HF⟩ := hrel
    by_cases hlt : k < n
    · have hkl : k < l.length := by rw [HL.out]; exact hlt
      obtain ⟨b, o, rfl, hbl, hc⟩ := rd_int HR.out HL.out hlt
      have q0 := hc k hkl
      have htk : nextL v (l.take (k + 1)) = nstep v (nextL v (l.take k)) l[k] := by rw [List.take_succ_eq_append_getElem hkl, nextL_snoc]
      obtain ⟨x, hx⟩ : ∃ x, x = l[k] := ⟨_, rfl⟩
      obtain ⟨acc, hacc⟩ : ∃ acc, acc = nextL v (l.take k) := ⟨_, rfl⟩
      rw [← hx] at q0 htk
      rw [← hacc] at htk HF
      have hyes : nstep v acc x = some x → Hid (x = (nextL v (l.take (k + 1))).getD 0 ∧ true = (nextL v (l.take (k + 1))).isSome) := fun e => by
        unfold Hid
        rw [htk, e]
        exact ⟨rfl, rfl⟩
      have hno : nstep v acc x = acc → Hid (best = (nextL v (l.take (k + 1))).getD 0 ∧ ok = (nextL v (l.take (k + 1))).isSome) := fun e => by
        unfold Hid
        rw [htk, e]
        exact HF.out
      clear hc hx htk hacc
      by_cases h1 : v < x
      · have f1 : decide (v < x) = true := by simpa using h1
        cases acc with
        | none =>
          have hok : ok = false := HF.out.2
          subst hok
          have HY := hyes (by unfold nstep; rw [if_pos ⟨h1, by simp⟩])
          clear hyes hno
          go_wp2
          go_round
          case rel => exact ⟨k + 1, x, true, by omega, rfl, rfl, by go_num, HY.out⟩
          case measure => simp [intOf]; omega
        | some b0 =>
          have hok : ok = true := HF.out.2
          have hb0 : best = b0 := HF.out.1
          subst hok; subst hb0
          by_cases h2 : x < best
          · have f2 : decide (x < best) = true := by simpa using h2
            have HY := hyes (by unfold nstep; rw [if_pos ⟨h1, fun b' e => by injection e with e; omega⟩])
            clear hyes hno
            go_wp2
            go_round
            case rel => exact ⟨k + 1, x, true, by omega, rfl, rfl, by go_num, HY.out⟩
            case measure => simp [intOf]; omega
          · have f2 : decide (x < best) = false := by simpa using h2
            have HY := hno (by unfold nstep; rw [if_neg (fun h => h2 (h.2 best rfl))])
            clear hyes hno
            go_wp2
            go_round
            case rel => exact ⟨k + 1, best, true, by omega, rfl, rfl, by go_num, HY.out⟩
            case measure => simp [intOf]; omega
      · have f1 : decide (v < x) = false := by simpa using h1
        have HY := hno (by unfold nstep; rw [if_neg (fun h => h1 h.1)])
        clear hyes hno
        go_wp2
        go_round
        case rel => exact ⟨k + 1, best, ok, by omega, rfl, rfl, by go_num, HY.out⟩
        case measure => simp [intOf]; omega
    · have HE : Hid (best = z.getD 0 ∧ ok = z.isSome) := by
        have := HF.out
        rw [List.take_of_length_le (by rw [HL.out]; omega)] at this
        unfold Hid
        rw [HZ.out]
        exact this
      have hE : best = zb ∧ ok = zo := by rw [HZB.out, HZO.out]; exact HE.out
      clear HE HZB HZO HF
      obtain ⟨rfl, rfl⟩ := hE
      go_wp2
      go_ret2
      exact ⟨rfl, rfl⟩
end Sp
end Go.Proofs.Ytbfcbfadfnaebaa
/- Sets of dots, the program's: a context center by center ('split'). -/
namespace Go.Proofs.Ytbfcbfadfnaebaa
open Go.ChangeShapes Go.WideShapes Go.ChangeAt Go.RowKit
namespace Cx
open Sp Rw

noncomputable def rightCB (l : List S3) : Bool := @decide (RightC l) (Classical.propDecidable _)
theorem rightCB_true {l : List S3} (h : RightC l) : rightCB l = true := by unfold rightCB; exact @decide_eq_true _ (Classical.propDecidable _) h
theorem rightCB_false {l : List S3} (h : ¬ RightC l) : rightCB l = false := by unfold rightCB; exact @decide_eq_false _ (Classical.propDecidable _) h
theorem of_rightCB {l : List S3} (h : rightCB l = true) : RightC l := by unfold rightCB at h; exact @of_decide_eq_true _ (Classical.propDecidable _) h
theorem not_rightCB {l : List S3} (h : rightCB l = false) : ¬ RightC l := by unfold rightCB at h; exact @of_decide_eq_false _ (Classical.propDecidable _) h
theorem dropC_at {l : List S3} {k : Nat} (hk : k < l.length) {r : S3} (hr : r = l[k]) : l.drop k = r :: l.drop (k + 1) := by rw [hr]; exact List.drop_eq_getElem_cons hk
theorem part_take {l : List S3} {k : Nat} (hk : k < l.length) {r : S3} (hr : r = l[k]) (d : Int) : part (l.take (k + 1)) d = if r.1 = d then part (l.take k) d ++ [r.2] else part (l.take k) d := by
  rw [List.take_succ_eq_append_getElem hk, part_append, ← hr, part_cons, part_nil]
  split <;> simp
/-- a slice of runs, by its value's parts -/
def SvIs (w : World) (s : SV) (r : List (Int × Int)) : Prop := r.length = s.n ∧ Rd w w.heap.size 2 s.A s.n s.c (runsC r)
/-- what 'split' answers -/
def SplitIs (l : List S3) (b : Bool) (w : World) (e : Ending) (w' : World) : Prop :=
  ∃ s : Nat → SV, e = .returned (.tuple #[.agg #[.slice (s 0).A (s 0).n (s 0).c, .slice (s 1).A (s 1).n (s 1).c, .slice (s 2).A (s 2).n (s 2).c, .slice (s 3).A (s 3).n (s 3).c], .bool b]) ∧
    Hid (∀ d : Nat, d < 4 → SvIs w' (s d) (if b then part l d else [])) ∧ Below w.heap.size w w'
theorem infoS : (Try.prog.info? 63).map (fun i => (i.zero, i.size, i.bytes)) = some (some (.agg #[.int .i64 0, .int .i64 0, .int .i64 0]), 3, 24) := by kernel_rfl
theorem upd_part {l : List S3} {k d : Nat} (hk : k < l.length) {x y : Int} (hr : ((d : Int), x, y) = l[k]) :
    upd (fun i => runsC (part (l.take k) i)) d (runsC (part (l.take k) d) ++ [.int .i64 x, .int .i64 y]) = fun i : Nat => runsC (part (l.take (k + 1)) i) := by
  funext i
  rw [part_take hk hr]
  by_cases h : i = d
  · subst h
    rw [upd_same, if_pos rfl, runsC_append]
    rfl
  · rw [upd_other _ _ h, if_neg (by intro e; exact h (Int.ofNat.inj e.symm))]
theorem infoRs : (Try.prog.info? 92).map (fun i => (i.zero, i.size, i.bytes)) = some (some (.slice none 0 0), 1, 24) := by kernel_rfl
/-- an array of four slices, looked up -/
theorem index_parts (s : Nat → SV) (k : Nat) (hk : k < 4) (W : World) : (Instr.index 94 (.agg #[.slice (s 0).A (s 0).n (s 0).c, .slice (s 1).A (s 1).n (s 1).c, .slice (s 2).A (s 2).n (s 2).c, .slice (s 3).A (s 3).n (s 3).c]) (.int .i64 k)).run Try.prog W = .ok (.slice (s k).A (s k).n (s k).c) W := by
  obtain ⟨i0, hi0, _, hz1, _⟩ := info_of infoRs
  have hs : ∀ W, (sizeOf 92).run Try.prog W = .ok 1 W := fun W => by simp [sizeOf, typeInfo, hi0, hz1]
  have ha : ∀ W, (isAgg 92).run Try.prog W = .ok false W := fun W => by simp [isAgg, run_underlying Try.underlying92]
  rcases (by omega : k = 0 ∨ k = 1 ∨ k = 2 ∨ k = 3) with rfl | rfl | rfl | rfl <;> simp [Instr.index, run_underlying Try.underlying94, asIntOf, go_sem, hs, ha]
/-- four cells of a block are written -/
def put4 (g : Nat) (v0 v1 v2 v3 : Value) (W : World) : World := (((W.setCell ⟨g, 0, none⟩ v0).setCell ⟨g, 1, none⟩ v1).setCell ⟨g, 2, none⟩ v2).setCell ⟨g, 3, none⟩ v3
theorem put4_cells {g : Nat} {W : World} {v0 v1 v2 v3 u0 u1 u2 u3 : Value} (hf : Free g W) (k0 : W.cell? ⟨g, 0, none⟩ = some u0) (k1 : W.cell? ⟨g, 1, none⟩ = some u1) (k2 : W.cell? ⟨g, 2, none⟩ = some u2) (k3 : W.cell? ⟨g, 3, none⟩ = some u3) :
    (put4 g v0 v1 v2 v3 W).cell? ⟨g, 0, none⟩ = some v0 ∧ (put4 g v0 v1 v2 v3 W).cell? ⟨g, 1, none⟩ = some v1 ∧ (put4 g v0 v1 v2 v3 W).cell? ⟨g, 2, none⟩ = some v2 ∧ (put4 g v0 v1 v2 v3 W).cell? ⟨g, 3, none⟩ = some v3 := by
  have m0 := hf.2 0
  have m1 := hf.2 1
  have m2 := hf.2 2
  have m3 := hf.2 3
  unfold put4
  refine ⟨?_, ?_, ?_, ?_⟩ <;> go_simp
theorem put4_below {B g : Nat} {w W : World} {v0 v1 v2 v3 : Value} (h : Below B w W) (hg : B ≤ g) : Below B w (put4 g v0 v1 v2 v3 W) := (((h.setCell (p := ⟨g, 0, none⟩) hg _).setCell (p := ⟨g, 1, none⟩) hg _).setCell (p := ⟨g, 2, none⟩) hg _).setCell (p := ⟨g, 3, none⟩) hg _
theorem put4_rd {B g sz n c : Nat} {W : World} {A : Option Addr} {xs : List Value} {v0 v1 v2 v3 : Value} (h : Rd W B sz A n c xs) (hg : ∀ b o, A = some ⟨b, o, none⟩ → b ≠ g) : Rd (put4 g v0 v1 v2 v3 W) B sz A n c xs :=
  ⟨h.len, h.cap, h.one, fun hn => by
    obtain ⟨b, o, e, hb, hc⟩ := h.at_ hn
    refine ⟨b, o, e, hb, fun j u hu => ?_⟩
    have hne := hg b o e
    have hx : ∀ (k : Nat), (⟨g, k, none⟩ : Addr) ≠ ⟨b, o + j, none⟩ := fun k e => by injection e with e; exact hne e.symm
    unfold put4
    rw [World.cell?_setCell_other _ _ _ _ (hx 3), World.cell?_setCell_other _ _ _ _ (hx 2), World.cell?_setCell_other _ _ _ _ (hx 1), World.cell?_setCell_other _ _ _ _ (hx 0)]
    exact hc j u hu⟩
theorem put4_size {g : Nat} {W : World} {v0 v1 v2 v3 : Value} : (put4 g v0 v1 v2 v3 W).heap.size = W.heap.size := by simp [put4, World.setCell]
end Cx
end Go.Proofs.Ytbfcbfadfnaebaa
/- Sets of dots, the program's: is it right, solid; its vector, how many there are. -/
namespace Go.Proofs.Ytbfcbfadfnaebaa
open Go.ChangeShapes Go.WideShapes Go.ChangeAt Go.RowKit
namespace Cx
open Sp Rw
/-- a box of four slices -/
theorem box4 (w : World) (s : Nat → SV) (d : Nat) (hd : d < 4) : (w.alloc (.cells #[.slice (s 0).A (s 0).n (s 0).c, .slice (s 1).A (s 1).n (s 1).c, .slice (s 2).A (s 2).n (s 2).c, .slice (s 3).A (s 3).n (s 3).c] 94)).cell? ⟨w.heap.size, d, none⟩ = some (.slice (s d).A (s d).n (s d).c) := by
  rw [cell_of_row _ _ d _ _ (0, 0) (heap_alloc_new _ _)]
  rcases (by omega : d = 0 ∨ d = 1 ∨ d = 2 ∨ d = 3) with rfl | rfl | rfl | rfl <;> rfl
/-- how many dots the first d centers have -/
def cntC (l : List S3) : Nat → Int
  | 0 => 0
  | d + 1 => cntC l d + countI (part l d)
theorem cntC_four (l : List S3) : cntC l 4 = countC l := by simp [cntC, countC]
theorem SvIs.later {w w' : World} {s : SV} {r : List (Int × Int)} (h : SvIs w s r) (hb : Below w.heap.size w w') : SvIs w' s r := ⟨h.1, h.2.later hb⟩
theorem rightB_part {l : List S3} {b : Bool} (hb : rightCB l = b) (d : Nat) (hd : d < 4) : RightF 1 (if b then part l d else []) := by
  cases b with
  | true => exact (of_rightCB hb).part d (by unfold Cen; omega)
  | false => trivial
theorem rightB_true {l : List (Int × Int)} (h : RightF 1 l) : rightB l = true := by unfold rightB; exact decide_eq_true h
end Cx
end Go.Proofs.Ytbfcbfadfnaebaa
/- An array of four in memory, cell by cell. -/
namespace Go.Proofs.Ytbfcbfadfnaebaa
open Go.ChangeShapes Go.WideShapes Go.ChangeAt Go.RowKit
namespace Rw
open Sp
/-- block h holds four cells, and may be written -/
structure Cells4 (W : World) (h : Nat) (v : Nat → Value) : Prop where
  free : Free h W
  cell : ∀ j, j < 4 → W.cell? ⟨h, j, none⟩ = some (v j)
namespace Cells4
variable {W W' : World} {h : Nat} {v : Nat → Value}
theorem later (c : Cells4 W h v) (hb : Below W.heap.size W W') : Cells4 W' h v := ⟨c.free.later hb, fun j hj => (hb.cell (p := ⟨h, j, none⟩) c.free.1).trans (c.cell j hj)⟩
theorem new (W : World) (v : Nat → Value) (x0 x1 x2 x3 : Value) (t : TypeId) (e : (#[x0, x1, x2, x3] : Array Value) = #[v 0, v 1, v 2, v 3]) : Cells4 (W.alloc (.cells #[x0, x1, x2, x3] t)) W.heap.size v := by
  rw [e]
  refine ⟨⟨by simp, fun j => by go_simp⟩, fun j hj => ?_⟩
  rw [cell_of_row _ _ j _ _ (0, 0) (heap_alloc_new _ _)]
  rcases (by omega : j = 0 ∨ j = 1 ∨ j = 2 ∨ j = 3) with rfl | rfl | rfl | rfl <;> rfl
theorem set (c : Cells4 W h v) {d : Nat} (hd : d < 4) (u : Value) : Cells4 (W.setCell ⟨h, d, none⟩ u) h (upd v d u) := by
  refine ⟨c.free.set _ _, fun j hj => ?_⟩
  by_cases he : j = d
  · subst he
    rw [upd_same]
    have k0 := c.cell j hj
    have m0 := c.free.2 j
    go_simp
  · rw [upd_other _ _ he, World.cell?_setCell_other W ⟨h, d, none⟩ ⟨h, j, none⟩ _ (fun e => by injection e with _ e; exact he e.symm)]
    exact c.cell j hj
theorem other (c : Cells4 W h v) {a : Addr} (ha : a.block ≠ h) (u : Value) : Cells4 (W.setCell a u) h v :=
  ⟨c.free.set _ _, fun j hj => (World.cell?_setCell_other W a ⟨h, j, none⟩ u (fun e => ha (by rw [e]))).trans (c.cell j hj)⟩
theorem congr (c : Cells4 W h v) {v' : Nat → Value} (e : ∀ j, j < 4 → v j = v' j) : Cells4 W h v' := ⟨c.free, fun j hj => by rw [← e j hj]; exact c.cell j hj⟩
/-- all four are written -/
theorem put (c : Cells4 W h v) (x0 x1 x2 x3 : Value) : (Cx.put4 h x0 x1 x2 x3 W).cell? ⟨h, 0, none⟩ = some x0 ∧ (Cx.put4 h x0 x1 x2 x3 W).cell? ⟨h, 1, none⟩ = some x1 ∧ (Cx.put4 h x0 x1 x2 x3 W).cell? ⟨h, 2, none⟩ = some x2 ∧ (Cx.put4 h x0 x1 x2 x3 W).cell? ⟨h, 3, none⟩ = some x3 :=
  Cx.put4_cells c.free (c.cell 0 (by omega)) (c.cell 1 (by omega)) (c.cell 2 (by omega)) (c.cell 3 (by omega))
end Cells4
theorem rd_set {w : World} {B sz n c : Nat} {A : Option Addr} {xs : List Value} (h : Rd w B sz A n c xs) {a : Addr} (ha : ∀ b o, A = some ⟨b, o, none⟩ → 0 < n → b ≠ a.block) (u : Value) : Rd (w.setCell a u) B sz A n c xs :=
  ⟨h.len, h.cap, h.one, fun hn => by
    obtain ⟨b, o, e, hb, hc⟩ := h.at_ hn
    exact ⟨b, o, e, hb, fun j u' hu => (World.cell?_setCell_other w a ⟨b, o + j, none⟩ u (fun e2 => ha b o e hn (by rw [e2]))).trans (hc j u' hu)⟩⟩
theorem rb_set {w : World} {lo sz n c : Nat} {A : Option Addr} {xs : List Value} (h : Rb w lo sz A n c xs) {a : Addr} (ha : a.block < lo) (u : Value) : Rb (w.setCell a u) lo sz A n c xs :=
  ⟨h.len, h.cap, h.one, fun hn => by
    obtain ⟨b, o, e, hl, hb, hc⟩ := h.at_ hn
    exact ⟨b, o, e, hl, by simpa [World.setCell] using hb, fun j u' hu => (World.cell?_setCell_other w a ⟨b, o + j, none⟩ u (fun e2 => by rw [e2] at ha; dsimp only at ha; omega)).trans (hc j u' hu)⟩⟩
end Rw
end Go.Proofs.Ytbfcbfadfnaebaa
/- What is in a set: the program's. -/
namespace Go.Proofs.Ytbfcbfadfnaebaa
open Go.ChangeShapes Go.WideShapes Go.ChangeAt Go.RowKit
namespace Sp
/-- what was found -/
def FoundIs (l : List (Int × Int)) (v : Int) (w : World) (e : Ending) (w' : World) : Prop := ∃ z : Int, e = .returned (.int .i64 z) ∧ decide (0 ≤ z) = hasB l v ∧ Below w.heap.size w w'
end Sp
end Go.Proofs.Ytbfcbfadfnaebaa
/- Two sets put together: the program's. -/
namespace Go.Proofs.Ytbfcbfadfnaebaa
open Go.ChangeShapes Go.WideShapes Go.ChangeAt Go.RowKit
namespace Sp
theorem Join.opened {f : Bool → Bool → Bool} {a b done : List (Int × Int)} {i j : Nat} {p s u : Int} (h : Join f a b i j p (if !true && false then done ++ [(s, u - 1)] else done) (if true && !false then u else s) true) : Join f a b i j p done u true := by simpa using h
theorem Join.stays {f : Bool → Bool → Bool} {a b done : List (Int × Int)} {i j : Nat} {p s u : Int} (k : Bool) (h : Join f a b i j p (if !k && k then done ++ [(s, u - 1)] else done) (if k && !k then u else s) k) : Join f a b i j p done s k := by cases k <;> simpa using h
theorem Join.closed {f : Bool → Bool → Bool} {a b done : List (Int × Int)} {i j : Nat} {p s u : Int} (h : Join f a b i j p (if !false && true then done ++ [(s, u - 1)] else done) (if false && !true then u else s) false) : Join f a b i j p (done ++ [(s, u - 1)]) s false := by simpa using h
theorem odd_bool (i : Nat) : ((i : Int) % 2 == 1) = decide (i % 2 = 1) := by
  cases h : decide (i % 2 = 1) with
  | true => simp at h ⊢; omega
  | false => simp at h ⊢; omega
theorem odd_bool1 (i : Nat) : (((i : Int) + 1) % 2 == 1) = decide ((i + 1) % 2 = 1) := by
  have := odd_bool (i + 1)
  rwa [show ((i + 1 : Nat) : Int) = (i : Int) + 1 from by omega] at this
/-- what a join answers -/
def JoinIs (f : Bool → Bool → Bool) (a b : List (Int × Int)) (w : World) (e : Ending) (w' : World) : Prop :=
  ∃ l A c, e = .returned (.slice A l.length c) ∧ Put f a b l ∧ Own w' w.heap.size 119 2 A l.length c (runsC l) ∧ Below w.heap.size w w'
end Sp
end Go.Proofs.Ytbfcbfadfnaebaa
/- Sets united, met, taken from one another, compared: the program's. -/
namespace Go.Proofs.Ytbfcbfadfnaebaa
open Go.ChangeShapes Go.WideShapes Go.ChangeAt Go.RowKit
namespace Sp
theorem enters_fn {P : Program} {f : FuncId} {fn : Func} {c : Code} (hf : P.funcs[f]? = some fn) (hname : (fn.name == "runtime.NumGoroutine") = false) (hb : fn.body = some c) (args : Array Value) (w : World) : (callFunc f args).run P w = .ok (.enter f args) w := by
  have h1 : fn.name ≠ "runtime.NumGoroutine" := by simpa using hname
  simp [callFunc, hf, h1, hb, mark]
def uniF (x y : Bool) : Bool := x || y
def metF (x y : Bool) : Bool := x && y
def minF (x y : Bool) : Bool := x && !y
end Sp
end Go.Proofs.Ytbfcbfadfnaebaa
/- Sets of dots, the program's: center by center, back to a context; two joined. -/
namespace Go.Proofs.Ytbfcbfadfnaebaa
open Go.ChangeShapes Go.WideShapes Go.ChangeAt Go.RowKit
namespace Cx
open Sp Rw
/-- the first d centers' spans -/
def pre (q : Nat → List (Int × Int)) : Nat → List S3
  | 0 => []
  | d + 1 => pre q d ++ spans d (q d)
theorem pre_four (q : Nat → List (Int × Int)) : pre q 4 = glue fun i => q i.toNat := by simp [pre, glue]
theorem spans_take {d : Int} {l : List (Int × Int)} {k : Nat} (h : k < l.length) {r : Int × Int} (hr : r = l[k]) : spans d (l.take (k + 1)) = spans d (l.take k) ++ [(d, r)] := by
  rw [List.take_succ_eq_append_getElem h, ← hr]
  simp [spans]
theorem spans_len (d : Int) (l : List (Int × Int)) : (spans d l).length = l.length := by simp [spans]
theorem pre_len {q : Nat → List (Int × Int)} {M : Nat} (h : ∀ d, d < 4 → (q d).length ≤ M) : ∀ d, d ≤ 4 → (pre q d).length ≤ d * M
  | 0, _ => by simp [pre]
  | d + 1, hd => by
    have h1 := pre_len h d (by omega)
    have h2 := h d (by omega)
    simp only [pre, List.length_append, spans_len]
    rw [Nat.succ_mul]
    omega
/-- a row of spans of the call's own -/
def CtxOwn (base : Nat) (l : List S3) (w : World) (e : Ending) (w' : World) : Prop := ∃ A c, e = .returned (.slice A l.length c) ∧ Own w' base 63 3 A l.length c (spsC l) ∧ Below base w w'
set_option maxRecDepth 100000 in
set_option maxHeartbeats 1000000 in
theorem context_any (s : Nat → SV) (q : Nat → List (Int × Int)) (w : World) (hq : ∀ d, d < 4 → SvIs w (s d) (q d)) (hn : ∀ d, d < 4 → (q d).length ≤ 200000) :
    Calls Try.prog 66 #[.agg #[.slice (s 0).A (s 0).n (s 0).c, .slice (s 1).A (s 1).n (s 1).c, .slice (s 2).A (s 2).n (s 2).c, .slice (s 3).A (s 3).n (s 3).c]] w (CtxOwn w.heap.size (pre q 4) w) := by
  have c0 := box4 w s 0 (by omega); have c1 := box4 w s 1 (by omega); have c2 := box4 w s 2 (by omega); have c3 := box4 w s 3 (by omega)
  have HQ := Lib.hid hq
  have HN := Lib.hid hn
  clear hq hn
  go_enter Try.func66, Try.ntmps66
  go_wp2
  clear c0 c1 c2 c3
  go_loopw [3, 9] (fun v i wr => ∃ (d m : Nat) (A' : Option Addr) (c' : Nat), d ≤ 4 ∧ v = .slice A' m c' ∧ i = .int .i64 d ∧ Hid (m = (pre q d).length) ∧ Hid (Own wr w.heap.size 63 3 A' m c' (spsC (pre q d))) ∧ Hid (Below w.heap.size w wr)) (fun _ i _ => 4 - (intOf i).toNat)
  case atStart => exact ⟨0, 0, none, 0, by omega, rfl, rfl, rfl, ⟨World.ownsRow_nil _ _ _ _, by simp [pre, spsC]⟩, (Below.refl _ _).alloc (Nat.le_refl _) _⟩
  case round =>
    obtain ⟨d, m, A', c', hd, rfl, rfl, HM, HO, HB⟩ := hrel
    by_cases hd4 : d < 4
    · have hix := index_parts s d hd4
      obtain ⟨sA, sn, sc, hs⟩ : ∃ sA sn sc, s d = ⟨sA, sn, sc⟩ := ⟨_, _, _, rfl⟩
      obtain ⟨l, hl⟩ : ∃ l, l = q d := ⟨_, rfl⟩
      have HSV : Hid (l.length = sn ∧ Rd w w.heap.size 2 sA sn sc (runsC l)) := by
        have := HQ.out d hd4
        rw [hs, ← hl] at this
        exact this
      rw [hs] at hix
      dsimp only at hix
      have hln : l.length ≤ 200000 := by rw [hl]; exact HN.out d hd4
      have HP : Hid (pre q (d + 1) = pre q d ++ spans d l) := by unfold Hid; rw [hl]; rfl
      have hpl := pre_len HN.out d (by omega)
      rw [← HM.out] at hpl
      have hpl2 : m ≤ 800000 := by have : d * 200000 ≤ 4 * 200000 := Nat.mul_le_mul_right _ (by omega); omega
      have hsn : sn ≤ 200000 := by rw [← HSV.out.1]; exact hln
      have HS := Lib.hid hs
      clear hs hl hpl hln
      go_wp2
      go_loopw [3, 15] (fun v i wr => ∃ (k m2 : Nat) (A' : Option Addr) (c' : Nat), k ≤ sn ∧ v = .slice A' m2 c' ∧ i = .int .i64 k ∧ Hid (m2 = (pre q d ++ spans d (l.take k)).length) ∧ Hid (Own wr w.heap.size 63 3 A' m2 c' (spsC (pre q d ++ spans d (l.take k)))) ∧ Hid (Below w.heap.size w wr)) (fun _ i _ => sn - (intOf i).toNat)
      case atStart => exact ⟨0, m, A', c', by omega, rfl, rfl, (by unfold Hid; rw [HM.out]; simp [spans]), (by unfold Hid; rw [List.take_zero]; simpa [spans] using HO.out), HB.out⟩
      case round =>
        clear HO HB HM
        obtain ⟨k, m2, A2, c2, hk, rfl, rfl, HM2, HO2, HB2⟩ := hrel
        by_cases hlt : k < sn
        · have hkl : k < l.length := by rw [HSV.out.1]; exact hlt
          obtain ⟨b, o, rfl, hbl, hc⟩ := rd_run HSV.out.2 HSV.out.1 hlt
          obtain ⟨q0, q1⟩ := hc k hkl
          obtain ⟨p, hp⟩ : ∃ p, p = l[k] := ⟨_, rfl⟩
          have htk := spans_take (d := (d : Int)) hkl hp
          rw [← hp] at q0 q1
          obtain ⟨x, y⟩ := p
          have q0 := (HB2.out.cell (p := ⟨b, o + k * 2, none⟩) hbl).trans q0
          have q1 := (HB2.out.cell (p := ⟨b, o + k * 2 + 1, none⟩) hbl).trans q1
          have hb3 := HB2.out.alloc HB2.out.size (.cells #[.int .i64 x, .int .i64 y] 119)
          have hown := (HO2.out.row).alloc (.cells #[.int .i64 x, .int .i64 y] 119)
          rw [HM2.out] at hown
          have hm2 : (pre q d ++ spans d (l.take k)).length ≤ 900000 := by rw [← HM2.out, HM2.out, List.length_append, spans_len, List.length_take]; have := pre_len HN.out d (by omega); have h4 : d * 200000 ≤ 3 * 200000 := Nat.mul_le_mul_right _ (by omega); omega
          obtain ⟨A3, c3, w3, hrun, ho3, hb4⟩ := push spC_len spC_one Try.underlying33 infoS rfl (by omega) (by omega) (wr.alloc (.cells #[.int .i64 x, .int .i64 y] 119)) w.heap.size (wr.heap.size + 1) (by simp) hb3.size _ (pre q d ++ spans d (l.take k)) hown ((d : Int), x, y) #[.int .i64 d, .int .i64 x, .int .i64 y] rfl hm2
          rw [List.append_assoc, ← htk] at hrun ho3
          rw [← HM2.out] at hrun
          obtain ⟨m3, hm3⟩ : ∃ m3, m3 = (pre q d ++ spans d (l.take (k + 1))).length := ⟨_, rfl⟩
          have e3 : spsC (pre q d ++ spans d (l.take (k + 1))) = (pre q d ++ spans d (l.take (k + 1))).flatMap spC := rfl
          rw [← e3, ← hm3] at ho3
          rw [← hm3] at hrun
          have Hrun := Lib.hid hrun
          have HO3 := Lib.hid ho3
          have HB3 := Lib.hid (hb3.trans hb4)
          have HM3 := Lib.hid hm3
          clear hc hp hrun ho3 hb4 hb3 hown htk hm3 e3 HO2 hm2
          go_wp2_with (at_builtin; refine Lib.wpList_append_run _ rfl _ _ _ _ rfl _ _ rfl rfl _ _ Hrun.out ?_)
          refine ⟨⟨.slice A3 m3 c3, _, .int .i64 ((k : Int) + 1), ⟨k + 1, by omega, m3, A3, c3, rfl, by go_num, ?_, HO3.out⟩, rfl, rfl, rfl⟩, by simp [intOf]; omega⟩
          have := HM3.out
          rwa [List.length_append] at this
        · obtain rfl : k = sn := by omega
          have HE : Hid (l.take k = l) := List.take_of_length_le (by rw [HSV.out.1]; omega)
          rw [HE.out, ← HP.out] at HO2 HM2
          go_wp2
          go_roundw
          case rel => exact ⟨d + 1, m2, A2, c2, by omega, rfl, by go_num, HM2.out, HO2.out, HB2.out⟩
          case measure => simp [intOf]; omega
    · obtain rfl : d = 4 := by omega
      have hm := HM.out
      subst hm
      go_wp2
      go_ret
      exact ⟨_, _, rfl, HO.out, HB.out⟩
end Cx
end Go.Proofs.Ytbfcbfadfnaebaa
/- Sets of dots, the program's: united, met, taken from one another, compared. -/
namespace Go.Proofs.Ytbfcbfadfnaebaa
open Go.ChangeShapes Go.WideShapes Go.ChangeAt Go.RowKit
namespace Cx
open Sp Rw
/-- a slice that reads as what two sets of dots make -/
def PutIsC (f : Bool → Bool → Bool) (a b : List S3) (n m : Nat) (w : World) (e : Ending) (w' : World) : Prop :=
  ∃ u q A' c', e = .returned (.slice A' q c') ∧ Hid (u.length = q) ∧ Hid (PutC f a b u) ∧ q ≤ 4 * (n + m) ∧ Hid (Rd w' w'.heap.size 3 A' q c' (spsC u)) ∧ Below w.heap.size w w'
/-- a function that puts two sets of numbers together -/
def PutsBy (f : Bool → Bool → Bool) (F : FuncId) : Prop :=
  ∀ (a b : List (Int × Int)) (n m : Nat) (A B : Option Addr) (c d : Nat) (w : World), a.length = n → b.length = m → n ≤ 100000 → m ≤ 100000 → Rd w w.heap.size 2 A n c (runsC a) → Rd w w.heap.size 2 B m d (runsC b) → RightF 1 a → RightF 1 b → Calls Try.prog F #[.slice A n c, .slice B m d] w (JoinIs f a b w)
theorem put_pre {f : Bool → Bool → Bool} {a b : List S3} {r : Nat → List (Int × Int)} (h : ∀ d : Nat, d < 4 → Put f (part a d) (part b d) (r d)) : PutC f a b (pre r 4) := by
  rw [pre_four]
  refine PutC.of fun d hd => ?_
  have e : ((d.toNat : Nat) : Int) = d := by have := hd.1; omega
  have h1 := h d.toNat (by have := hd.1; have := hd.2; omega)
  rw [e] at h1
  exact ⟨h1.right, h1.has⟩
theorem box4c (w : World) (s : Nat → SV) : Cells4 (w.alloc (.cells #[.slice (s 0).A (s 0).n (s 0).c, .slice (s 1).A (s 1).n (s 1).c, .slice (s 2).A (s 2).n (s 2).c, .slice (s 3).A (s 3).n (s 3).c] 94)) w.heap.size (fun j => .slice (s j).A (s j).n (s j).c) :=
  Cells4.new w _ _ _ _ _ _ rfl
end Cx
end Go.Proofs.Ytbfcbfadfnaebaa
/- Two sets put together from place to place; the set of numbers, one by one: the document's way, as mathematics. -/
namespace Go.Proofs.Ytbfcbfadfnaebaa
open Go.RowKit
namespace Sp
theorem run_apps {w : World} {base n m c c' : Nat} {A A' : Option Addr} {xs ys : List Int} (ho : Own w base 2 1 A n c (intsC xs)) (hr : Rd w w.heap.size 1 A' m c' (intsC ys)) (hn : n + m ≤ 1000000) (hb : base ≤ w.heap.size) :
    ∃ A2 c2 w2, (Builtin.append_ #[89, 89] 89 #[.slice A n c, .slice A' m c']).run Try.prog w = .ok (.slice A2 (n + m) c2) w2 ∧ Own w2 base 2 1 A2 (n + m) c2 (intsC (xs ++ ys)) ∧ Below base w w2 := by
  obtain ⟨i0, hi0, hz0, hz1, hz2⟩ := info_of infoI
  obtain ⟨v', w', h1, h2, h3, h4⟩ := run_app (P := Try.prog) w base 89 89 2 i0 _ 1 8 Try.underlying89 hi0 hz0 hz1 hz2 rfl (by omega) ho.row hr hn (by omega) hb
  rw [← intsC_append] at h2
  obtain ⟨A2, c2, rfl, h5⟩ := Own.of_row h2 (intsC_one _)
  exact ⟨A2, c2, w', h1, h5, (Below.refl base w).grown h3 hb (fun k hk => (ho.row.lt k hk).1)⟩
theorem nil_or_snoc (l : List (Int × Int)) : l = [] ∨ ∃ d r, l = d ++ [r] := by
  by_cases h : l = []
  · exact .inl h
  · exact .inr ⟨_, _, (List.dropLast_concat_getLast h).symm⟩
theorem ends_mem {l : List (Int × Int)} {r : Int × Int} (h : r ∈ l) : r.1 ∈ endsL l ∧ r.2 + 1 ∈ endsL l := ⟨List.mem_flatMap.2 ⟨r, h, by simp⟩, List.mem_flatMap.2 ⟨r, h, by simp⟩⟩
/-- no end between: alike -/
theorem has_between {l : List (Int × Int)} {u n : Int} (hu : u ≤ n) (h : ∀ x ∈ endsL l, u < x → n < x) : hasB l n = hasB l u := by
  have key : ∀ r ∈ l, (r.1 ≤ n ∧ n ≤ r.2) ↔ (r.1 ≤ u ∧ u ≤ r.2) := fun r hr => by
    obtain ⟨m1, m2⟩ := ends_mem hr
    have h1 := h _ m1
    have h2 := h _ m2
    omega
  cases hx : hasB l u with
  | true =>
    obtain ⟨r, hr, h2⟩ := has_true.1 hx
    exact has_true.2 ⟨r, hr, (key r hr).2 h2⟩
  | false => exact has_false.2 fun r hr h2 => has_false.1 hx r hr ((key r hr).1 h2)
theorem cnt_step : ∀ {L : List Int} {t u : Int}, t ∈ L → t < u → L.countP (fun x => decide (x < t)) + 1 ≤ L.countP (fun x => decide (x < u))
  | [], _, _, h, _ => by simp at h
  | x :: L, t, u, h, hu => by
    have mono : L.countP (fun x => decide (x < t)) ≤ L.countP (fun x => decide (x < u)) := List.countP_mono_left (fun y _ hy => by simp at hy ⊢; omega)
    rw [List.countP_cons, List.countP_cons]
    by_cases hx : x = t
    · subst hx
      have e1 : decide (x < x) = false := by simp
      have e2 : decide (x < u) = true := by simpa using hu
      simp only [e1, e2, if_true, Bool.false_eq_true, if_false]
      omega
    · have h' : t ∈ L := by
        rcases List.mem_cons.1 h with h | h
        · exact absurd h.symm hx
        · exact h
      have ih := cnt_step h' hu
      by_cases h1 : x < t
      · have e1 : decide (x < t) = true := by simpa using h1
        have e2 : decide (x < u) = true := by simp; omega
        simp only [e1, e2, if_true]
        omega
      · have e1 : decide (x < t) = false := by simpa using h1
        simp only [e1, Bool.false_eq_true, if_false]
        split <;> omega
theorem ends_bounds {l : List (Int × Int)} (h : RightF 1 l) {x : Int} (hx : x ∈ endsL l) : 1 ≤ x ∧ x ≤ 1099511627777 := by
  obtain ⟨r, hr, hx⟩ := List.mem_flatMap.1 hx
  have := h.mem r hr
  simp at hx
  omega
/-- how far the document's way is -/
structure ByInv (f : Bool → Bool → Bool) (a b out : List (Int × Int)) (t : Int) (ok : Bool) : Prop where
  right : RightF 1 out
  on : ok = true → t ∈ endsL a ++ endsL b ∧ 1 ≤ t ∧ t ≤ 1099511627777 ∧ (∀ r ∈ out, r.2 < t) ∧ (∀ n, n < t → hasB out n = f (hasB a n) (hasB b n)) ∧ out.length ≤ (endsL a ++ endsL b).countP (fun x => decide (x < t))
  off : ok = false → ∀ n, hasB out n = f (hasB a n) (hasB b n)
theorem between_both {a b : List (Int × Int)} {u n : Int} (hu : u ≤ n) (h : ∀ x ∈ endsL a ++ endsL b, u < x → n < x) : hasB a n = hasB a u ∧ hasB b n = hasB b u :=
  ⟨has_between hu fun x hx => h x (List.mem_append_left _ hx), has_between hu fun x hx => h x (List.mem_append_right _ hx)⟩
theorem ByInv.zero {f : Bool → Bool → Bool} (hf : f false false = false) {a b : List (Int × Int)} (ha : RightF 1 a) (hb : RightF 1 b) : ByInv f a b [] ((nextL 0 (endsL a ++ endsL b)).getD 0) (nextL 0 (endsL a ++ endsL b)).isSome := by
  have hN := nextL_is 0 (endsL a ++ endsL b)
  have h0 : ∀ n, n ≤ 0 → hasB a n = false ∧ hasB b n = false := fun n hn => ⟨has_lt ha (by omega), has_lt hb (by omega)⟩
  cases hx : nextL 0 (endsL a ++ endsL b) with
  | none =>
    rw [hx] at hN
    refine ⟨trivial, fun h => (by cases h), fun _ n => ?_⟩
    rcases (by omega : n ≤ 0 ∨ 0 < n) with hn | hn
    · rw [(h0 n hn).1, (h0 n hn).2, hf]; rfl
    · obtain ⟨e1, e2⟩ := between_both (a := a) (b := b) (u := 0) (n := n) (by omega) (fun x hx h => by have := hN x hx; omega)
      rw [e1, e2, (h0 0 (by omega)).1, (h0 0 (by omega)).2, hf]; rfl
  | some t =>
    rw [hx] at hN
    obtain ⟨h1, h2, h3⟩ := hN
    have hb' : 1 ≤ t ∧ t ≤ 1099511627777 := by
      rcases List.mem_append.1 h1 with h | h
      · exact ends_bounds ha h
      · exact ends_bounds hb h
    refine ⟨trivial, fun _ => ⟨h1, hb'.1, hb'.2, by simp, fun n hn => ?_, Nat.zero_le _⟩, fun h => by cases h⟩
    show hasB [] n = _
    rcases (by omega : n ≤ 0 ∨ 0 < n) with hn0 | hn0
    · rw [(h0 n hn0).1, (h0 n hn0).2, hf]; rfl
    · obtain ⟨e1, e2⟩ := between_both (a := a) (b := b) (u := 0) (n := n) (by omega) (fun x hx h => by have := h3 x hx h; have hn : n < t := hn; omega)
      rw [e1, e2, (h0 0 (by omega)).1, (h0 0 (by omega)).2, hf]; rfl
section
variable {f : Bool → Bool → Bool} {a b out : List (Int × Int)} {t : Int}
theorem ByInv.last (hf : f false false = false) (ha : RightF 1 a) (hb : RightF 1 b) (h : ByInv f a b out t true) (hN : nextL t (endsL a ++ endsL b) = none) : f (hasB a t) (hasB b t) = false ∧ ∀ u, ByInv f a b out u false := by
  have hN' := nextL_is t (endsL a ++ endsL b)
  rw [hN] at hN'
  obtain ⟨h1, h2, h3, h4, h5, h6⟩ := h.on rfl
  have hbt : ∀ n, t ≤ n → hasB a n = hasB a t ∧ hasB b n = hasB b t := fun n hn => between_both hn (fun x hx h => by have := hN' x hx; omega)
  have hz : f (hasB a t) (hasB b t) = false := by
    obtain ⟨e1, e2⟩ := hbt 1099511627778 (by omega)
    rw [← e1, ← e2, has_gt ha (by omega), has_gt hb (by omega), hf]
  refine ⟨hz, fun u => ⟨h.right, fun h => (by cases h), fun _ n => ?_⟩⟩
  rcases (by omega : n < t ∨ t ≤ n) with hn | hn
  · exact h5 n hn
  · obtain ⟨e1, e2⟩ := hbt n hn
    rw [e1, e2, hz]
    exact has_false.2 fun r hr => by have := h4 r hr; omega
theorem ByInv.next {u : Int} (ha : RightF 1 a) (hb : RightF 1 b) (h : ByInv f a b out t true) (hN : nextL t (endsL a ++ endsL b) = some u) :
    t < u ∧ 1 ≤ t ∧ u ≤ 1099511627777 ∧ (f (hasB a t) (hasB b t) = false → ByInv f a b out u true) ∧
    (f (hasB a t) (hasB b t) = true → (∀ r ∈ out, r.2 + 2 ≤ t) → ByInv f a b (out ++ [(t, u - 1)]) u true) ∧
    (f (hasB a t) (hasB b t) = true → ∀ d s, out = d ++ [(s, t - 1)] → ByInv f a b (d ++ [(s, u - 1)]) u true) := by
  have hN' := nextL_is t (endsL a ++ endsL b)
  rw [hN] at hN'
  obtain ⟨g1, g2, g3⟩ := hN'
  obtain ⟨h1, h2, h3, h4, h5, h6⟩ := h.on rfl
  have hbt : ∀ n, t ≤ n → n < u → hasB a n = hasB a t ∧ hasB b n = hasB b t := fun n hn hnu => between_both hn (fun x hx h => by have := g3 x hx h; omega)
  have hub : 1 ≤ u ∧ u ≤ 1099511627777 := by
    rcases List.mem_append.1 g1 with h | h
    · exact ends_bounds ha h
    · exact ends_bounds hb h
  have hcnt := cnt_step h1 g2
  have hno : ∀ n, t ≤ n → hasB out n = false := fun n hn => has_false.2 fun r hr => by have := h4 r hr; omega
  refine ⟨g2, h2, hub.2, fun hin => ?_, fun hin hgap => ?_, fun hin d s hd => ?_⟩
  · refine ⟨h.right, fun _ => ⟨g1, hub.1, hub.2, fun r hr => by have := h4 r hr; omega, fun n hn => ?_, by omega⟩, fun h => by cases h⟩
    rcases (by omega : n < t ∨ t ≤ n) with hn' | hn'
    · exact h5 n hn'
    · obtain ⟨e1, e2⟩ := hbt n hn' hn
      rw [e1, e2, hin, hno n hn']
  · refine ⟨h.right.snoc hgap h2 (by show t ≤ u - 1; omega) (by show u - 1 ≤ _; omega), fun _ => ⟨g1, hub.1, hub.2, fun r hr => ?_, fun n hn => ?_, by rw [List.length_append, List.length_singleton]; omega⟩, fun h => by cases h⟩
    · rcases List.mem_append.1 hr with hr | hr
      · have := h4 r hr; omega
      · rw [List.mem_singleton.1 hr]; show u - 1 < u; omega
    · rw [has_append, has_cons, has_nil, Bool.or_false]
      rcases (by omega : n < t ∨ t ≤ n) with hn' | hn'
      · have e : decide (t ≤ n ∧ n ≤ u - 1) = false := by simp; omega
        rw [e, Bool.or_false]
        exact h5 n hn'
      · obtain ⟨e1, e2⟩ := hbt n hn' hn
        have e : decide (t ≤ n ∧ n ≤ u - 1) = true := by simp; omega
        rw [e1, e2, hin, e, Bool.or_true]
  · subst hd
    obtain ⟨k1, k2, k3, k4, k5⟩ := h.right.of_snoc
    dsimp only at k2 k3 k4 k5
    refine ⟨k1.snoc k2 k3 (by show s ≤ u - 1; omega) (by show u - 1 ≤ _; omega), fun _ => ⟨g1, hub.1, hub.2, fun r hr => ?_, fun n hn => ?_, by rw [List.length_append, List.length_singleton] at h6 ⊢; omega⟩, fun h => by cases h⟩
    · rcases List.mem_append.1 hr with hr | hr
      · have := h4 r (List.mem_append_left _ hr); omega
      · rw [List.mem_singleton.1 hr]; show u - 1 < u; omega
    · rw [has_append, has_cons, has_nil, Bool.or_false]
      rcases (by omega : n < t ∨ t ≤ n) with hn' | hn'
      · have e5 := h5 n hn'
        rw [has_append, has_cons, has_nil, Bool.or_false] at e5
        have e : decide (s ≤ n ∧ n ≤ u - 1) = decide (s ≤ n ∧ n ≤ t - 1) := by
          congr 1
          exact propext ⟨fun h => ⟨h.1, by omega⟩, fun h => ⟨h.1, by omega⟩⟩
        rw [e]
        exact e5
      · obtain ⟨e1, e2⟩ := hbt n hn' hn
        have e : decide (s ≤ n ∧ n ≤ u - 1) = true := by simp; omega
        rw [e1, e2, hin, e, Bool.or_true]
end
/-- the set of numbers, as far as the document's way is -/
structure OfInv (ns : List Int) (out : List (Int × Int)) (t : Int) (ok : Bool) : Prop where
  right : RightF 1 out
  on : ok = true → t ∈ ns ∧ (∀ r ∈ out, r.2 < t) ∧ (∀ n, hasB out n = true ↔ (n ∈ ns ∧ n < t)) ∧ out.length ≤ ns.countP (fun x => decide (x < t))
  off : ok = false → ∀ n, hasB out n = true ↔ n ∈ ns
theorem OfInv.zero {ns : List Int} (hb : ∀ x ∈ ns, 1 ≤ x ∧ x ≤ 1099511627776) : OfInv ns [] ((nextL 0 ns).getD 0) (nextL 0 ns).isSome := by
  have hN := nextL_is 0 ns
  cases hx : nextL 0 ns with
  | none =>
    rw [hx] at hN
    refine ⟨trivial, fun h => (by cases h), fun _ n => ⟨fun h => (by cases h), fun h => ?_⟩⟩
    have := hN n h; have := hb n h; omega
  | some t =>
    rw [hx] at hN
    obtain ⟨h1, h2, h3⟩ := hN
    refine ⟨trivial, fun _ => ⟨h1, by simp, fun n => ⟨fun h => (by cases h), fun h => ?_⟩, Nat.zero_le _⟩, fun h => by cases h⟩
    have h' : n < t := h.2
    have := h3 n h.1 (by have := hb n h.1; omega)
    omega
section
variable {ns : List Int} {out : List (Int × Int)} {t : Int}
/-- one number more -/
theorem OfInv.one (_hb : ∀ x ∈ ns, 1 ≤ x ∧ x ≤ 1099511627776) (h : OfInv ns out t true) (out' : List (Int × Int)) (hr : RightF 1 out') (he : ∀ r ∈ out', r.2 ≤ t) (hh : ∀ n, hasB out' n = (hasB out n || decide (n = t))) (hl : out'.length ≤ out.length + 1) :
    OfInv ns out' ((nextL t ns).getD 0) (nextL t ns).isSome := by
  have hN := nextL_is t ns
  obtain ⟨h1, h2, h3, h4⟩ := h.on rfl
  have key : ∀ n, hasB out' n = true ↔ (n ∈ ns ∧ n ≤ t) := fun n => by
    rw [hh, Bool.or_eq_true, h3 n, decide_eq_true_eq]
    constructor
    · rintro (h | rfl)
      · exact ⟨h.1, by omega⟩
      · exact ⟨h1, Int.le_refl _⟩
    · rintro ⟨ha, hb⟩
      rcases (by omega : n < t ∨ n = t) with h | h
      · exact .inl ⟨ha, h⟩
      · exact .inr h
  cases hx : nextL t ns with
  | none =>
    rw [hx] at hN
    refine ⟨hr, fun h => (by cases h), fun _ n => (key n).trans ⟨fun h => h.1, fun h => ⟨h, hN n h⟩⟩⟩
  | some u =>
    rw [hx] at hN
    obtain ⟨g1, g2, g3⟩ := hN
    have hcnt := cnt_step h1 g2
    refine ⟨hr, fun _ => ⟨g1, fun r hr => ?_, fun n => (key n).trans ⟨fun h => ⟨h.1, ?_⟩, fun h => ⟨h.1, ?_⟩⟩, ?_⟩, fun h => by cases h⟩
    · have := he r hr
      show r.2 < u
      omega
    · show n < u
      omega
    · have h' : n < u := h.2
      rcases (by omega : n ≤ t ∨ t < n) with h2 | h2
      · exact h2
      · have := g3 n h.1 h2; omega
    · show out'.length ≤ ns.countP (fun x => decide (x < u))
      omega
/-- it stands by itself -/
theorem OfInv.push (hb : ∀ x ∈ ns, 1 ≤ x ∧ x ≤ 1099511627776) (h : OfInv ns out t true) (hg : ∀ r ∈ out, r.2 + 2 ≤ t) : OfInv ns (out ++ [(t, t)]) ((nextL t ns).getD 0) (nextL t ns).isSome := by
  obtain ⟨h1, h2, h3, h4⟩ := h.on rfl
  have hbt := hb t h1
  refine h.one hb _ (h.right.snoc hg hbt.1 (Int.le_refl _) hbt.2) (fun r hr => ?_) (fun n => ?_) (by simp)
  · rcases List.mem_append.1 hr with hr | hr
    · have := h2 r hr; omega
    · rw [List.mem_singleton.1 hr]; exact Int.le_refl _
  · rw [has_append, has_cons, has_nil, Bool.or_false]
    congr 2
    exact propext ⟨fun h => by dsimp only at h; omega, fun h => ⟨by dsimp only; omega, by dsimp only; omega⟩⟩
/-- it is the next one behind the last run -/
theorem OfInv.grow {d : List (Int × Int)} {s : Int} (hb : ∀ x ∈ ns, 1 ≤ x ∧ x ≤ 1099511627776) (h : OfInv ns (d ++ [(s, t - 1)]) t true) : OfInv ns (d ++ [(s, t)]) ((nextL t ns).getD 0) (nextL t ns).isSome := by
  obtain ⟨h1, h2, h3, h4⟩ := h.on rfl
  have hbt := hb t h1
  obtain ⟨k1, k2, k3, k4, k5⟩ := h.right.of_snoc
  dsimp only at k2 k3 k4 k5
  refine h.one hb _ (k1.snoc k2 k3 (by show s ≤ t; omega) hbt.2) (fun r hr => ?_) (fun n => ?_) (by simp)
  · rcases List.mem_append.1 hr with hr | hr
    · have := h2 r (List.mem_append_left _ hr); omega
    · rw [List.mem_singleton.1 hr]; exact Int.le_refl _
  · rw [has_append, has_append, has_cons, has_cons, has_nil, Bool.or_false, Bool.or_false, Bool.or_assoc]
    congr 1
    rw [← Bool.decide_or]
    congr 1
    exact propext ⟨fun h => by dsimp only at h ⊢; omega, fun h => by dsimp only at h ⊢; omega⟩
end
end Sp
end Go.Proofs.Ytbfcbfadfnaebaa
