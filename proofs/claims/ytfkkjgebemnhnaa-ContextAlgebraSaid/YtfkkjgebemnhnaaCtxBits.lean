/- Sets of dots as spans, center by center, as mathematics: what is right, a center's part, that a set has one such list. Nothing here speaks of a program. -/
import Derived.Test.YtfkkjgebemnhnaaSpanBits
namespace Go.Proofs.Ytfkkjgebemnhnaa
namespace Cx
open Sp
/-- a span: its center, from, to -/
abbrev S3 := Int × Int × Int
/-- a center's numbers -/
def part (c : List S3) (d : Int) : List (Int × Int) := (c.filter fun s => decide (s.1 = d)).map fun s => s.2
def spans (d : Int) (l : List (Int × Int)) : List S3 := l.map fun r => (d, r)
theorem part_nil (d : Int) : part [] d = [] := rfl
theorem part_append (a b : List S3) (d : Int) : part (a ++ b) d = part a d ++ part b d := by simp [part]
theorem part_cons (s : S3) (c : List S3) (d : Int) : part (s :: c) d = if s.1 = d then s.2 :: part c d else part c d := by
  unfold part
  by_cases h : s.1 = d
  · simp [h]
  · simp [h]
theorem part_spans (d e : Int) (l : List (Int × Int)) : part (spans d l) e = if d = e then l else [] := by
  induction l with
  | nil => simp [spans, part]
  | cons r l ih =>
    show part ((d, r) :: spans d l) e = _
    rw [part_cons, ih]
    by_cases h : d = e <;> simp [h]
theorem part_mem {c : List S3} {d : Int} {r : Int × Int} : r ∈ part c d ↔ (d, r) ∈ c := by
  unfold part
  simp only [List.mem_map, List.mem_filter, decide_eq_true_eq]
  constructor
  · rintro ⟨s, ⟨hs, he⟩, rfl⟩
    subst he
    exact hs
  · intro h
    exact ⟨(d, r), ⟨h, rfl⟩, rfl⟩
theorem part_len (c : List S3) (d : Int) : (part c d).length ≤ c.length := by
  unfold part
  rw [List.length_map]
  exact List.length_filter_le _ _
/-- may a center be? -/
def Cen (d : Int) : Prop := 0 ≤ d ∧ d < 4
/-- centers rise, and may be -/
def RiseC : Int → List S3 → Prop
  | _, [] => True
  | m, s :: c => m ≤ s.1 ∧ s.1 < 4 ∧ RiseC s.1 c
structure RightC (c : List S3) : Prop where
  rise : RiseC 0 c
  part : ∀ d, Cen d → RightF 1 (part c d)
theorem RiseC.mem : ∀ {c : List S3} {m : Int}, RiseC m c → ∀ s ∈ c, m ≤ s.1 ∧ s.1 < 4
  | [], _, _, s, h => by simp at h
  | t :: c, m, h, s, hs => by
    obtain ⟨h1, h2, h3⟩ := h
    rcases List.mem_cons.1 hs with rfl | hs
    · exact ⟨h1, h2⟩
    · have := RiseC.mem h3 s hs
      omega
theorem RiseC.mono {m m' : Int} (hm : m' ≤ m) : ∀ {c : List S3}, RiseC m c → RiseC m' c
  | [], _ => trivial
  | _ :: _, h => ⟨by have := h.1; omega, h.2.1, h.2.2⟩
theorem RiseC.append : ∀ {a b : List S3} {m : Int}, RiseC m a → (∀ k, (∀ s ∈ a, s.1 ≤ k) → m ≤ k → (∀ s ∈ b, k ≤ s.1) → RiseC k b) → ∀ {k : Int}, (∀ s ∈ a, s.1 ≤ k) → m ≤ k → (∀ s ∈ b, k ≤ s.1) → RiseC m (a ++ b)
  | [], b, m, _, hb, k, h1, h2, h3 => (hb k h1 h2 h3).mono h2
  | t :: a, b, m, ha, hb, k, h1, h2, h3 => by
    obtain ⟨a1, a2, a3⟩ := ha
    refine ⟨a1, a2, RiseC.append a3 (fun k' g1 g2 g3 => hb k' (fun s hs => ?_) (by omega) g3) (fun s hs => h1 s (List.mem_cons_of_mem _ hs)) (h1 t List.mem_cons_self) h3⟩
    rcases List.mem_cons.1 hs with rfl | hs
    · exact g2
    · exact g1 s hs
theorem rise_spans {d : Int} (hd : Cen d) (l : List (Int × Int)) : RiseC d (spans d l) := by
  induction l with
  | nil => trivial
  | cons r l ih => exact ⟨Int.le_refl _, hd.2, ih⟩
theorem spans_mem {d : Int} {l : List (Int × Int)} {s : S3} (h : s ∈ spans d l) : s.1 = d := by
  obtain ⟨r, _, rfl⟩ := List.mem_map.1 h
  rfl
/-- all centers' parts, one behind the other -/
def glue (p : Int → List (Int × Int)) : List S3 := spans 0 (p 0) ++ (spans 1 (p 1) ++ (spans 2 (p 2) ++ spans 3 (p 3)))
theorem cen_cases {d : Int} (h : Cen d) : d = 0 ∨ d = 1 ∨ d = 2 ∨ d = 3 := by unfold Cen at h; omega
theorem part_glue (p : Int → List (Int × Int)) {d : Int} (h : Cen d) : part (glue p) d = p d := by
  unfold glue
  rw [part_append, part_append, part_append, part_spans, part_spans, part_spans, part_spans]
  rcases cen_cases h with rfl | rfl | rfl | rfl <;> simp
theorem rise_cat {d : Int} (hd : Cen d) (l : List (Int × Int)) {b : List S3} (hb : RiseC (d + 1) b) : RiseC d (spans d l ++ b) := by
  induction l with
  | nil => exact hb.mono (by omega)
  | cons r l ih => exact ⟨Int.le_refl _, hd.2, ih⟩
theorem rise_glue (p : Int → List (Int × Int)) : RiseC 0 (glue p) :=
  rise_cat (by unfold Cen; omega) _ (rise_cat (by unfold Cen; omega) _ (rise_cat (by unfold Cen; omega) _ (rise_spans (by unfold Cen; omega) _)))
theorem right_glue {p : Int → List (Int × Int)} (h : ∀ d, Cen d → RightF 1 (p d)) : RightC (glue p) := ⟨rise_glue p, fun d hd => by rw [part_glue p hd]; exact h d hd⟩
/-- whose centers rise from d on: its part of d ahead of all else -/
theorem rise_split : ∀ {c : List S3} {d : Int}, RiseC d c → ∃ b, c = spans d (part c d) ++ b ∧ RiseC (d + 1) b ∧ ∀ e, d < e → part c e = part b e
  | [], _, _ => ⟨[], rfl, trivial, fun _ _ => rfl⟩
  | s :: c, d, h => by
    obtain ⟨h1, h2, h3⟩ := h
    by_cases hs : s.1 = d
    · rw [hs] at h3
      obtain ⟨b, e1, e2, e3⟩ := rise_split h3
      refine ⟨b, ?_, e2, fun e he => ?_⟩
      · rw [part_cons, if_pos hs]
        show s :: c = (d, s.2) :: (spans d (part c d) ++ b)
        rw [← e1, ← hs]
      · rw [part_cons, if_neg (by omega)]
        exact e3 e he
    · have hno : part (s :: c) d = [] := by
        rw [part_cons, if_neg hs]
        apply List.eq_nil_iff_forall_not_mem.2
        intro r hr
        have := h3.mem _ (part_mem.1 hr)
        have h4 : s.1 ≤ d := this.1
        omega
      refine ⟨s :: c, by rw [hno]; rfl, ⟨by omega, h2, h3⟩, fun _ _ => rfl⟩
theorem rise_last {b : List S3} (h : RiseC 4 b) : b = [] := by
  cases b with
  | nil => rfl
  | cons s b => have := h.1; have := h.2.1; omega
/-- a list whose centers rise is its parts, one behind the other -/
theorem glue_part {c : List S3} (h : RiseC 0 c) : c = glue (part c) := by
  obtain ⟨b1, e1, r1, p1⟩ := rise_split h
  obtain ⟨b2, e2, r2, p2⟩ := rise_split r1
  obtain ⟨b3, e3, r3, p3⟩ := rise_split r2
  obtain ⟨b4, e4, r4, p4⟩ := rise_split r3
  have e5 := rise_last r4
  have q1 : part b1 1 = part c 1 := (p1 1 (by omega)).symm
  have q2 : part b2 2 = part c 2 := ((p1 2 (by omega)).trans (p2 2 (by omega))).symm
  have q3 : part b3 3 = part c 3 := ((p1 3 (by omega)).trans ((p2 3 (by omega)).trans (p3 3 (by omega)))).symm
  rw [show (0 : Int) + 1 = 1 from rfl] at e2
  rw [show (0 : Int) + 1 + 1 = 2 from rfl] at e3
  rw [show (0 : Int) + 1 + 1 + 1 = 3 from rfl, e5, List.append_nil] at e4
  unfold glue
  rw [← q1, ← q2, ← q3, ← e4, ← e3, ← e2, ← e1]
theorem ext_part {a b : List S3} (ha : RiseC 0 a) (hb : RiseC 0 b) (h : ∀ d, Cen d → part a d = part b d) : a = b := by
  rw [glue_part ha, glue_part hb]
  unfold glue
  rw [h 0 (by unfold Cen; omega), h 1 (by unfold Cen; omega), h 2 (by unfold Cen; omega), h 3 (by unfold Cen; omega)]
/-- is the dot there? -/
def hasC (c : List S3) (d n : Int) : Bool := hasB (part c d) n
/-- a set of dots has one list -/
theorem extC {a b : List S3} (ha : RightC a) (hb : RightC b) (h : ∀ d n, Cen d → hasC a d n = hasC b d n) : a = b :=
  ext_part ha.rise hb.rise fun d hd => ext (ha.part d hd) (hb.part d hd) fun n => h d n hd
/-- what two sets of dots make -/
structure PutC (f : Bool → Bool → Bool) (a b l : List S3) : Prop where
  right : RightC l
  has : ∀ d n, Cen d → hasC l d n = f (hasC a d n) (hasC b d n)
theorem PutC.eq {f : Bool → Bool → Bool} {a b l l' : List S3} (h : PutC f a b l) (h' : PutC f a b l') : l = l' := extC h.right h'.right fun d n hd => by rw [h.has d n hd, h'.has d n hd]
theorem PutC.of {f : Bool → Bool → Bool} {a b : List S3} {p : Int → List (Int × Int)} (h : ∀ d, Cen d → RightF 1 (p d) ∧ ∀ n, hasB (p d) n = f (hasC a d n) (hasC b d n)) : PutC f a b (glue p) :=
  ⟨right_glue fun d hd => (h d hd).1, fun d n hd => by unfold hasC; rw [part_glue p hd]; exact (h d hd).2 n⟩
end Cx
end Go.Proofs.Ytfkkjgebemnhnaa
