/- Records in bytes, as mathematics: numbers of four bytes, a record's frame, what bytes are as a frame, all frames of bytes. Nothing here speaks of a program. -/
import Derived.Test.YtcffbgehopjgpaaCrcBits
namespace Go.Proofs.Ytcffbgehopjgpaa
namespace Frm
open Crc
/-- a number of four bytes, the least first -/
def le4 (n : Nat) : List UInt8 := [UInt8.ofNat n, UInt8.ofNat (n / 256), UInt8.ofNat (n / 65536), UInt8.ofNat (n / 16777216)]
/-- the number that bytes' first four tell -/
def val4 : List UInt8 → Nat
  | a :: b :: c :: d :: _ => a.toNat + 256 * b.toNat + 65536 * c.toNat + 16777216 * d.toNat
  | _ => 0
theorem le4_len (n : Nat) : (le4 n).length = 4 := rfl
theorem val4_le4 {n : Nat} (h : n < 4294967296) (x : List UInt8) : val4 (le4 n ++ x) = n := by
  simp only [le4, List.cons_append, val4, UInt8.toNat_ofNat']
  omega
theorem four_of {x : List UInt8} (h : 4 ≤ x.length) : ∃ a b c d y, x = a :: b :: c :: d :: y := by
  match x, h with
  | a :: b :: c :: d :: y, _ => exact ⟨a, b, c, d, y, rfl⟩
  | [], h => simp at h
  | [_], h => simp at h
  | [_, _], h => simp at h
  | [_, _, _], h => simp at h
theorem le4_val4 {x : List UInt8} (h : 4 ≤ x.length) : le4 (val4 x) = x.take 4 := by
  obtain ⟨a, b, c, d, y, rfl⟩ := four_of h
  have ha := a.toNat_lt; have hb := b.toNat_lt; have hc := c.toNat_lt; have hd := d.toNat_lt
  simp only [val4, le4, List.take_succ_cons, List.take_zero]
  have e : ∀ (n : Nat) (u : UInt8), n % 256 = u.toNat → UInt8.ofNat n = u := fun n u h => UInt8.toNat_inj.1 (by rw [UInt8.toNat_ofNat']; simpa using h)
  rw [e _ a (by omega), e _ b (by omega), e _ c (by omega), e _ d (by omega)]
theorem val4_lt (x : List UInt8) : val4 x < 4294967296 := by
  unfold val4
  split
  · rename_i a b c d y
    have ha := a.toNat_lt; have hb := b.toNat_lt; have hc := c.toNat_lt; have hd := d.toNat_lt
    omega
  · omega
theorem val4_take {x : List UInt8} {n : Nat} (h : 4 ≤ n) : val4 (x.take n) = val4 x := by
  rcases Nat.lt_or_ge x.length 4 with hx | hx
  · rw [List.take_of_length_le (by omega)]
  · obtain ⟨a, b, c, d, y, rfl⟩ := four_of hx
    obtain ⟨m, rfl⟩ : ∃ m, n = m + 4 := ⟨n - 4, by omega⟩
    simp [val4]
/-- a record's frame -/
def head (bs : List UInt8) : List UInt8 := le4 bs.length ++ bs
def frm (bs : List UInt8) : List UInt8 := head bs ++ le4 (crcN (head bs))
theorem head_len (bs : List UInt8) : (head bs).length = bs.length + 4 := by simp [head, le4_len]; omega
theorem frm_len (bs : List UInt8) : (frm bs).length = bs.length + 8 := by simp [frm, head_len, le4_len]
/-- what bytes are as one frame: 0 that, 2 no frame's, 11 with a wrong sum -/
def Told (x : List UInt8) : Prop := 8 ≤ x.length ∧ val4 x ≤ 60000 ∧ val4 x + 8 = x.length
instance (x : List UInt8) : Decidable (Told x) := by unfold Told; infer_instance
def Sum (x : List UInt8) : Prop := val4 (x.drop (x.length - 4)) = crcN (x.take (x.length - 4))
instance (x : List UInt8) : Decidable (Sum x) := by unfold Sum; infer_instance
def oneE (x : List UInt8) : Nat := if Told x then (if Sum x then 0 else 11) else 2
/-- what is in a frame -/
def inn (x : List UInt8) : List UInt8 := (x.take (x.length - 4)).drop 4
def oneB (x : List UInt8) : List UInt8 := if oneE x = 0 then inn x else []
theorem oneE_form {x : List UInt8} (h : ¬ Told x) : oneE x = 2 := if_neg h
theorem oneE_sum {x : List UInt8} (h : Told x) (hs : ¬ Sum x) : oneE x = 11 := by unfold oneE; rw [if_pos h, if_neg hs]
theorem oneE_ok {x : List UInt8} (h : Told x) (hs : Sum x) : oneE x = 0 := by unfold oneE; rw [if_pos h, if_pos hs]
theorem oneB_bad {x : List UInt8} (h : oneE x ≠ 0) : oneB x = [] := if_neg h
theorem oneB_ok {x : List UInt8} (h : oneE x = 0) : oneB x = inn x := if_pos h
theorem oneE_cases (x : List UInt8) : (¬ Told x ∧ oneE x = 2) ∨ (Told x ∧ ¬ Sum x ∧ oneE x = 11) ∨ (Told x ∧ Sum x ∧ oneE x = 0) := by
  by_cases h : Told x
  · by_cases hs : Sum x
    · exact .inr (.inr ⟨h, hs, oneE_ok h hs⟩)
    · exact .inr (.inl ⟨h, hs, oneE_sum h hs⟩)
  · exact .inl ⟨h, oneE_form h⟩
theorem frm_drop (bs : List UInt8) : (frm bs).drop ((frm bs).length - 4) = le4 (crcN (head bs)) := by
  rw [frm_len, show bs.length + 8 - 4 = (head bs).length from by rw [head_len]; omega]
  simp [frm]
theorem frm_take (bs : List UInt8) : (frm bs).take ((frm bs).length - 4) = head bs := by
  rw [frm_len, show bs.length + 8 - 4 = (head bs).length from by rw [head_len]; omega]
  simp [frm]
theorem val4_frm {bs : List UInt8} (h : bs.length ≤ 60000) : val4 (frm bs) = bs.length := by
  unfold frm head
  rw [List.append_assoc]
  exact val4_le4 (by omega) _
theorem told_frm {bs : List UInt8} (h : bs.length ≤ 60000) : Told (frm bs) := by
  unfold Told
  rw [val4_frm h, frm_len]
  omega
theorem sum_frm (bs : List UInt8) : Sum (frm bs) := by
  unfold Sum
  rw [frm_drop, frm_take]
  have := val4_le4 (crc_lt (head bs)) []
  rwa [List.append_nil] at this
theorem inn_frm (bs : List UInt8) : inn (frm bs) = bs := by
  unfold inn
  rw [frm_take]
  simp [head, le4]
theorem oneE_frm {bs : List UInt8} (h : bs.length ≤ 60000) : oneE (frm bs) = 0 := oneE_ok (told_frm h) (sum_frm bs)
theorem oneB_frm {bs : List UInt8} (h : bs.length ≤ 60000) : oneB (frm bs) = bs := by rw [oneB_ok (oneE_frm h), inn_frm]
theorem inn_len {x : List UInt8} (h : Told x) : (inn x).length = val4 x := by
  unfold inn
  rw [List.length_drop, List.length_take]
  have := h.2.2
  omega
theorem head_inn {x : List UInt8} (h : Told x) : head (inn x) = x.take (x.length - 4) := by
  unfold head
  rw [inn_len h, le4_val4 (by have := h.1; omega)]
  unfold inn
  have e : x.take 4 = (x.take (x.length - 4)).take 4 := by rw [List.take_take]; congr 1; have := h.1; omega
  rw [e, List.take_append_drop]
theorem frm_inn {x : List UInt8} (h : Told x) (hs : Sum x) : frm (inn x) = x := by
  unfold frm
  rw [head_inn h, ← show _ = _ from hs, le4_val4 (by rw [List.length_drop]; have := h.1; omega), List.take_of_length_le (l := x.drop (x.length - 4)) (by rw [List.length_drop]; have := h.1; omega), List.take_append_drop]
theorem sum_of_frm {x : List UInt8} (h : frm (inn x) = x) : Sum x := by
  rw [← h]; exact sum_frm _
/-- the frame that bytes begin with -/
def Fits (x : List UInt8) : Prop := 8 ≤ x.length ∧ val4 x ≤ 60000 ∧ val4 x + 8 ≤ x.length
instance (x : List UInt8) : Decidable (Fits x) := by unfold Fits; infer_instance
def cutf (x : List UInt8) : List UInt8 := x.take (val4 x + 8)
theorem cutf_len {x : List UInt8} (h : Fits x) : (cutf x).length = val4 x + 8 := by unfold cutf; rw [List.length_take]; have := h.2.2; omega
theorem told_cutf {x : List UInt8} (h : Fits x) : Told (cutf x) := by
  refine ⟨by rw [cutf_len h]; omega, ?_, ?_⟩
  · unfold cutf; rw [val4_take (by omega)]; exact h.2.1
  · rw [cutf_len h]; unfold cutf; rw [val4_take (by omega)]
/-- bytes begin with a frame -/
def Beg (x : List UInt8) : Prop := Fits x ∧ Sum (cutf x)
instance (x : List UInt8) : Decidable (Beg x) := by unfold Beg; infer_instance
theorem not_beg_of_fits {x : List UInt8} (h : ¬ Fits x) : ¬ Beg x := fun hb => h hb.1
theorem beg_one {x : List UInt8} (h : Fits x) : Beg x ↔ oneE (cutf x) = 0 := by
  rcases oneE_cases (cutf x) with ⟨h1, h2⟩ | ⟨h1, h2, h3⟩ | ⟨h1, h2, h3⟩
  · exact absurd (told_cutf h) h1
  · rw [h3]; exact ⟨fun hb => absurd hb.2 h2, fun e => by cases e⟩
  · exact ⟨fun _ => h3, fun _ => ⟨h, h2⟩⟩
theorem beg_frm {bs : List UInt8} (h : bs.length ≤ 60000) (y : List UInt8) : Beg (frm bs ++ y) ∧ cutf (frm bs ++ y) = frm bs := by
  have e1 : val4 (frm bs ++ y) = bs.length := by
    have := val4_frm h
    unfold frm head
    rw [List.append_assoc, List.append_assoc]
    exact val4_le4 (by omega) _
  have e2 : cutf (frm bs ++ y) = frm bs := by
    unfold cutf
    rw [e1, ← frm_len, List.take_left]
  refine ⟨⟨⟨?_, ?_, ?_⟩, ?_⟩, e2⟩
  · rw [List.length_append, frm_len]; omega
  · rw [e1]; exact h
  · rw [e1, List.length_append, frm_len]; omega
  · rw [e2]; exact sum_frm bs
theorem beg_split {x : List UInt8} (h : Beg x) : x = frm (inn (cutf x)) ++ x.drop (val4 x + 8) ∧ (inn (cutf x)).length = val4 x ∧ val4 x ≤ 60000 := by
  have ht := told_cutf h.1
  refine ⟨?_, ?_, h.1.2.1⟩
  · rw [frm_inn ht h.2]; exact (List.take_append_drop _ _).symm
  · rw [inn_len ht]; unfold cutf; rw [val4_take (by omega)]
/-- all frames of bytes, up to the first place at which none stands -/
def frms (l : List (List UInt8)) : List UInt8 := l.flatMap frm
theorem frms_nil : frms [] = [] := rfl
theorem frms_cons (a : List UInt8) (l : List (List UInt8)) : frms (a :: l) = frm a ++ frms l := by simp [frms]
theorem frms_snoc (l : List (List UInt8)) (a : List UInt8) : frms (l ++ [a]) = frms l ++ frm a := by simp [frms]
structure Upto (x : List UInt8) (l : List (List UInt8)) (n : Nat) : Prop where
  le : n ≤ x.length
  eq : frms l = x.take n
  few : ∀ a ∈ l, a.length ≤ 60000
structure Scans (x : List UInt8) (l : List (List UInt8)) (n : Nat) : Prop extends Upto x l n where
  no : ¬ Beg (x.drop n)
theorem Upto.zero (x : List UInt8) : Upto x [] 0 := ⟨Nat.zero_le _, by simp [frms], by simp⟩
theorem Upto.more {x : List UInt8} {l : List (List UInt8)} {n : Nat} (h : Upto x l n) (hb : Beg (x.drop n)) : Upto x (l ++ [inn (cutf (x.drop n))]) (n + (val4 (x.drop n) + 8)) ∧ n + (val4 (x.drop n) + 8) ≤ x.length := by
  obtain ⟨h1, h2, h3⟩ := beg_split hb
  have hl := hb.1.2.2
  rw [List.length_drop] at hl
  have hle : n + (val4 (x.drop n) + 8) ≤ x.length := by omega
  refine ⟨⟨hle, ?_, ?_⟩, hle⟩
  · rw [frms_snoc, h.eq, List.take_add]
    congr 1
    rw [frm_inn (told_cutf hb.1) hb.2]
    rfl
  · intro a ha
    rcases List.mem_append.1 ha with ha | ha
    · exact h.few a ha
    · simp only [List.mem_cons, List.not_mem_nil, or_false] at ha
      rw [ha, h2]; exact h3
theorem Upto.count {x : List UInt8} {l : List (List UInt8)} {n : Nat} (h : Upto x l n) : 8 * l.length ≤ n := by
  have e : (frms l).length = n := by rw [h.eq, List.length_take]; have := h.le; omega
  have k : ∀ l : List (List UInt8), 8 * l.length ≤ (frms l).length := by
    intro l
    induction l with
    | nil => simp [frms]
    | cons a l ih => rw [frms_cons, List.length_append, frm_len, List.length_cons]; omega
  have := k l
  omega
theorem frms_uniq : ∀ (l l' : List (List UInt8)) (y y' : List UInt8), (∀ a ∈ l, a.length ≤ 60000) → (∀ a ∈ l', a.length ≤ 60000) → ¬ Beg y → ¬ Beg y' → frms l ++ y = frms l' ++ y' → l = l' ∧ y = y'
  | [], [], y, y', _, _, _, _, h => ⟨rfl, by simpa [frms] using h⟩
  | [], a :: l', y, y', _, hl', hy, _, h => by
    rw [frms_cons, frms_nil, List.nil_append, List.append_assoc] at h
    exact absurd (by rw [h]; exact (beg_frm (hl' a (List.mem_cons_self ..)) _).1) hy
  | a :: l, [], y, y', hl, _, _, hy', h => by
    rw [frms_cons, frms_nil, List.nil_append, List.append_assoc] at h
    exact absurd (by rw [← h]; exact (beg_frm (hl a (List.mem_cons_self ..)) _).1) hy'
  | a :: l, a' :: l', y, y', hl, hl', hy, hy', h => by
    rw [frms_cons, frms_cons, List.append_assoc, List.append_assoc] at h
    have h1 := (beg_frm (hl a (List.mem_cons_self ..)) (frms l ++ y)).2
    have h2 := (beg_frm (hl' a' (List.mem_cons_self ..)) (frms l' ++ y')).2
    rw [h] at h1
    have h3 : frm a = frm a' := h1.symm.trans h2
    have h4 : a = a' := by rw [← inn_frm a, h3, inn_frm]
    subst h4
    obtain ⟨h5, h6⟩ := frms_uniq l l' y y' (fun b hb => hl b (List.mem_cons_of_mem _ hb)) (fun b hb => hl' b (List.mem_cons_of_mem _ hb)) hy hy' (List.append_cancel_left h)
    exact ⟨by rw [h5], h6⟩
theorem Scans.uniq {x : List UInt8} {l l' : List (List UInt8)} {n n' : Nat} (h : Scans x l n) (h' : Scans x l' n') : l = l' ∧ n = n' := by
  obtain ⟨h1, h2⟩ := frms_uniq l l' (x.drop n) (x.drop n') h.few h'.few h.no h'.no (by rw [h.eq, h'.eq, List.take_append_drop, List.take_append_drop])
  refine ⟨h1, ?_⟩
  have := congrArg List.length h2
  rw [List.length_drop, List.length_drop] at this
  have := h.le; have := h'.le
  omega
theorem scans_end {x : List UInt8} {l : List (List UInt8)} {n : Nat} (h : Upto x l n) (hn : x.length ≤ n) : Scans x l n :=
  ⟨h, fun hb => by have := hb.1.1; rw [List.length_drop] at this; omega⟩
/-- a part of a frame is never a frame -/
theorem not_beg_part {bs : List UInt8} (h : bs.length ≤ 60000) {k : Nat} (hk : k < bs.length + 8) : ¬ Beg ((frm bs).take k) := by
  intro hb
  have h1 := hb.1.1
  rw [List.length_take, frm_len] at h1
  have h2 := hb.1.2.2
  rw [val4_take (by omega), val4_frm h, List.length_take, frm_len] at h2
  omega
theorem scans_part {l : List (List UInt8)} {bs : List UInt8} (hl : ∀ a ∈ l, a.length ≤ 60000) (h : bs.length ≤ 60000) {k : Nat} (hk : k < bs.length + 8) : Scans (frms l ++ (frm bs).take k) l (frms l).length :=
  ⟨⟨by simp, by simp, hl⟩, by rw [List.drop_left]; exact not_beg_part h hk⟩
/-- a frame that is cut off, or has something behind it -/
theorem cut_form {bs : List UInt8} (h : bs.length ≤ 60000) {k : Nat} (hk : k < bs.length + 8) : oneE ((frm bs).take k) = 2 := by
  refine oneE_form fun ht => ?_
  have h1 := ht.1
  rw [List.length_take, frm_len] at h1
  have h2 := ht.2.2
  rw [val4_take (by omega), val4_frm h, List.length_take, frm_len] at h2
  omega
theorem more_form {bs : List UInt8} (h : bs.length ≤ 60000) {y : List UInt8} (hy : 0 < y.length) : oneE (frm bs ++ y) = 2 := by
  refine oneE_form fun ht => ?_
  have h2 := ht.2.2
  have e1 : val4 (frm bs ++ y) = bs.length := by
    unfold frm head
    rw [List.append_assoc, List.append_assoc]
    exact val4_le4 (by omega) _
  rw [e1, List.length_append, frm_len] at h2
  omega
/-- one byte another one -/
theorem xor_ne {a b : UInt8} (hb : b ≠ 0) : a ^^^ b ≠ a := by
  intro h
  apply hb
  have h1 : (a ^^^ b) ^^^ a = a ^^^ a := by rw [h]
  rw [UInt8.xor_comm a b, UInt8.xor_assoc, UInt8.xor_self] at h1
  simpa using h1
theorem frm_inj_sum {x y : List UInt8} (hx : Sum x) (hy : Sum y) (hl : x.length = y.length) (h4 : 4 ≤ x.length) (h : x.take (x.length - 4) = y.take (y.length - 4)) : x = y := by
  have e1 : val4 (x.drop (x.length - 4)) = val4 (y.drop (y.length - 4)) := by rw [show _ = _ from hx, show _ = _ from hy, h]
  have e2 : x.drop (x.length - 4) = y.drop (y.length - 4) := by
    have a1 := le4_val4 (x := x.drop (x.length - 4)) (by rw [List.length_drop]; omega)
    have a2 := le4_val4 (x := y.drop (y.length - 4)) (by rw [List.length_drop]; omega)
    rw [List.take_of_length_le (by rw [List.length_drop]; omega)] at a1
    rw [List.take_of_length_le (by rw [List.length_drop]; omega)] at a2
    rw [← a1, ← a2, e1]
  rw [← List.take_append_drop (x.length - 4) x, ← List.take_append_drop (y.length - 4) y, h, e2]
theorem turned {bs : List UInt8} (_ : bs.length ≤ 60000) {k : Nat} (hk : k < (frm bs).length) {b : UInt8} (hb : b ≠ 0) : oneE ((frm bs).set k ((frm bs)[k] ^^^ b)) ≠ 0 := by
  intro h0
  obtain ⟨x, hx⟩ : ∃ x, x = frm bs := ⟨_, rfl⟩
  have hsx : Sum x := by rw [hx]; exact sum_frm bs
  have hlx : 8 ≤ x.length := by rw [hx, frm_len]; omega
  subst hx
  generalize frm bs = x at *
  have hs : Sum (x.set k (x[k] ^^^ b)) := by
    rcases oneE_cases (x.set k (x[k] ^^^ b)) with ⟨_, h2⟩ | ⟨_, _, h3⟩ | ⟨_, h2, _⟩
    · rw [h0] at h2; cases h2
    · rw [h0] at h3; cases h3
    · exact h2
  have hne : x.set k (x[k] ^^^ b) ≠ x := by
    intro e
    have := congrArg (fun l : List UInt8 => l[k]?) e
    simp [hk] at this
    exact xor_ne hb this
  rcases Nat.lt_or_ge k (x.length - 4) with hk4 | hk4
  · -- ahead of the sum
    have h1 : val4 ((x.set k (x[k] ^^^ b)).drop ((x.set k (x[k] ^^^ b)).length - 4)) = val4 (x.drop (x.length - 4)) := by
      rw [List.length_set, List.drop_set_of_lt hk4]
    rw [show _ = _ from hs, show _ = _ from hsx, List.length_set, List.take_set] at h1
    have hkt : k < (x.take (x.length - 4)).length := by rw [List.length_take]; omega
    have e1 : x.take (x.length - 4) = (x.take (x.length - 4)).take k ++ [x[k]] ++ (x.take (x.length - 4)).drop (k + 1) := by
      rw [List.append_assoc, List.singleton_append]
      have : x[k] = (x.take (x.length - 4))[k] := by rw [List.getElem_take]
      rw [this, ← List.drop_eq_getElem_cons hkt, List.take_append_drop]
    have e2 : (x.take (x.length - 4)).set k (x[k] ^^^ b) = (x.take (x.length - 4)).take k ++ [x[k] ^^^ b] ++ (x.take (x.length - 4)).drop (k + 1) := by
      rw [List.append_assoc, List.singleton_append, List.set_eq_take_append_cons_drop, if_pos hkt]
    rw [e2] at h1
    conv at h1 => rhs; rw [e1]
    exact hb (other h1)
  · apply hne
    refine frm_inj_sum hs hsx (List.length_set ..) (by rw [List.length_set]; omega) ?_
    rw [List.length_set, List.take_set_of_le hk4]
end Frm
end Go.Proofs.Ytcffbgehopjgpaa
