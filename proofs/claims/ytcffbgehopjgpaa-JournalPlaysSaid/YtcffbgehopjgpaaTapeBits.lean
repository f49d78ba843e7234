/- Layer 17 in plain mathematics: a tape, and what befalls it. Nothing here speaks of a program. -/
import Derived.Test.YtcffbgehopjgpaaBytes
import Derived.Laws.BitsAllLaws
namespace Go.Proofs.Ytcffbgehopjgpaa
open Go.RowKit
namespace Tpe
/-- a tape: its capacity, its bytes, how many of them are safe, its fuse (-1: none), whether its power is gone -/
structure S where
  cap : Int
  bs : List UInt8
  sf : Nat
  fu : Int
  lo : Bool
def less (fu : Int) : Int := if 0 < fu then fu - 1 else fu
def app (s : S) (b : List UInt8) : S × Int :=
  if s.lo = true then (s, 9) else if s.cap - s.bs.length < b.length then (s, 4)
  else if s.fu = 0 then (⟨s.cap, s.bs ++ b, s.sf, 0, true⟩, 9) else (⟨s.cap, s.bs ++ b, s.sf, less s.fu, false⟩, 0)
def syn (s : S) : S × Int :=
  if s.lo = true then (s, 9) else if s.fu = 0 then (⟨s.cap, s.bs, s.sf, 0, true⟩, 9) else (⟨s.cap, s.bs, s.bs.length, less s.fu, false⟩, 0)
def rep (s : S) (b : List UInt8) : S × Int :=
  if s.lo = true then (s, 9) else if s.cap < b.length then (s, 4)
  else if s.fu = 0 then (⟨s.cap, s.bs, s.sf, 0, true⟩, 9) else (⟨s.cap, b, b.length, less s.fu, false⟩, 0)
def arm (s : S) (n : Int) : S × Int :=
  if s.lo = true then (s, 9) else if n < 0 then (s, 1) else (⟨s.cap, s.bs, s.sf, n, false⟩, 0)
/-- how many of those that wait stay -/
def stay (s : S) (k : Int) : Nat := (k % ((s.bs.length - s.sf + 1 : Nat) : Int)).toNat
/-- the last byte turned -/
def turn (l : List UInt8) (y : UInt8) : List UInt8 := l.set (l.length - 1) ((l[l.length - 1]?).getD 0 ^^^ y)
def left (s : S) (k : Int) (y : UInt8) : List UInt8 := if stay s k = 0 then s.bs.take s.sf else turn (s.bs.take (s.sf + stay s k)) y
def rst (s : S) (k : Int) (y : UInt8) : S := ⟨s.cap, left s k y, s.sf + stay s k, -1, false⟩
def act (s : S) (kd : Int) (b : List UInt8) (n : Int) (y : UInt8) : S × Int :=
  if kd = 0 then app s b else if kd = 1 then syn s else if kd = 2 then rep s b else if kd = 3 then arm s n else (rst s n y, 0)
/-- what is always so -/
structure Ok (s : S) (m : Nat) : Prop where
  cap : 0 ≤ s.cap ∧ s.cap ≤ 1048576
  len : s.bs.length ≤ m
  sf : s.sf ≤ s.bs.length
  fu : -1 ≤ s.fu ∧ s.fu ≤ 9223372036854775807
theorem stay_le (s : S) (k : Int) : stay s k ≤ s.bs.length - s.sf := by
  have h := Int.emod_lt_of_pos k (b := ((s.bs.length - s.sf + 1 : Nat) : Int)) (by omega)
  unfold stay
  omega
theorem stay_eq (s : S) (k : Int) : k % ((s.bs.length - s.sf + 1 : Nat) : Int) = (stay s k : Int) := by
  have h := Int.emod_nonneg k (b := ((s.bs.length - s.sf + 1 : Nat) : Int)) (by omega)
  unfold stay
  omega
theorem turn_len (l : List UInt8) (y : UInt8) : (turn l y).length = l.length := by simp [turn]
theorem left_len {s : S} (h : s.sf ≤ s.bs.length) (k : Int) (y : UInt8) : (left s k y).length = s.sf + stay s k := by
  have h1 := stay_le s k
  unfold left
  split
  · rename_i h0
    rw [h0, List.length_take]
    omega
  · rw [turn_len, List.length_take]
    omega
theorem turn_take {l : List UInt8} {y : UInt8} {j : Nat} (h : j < l.length) : (turn l y).take j = l.take j := by
  unfold turn
  rw [List.take_set_of_le (by omega)]
/-- what is safe stays -/
theorem left_safe {s : S} (h : s.sf ≤ s.bs.length) (k : Int) (y : UInt8) : (left s k y).take s.sf = s.bs.take s.sf := by
  have h1 := stay_le s k
  unfold left
  split
  · rw [List.take_take, Nat.min_self]
  · rw [turn_take (by rw [List.length_take]; omega), List.take_take, Nat.min_eq_left (by omega)]
theorem less_ok {fu : Int} (h : -1 ≤ fu ∧ fu ≤ 9223372036854775807) : -1 ≤ less fu ∧ less fu ≤ 9223372036854775807 := by
  unfold less
  split <;> omega
theorem Ok.mono {s : S} {m m' : Nat} (h : Ok s m) (hm : m ≤ m') : Ok s m' := ⟨h.cap, Nat.le_trans h.len hm, h.sf, h.fu⟩
theorem Ok.act {s : S} {m : Nat} (h : Ok s m) {kd n : Int} {b : List UInt8} {y : UInt8} (hb : b.length ≤ 300) (hn : n ≤ 9223372036854775807) : Ok (act s kd b n y).1 (m + 300) := by
  obtain ⟨h1, h2, h3, h4⟩ := h
  have h5 := less_ok h4
  unfold Tpe.act
  split
  · unfold app
    split
    · exact ⟨h1, by dsimp only; omega, h3, h4⟩
    split
    · exact ⟨h1, by dsimp only; omega, h3, h4⟩
    split
    · exact ⟨h1, by simp; omega, by simp; omega, by simp⟩
    · exact ⟨h1, by simp; omega, by simp; omega, h5⟩
  split
  · unfold syn
    split
    · exact ⟨h1, by dsimp only; omega, h3, h4⟩
    split
    · exact ⟨h1, by dsimp only; omega, h3, by simp⟩
    · exact ⟨h1, by dsimp only; omega, by simp, h5⟩
  split
  · unfold rep
    split
    · exact ⟨h1, by dsimp only; omega, h3, h4⟩
    split
    · exact ⟨h1, by dsimp only; omega, h3, h4⟩
    split
    · exact ⟨h1, by dsimp only; omega, h3, by simp⟩
    · exact ⟨h1, by dsimp only; omega, by simp, h5⟩
  split
  · unfold arm
    split
    · exact ⟨h1, by dsimp only; omega, h3, h4⟩
    split
    · exact ⟨h1, by dsimp only; omega, h3, h4⟩
    · exact ⟨h1, by dsimp only; omega, h3, by dsimp only; omega⟩
  · have h6 := stay_le s n
    have h7 := left_len h3 n y
    unfold rst
    exact ⟨h1, by dsimp only; omega, by dsimp only; omega, by simp⟩
/-- an act that fails leaves what is safe; one that doesn't leaves a tape with its power -/
theorem act_code {s : S} {kd n : Int} {b : List UInt8} {y : UInt8} : (act s kd b n y).2 = 0 → (act s kd b n y).1.lo = false := by
  unfold act
  split
  · unfold app
    repeat' split
    all_goals first | (intro h; dsimp only at h; omega) | (intro _; rfl)
  split
  · unfold syn
    repeat' split
    all_goals first | (intro h; dsimp only at h; omega) | (intro _; rfl)
  split
  · unfold rep
    repeat' split
    all_goals first | (intro h; dsimp only at h; omega) | (intro _; rfl)
  split
  · unfold arm
    repeat' split
    all_goals first | (intro h; dsimp only at h; omega) | (intro _; rfl)
  · intro _; rfl
theorem act_fail {s : S} {m : Nat} (hs : Ok s m) {kd n : Int} {b : List UInt8} {y : UInt8} : (act s kd b n y).2 ≠ 0 → (act s kd b n y).1.sf = s.sf ∧ (act s kd b n y).1.bs.take s.sf = s.bs.take s.sf := by
  have h3 := hs.sf
  unfold act
  split
  · unfold app
    repeat' split
    all_goals first | (intro h; exact absurd rfl h) | (intro _; exact ⟨rfl, rfl⟩) | (intro _; exact ⟨rfl, by dsimp only; rw [List.take_append_of_le_length h3]⟩)
  split
  · unfold syn
    repeat' split
    all_goals first | (intro h; exact absurd rfl h) | (intro _; exact ⟨rfl, rfl⟩)
  split
  · unfold rep
    repeat' split
    all_goals first | (intro h; exact absurd rfl h) | (intro _; exact ⟨rfl, rfl⟩)
  split
  · unfold arm
    repeat' split
    all_goals first | (intro h; exact absurd rfl h) | (intro _; exact ⟨rfl, rfl⟩)
  · intro h; exact absurd rfl h
theorem act_cap {s : S} {kd n : Int} {b : List UInt8} {y : UInt8} : (act s kd b n y).1.cap = s.cap := by
  unfold act
  split
  · unfold app
    repeat' split
    all_goals rfl
  split
  · unfold syn
    repeat' split
    all_goals rfl
  split
  · unfold rep
    repeat' split
    all_goals rfl
  split
  · unfold arm
    repeat' split
    all_goals rfl
  · rfl
/-- a fuse -/
def Fused (s : S) (n done : Nat) : Prop := (s.lo = false ∧ done ≤ n ∧ s.fu = ((n - done : Nat) : Int)) ∨ (s.lo = true ∧ done = n)
theorem act_fused {s : S} {n done m : Nat} (hs : Ok s m) (h : Fused s n done) {kd v : Int} {b : List UInt8} {y : UInt8} (hk : kd = 0 ∨ kd = 1 ∨ kd = 2) (hb : b.length ≤ 300) (hm : m ≤ 60000) (hc : s.cap = 1048576) :
    ((act s kd b v y).2 = 0 ∧ done < n ∧ Fused (act s kd b v y).1 n (done + 1)) ∨ ((act s kd b v y).2 = 9 ∧ ¬ done < n ∧ (act s kd b v y).1.lo = true ∧ Fused (act s kd b v y).1 n done) := by
  have h3 := hs.len
  have key : ∀ x : S × Int, (x = (s, 9) ∧ s.lo = true) ∨ (s.lo = false ∧ s.fu = 0 ∧ x.2 = 9 ∧ x.1.lo = true) ∨ (s.lo = false ∧ s.fu ≠ 0 ∧ x.2 = 0 ∧ x.1.lo = false ∧ x.1.fu = less s.fu) →
      (x.2 = 0 ∧ done < n ∧ Fused x.1 n (done + 1)) ∨ (x.2 = 9 ∧ ¬ done < n ∧ x.1.lo = true ∧ Fused x.1 n done) := by
    intro x hx
    rcases hx with ⟨rfl, hl⟩ | ⟨hl, h0, h1, h2⟩ | ⟨hl, h0, h1, h2, h4⟩
    · rcases h with ⟨h5, _⟩ | ⟨_, h6⟩
      · rw [hl] at h5; cases h5
      · exact .inr ⟨rfl, by omega, hl, .inr ⟨hl, h6⟩⟩
    · rcases h with ⟨_, h5, h6⟩ | ⟨h5, _⟩
      · exact .inr ⟨h1, by omega, h2, .inr ⟨h2, by omega⟩⟩
      · rw [hl] at h5; cases h5
    · rcases h with ⟨_, h5, h6⟩ | ⟨h5, _⟩
      · refine .inl ⟨h1, by omega, .inl ⟨h2, by omega, ?_⟩⟩
        rw [h4]
        unfold less
        rw [if_pos (by omega)]
        omega
      · rw [hl] at h5; cases h5
  apply key
  have hl : s.lo = true ∨ s.lo = false := by cases s.lo <;> simp
  rcases hl with hl | hl
  · left
    refine ⟨?_, hl⟩
    rcases hk with rfl | rfl | rfl <;> simp [act, app, syn, rep, hl]
  · right
    have g1 : ¬ (s.cap - (s.bs.length : Int) < (b.length : Int)) := by omega
    have g2 : ¬ (s.cap < (b.length : Int)) := by omega
    by_cases h0 : s.fu = 0
    · left
      rcases hk with rfl | rfl | rfl <;> simp [act, app, syn, rep, hl, h0, g1, g2]
    · right
      rcases hk with rfl | rfl | rfl <;> simp [act, app, syn, rep, hl, h0, g1, g2]
theorem xor8 (a b : UInt8) : bits .xor .u8 (a.toNat : Int) (b.toNat : Int) = (((a ^^^ b).toNat : Nat) : Int) := by
  rw [UInt8.toNat_xor]; exact u8_xor_nat _ _ a.toNat_lt b.toNat_lt
end Tpe
end Go.Proofs.Ytcffbgehopjgpaa
