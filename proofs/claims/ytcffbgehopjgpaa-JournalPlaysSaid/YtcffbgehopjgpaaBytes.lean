/- Bytes: numbers by sevens of bits, and rows of bytes in memory. Plain mathematics and words; nothing here speaks of a program. -/
import Derived.Test.YtcffbgehopjgpaaWords
import Derived.Lib.AppendStr
import Derived.Lib.SlBytesRow
import Derived.Laws.BitsAllLaws
import Derived.IntWalk
namespace Go.Proofs.Ytcffbgehopjgpaa
open Go.RowKit

/-- the cells of bytes -/
def u8s (bs : List UInt8) : List Value := bs.map fun b => Value.int .u8 b.toNat
theorem u8s_length (bs : List UInt8) : (u8s bs).length = bs.length := by simp [u8s]
theorem u8s_one (bs : List UInt8) : ∀ u ∈ u8s bs, u.oneCell' = true := by
  intro u hu
  simp only [u8s, List.mem_map] at hu
  obtain ⟨b, _, rfl⟩ := hu
  rfl
theorem u8s_append (a b : List UInt8) : u8s (a ++ b) = u8s a ++ u8s b := by simp [u8s]
theorem u8s_take (a : List UInt8) (n : Nat) : u8s (a.take n) = (u8s a).take n := by simp [u8s, List.map_take]
theorem u8s_drop (a : List UInt8) (n : Nat) : u8s (a.drop n) = (u8s a).drop n := by simp [u8s, List.map_drop]
theorem u8s_get (bs : List UInt8) (k : Nat) (h : k < bs.length) : (u8s bs)[k]? = some (.int .u8 bs[k].toNat) := by simp [u8s, h]
/-- bytes as a text -/
def strOf (bs : List UInt8) : ByteArray := ⟨bs.toArray⟩
theorem strOf_size (bs : List UInt8) : (strOf bs).size = bs.length := rfl
theorem strOf_list (bs : List UInt8) : (strOf bs).data.toList = bs := by simp [strOf]
theorem strOf_inj {a b : List UInt8} (h : strOf a = strOf b) : a = b := by rw [← strOf_list a, h, strOf_list]
theorem strOf_of (s : ByteArray) : strOf s.data.toList = s := rfl
theorem strCells_of (bs : List UInt8) : Lib.strCells (strOf bs) = u8s bs := by simp [Lib.strCells, u8s, strOf]
theorem strCells_s (s : ByteArray) : Lib.strCells s = u8s s.data.toList := rfl

/-- a number's bytes, by sevens of bits -/
def sev (u : Nat) : List UInt8 := if u < 128 then [UInt8.ofNat u] else UInt8.ofNat (u % 128 + 128) :: sev (u / 128)
termination_by u
decreasing_by omega
theorem sev_lt {u : Nat} (h : u < 128) : sev u = [UInt8.ofNat u] := by rw [sev, if_pos h]
theorem sev_ge {u : Nat} (h : 128 ≤ u) : sev u = UInt8.ofNat (u % 128 + 128) :: sev (u / 128) := by rw [sev, if_neg (by omega)]
theorem sev_pos (u : Nat) : 1 ≤ (sev u).length := by
  rcases Nat.lt_or_ge u 128 with h | h
  · rw [sev_lt h]; simp
  · rw [sev_ge h]; simp
theorem sev_len : ∀ (k u : Nat), u < 128 ^ (k + 1) → (sev u).length ≤ k + 1
  | 0, u, h => by rw [sev_lt (by simpa using h)]; simp
  | k + 1, u, h => by
    rcases Nat.lt_or_ge u 128 with h1 | h1
    · rw [sev_lt h1]; simp
    · rw [sev_ge h1, List.length_cons]
      have := sev_len k (u / 128) (by rw [Nat.div_lt_iff_lt_mul (by omega)]; rw [Nat.pow_succ] at h; exact h)
      omega
theorem sev_ten {u : Nat} (h : u < 18446744073709551616) : (sev u).length ≤ 10 := sev_len 9 u (Nat.lt_of_lt_of_le h (by decide))

/-- a number without a sign -/
def foldN (v : Int) : Nat := if v < 0 then (2 * (-(v + 1)) + 1).toNat else (2 * v).toNat
def unfoldN (u : Nat) : Int := if u % 2 = 1 then -((u / 2 : Nat) : Int) - 1 else ((u / 2 : Nat) : Int)
theorem unfold_fold (v : Int) : unfoldN (foldN v) = v := by
  unfold unfoldN foldN
  split <;> split <;> omega
theorem fold_unfold (u : Nat) : foldN (unfoldN u) = u := by
  unfold unfoldN foldN
  split <;> split <;> omega
theorem fold_lt {v : Int} (h1 : -9223372036854775808 ≤ v) (h2 : v ≤ 9223372036854775807) : foldN v < 18446744073709551616 := by
  unfold foldN; split <;> omega
theorem unfold_in {u : Nat} (h : u < 18446744073709551616) : -9223372036854775808 ≤ unfoldN u ∧ unfoldN u ≤ 9223372036854775807 := by
  unfold unfoldN; split <;> omega
/-- a number's bytes -/
def numB (v : Int) : List UInt8 := sev (foldN v)
theorem numB_pos (v : Int) : 1 ≤ (numB v).length := sev_pos _
theorem numB_ten {v : Int} (h1 : -9223372036854775808 ≤ v) (h2 : v ≤ 9223372036854775807) : (numB v).length ≤ 10 := sev_ten (fold_lt h1 h2)

/-- no number's bytes begin with another one's -/
theorem sev_prefix : ∀ (a b : Nat) (x y : List UInt8), sev a ++ x = sev b ++ y → a = b ∧ x = y := by
  intro a
  induction a using Nat.strongRecOn with
  | ind a ih =>
    intro b x y h
    rcases Nat.lt_or_ge a 128 with ha | ha <;> rcases Nat.lt_or_ge b 128 with hb | hb
    · rw [sev_lt ha, sev_lt hb] at h
      simp only [List.cons_append, List.nil_append, List.cons.injEq] at h
      have h1 := congrArg UInt8.toNat h.1
      simp only [UInt8.toNat_ofNat'] at h1
      exact ⟨by omega, h.2⟩
    · rw [sev_lt ha, sev_ge hb] at h
      simp only [List.cons_append, List.nil_append, List.cons.injEq] at h
      have h1 := congrArg UInt8.toNat h.1
      simp only [UInt8.toNat_ofNat'] at h1
      omega
    · rw [sev_ge ha, sev_lt hb] at h
      simp only [List.cons_append, List.nil_append, List.cons.injEq] at h
      have h1 := congrArg UInt8.toNat h.1
      simp only [UInt8.toNat_ofNat'] at h1
      omega
    · rw [sev_ge ha, sev_ge hb] at h
      simp only [List.cons_append, List.cons.injEq] at h
      have h1 := congrArg UInt8.toNat h.1
      simp only [UInt8.toNat_ofNat'] at h1
      obtain ⟨h2, h3⟩ := ih (a / 128) (by omega) _ _ _ h.2
      exact ⟨by omega, h3⟩
theorem numB_prefix {a b : Int} {x y : List UInt8} (h : numB a ++ x = numB b ++ y) : a = b ∧ x = y := by
  obtain ⟨h1, h2⟩ := sev_prefix _ _ _ _ h
  exact ⟨by rw [← unfold_fold a, h1, unfold_fold], h2⟩

/-- what bytes begin with, read as a number -/
def Begins (bs : List UInt8) (u n : Nat) : Prop := u < 18446744073709551616 ∧ n ≤ bs.length ∧ bs.take n = sev u
theorem Begins.split {bs : List UInt8} {u n : Nat} (h : Begins bs u n) : bs = sev u ++ bs.drop n := by
  rw [← h.2.2, List.take_append_drop]
theorem Begins.len {bs : List UInt8} {u n : Nat} (h : Begins bs u n) : n = (sev u).length := by
  rw [← h.2.2, List.length_take]; have := h.2.1; omega
theorem Begins.uniq {bs : List UInt8} {u n u' n' : Nat} (h : Begins bs u n) (h' : Begins bs u' n') : u = u' ∧ n = n' := by
  have h1 := h.split.symm.trans h'.split
  obtain ⟨rfl, _⟩ := sev_prefix _ _ _ _ h1
  exact ⟨rfl, by rw [h.len, h'.len]⟩
theorem begins_of {u : Nat} (h : u < 18446744073709551616) (x : List UInt8) : Begins (sev u ++ x) u (sev u).length := ⟨h, by simp, by simp⟩

section
variable {P : Program}
/-- 'string(b)' -/
theorem run_str (w : World) (src dst e : TypeId) (hs : P.underlying src = some (.slice e)) (he : P.underlying e = some (.int .u8)) (hd : P.underlying dst = some .string)
    {B : Nat} {A : Option Addr} {n c : Nat} {bs : List UInt8} (hr : Rd w B 1 A n c (u8s bs)) :
    (convert src dst (.slice A n c)).run P w = .ok (.string (strOf bs)) w := by
  have hl : bs.length = n := by have := hr.len; rw [u8s_length] at this; omega
  rcases Nat.eq_zero_or_pos n with h0 | h0
  · subst h0
    have hb : bs = [] := List.eq_nil_of_length_eq_zero hl
    subst hb
    rw [run_convert_bytes_string w src dst e A 0 c hs he hd]
    cases A with
    | none => simp [Conv.bytesToString, strOf, Sem.run_pure]; try rfl
    | some a =>
      rw [run_bytesToString w a 0 c [] (by simp [loadCells, loadCellsFrom, Sem.run_pure])]
      rfl
  · obtain ⟨b, o, rfl, _, hc⟩ := hr.at_ h0
    have h := Lib.run_convert_whole (P := P) w src e dst hs he hd b o (strOf bs) (fun i hi => by
      have hi' : i < bs.length := hi
      rw [hc i _ (u8s_get bs i hi')]
      rfl) c
    rw [strOf_size, hl] at h
    exact h

/-- append(v, s...), s a text, v a row of the call's own: the new row is the old one's block or a new one -/
theorem run_app_str (w : World) (t u ty e : TypeId) (i : TypeInfo) (ht : P.underlying t = some (.slice e)) (hu : P.underlying u = some .string) (hi : P.info? e = some i) (hz : i.zero = some (.int .u8 0))
    (hsize : i.size = 1) (hby : i.bytes = 1) {v : Value} {n base : Nat} {xs : List Value} (hown : w.ownsRow base e 1 v n xs) (s : ByteArray) (h63 : n + s.size ≤ 1000000) (hbase : base ≤ w.heap.size) :
    ∃ v' w', (Builtin.append_ #[t, u] ty #[v, .string s]).run P w = .ok v' w' ∧ w'.ownsRow base e 1 v' (n + s.size) (xs ++ u8s s.data.toList) ∧ w.grownBy w' v.ownBlock ∧
      (v'.ownBlock = v.ownBlock ∨ v'.ownBlock = some w.heap.size) := by
  obtain ⟨v', w', hr, h1, h2, h3⟩ := Lib.run_append_own_string w base t u ty e i ht hu hi hz hsize hby v n xs hown s (by simp only [maxLen]; omega) (by omega) hbase
  refine ⟨v', w', hr, h1, h2, ?_⟩
  have hxl : xs.length = n := by simpa using hown.1
  rcases hown.2 with ⟨rfl, rfl⟩ | ⟨g, cap, cur, rfl, hbg, hg, hnc, hcm, hcs, htake⟩
  · by_cases hm : s.size = 0
    · exact .inl (by rw [h3.2 ⟨rfl, hm⟩])
    · have hr2 := run_append_nil_string (P := P) w t u ty e i (.int .u8 0) ht hu hi hz s (by omega) (by omega) (by rw [hby]; omega)
      rw [hr] at hr2
      injection hr2 with e1 e2
      exact .inr (by rw [e1]; rfl)
  · by_cases hroom : n + s.size ≤ cap
    · have hr2 := Lib.run_append_room_string (P := P) w t u ty e i ht hu hi hsize g n cap cur hg s hroom (by omega)
      rw [hr] at hr2
      injection hr2 with e1 e2
      exact .inl (by rw [e1]; rfl)
    · have holds : ∀ j u, xs[j]? = some u → w.cell? ((⟨g, 0, none⟩ : Addr).add j) = some u := hown.cells (g := g) rfl
      have hr2 := Lib.run_append_grow_string (P := P) w t u ty e i (.int .u8 0) ht hu hi hz ⟨g, 0, none⟩ n cap xs (by rw [hsize]; simpa using hxl) holds s (by omega) (by omega) (by rw [hby]; exact growslice_fits (by omega) (by omega))
      rw [hr] at hr2
      injection hr2 with e1 e2
      exact .inr (by rw [e1]; rfl)
end

/-- Only blocks a and g, and what is new, have turned. -/
structure Two (a : Nat) (g : Option Nat) (w w' : World) : Prop where
  os : w'.os = w.os
  tape : w'.tape = w.tape
  output : w'.output = w.output
  size : w.heap.size ≤ w'.heap.size
  block : ∀ k, k < w.heap.size → k ≠ a → some k ≠ g → w'.heap[k]? = w.heap[k]?
/-- the block of a row: the old one, or a new one -/
def Fresh (g g' : Option Nat) (w : World) : Prop := g' = none ∨ g' = g ∨ ∃ k, g' = some k ∧ w.heap.size ≤ k
section
variable {a : Nat} {g g' g2 : Option Nat} {w w' w2 : World}
theorem Two.refl (a : Nat) (g : Option Nat) (w : World) : Two a g w w := ⟨rfl, rfl, rfl, Nat.le_refl _, fun _ _ _ _ => rfl⟩
theorem Fresh.refl (g : Option Nat) (w : World) : Fresh g g w := .inr (.inl rfl)
theorem Two.of_below (h : Below w.heap.size w w') : Two a g w w' := ⟨h.os, h.tape, h.output, h.size, fun k hk _ _ => h.block k hk⟩
theorem Two.of_grown (h : w.grownBy w' g) : Two a g w w' := ⟨h.os, h.tape, h.output, h.size, fun k hk _ h2 => h.block k hk h2⟩
theorem Two.trans (h : Two a g w w') (hf : Fresh g g' w) (h2 : Two a g' w' w2) : Two a g w w2 :=
  ⟨h2.os.trans h.os, h2.tape.trans h.tape, h2.output.trans h.output, Nat.le_trans h.size h2.size, fun k hk ha hg =>
    (h2.block k (Nat.lt_of_lt_of_le hk h.size) ha (by
      rcases hf with rfl | rfl | ⟨q, rfl, hq⟩
      · intro e; cases e
      · exact hg
      · intro e; injection e with e; omega)).trans (h.block k hk ha hg)⟩
theorem Fresh.trans (hf : Fresh g g' w) (hs : w.heap.size ≤ w'.heap.size) (h2 : Fresh g' g2 w') : Fresh g g2 w := by
  rcases h2 with rfl | rfl | ⟨k, rfl, hk⟩
  · exact .inl rfl
  · exact hf
  · exact .inr (.inr ⟨k, rfl, by omega⟩)
theorem Two.setCell (h : Two a g w w') (o : Nat) (u : Value) : Two a g w (w'.setCell ⟨a, o, none⟩ u) :=
  ⟨h.os, h.tape, h.output, by simpa [World.setCell] using h.size, fun k hk ha hg => (Below.heap_setCell w' ⟨a, o, none⟩ u k ha).trans (h.block k hk ha hg)⟩
theorem Two.cell (h : Two a g w w') {p : Addr} (hp : p.block < w.heap.size) (ha : p.block ≠ a) (hg : some p.block ≠ g) : w'.cell? p = w.cell? p := World.cell?_of_block (h.block p.block hp ha hg)
theorem Two.frozen (h : Two a g w w') {p : Addr} (hp : p.block < w.heap.size) (ha : p.block ≠ a) (hg : some p.block ≠ g) : w'.frozen? p = w.frozen? p := World.frozen?_of_block (h.block p.block hp ha hg)
/-- what lies elsewhere reads as it did -/
theorem Rd.two {B sz n c : Nat} {A : Option Addr} {xs : List Value} (hr : Rd w B sz A n c xs) (h : Two a g w w') (hB : B ≤ w.heap.size) (hA : ∀ b o, A = some ⟨b, o, none⟩ → b ≠ a ∧ some b ≠ g) : Rd w' B sz A n c xs :=
  ⟨hr.len, hr.cap, hr.one, fun hn => by
    obtain ⟨b, o, e, hb, hc⟩ := hr.at_ hn
    obtain ⟨h1, h2⟩ := hA b o e
    exact ⟨b, o, e, hb, fun j u hu => (h.cell (p := ⟨b, o + j, none⟩) (show b < _ by omega) h1 h2).trans (hc j u hu)⟩⟩
theorem Two.below (h : Two a g w w') {B : Nat} (ha : B ≤ a) (hg : ∀ k, g = some k → B ≤ k) (hB : B ≤ w.heap.size) : Below B w w' :=
  ⟨h.os, h.tape, h.output, h.size, fun k hk => h.block k (by omega) (by omega) (fun e => by have := hg k e.symm; omega)⟩
/-- a row of the call's own, its block not touched -/
theorem ownsRow_two {base e sz n : Nat} {v : Value} {xs : List Value} (hr : w.ownsRow base e sz v n xs) (h : Two a g w w') (hv : ∀ b, v.ownBlock = some b → b ≠ a ∧ some b ≠ g) : w'.ownsRow base e sz v n xs := by
  refine ⟨hr.1, ?_⟩
  rcases hr.2 with h1 | ⟨b, cap, cur, rfl, h2, h3, h4⟩
  · exact .inl h1
  · obtain ⟨h5, h6⟩ := hv b rfl
    exact .inr ⟨b, cap, cur, rfl, h2, (h.block b (Array.getElem?_eq_some_iff.1 h3).1 h5 h6).trans h3, h4⟩
theorem ownsRow_later {base e sz n : Nat} {v : Value} {xs : List Value} (hr : w.ownsRow base e sz v n xs) (h : Below w.heap.size w w') : w'.ownsRow base e sz v n xs := by
  refine ⟨hr.1, ?_⟩
  rcases hr.2 with h1 | ⟨b, cap, cur, rfl, h2, h3, h4⟩
  · exact .inl h1
  · exact .inr ⟨b, cap, cur, rfl, h2, (h.block b (Array.getElem?_eq_some_iff.1 h3).1).trans h3, h4⟩
theorem ownBlock_lt {base e sz n : Nat} {v : Value} {xs : List Value} (hr : w.ownsRow base e sz v n xs) {b : Nat} (h : v.ownBlock = some b) : base ≤ b ∧ b < w.heap.size := by
  rcases hr.2 with ⟨rfl, _⟩ | ⟨b', cap, cur, rfl, h2, h3, h4⟩
  · cases h
  · injection h with h
    have h' : b' = b := h
    subst h'
    exact ⟨h2, (Array.getElem?_eq_some_iff.1 h3).1⟩
end
end Go.Proofs.Ytcffbgehopjgpaa
