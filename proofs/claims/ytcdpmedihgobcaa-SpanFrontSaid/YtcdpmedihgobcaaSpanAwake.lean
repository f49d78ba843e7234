/- The laws' first question of layer 6; are these sets? -/
import Derived.Test.YtcdpmedihgobcaaSpanOf
namespace Go.Proofs.Ytcdpmedihgobcaa
open Go.ChangeShapes Go.WideShapes Go.ChangeAt Go.RowKit
namespace Sp
theorem eq2R (W : World) (a b c d : Int) : (Op.equalIn 10000 49 (.agg #[.int .i64 a, .int .i64 b]) (.agg #[.int .i64 c, .int .i64 d])).run Try.prog W = Result.ok (a == c && b == d) W := by
  obtain ⟨i0, hi0, _, hz1, _⟩ := info_of infoI
  rw [show (10000 : Nat) = 9999 + 1 from rfl, run_equalIn_array W 9999 _ _ Try.underlying49 hi0, cellsI]
  have hp : Try.prog.plainKey 2 = true := by kernel_rfl
  have he : ∀ (x y : Int) (W : World), (Op.equalIn 9999 2 (.int .i64 x) (.int .i64 y)).run Try.prog W = Result.ok (x == y) W := fun x y W => run_equalIn_int W 9998 2 .i64 .i64 x y Try.underlying2
  have hr : List.range 2 = [0, 1] := rfl
  rw [hr]
  have p0 : ∀ (xs : Array Value) (i : Nat) (v : Value) (W : World), xs[i]? = some v → (Go.part 2 xs i).run Try.prog W = Result.ok v W := fun xs i v W hx => run_part_plain (P := Try.prog) W hp hx
  have q0 := fun W => p0 #[.int .i64 a, .int .i64 b] 0 (.int .i64 a) W rfl
  have q1 := fun W => p0 #[.int .i64 a, .int .i64 b] 1 (.int .i64 b) W rfl
  have r0 := fun W => p0 #[.int .i64 c, .int .i64 d] 0 (.int .i64 c) W rfl
  have r1 := fun W => p0 #[.int .i64 c, .int .i64 d] 1 (.int .i64 d) W rfl
  simp only [Op.eqItems, Sem.run_bind, Nat.mul_one, q0, q1, r0, r1, Result.andThen_ok, he]
  cases h0 : (a == c) <;> cases h1 : (b == d) <;> simp [Sem.run_pure, q0, q1, r0, r1, he, h0, h1]
/-- a new row of numbers reads as it lies -/
theorem rd_new (w : World) (ns : List Int) (n : Nat) (hn : ns.length = n) : Rd (w.alloc (.cells (intsC ns).toArray 2)) (w.alloc (.cells (intsC ns).toArray 2)).heap.size 1 (some ⟨w.heap.size, 0, none⟩) n n (intsC ns) :=
  ⟨by rw [intsC_len, hn], Nat.le_refl _, intsC_one _, fun _ => ⟨_, _, rfl, by simp, fun j u hu => by
    rw [Nat.zero_add, cell_of_row _ _ j _ _ (0, 0) (heap_alloc_new _ _)]
    simpa using hu⟩⟩
theorem set124 : SetIs [4, 1, 2] [(1, 2), (4, 4)] := by
  refine ⟨by decide, fun n => ?_⟩
  simp [hasB]
  omega
set_option maxRecDepth 100000 in
set_option maxHeartbeats 1000000 in
theorem awake_any (w : World) : Calls Try.prog 11 #[] w fun e w' => e = .returned (.bool true) ∧ Below w.heap.size w w' := by
  obtain ⟨W1, hW1⟩ : ∃ W1, W1 = w.alloc (.cells #[.int .i64 4, .int .i64 1, .int .i64 2] 2) := ⟨_, rfl⟩
  have hr : Rd W1 W1.heap.size 1 (some ⟨w.heap.size, 0, none⟩) 3 3 (intsC [4, 1, 2]) := by
    rw [hW1]
    exact rd_new w [4, 1, 2] 3 rfl
  have hb1 : Below w.heap.size w W1 := by rw [hW1]; exact (Below.refl _ _).alloc (Nat.le_refl _) _
  have HC : Hid (Calls Try.prog 19 #[.slice (some ⟨w.heap.size, 0, none⟩) 3 3] W1 fun e w' => ∃ b c, e = .returned (.tuple #[.slice (some ⟨b, 0, none⟩) 2 c, .int .i64 0]) ∧ w'.cell? ⟨b, 0, none⟩ = some (.int .i64 1) ∧ w'.cell? ⟨b, 1, none⟩ = some (.int .i64 2) ∧ w'.cell? ⟨b, 2, none⟩ = some (.int .i64 4) ∧ w'.cell? ⟨b, 3, none⟩ = some (.int .i64 4) ∧ Below w.heap.size w w') := by
    refine (of_any [4, 1, 2] 3 _ 3 W1 rfl (by omega) hr).mono ?_
    rintro e w2 (⟨_, l, A, c, rfl, hs, _, ho, hb⟩ | ⟨⟨x, hx, hx2⟩, _⟩)
    · have : l = [(1, 2), (4, 4)] := hs.eq set124
      subst this
      obtain ⟨g, rfl, _, _, _, hcell⟩ := Own.place ho (by simp)
      exact ⟨g, c, rfl, hcell 0 _ rfl, hcell 1 _ rfl, hcell 2 _ rfl, hcell 3 _ rfl, hb1.trans (hb.mono hb1.size)⟩
    · simp at hx
      omega
  rw [hW1] at HC
  have e1 := fun W => eq2R W 1 2 1 2
  have e2 := fun W => eq2R W 4 4 4 4
  clear hr hb1 hW1
  go_enter Try.func11, Try.ntmps11
  go_wp2_with (go_at_call 19; refine HC.out.mono ?_; rintro e w' ⟨b, c, rfl, k0, k1, k2, k3, hb⟩)
  go_ret
  exact ⟨rfl, hb⟩
/-- a list of runs that came in: its value, its members -/
structure SP where
  A : Option Addr
  n : Nat
  c : Nat
  l : List (Int × Int)
def SP.val (p : SP) : Value := .slice p.A p.n p.c
def SP.ok (p : SP) : Bool := decide (p.n ≤ 40) && rightB p.l
set_option maxRecDepth 100000 in
set_option maxHeartbeats 1000000 in
theorem sets_any (ps : List SP) (n : Nat) (b : Nat) (w : World) (hn : ps.length = n) (hn10 : n ≤ 10) (hlt : b < w.heap.size) (hc : ∀ (k : Nat) (h : k < ps.length), w.cell? ⟨b, k, none⟩ = some (.slice ps[k].A ps[k].n ps[k].c)) (hr : ∀ p ∈ ps, p.l.length = p.n ∧ Rd w w.heap.size 2 p.A p.n p.c (runsC p.l)) :
    Calls Try.prog 27 #[.slice (some ⟨b, 0, none⟩) n n] w fun e w' => e = .returned (.bool (ps.all SP.ok)) ∧ Below w.heap.size w w' := by
  obtain ⟨z, hz⟩ : ∃ z, z = ps.all SP.ok := ⟨_, rfl⟩
  rw [← hz]
  have HZ := Lib.hid hz
  have HN := Lib.hid hn
  have HC := Lib.hid hc
  have HR := Lib.hid hr
  clear hz hn hc hr
  go_enter Try.func27, Try.ntmps27
  go_wp2
  go_loopw [6] (fun i wr => ∃ (k : Nat), k ≤ n ∧ i = .int .i64 k ∧ Hid (∀ p ∈ ps.take k, SP.ok p = true) ∧ Hid (Below w.heap.size w wr)) (fun i _ => n - (intOf i).toNat)
  case atStart => exact ⟨0, by omega, rfl, Lib.hid (by simp), Below.refl _ _⟩
  case round =>
    obtain ⟨k, hk, rfl, HG, HB⟩ := hrel
    by_cases hlk : k < n
    · have hkl : k < ps.length := by rw [HN.out]; exact hlk
      have q0 := (HB.out.cell (p := ⟨b, k, none⟩) hlt).trans (HC.out k hkl)
      obtain ⟨hpl, hpr⟩ := HR.out ps[k] (List.getElem_mem hkl)
      have hpr := (hpr.below HB.out).more HB.out.size
      have htk : ps.take (k + 1) = ps.take k ++ [ps[k]] := List.take_succ_eq_append_getElem hkl
      obtain ⟨p, hp⟩ : ∃ p, p = ps[k] := ⟨_, rfl⟩
      have hmem : p ∈ ps := by rw [hp]; exact List.getElem_mem hkl
      rw [← hp] at q0 hpl hpr htk
      obtain ⟨A, m, c, l⟩ := p
      dsimp only at q0 hpl hpr
      by_cases h40 : m ≤ 40
      · have f1 : decide ((40 : Int) < m) = false := decide_eq_false (by omega)
        have HRT := Lib.hid (refright_any l m A c wr hpl (by omega) hpr)
        cases hrb : rightB l with
        | true =>
          rw [hrb] at HRT
          have HG2 : Hid (∀ p ∈ ps.take (k + 1), SP.ok p = true) := fun p h => by
            rw [htk] at h
            rcases List.mem_append.1 h with h | h
            · exact HG.out p h
            · rw [List.mem_singleton.1 h]; simp [SP.ok, h40, hrb]
          clear hpl hpr htk hp hmem hrb
          go_wp2_with (go_at_call 13; refine HRT.out.mono ?_; rintro e w1 ⟨rfl, hb1⟩; have HB1 := Lib.hid (HB.out.trans (hb1.mono HB.out.size)); clear hb1)
          go_roundw
          case rel => exact ⟨k + 1, by omega, by go_num, HG2.out, HB1.out⟩
          case measure => simp [intOf]; omega
        | false =>
          rw [hrb] at HRT
          have HE : Hid (false = z) := by
            unfold Hid
            rw [HZ.out]
            symm
            rw [List.all_eq_false]
            exact ⟨_, hmem, by simp [SP.ok, hrb]⟩
          clear hpl hpr htk hp hmem hrb
          go_wp2_with (go_at_call 13; refine HRT.out.mono ?_; rintro e w1 ⟨rfl, hb1⟩; have HB1 := Lib.hid (HB.out.trans (hb1.mono HB.out.size)); clear hb1)
          go_ret
          exact ⟨ret_bool HE.out, HB1.out⟩
      · have f1 : decide ((40 : Int) < m) = true := decide_eq_true (by omega)
        have HE : Hid (false = z) := by
          unfold Hid
          rw [HZ.out]
          symm
          rw [List.all_eq_false]
          exact ⟨_, hmem, by simp [SP.ok, h40]⟩
        clear hpl hpr htk hp hmem
        go_wp2
        go_ret
        exact ⟨ret_bool HE.out, HB.out⟩
    · have HE : Hid (true = z) := by
        unfold Hid
        rw [HZ.out]
        symm
        rw [List.all_eq_true]
        have := HG.out
        rwa [List.take_of_length_le (by rw [HN.out]; omega)] at this
      go_wp2
      go_ret
      exact ⟨ret_bool HE.out, HB.out⟩
end Sp
end Go.Proofs.Ytcdpmedihgobcaa
