/- Items: few of them; what is put; the document's bytes of them. -/
import Derived.Test.YtgjojcigcbenmaaCodecArgs
namespace Go.Proofs.Ytgjojcigcbenmaa
open Go.RowKit
namespace Codec
def itemB (i : Itm) : List UInt8 := if i.text then textB i.s.data.toList else numB i.n
def itemsB (l : List Itm) : List UInt8 := l.flatMap itemB
def sizes (l : List Itm) : Nat := (l.map fun i => i.s.size).sum
theorem itemsB_take (l : List Itm) (k : Nat) (h : k < l.length) : itemsB (l.take (k + 1)) = itemsB (l.take k) ++ itemB l[k] := by
  unfold itemsB
  rw [List.take_succ_eq_append_getElem h, List.flatMap_append]
  simp
theorem sizes_take (l : List Itm) (k : Nat) (h : k < l.length) : sizes (l.take (k + 1)) = sizes (l.take k) + l[k].s.size := by
  unfold sizes
  rw [List.take_succ_eq_append_getElem h]
  simp only [List.map_append, List.sum_append, List.map_cons, List.map_nil, List.sum_cons, List.sum_nil, Nat.add_zero]
theorem sizes_le (l : List Itm) (k : Nat) : sizes (l.take k) ≤ sizes l := by
  have h : sizes l = sizes (l.take k) + sizes (l.drop k) := by
    simp only [sizes]; rw [← List.sum_append, ← List.map_append, List.take_append_drop]
  omega
theorem itemB_len (i : Itm) : (itemB i).length ≤ 10 + i.s.size := by
  unfold itemB
  split
  · unfold textB
    rw [List.length_append, text_len]
    have := i.small
    unfold maxLen at this
    have := numB_ten (v := (i.s.size : Int)) (by omega) (by omega)
    omega
  · have := numB_ten i.lo i.hi; omega
theorem itemsB_len : ∀ l : List Itm, (itemsB l).length ≤ 10 * l.length + sizes l
  | [] => by simp [itemsB, sizes]
  | i :: l => by
    have h1 := itemsB_len l
    have h2 := itemB_len i
    have e1 : itemsB (i :: l) = itemB i ++ itemsB l := rfl
    have e2 : sizes (i :: l) = i.s.size + sizes l := by simp [sizes]
    rw [e1, e2, List.length_append, List.length_cons]; omega
/-- what 'few' answers -/
def FewIs (l : List Itm) (most : Nat) (w : World) (e : Ending) (w' : World) : Prop := ∃ f : Bool, e = .returned (.bool f) ∧ w = w' ∧ (f = true → l.length ≤ 101 ∧ sizes l ≤ most)
set_option maxRecDepth 100000 in
set_option maxHeartbeats 400000 in
theorem few_any (l : List Itm) (A : Option Addr) (c : Nat) (most : Nat) (hm : most ≤ 1000000) (w : World) {B : Nat} (hr : Rd w B 3 A l.length c (itemC l)) (hl : l.length ≤ maxLen) :
    Calls Try.prog 11 #[.slice A l.length c, .int .i64 most] w (FewIs l most w) := by
  unfold maxLen at hl
  have HR := Lib.hid hr
  clear hr
  go_enter Try.func11, Try.ntmps11
  go_wp2
  go_loop [5, 9] (fun n q => ∃ k : Nat, q = .int .i64 k ∧ k ≤ l.length ∧ k ≤ 101 ∧ n = .int .i64 (sizes (l.take k)) ∧ sizes (l.take k) ≤ most) (fun _ q => (l.length - intOf q).toNat)
  case atStart => exact ⟨0, rfl, Nat.zero_le _, Nat.zero_le _, by simp [sizes], by simp [sizes]⟩
  case round =>
    obtain ⟨k, rfl, hk, hk1, rfl, hs⟩ := hrel
    by_cases hlt : k < l.length
    · obtain ⟨b, o, rfl, hbw, hcl⟩ := HR.out.at_ (by omega)
      have kS : w.cell? ⟨b, o + k * 3 + 2, none⟩ = some (.string l[k].s) := hcl _ _ (flat_get Itm.cells 3 (fun _ => rfl) l k hlt 2 (by omega))
      obtain ⟨s, hs'⟩ : ∃ s, s = l[k].s := ⟨_, rfl⟩
      rw [← hs'] at kS
      have HT : Hid (sizes (l.take (k + 1)) = sizes (l.take k) + s.size) := by rw [hs']; exact sizes_take l k hlt
      have hsm : s.size ≤ maxLen := by rw [hs']; exact l[k].small
      unfold maxLen at hsm
      obtain ⟨t, ht⟩ : ∃ t, t = sizes (l.take k) := ⟨_, rfl⟩
      have hki : (k : Int) < l.length := by omega
      rw [← ht] at hs HT ⊢
      clear hcl hs' ht
      have hg : decide ((100 : Int) < k) = true ∨ (decide ((100 : Int) < k) = false ∧ decide ((most : Int) < s.size) = true ∧ decide (most < s.size) = true) ∨ (decide ((100 : Int) < k) = false ∧ decide ((most : Int) < s.size) = false ∧ decide (most < s.size) = false ∧ k ≤ 100 ∧ s.size ≤ most) := by
        by_cases g1 : 100 < k
        · exact .inl (by simp; omega)
        · by_cases g2 : most < s.size
          · exact .inr (.inl ⟨by simp; omega, by simp; omega, by simpa using g2⟩)
          · exact .inr (.inr ⟨by simp; omega, by simp; omega, by simpa using g2, by omega, by omega⟩)
      rcases hg with g1 | ⟨g1, g2, g2'⟩ | ⟨g1, g2, g2', g3, g4⟩
      · go_wp2
        go_ret
        exact ⟨false, rfl, rfl, fun h => Bool.noConfusion h⟩
      · go_wp2
        go_ret
        exact ⟨false, rfl, rfl, fun h => Bool.noConfusion h⟩
      · by_cases g5 : most < t + s.size
        · have e1 : decide ((most : Int) < (t : Int) + s.size) = true := by simp; omega
          go_wp2
          go_ret
          exact ⟨false, rfl, rfl, fun h => Bool.noConfusion h⟩
        · have e1 : decide ((most : Int) < (t : Int) + s.size) = false := by simp; omega
          go_wp2
          go_round
          case rel => exact ⟨k + 1, by go_num, by omega, by omega, by rw [HT.out]; go_num, by rw [HT.out]; omega⟩
          case measure => simp [intOf]; omega
    · have hfin : Hid (l.length ≤ 101 ∧ sizes l ≤ most) := by
        have : k = l.length := by omega
        subst this
        rw [List.take_length] at hs
        exact ⟨hk1, hs⟩
      go_wp2
      go_ret
      exact ⟨true, rfl, rfl, fun _ => hfin.out⟩

theorem few_at (l : List Itm) (A : Option Addr) (c : Nat) (m : Int) (most : Nat) (h : m = most) (hm : most ≤ 1000000) (w : World) {B : Nat} (hr : Rd w B 3 A l.length c (itemC l)) (hl : l.length ≤ maxLen) :
    Calls Try.prog 11 #[.slice A l.length c, .int .i64 m] w (FewIs l most w) := by
  subst h
  exact few_any l A c most hm w hr hl
/-- items were put -/
def PutItems (a : Nat) (g : Option Nat) (bs : List UInt8) (long : Bool) (l : List Itm) (w : World) (e : Ending) (w' : World) : Prop := e = .returned (.tuple #[]) ∧ Took a g bs long (itemsB l) w w'
theorem took_none {a : Nat} {g : Option Nat} {bs : List UInt8} {long : Bool} {w : World} (h : OutAt w a g bs long) : Took a g bs long [] w w := by
  refine ⟨g, ?_, Two.refl _ _ _, Fresh.refl _ _⟩
  have e : outB bs long [] = bs ∧ outL bs long [] = long := by
    have hs := h.small
    cases long with
    | true => rw [h.none_ rfl]; simp [outB, outL]
    | false =>
      constructor
      · unfold outB; rw [if_neg (by simp; omega)]; simp
      · unfold outL; simp; omega
  rw [e.1, e.2]; exact h
theorem took_step {a : Nat} {g g' : Option Nat} {bs : List UInt8} {long : Bool} {w wr w2 : World} {p s : List UInt8} (ht : Two a g w wr) (hf : Fresh g g' w) (h : Took a g' (outB bs long p) (outL bs long p) s wr w2) : Took a g bs long (p ++ s) w w2 := by
  obtain ⟨g2, ho, ht2, hf2⟩ := h
  obtain ⟨e1, e2⟩ := outB_two bs long p s
  rw [e1, e2] at ho
  exact ⟨g2, ho, ht.trans hf ht2, hf.trans ht.size hf2⟩
set_option maxRecDepth 100000 in
set_option maxHeartbeats 1000000 in
theorem put_items (a : Nat) (g : Option Nat) (bs : List UInt8) (long : Bool) (l : List Itm) (A : Option Addr) (c : Nat) (w : World) (h : OutAt w a g bs long) {B : Nat} (hBa : B ≤ a) (hBg : ∀ k, g = some k → B ≤ k) (hBw : B ≤ w.heap.size) (hr : Rd w B 3 A l.length c (itemC l)) (hl : l.length ≤ maxLen) :
    Calls Try.prog 13 #[.pointer (some ⟨a, 0, none⟩), .slice A l.length c] w (PutItems a g bs long l w) := by
  unfold maxLen at hl
  have HR := Lib.hid hr
  have HG := Lib.hid hBg
  have H0 := Lib.hid (took_none h)
  clear hr hBg h
  go_enter Try.func13, Try.ntmps13
  go_wp2
  go_loopw [7] (fun q wr => ∃ k : Nat, q = .int .i64 k ∧ k ≤ l.length ∧ Hid (Took a g bs long (itemsB (l.take k)) w wr)) (fun q _ => (l.length - intOf q).toNat)
  case atStart => exact ⟨0, rfl, Nat.zero_le _, by simpa [itemsB] using H0⟩
  case round =>
    obtain ⟨k, rfl, hk, htk⟩ := hrel
    by_cases hlt : k < l.length
    · obtain ⟨g', ho, ht, hf⟩ := htk.out
      obtain ⟨b, o, rfl, hbw, hcl⟩ := HR.out.at_ (by omega)
      have hcell : ∀ j u, (itemC l)[j]? = some u → wr.cell? ⟨b, o + j, none⟩ = some u := fun j u hu => (ht.cell (p := ⟨b, o + j, none⟩) (show b < _ by omega) (show b ≠ a by omega) (fun e => by have := HG.out b e.symm; omega)).trans (hcl j u hu)
      have kT : wr.cell? ⟨b, o + k * 3, none⟩ = some (.bool l[k].text) := hcell _ _ (flat_get Itm.cells 3 (fun _ => rfl) l k hlt 0 (by omega))
      have kN : wr.cell? ⟨b, o + k * 3 + 1, none⟩ = some (.int .i64 l[k].n) := hcell _ _ (flat_get Itm.cells 3 (fun _ => rfl) l k hlt 1 (by omega))
      have kS : wr.cell? ⟨b, o + k * 3 + 2, none⟩ = some (.string l[k].s) := hcell _ _ (flat_get Itm.cells 3 (fun _ => rfl) l k hlt 2 (by omega))
      have HT : Hid (itemsB (l.take (k + 1)) = itemsB (l.take k) ++ itemB l[k]) := itemsB_take l k hlt
      obtain ⟨it, hit⟩ : ∃ it, it = l[k] := ⟨_, rfl⟩
      rw [← hit] at kT kN kS HT
      have hlo := it.lo
      have hhi := it.hi
      have hsm := it.small
      have hki : (k : Int) < l.length := by omega
      have HO := Lib.hid ho
      have HTw := Lib.hid ht
      have HFr := Lib.hid hf
      clear hcl hcell hit ho ht hf
      cases htx : it.text with
      | true =>
        rw [htx] at kT
        have HE : Hid (itemB it = textB it.s.data.toList) := by unfold Hid itemB; rw [htx]; rfl
        clear htx
        go_wp2_with (go_at_call 27; refine (text_any a g' _ _ it.s wr HO.out hsm).mono ?_; rintro e w2 ⟨rfl, ht2⟩; have HT2 := Lib.hid (took_step HTw.out HFr.out ht2); clear ht2)
        go_roundw
        case rel => exact ⟨k + 1, by go_num, by omega, by rw [HT.out, HE.out]; exact HT2⟩
        case measure => simp [intOf]; omega
      | false =>
        rw [htx] at kT
        have HE : Hid (itemB it = numB it.n) := by unfold Hid itemB; rw [htx]; rfl
        clear htx
        go_wp2_with (go_at_call 25; refine (num_any a g' _ _ it.n wr HO.out hlo hhi).mono ?_; rintro e w2 ⟨rfl, ht2⟩; have HT2 := Lib.hid (took_step HTw.out HFr.out ht2); clear ht2)
        go_roundw
        case rel => exact ⟨k + 1, by go_num, by omega, by rw [HT.out, HE.out]; exact HT2⟩
        case measure => simp [intOf]; omega
    · have hfin : Hid (Took a g bs long (itemsB l) w wr) := by
        have : k = l.length := by omega
        subst this
        rw [List.take_length] at htk
        exact htk
      go_wp2
      go_end0
      exact ⟨rfl, hfin.out⟩

/-- append of a row that lies elsewhere -/
theorem run_rows (W : World) (base : Nat) (v : Value) (acc bs : List UInt8) (hown : W.ownsRow base 5 1 v acc.length (u8s acc)) {A : Option Addr} {n c B : Nat} (hn : bs.length = n) (hr : Rd W B 1 A n c (u8s bs)) (h6 : acc.length + n ≤ 1000000) (hb : base ≤ W.heap.size) :
    ∃ v' w', (Builtin.append_ #[25, 25] 25 #[v, .slice A n c]).run Try.prog W = .ok v' w' ∧ w'.ownsRow base 5 1 v' (acc ++ bs).length (u8s (acc ++ bs)) ∧ Below base W w' := by
  obtain ⟨i0, hi0, hz0, hz1, hz2⟩ := info_parts8
  obtain ⟨v', w', h1, h2, h3, h4⟩ := run_app (P := Try.prog) W base 25 25 5 i0 _ 1 1 Try.underlying25 hi0 hz0 hz1 hz2 rfl (by omega) hown hr (by omega) (by omega) hb
  refine ⟨v', w', h1, ?_, (Below.refl base W).grown h3 hb (fun k hk => (hown.lt k hk).1)⟩
  rw [u8s_append, List.length_append, hn]
  exact h2
set_option maxRecDepth 100000 in
set_option maxHeartbeats 1000000 in
theorem refbytes_any (l : List Itm) (A : Option Addr) (c : Nat) (w : World) (hr : Rd w w.heap.size 3 A l.length c (itemC l)) (hl : l.length ≤ 101) (hs : sizes l ≤ 100000) :
    Calls Try.prog 12 #[.slice A l.length c] w (NewRow 5 1 (u8s (itemsB l)) (itemsB l).length w) := by
  have HR := Lib.hid hr
  have hbig := itemsB_len l
  clear hr
  go_enter Try.func12, Try.ntmps12
  go_wp2
  go_loopw [3, 7] (fun v q wr => ∃ (k : Nat) (acc : List UInt8), q = .int .i64 k ∧ k ≤ l.length ∧ wr.ownsRow w.heap.size 5 1 v acc.length (u8s acc) ∧ Below w.heap.size w wr ∧ Hid (acc = itemsB (l.take k))) (fun _ q _ => (l.length - intOf q).toNat)
  case atStart => exact ⟨0, [], rfl, Nat.zero_le _, World.ownsRow_nil _ _ _ _, Below.refl _ _, rfl⟩
  case round =>
    obtain ⟨k, acc, rfl, hk, hown, hB, hacc⟩ := hrel
    by_cases hlt : k < l.length
    · obtain ⟨b, o, rfl, hbw, hcl⟩ := HR.out.at_ (by omega)
      have kT : wr.cell? ⟨b, o + k * 3, none⟩ = some (.bool l[k].text) := (hB.cell (p := ⟨b, o + k * 3, none⟩) hbw).trans (hcl _ _ (flat_get Itm.cells 3 (fun _ => rfl) l k hlt 0 (by omega)))
      have kN : wr.cell? ⟨b, o + k * 3 + 1, none⟩ = some (.int .i64 l[k].n) := (hB.cell (p := ⟨b, o + (k * 3 + 1), none⟩) hbw).trans (hcl _ _ (flat_get Itm.cells 3 (fun _ => rfl) l k hlt 1 (by omega)))
      have kS : wr.cell? ⟨b, o + k * 3 + 2, none⟩ = some (.string l[k].s) := (hB.cell (p := ⟨b, o + (k * 3 + 2), none⟩) hbw).trans (hcl _ _ (flat_get Itm.cells 3 (fun _ => rfl) l k hlt 2 (by omega)))
      have hT := itemsB_take l k hlt
      have hz := sizes_take l k hlt
      have hz2 := sizes_le l (k + 1)
      obtain ⟨it, hit⟩ : ∃ it, it = l[k] := ⟨_, rfl⟩
      rw [← hit] at kT kN kS hT hz
      have hlo := it.lo
      have hhi := it.hi
      have hsm : it.s.size ≤ 100000 := by omega
      have hki : (k : Int) < l.length := by omega
      have hsz : acc.length + (itemB it).length ≤ 1000000 := by
        have h1 := itemsB_len (l.take (k + 1))
        rw [hT, ← hacc.out, List.length_append, List.length_take] at h1
        omega
      have HT : Hid (acc ++ itemB it = itemsB (l.take (k + 1))) := by rw [hacc.out]; exact hT.symm
      clear hcl hit hT hz hz2
      cases htx : it.text with
      | true =>
        rw [htx] at kT
        have hE : itemB it = textB it.s.data.toList := by unfold itemB; rw [htx]; rfl
        rw [hE] at HT hsz
        clear htx hE
        go_wp2_with (first
          | (go_at_call 28; refine (reftext_any it.s wr (by omega)).mono ?_; rintro e w1 ⟨A1, c1, rfl, ho1, hb1⟩; obtain ⟨v2, w2, hrun, hown2, hb2⟩ := run_rows w1 w.heap.size _ acc _ (ownsRow_later hown hb1) rfl ho1.rd hsz (Nat.le_trans hB.size hb1.size); have Hrun := Lib.hid hrun; clear hrun)
          | (at_builtin; refine Lib.wpList_append_run _ rfl _ _ _ _ rfl _ _ rfl rfl _ _ Hrun.out ?_))
        go_roundw
        case rel => exact ⟨k + 1, acc ++ textB it.s.data.toList, by go_num, by omega, hown2, (hB.trans (hb1.mono hB.size)).trans hb2, HT.out⟩
        case measure => simp [intOf]; omega
      | false =>
        rw [htx] at kT
        have hE : itemB it = numB it.n := by unfold itemB; rw [htx]; rfl
        rw [hE] at HT hsz
        clear htx hE
        go_wp2_with (first
          | (go_at_call 29; refine (refnum_any it.n wr hlo hhi).mono ?_; rintro e w1 ⟨A1, c1, rfl, ho1, hb1⟩; obtain ⟨v2, w2, hrun, hown2, hb2⟩ := run_rows w1 w.heap.size _ acc _ (ownsRow_later hown hb1) rfl ho1.rd hsz (Nat.le_trans hB.size hb1.size); have Hrun := Lib.hid hrun; clear hrun)
          | (at_builtin; refine Lib.wpList_append_run _ rfl _ _ _ _ rfl _ _ rfl rfl _ _ Hrun.out ?_))
        go_roundw
        case rel => exact ⟨k + 1, acc ++ numB it.n, by go_num, by omega, hown2, (hB.trans (hb1.mono hB.size)).trans hb2, HT.out⟩
        case measure => simp [intOf]; omega
    · have hfin : Hid (itemsB l = acc) := by
        have : k = l.length := by omega
        subst this
        rw [List.take_length] at hacc
        exact hacc.out.symm
      obtain ⟨A2, c2, rfl, ho2⟩ := Own.of_row hown (u8s_one _)
      go_wp2
      go_ret
      rw [hfin.out]
      exact ⟨A2, c2, rfl, ho2, hB⟩
end Codec
end Go.Proofs.Ytgjojcigcbenmaa
