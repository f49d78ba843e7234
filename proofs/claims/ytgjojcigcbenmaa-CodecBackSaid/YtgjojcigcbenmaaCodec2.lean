/- Package codec: an Out, what it has taken, and its end. -/
import Derived.Test.YtgjojcigcbenmaaCodecRef
namespace Go.Proofs.Ytgjojcigcbenmaa
open Go.RowKit
namespace Codec
set_option maxRecDepth 100000 in
set_option maxHeartbeats 400000 in
theorem clone_any (n : Nat) (xs : List Value) (A : Option Addr) (c : Nat) (w : World) (hn : n ≤ 900000) (hr : Rd w w.heap.size 1 A n c xs) :
    Calls Try.prog 30 #[.slice A n c] w (NewRow 5 1 xs n w) := by
  have hR := Lib.hid hr
  obtain ⟨i0, hi0, hz0, hz1, hz2⟩ := info_parts8
  have heq := fun W => Lib.run_eql_slice_nil (P := Try.prog) W 25 5 A n c 0 0 Try.underlying25
  cases A with
  | none =>
    have hn0 : n = 0 := by
      rcases Nat.eq_zero_or_pos n with h | h
      · exact h
      · obtain ⟨_, _, h, _⟩ := hr.at_ h; cases h
    subst hn0
    have hx : xs = [] := List.eq_nil_of_length_eq_zero (by simpa using hr.len)
    subst hx
    clear hr
    go_enter Try.func30, Try.ntmps30
    go_wp2
    go_ret
    exact ⟨none, 0, rfl, ⟨World.ownsRow_nil _ _ _ _, by simp⟩, Below.refl _ _⟩
  | some a =>
    clear hr
    go_enter Try.func30, Try.ntmps30
    go_wp2_with (at_builtin; (obtain ⟨v1, w1, hrun, hown1, hg1, hat1⟩ := run_app (P := Try.prog) (w.alloc (.cells #[] 5)) w.heap.size 25 25 5 i0 _ 1 1 Try.underlying25 hi0 hz0 hz1 hz2 rfl (by omega) (World.ownsRow_made w #[] 0 (Nat.le_refl _) (by simp [maxLen]) rfl) (hR.out.alloc (Nat.le_refl _) _) (by omega) (by omega) (by simp)); refine Lib.wpList_append_run _ rfl _ _ _ _ rfl _ _ rfl rfl _ _ hrun ?_)
    go_ret
    obtain ⟨A', c', rfl, hrd⟩ := Own.of_row hown1 (by simpa using hR.out.one)
    refine ⟨A', c', by first | rfl | (rw [Nat.zero_add]; rfl), by simpa using hrd, ?_⟩
    exact ((Below.refl _ _).alloc (Nat.le_refl _) _).grown hg1 (by simp) (by simp [Value.ownBlock])

/-- an Out at block a: the bytes it has; its row's own block is g -/
structure OutAt (w : World) (a : Nat) (g : Option Nat) (bs : List UInt8) (long : Bool) : Prop where
  at_ : ∃ A c, w.cell? ⟨a, 0, none⟩ = some (.slice A bs.length c) ∧ (Value.slice A bs.length c).ownBlock = g ∧ w.ownsRow 0 5 1 (.slice A bs.length c) bs.length (u8s bs)
  long_ : w.cell? ⟨a, 1, none⟩ = some (.bool long)
  free0 : w.frozen? ⟨a, 0, none⟩ = false
  free1 : w.frozen? ⟨a, 1, none⟩ = false
  ne : g ≠ some a
  small : bs.length ≤ 60000
  none_ : long = true → bs = []
theorem OutAt.lt {w : World} {a : Nat} {g : Option Nat} {bs : List UInt8} {long : Bool} (h : OutAt w a g bs long) : a < w.heap.size := World.block_lt_of_cell? w _ h.long_
theorem OutAt.glt {w : World} {a : Nat} {g : Option Nat} {bs : List UInt8} {long : Bool} (h : OutAt w a g bs long) {k : Nat} (hk : g = some k) : k < w.heap.size := by
  obtain ⟨A, c, _, h2, h3⟩ := h.at_
  exact (ownBlock_lt h3 (h2.trans hk)).2
/-- an Out stays as it is while other blocks turn -/
theorem OutAt.keep {w w' : World} {a : Nat} {g : Option Nat} {bs : List UInt8} {long : Bool} (h : OutAt w a g bs long) (hk : ∀ k, k = a ∨ g = some k → w'.heap[k]? = w.heap[k]?) : OutAt w' a g bs long := by
  obtain ⟨A, c, h1, h2, h3⟩ := h.at_
  refine ⟨⟨A, c, (World.cell?_of_block (hk a (.inl rfl))).trans h1, h2, ?_⟩, (World.cell?_of_block (hk a (.inl rfl))).trans h.long_, (World.frozen?_of_block (hk a (.inl rfl))).trans h.free0, (World.frozen?_of_block (hk a (.inl rfl))).trans h.free1, h.ne, h.small, h.none_⟩
  refine ⟨h3.1, ?_⟩
  rcases h3.2 with h4 | ⟨b, cap, cur, e, h5, h6, h7⟩
  · exact .inl h4
  · refine .inr ⟨b, cap, cur, e, h5, (hk b (.inr ?_)).trans h6, h7⟩
    rw [← h2, e]; rfl
theorem OutAt.below {w w' : World} {a : Nat} {g : Option Nat} {bs : List UInt8} {long : Bool} (h : OutAt w a g bs long) (hb : Below w.heap.size w w') : OutAt w' a g bs long :=
  h.keep fun k hk => by
    rcases hk with rfl | hk
    · exact hb.block _ h.lt
    · exact hb.block _ (h.glt hk)
/-- what an Out has behind one more -/
def outB (bs : List UInt8) (long : Bool) (s : List UInt8) : List UInt8 := if long || decide (60000 < bs.length + s.length) then [] else bs ++ s
def outL (bs : List UInt8) (long : Bool) (s : List UInt8) : Bool := long || decide (60000 < bs.length + s.length)
/-- an Out that has taken bytes -/
def Took (a : Nat) (g : Option Nat) (bs : List UInt8) (long : Bool) (s : List UInt8) (w : World) (w' : World) : Prop :=
  ∃ g', OutAt w' a g' (outB bs long s) (outL bs long s) ∧ Two a g w w' ∧ Fresh g g' w
def Puts (a : Nat) (g : Option Nat) (bs : List UInt8) (long : Bool) (s : List UInt8) (w : World) (e : Ending) (w' : World) : Prop := e = .returned (.tuple #[]) ∧ Took a g bs long s w w'
section
variable {a : Nat} {g : Option Nat} {bs s : List UInt8} {long : Bool} {w w' : World}
theorem took_long (h : OutAt w a g bs long) (hl : outL bs long s = true) : Took a g bs long s w ((w.setCell ⟨a, 0, none⟩ (.slice none 0 0)).setCell ⟨a, 1, none⟩ (.bool true)) := by
  obtain ⟨A, c, hc0, _, _⟩ := h.at_
  have hc1 := h.long_
  have hf0 := h.free0
  have hf1 := h.free1
  have e1 : outB bs long s = [] := by
    unfold outB; rw [if_pos (by simpa [outL] using hl)]
  refine ⟨none, ?_, ((Two.refl a g w).setCell 0 _).setCell 1 _, .inl rfl⟩
  rw [e1, hl]
  exact ⟨⟨none, 0, by go_simp, rfl, World.ownsRow_nil _ _ _ _⟩, by go_simp, by go_simp, by go_simp, by simp, by simp, fun _ => rfl⟩
theorem took_app (h : OutAt w a g bs false) (hl : bs.length + s.length ≤ 60000) {v' : Value} {n : Nat} (hn : n = bs.length + s.length) (hown : w'.ownsRow 0 5 1 v' n (u8s bs ++ u8s s)) (hg : w.grownBy w' g) (hb : v'.ownBlock = g ∨ v'.ownBlock = some w.heap.size) :
    Took a g bs false s w (w'.setCell ⟨a, 0, none⟩ v') := by
  subst hn
  have hlt := h.lt
  have hna : ∀ b, v'.ownBlock = some b → b ≠ a := by
    intro b hb'
    rcases hb with h1 | h1
    · intro e; subst e; exact h.ne (h1.symm.trans hb')
    · rw [h1] at hb'; injection hb' with hb'; omega
  have hga : w'.heap[a]? = w.heap[a]? := hg.block a hlt (fun e => h.ne e.symm)
  have hc1 : w'.cell? ⟨a, 1, none⟩ = some (.bool false) := (World.cell?_of_block hga).trans h.long_
  have hf0 : w'.frozen? ⟨a, 0, none⟩ = false := (World.frozen?_of_block hga).trans h.free0
  have hf1 : w'.frozen? ⟨a, 1, none⟩ = false := (World.frozen?_of_block hga).trans h.free1
  obtain ⟨A, c, hc0', _, _⟩ := h.at_
  have hc0 := (World.cell?_of_block (a := ⟨a, 0, none⟩) hga).trans hc0'
  have e1 : outB bs false s = bs ++ s := by unfold outB; rw [if_neg (by simp; omega)]
  have e2 : outL bs false s = false := by unfold outL; simp; omega
  obtain ⟨A', c', rfl, _⟩ := Own.of_row hown (by rw [← u8s_append]; exact u8s_one _)
  refine ⟨(Value.slice A' (bs.length + s.length) c').ownBlock, ?_, (Two.of_grown hg).setCell 0 _, ?_⟩
  · rw [e1, e2]
    refine ⟨⟨A', c', ?_, by rw [List.length_append], ?_⟩, by go_simp, by go_simp, by go_simp, ?_, by rw [List.length_append]; omega, fun h => Bool.noConfusion h⟩
    · rw [List.length_append]; go_simp
    · rw [List.length_append, u8s_append]
      exact ownsRow_two hown ((Two.refl a none w').setCell 0 _) fun b hb' => ⟨hna b hb', by simp⟩
    · intro e; exact hna a e rfl
  · rcases hb with h1 | h1
    · exact .inr (.inl h1)
    · exact .inr (.inr ⟨_, h1, Nat.le_refl _⟩)
end

set_option maxRecDepth 100000 in
set_option maxHeartbeats 400000 in
theorem put_any (a : Nat) (g : Option Nat) (bs : List UInt8) (long : Bool) (s : ByteArray) (w : World) (h : OutAt w a g bs long) (hs : s.size ≤ maxLen) :
    Calls Try.prog 34 #[.pointer (some ⟨a, 0, none⟩), .string s] w (Puts a g bs long s.data.toList w) := by
  unfold maxLen at hs
  obtain ⟨A, c, hc0, hg, hown⟩ := h.at_
  have hc1 := h.long_
  have hf0 := h.free0
  have hf1 := h.free1
  have hsm := h.small
  have hsl : s.data.toList.length = s.size := by simp
  have H := Lib.hid h
  have HO := Lib.hid hown
  have HG := Lib.hid hg
  have HL := Lib.hid hsl
  have hlt := h.lt
  clear h hown hg hsl
  cases long with
  | true =>
    have HT := Lib.hid (took_long (s := s.data.toList) H.out rfl)
    go_enter Try.func34, Try.ntmps34
    go_wp2
    exact bodyPost_ret (v := .tuple #[]) (by simp [results, Try.results34, go_sem]) rfl ⟨rfl, HT.out⟩
  | false =>
    by_cases hbig : 60000 < bs.length + s.size
    · have e1 : decide (60000 - (bs.length : Int) < (s.size : Int)) = true := by simp; omega
      have HT := Lib.hid (took_long (s := s.data.toList) H.out (by unfold outL; simp; omega))
      go_enter Try.func34, Try.ntmps34
      go_wp2
      exact bodyPost_ret (v := .tuple #[]) (by simp [results, Try.results34, go_sem]) rfl ⟨rfl, HT.out⟩
    · have e1 : decide (60000 - (bs.length : Int) < (s.size : Int)) = false := by simp; omega
      obtain ⟨i0, hi0, hz0, hz1, hz2⟩ := info_parts8
      obtain ⟨v', w', hrun, hown', hgr, hb⟩ := run_app_str (P := Try.prog) w 25 9 25 5 i0 Try.underlying25 Try.underlying9 hi0 hz0 hz1 hz2 HO.out s (by omega) (Nat.zero_le _)
      obtain ⟨A', c', rfl, _⟩ := Own.of_row hown' (by rw [← u8s_append]; exact u8s_one _)
      have hgr2 : Hid (w.grownBy w' g) := by rw [HG.out] at hgr; exact hgr
      have HT := Lib.hid (took_app (s := s.data.toList) H.out (by rw [HL.out]; omega) (by rw [HL.out]) hown' hgr2.out (by rw [HG.out] at hb; exact hb))
      have hga : w'.heap[a]? = w.heap[a]? := hgr2.out.block a hlt (fun e => H.out.ne e.symm)
      have k0 : w'.cell? ⟨a, 0, none⟩ = some (.slice A bs.length c) := (World.cell?_of_block hga).trans hc0
      have k1 : w'.frozen? ⟨a, 0, none⟩ = false := (World.frozen?_of_block hga).trans hf0
      have HR := Lib.hid hrun
      clear hga hgr hb hown' hrun
      go_enter Try.func34, Try.ntmps34
      go_wp2_with (at_builtin; refine Lib.wpList_append_run _ rfl _ _ _ _ rfl _ _ rfl rfl _ _ HR.out ?_)
      go_end0
      exact ⟨rfl, HT.out⟩

set_option maxRecDepth 100000 in
theorem num_any (a : Nat) (g : Option Nat) (bs : List UInt8) (long : Bool) (v : Int) (w : World) (h : OutAt w a g bs long) (h1 : -9223372036854775808 ≤ v) (h2 : v ≤ 9223372036854775807) :
    Calls Try.prog 25 #[.pointer (some ⟨a, 0, none⟩), .int .i64 v] w (Puts a g bs long (numB v) w) := by
  have hf := fold_lt h1 h2
  have HF := Lib.hid hf
  have H := Lib.hid h
  clear h hf
  go_enter Try.func25, Try.ntmps25
  go_wp2_with (first
    | (go_at_call 36; refine (fold_any v _ h1 h2).mono ?_; rintro e w' ⟨rfl, rfl⟩)
    | (go_at_call 35; refine (sevens_any (foldN v) _ HF.out).mono ?_; rintro e w1 ⟨rfl, hb1⟩)
    | (go_at_call 34; refine (put_any a g bs long (strOf (sev (foldN v))) _ (H.out.below hb1) (by rw [strOf_size]; have := sev_ten HF.out; unfold maxLen; omega)).mono ?_; rintro e w2 ⟨rfl, ht⟩))
  go_end0
  refine ⟨rfl, ?_⟩
  rw [strOf_list] at ht
  obtain ⟨g', ho, h2, hf⟩ := ht
  refine ⟨g', ho, (Two.of_below hb1).trans (Fresh.refl _ _) h2, ?_⟩
  exact (Fresh.refl _ _).trans hb1.size hf

theorem outB_two (bs : List UInt8) (long : Bool) (s t : List UInt8) : outB (outB bs long s) (outL bs long s) t = outB bs long (s ++ t) ∧ outL (outB bs long s) (outL bs long s) t = outL bs long (s ++ t) := by
  cases long
  · by_cases h : 60000 < bs.length + s.length
    · have h2 : 60000 < bs.length + (s ++ t).length := by rw [List.length_append]; omega
      simp [outB, outL, h, h2]
      omega
    · have e1 : outB bs false s = bs ++ s := by unfold outB; rw [if_neg (by simpa using h)]
      have e2 : outL bs false s = false := by unfold outL; simpa using h
      rw [e1, e2]
      simp only [outB, outL, Bool.false_or, decide_eq_true_eq, List.length_append, Nat.add_assoc, List.append_assoc, and_self]
  · simp [outB, outL]
set_option maxRecDepth 100000 in
theorem text_any (a : Nat) (g : Option Nat) (bs : List UInt8) (long : Bool) (s : ByteArray) (w : World) (h : OutAt w a g bs long) (hs : s.size ≤ maxLen) :
    Calls Try.prog 27 #[.pointer (some ⟨a, 0, none⟩), .string s] w (Puts a g bs long (textB s.data.toList) w) := by
  have hs' := hs
  unfold maxLen at hs
  have H := Lib.hid h
  clear h
  go_enter Try.func27, Try.ntmps27
  go_wp2_with (first
    | (go_at_call 25; refine (num_any a g bs long s.size _ H.out (by omega) (by omega)).mono ?_; rintro e w1 ⟨rfl, g1, ho1, ht1, hf1⟩)
    | (go_at_call 34; refine (put_any a g1 _ _ s _ ho1 hs').mono ?_; rintro e w2 ⟨rfl, g2, ho2, ht2, hf2⟩))
  go_end0
  refine ⟨rfl, g2, ?_, ht1.trans hf1 ht2, hf1.trans ht1.size hf2⟩
  have h1 := outB_two bs long (numB s.size) s.data.toList
  rw [h1.1, h1.2] at ho2
  unfold textB
  rw [text_len]
  exact ho2

/-- what an Out tells at its end -/
def EndIs (bs : List UInt8) (long : Bool) (w : World) (e : Ending) (w' : World) : Prop :=
  Below w.heap.size w w' ∧ ((long = true ∧ e = .returned (.tuple #[.slice none 0 0, .int .i64 3])) ∨ (long = false ∧ ∃ A c, e = .returned (.tuple #[.slice A bs.length c, .int .i64 0]) ∧ Own w' w.heap.size 5 1 A bs.length c (u8s bs)))
set_option maxRecDepth 100000 in
theorem end_any (a : Nat) (g : Option Nat) (bs : List UInt8) (long : Bool) (w : World) (h : OutAt w a g bs long) :
    Calls Try.prog 14 #[.pointer (some ⟨a, 0, none⟩)] w (EndIs bs long w) := by
  obtain ⟨A, c, hc0, hg, hown⟩ := h.at_
  have hc1 := h.long_
  have hsm := h.small
  have hrd : Hid (Rd w w.heap.size 1 A bs.length c (u8s bs)) := by
    obtain ⟨A', c', hv, hr⟩ := Rd.of_own hown (u8s_one bs)
    injection hv with e1 e2 e3
    subst e1; subst e3
    exact hr
  clear h hown hg
  cases long with
  | true =>
    go_enter Try.func14, Try.ntmps14
    go_wp2
    go_ret2
    exact ⟨Below.refl _ _, .inl ⟨rfl, rfl⟩⟩
  | false =>
    go_enter Try.func14, Try.ntmps14
    go_wp2_with (go_at_call 30; refine (clone_any _ _ _ _ _ (by omega) hrd.out).mono ?_; rintro e w' ⟨A', c', rfl, ho, hb⟩)
    go_ret2
    exact ⟨hb, .inr ⟨rfl, A', c', rfl, ho⟩⟩
end Codec
end Go.Proofs.Ytgjojcigcbenmaa
