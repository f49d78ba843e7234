/- sorted.Merge by a function that notes what it was asked: its contracts. -/
import Derived.Test.YtolfockpiioncaaMerge2
import Derived.Test.YtolfockpiioncaaBytes
namespace Go.Proofs.Ytolfockpiioncaa
open Go.RowKit
namespace SortS
def fl2 (L : List (Int × Int)) : List Value := L.flatMap fun p => [Value.int .i64 p.1, Value.int .i64 p.2]
theorem fl2_append (a b : List (Int × Int)) : fl2 (a ++ b) = fl2 a ++ fl2 b := by simp [fl2]
/-- what is asked lies in the variable at block p; its row's own block is g -/
structure LogAt (w : World) (p : Nat) (g : Option Nat) (L : List (Int × Int)) : Prop where
  at_ : ∃ v, w.cell? ⟨p, 0, none⟩ = some v ∧ v.ownBlock = g ∧ w.ownsRow (p + 1) 54 2 v L.length (fl2 L)
  free : w.frozen? ⟨p, 0, none⟩ = false
section
variable {w w' : World} {p : Nat} {g : Option Nat} {L : List (Int × Int)}
theorem LogAt.lt (h : LogAt w p g L) : p < w.heap.size := by
  obtain ⟨v, h1, _⟩ := h.at_
  exact World.block_lt_of_cell? w _ h1
theorem LogAt.glt (h : LogAt w p g L) {k : Nat} (hk : g = some k) : p < k ∧ k < w.heap.size := by
  obtain ⟨v, _, h2, h3⟩ := h.at_
  have := h3.lt k (h2.trans hk)
  omega
theorem LogAt.keep (h : LogAt w p g L) (hp : w'.heap[p]? = w.heap[p]?) (hg : ∀ k, g = some k → w'.heap[k]? = w.heap[k]?) : LogAt w' p g L := by
  obtain ⟨v, h1, h2, h3⟩ := h.at_
  refine ⟨⟨v, (World.cell?_of_block (a := ⟨p, 0, none⟩) hp).trans h1, h2, h3.1, ?_⟩, (World.frozen?_of_block (a := ⟨p, 0, none⟩) hp).trans h.free⟩
  rcases h3.2 with h4 | ⟨b, cap, cur, rfl, h5, h6, h7⟩
  · exact .inl h4
  · exact .inr ⟨b, cap, cur, rfl, h5, (hg b h2.symm).trans h6, h7⟩
theorem LogAt.below (h : LogAt w p g L) (hb : Below w.heap.size w w') : LogAt w' p g L :=
  h.keep (hb.block p h.lt) (fun k hk => hb.block k (h.glt hk).2)
theorem LogAt.grown {row : Option Nat} (h : LogAt w p g L) (hb : w.grownBy w' row) (h1 : row ≠ some p) (h2 : row ≠ none → row ≠ g) : LogAt w' p g L :=
  h.keep (hb.block p h.lt (fun e => h1 e.symm)) (fun k hk => hb.block k (h.glt hk).2 (fun e => h2 (by rw [← e]; simp) (by rw [← e, hk])))
end
theorem LogAt.setCell {w : World} {p : Nat} {g : Option Nat} {L : List (Int × Int)} (h : LogAt w p g L) {b o : Nat} (hp : b ≠ p) (hg : g ≠ some b) (u : Value) : LogAt (w.setCell ⟨b, o, none⟩ u) p g L :=
  h.keep (Below.heap_setCell w ⟨b, o, none⟩ u p (fun e => hp e.symm)) (fun k hk => Below.heap_setCell w ⟨b, o, none⟩ u k (fun e => hg (by rw [hk, e])))
theorem two_set {a : Nat} {g : Option Nat} {w w' : World} (h : Two a g w w') {b o : Nat} (hb : w.heap.size ≤ b) (u : Value) : Two a g w (w'.setCell ⟨b, o, none⟩ u) :=
  ⟨h.os, h.tape, h.output, by simpa [World.setCell] using h.size, fun k hk h1 h2 => (Below.heap_setCell w' ⟨b, o, none⟩ u k (fun e => by dsimp only at e; omega)).trans (h.block k hk h1 h2)⟩
theorem info2 : (Try.prog.info? 54).map (fun i => (i.zero, i.size, i.bytes)) = some (some (.agg #[.int .i64 0, .int .i64 0]), 2, 16) := by kernel_rfl
/-- how two values are put together -/
def put2 (x y : Int) : Int := bits .xor .i64 x (wrap64 (3 * y))
set_option maxRecDepth 100000 in
theorem note_any (p : Nat) (g : Option Nat) (L : List (Int × Int)) (x y : Int) (w : World) (h : LogAt w p g L) (hL : L.length ≤ 1000) :
    Calls Try.prog 23 #[.int .i64 x, .int .i64 y, .pointer (some ⟨p, 0, none⟩)] w fun e w' => e = .returned (.int .i64 (put2 x y)) ∧ ∃ g', LogAt w' p g' (L ++ [(x, y)]) ∧ Two p g w w' ∧ Fresh g g' w := by
  obtain ⟨v, h1, h2, h3⟩ := h.at_
  have hf := h.free
  have hlt := h.lt
  obtain ⟨i0, hi0, hz0, hz1, hz2⟩ := info_parts info2
  obtain ⟨v', w', hr1, hr2, hr3, hr4⟩ := run_app (P := Try.prog) (w.alloc (.cells #[.int .i64 x, .int .i64 y] 54)) (p + 1) 52 52 54 i0 _ 2 16 Try.underlying52 hi0 hz0 hz1 hz2 rfl (by omega)
    (h3.alloc _) (B := w.heap.size + 1) (A := some ⟨w.heap.size, 0, none⟩) (m := 1) (c := 1) (news := [.int .i64 x, .int .i64 y])
    ⟨rfl, by omega, by intro u hu; simp only [List.mem_cons, List.not_mem_nil, or_false] at hu; rcases hu with rfl | rfl <;> rfl, fun _ => ⟨_, _, rfl, by omega, fun j u hu => by
      rw [Nat.zero_add, cell_of_row _ _ j _ _ (0, 0) (heap_alloc_new _ _)]
      simpa using hu⟩⟩ (by omega) (by omega) (by simp; omega)
  obtain ⟨A2, c2', rfl⟩ : ∃ A c, v' = .slice A (L.length + 1) c := by
    rcases hr2.2 with ⟨h, h'⟩ | ⟨g, cap, _, h, _⟩
    · omega
    · exact ⟨_, _, h⟩
  have hpg : v.ownBlock ≠ some p := by
    intro e
    have := h3.lt p e
    omega
  have c1 : w'.cell? ⟨p, 0, none⟩ = some v := (World.cell?_of_block (a := ⟨p, 0, none⟩) (hr3.block p (by simp; omega) (fun e => hpg e.symm))).trans (by go_simp)
  have c2 : w'.frozen? ⟨p, 0, none⟩ = false := (World.frozen?_of_block (a := ⟨p, 0, none⟩) (hr3.block p (by simp; omega) (fun e => hpg e.symm))).trans (by go_simp)
  have HT : Hid (Two p g w (w'.setCell ⟨p, 0, none⟩ (.slice A2 (L.length + 1) c2'))) := by
    have t1 : Two p g w (w.alloc (.cells #[.int .i64 x, .int .i64 y] 54)) := Two.of_below ((Below.refl _ _).alloc (Nat.le_refl _) _)
    have t2 : Two p g (w.alloc (.cells #[.int .i64 x, .int .i64 y] 54)) w' := Two.of_grown (by rw [← h2]; exact hr3)
    exact (t1.trans (Fresh.refl _ _) t2).setCell 0 _
  have HL : Hid (LogAt (w'.setCell ⟨p, 0, none⟩ (.slice A2 (L.length + 1) c2')) p (Value.slice A2 (L.length + 1) c2').ownBlock (L ++ [(x, y)])) := by
    refine ⟨⟨.slice A2 (L.length + 1) c2', by go_simp, rfl, ?_⟩, by go_simp⟩
    have e : fl2 (L ++ [(x, y)]) = fl2 L ++ [.int .i64 x, .int .i64 y] := by rw [fl2_append]; rfl
    rw [e, List.length_append]
    exact ownsRow_setCell_below hr2 (by show p < p + 1; omega) _
  have HF : Hid (Fresh g (Value.slice A2 (L.length + 1) c2').ownBlock w) := by
    rcases hr4 with h4 | h4
    · exact .inr (.inl (h4.trans h2))
    · exact .inr (.inr ⟨_, h4, by simp⟩)
  have Hrun := Lib.hid hr1
  clear hr1 hr2 hr3 hr4 h h3 h2 hpg hz0 hz1 hz2 hi0
  go_enter Try.func23, Try.ntmps23
  go_wp2_with (at_builtin; refine Lib.wpList_append_run _ rfl _ _ _ _ rfl _ _ rfl rfl _ _ Hrun.out ?_)
  go_ret
  exact ⟨rfl, _, HL.out, HT.out, HF.out⟩
theorem neq_func {P : Program} {t : TypeId} (ht : ∃ ps rs v, P.underlying t = some (.func ps rs v)) (fn : Fn) (x y : Array Value) (W : World) : (binOp .neq t (.func fn x y) Value.nilFunc).run P W = .ok (.bool true) W := by
  obtain ⟨ps, rs, v, h⟩ := ht
  have h2 : ∀ d, (Op.equalIn (d + 1) t (.func fn x y) Value.nilFunc).run P W = .ok false W := fun d => by simp [Op.equalIn, run_underlying h]
  have h1 : (binOp .neq t (.func fn x y) Value.nilFunc).run P W = ((Op.equalIn (9999 + 1) t (.func fn x y) Value.nilFunc).run P W).andThen fun b w' => .ok (.bool (!b)) w' := by
    simp only [binOp, Op.equal, Sem.run_bind]
    rfl
  rw [h1, h2]
  rfl
set_option maxRecDepth 100000 in
theorem meet_note (P : Nat) (g : Option Nat) (L : List (Int × Int)) (p q : ByteArray × Int) (w : World) (h : LogAt w P g L) (hL : L.length ≤ 1000) :
    Calls Try.prog 42 #[.agg #[.string p.1, .int .i64 p.2], .agg #[.string q.1, .int .i64 q.2], .func (.func 23) #[] #[.pointer (some ⟨P, 0, none⟩)]] w fun e w' => e = .returned (.agg #[.string q.1, .int .i64 (put2 p.2 q.2)]) ∧ ∃ g', LogAt w' P g' (L ++ [(p.2, q.2)]) ∧ Two P g w w' ∧ Fresh g g' w := by
  have HLG := Lib.hid h
  have hPl := h.lt
  clear h
  have hne : ∀ (W : World) (cap : Array Value), (binOp .neq 55 (.func (.func 23) #[] cap) Value.nilFunc).run Try.prog W = .ok (.bool true) W := fun W cap => neq_func func_desc _ _ _ W
  go_enter Try.func42, Try.ntmps42
  go_wp2_with fail
  obtain ⟨W2, hW2⟩ : ∃ W2, W2 = ((w.alloc (.cells #[.string p.1, .int .i64 p.2] 60)).alloc (.cells #[.string q.1, .int .i64 q.2] 60)).alloc (.cells #[.string { data := #[] }, .int .i64 0] 60) := ⟨_, rfl⟩
  obtain ⟨s, hs⟩ : ∃ s, s = w.heap.size := ⟨_, rfl⟩
  rw [← hW2, ← hs]
  have hB2 : Below w.heap.size w W2 := by rw [hW2]; exact ((((Below.refl _ _).alloc (Nat.le_refl _) _).alloc (by simp) _).alloc (by simp; omega) _)
  have hsz : W2.heap.size = s + 3 := by rw [hW2, hs]; simp
  have b0 : W2.cell? ⟨s + 1, 0, none⟩ = some (.string q.1) := by rw [hW2, hs]; go_simp
  have b1 : W2.cell? ⟨s + 1, 1, none⟩ = some (.int .i64 q.2) := by rw [hW2, hs]; go_simp
  have b2 : W2.cell? ⟨s + 1 + 1, 0, none⟩ = some (.string { data := #[] }) := by rw [hW2, hs]; go_simp
  have b3 : W2.cell? ⟨s + 1 + 1, 1, none⟩ = some (.int .i64 0) := by rw [hW2, hs]; go_simp
  have d1 : W2.frozen? ⟨s + 1, 1, none⟩ = false := by rw [hW2, hs]; go_simp
  have d2 : W2.frozen? ⟨s + 1 + 1, 0, none⟩ = false := by rw [hW2, hs]; go_simp
  have d3 : W2.frozen? ⟨s + 1 + 1, 1, none⟩ = false := by rw [hW2, hs]; go_simp
  have hgl : ∀ k, g = some k → k < s := fun k hk => by rw [hs]; exact (HLG.out.glt hk).2
  have hlg2 := HLG.out.below hB2
  clear hW2
  refine (note_any P g L p.2 q.2 W2 hlg2 hL).mono ?_
  rintro e w2 ⟨rfl, g', hlog, ht, hf⟩
  have hc : ∀ b o, s ≤ b → b < s + 3 → w2.cell? ⟨b, o, none⟩ = W2.cell? ⟨b, o, none⟩ := fun b o h1 h2 => ht.cell (p := ⟨b, o, none⟩) (show b < _ by omega) (show b ≠ P by omega) (fun e => by have := hgl b e.symm; omega)
  have hz : ∀ b o, s ≤ b → b < s + 3 → w2.frozen? ⟨b, o, none⟩ = W2.frozen? ⟨b, o, none⟩ := fun b o h1 h2 => ht.frozen (p := ⟨b, o, none⟩) (show b < _ by omega) (show b ≠ P by omega) (fun e => by have := hgl b e.symm; omega)
  have a0 := (hc (s + 1) 0 (by omega) (by omega)).trans b0
  have a1 := (hc (s + 1) 1 (by omega) (by omega)).trans b1
  have a2 := (hc (s + 1 + 1) 0 (by omega) (by omega)).trans b2
  have a3 := (hc (s + 1 + 1) 1 (by omega) (by omega)).trans b3
  have e1 := (hz (s + 1) 1 (by omega) (by omega)).trans d1
  have e2 := (hz (s + 1 + 1) 0 (by omega) (by omega)).trans d2
  have e3 := (hz (s + 1 + 1) 1 (by omega) (by omega)).trans d3
  have hg' : ∀ k, g' = some k → k < s ∨ s + 3 ≤ k := by
    intro k hk
    rcases hf with h | h | ⟨q, h, h2⟩
    · rw [h] at hk; cases hk
    · exact .inl (hgl k (by rw [← h, hk]))
    · rw [h] at hk; injection hk with hk; right; omega
  have HLOG := Lib.hid hlog
  have HT : Hid (Two P g w w2) := (Two.of_below hB2).trans (Fresh.refl _ _) ht
  have HF : Hid (Fresh g g' w) := by
    rcases hf with h | h | ⟨q, h, h2⟩
    · exact .inl h
    · exact .inr (.inl h)
    · exact .inr (.inr ⟨q, h, by omega⟩)
  have HG := Lib.hid hg'
  have HS := Lib.hid hs
  clear hc hz hlog ht hf hg' hgl hlg2 b0 b1 b2 b3 d1 d2 d3 hB2 hsz hs
  go_wp2
  refine bodyPost_ret (v := .agg #[.string q.1, .int .i64 (put2 p.2 q.2)]) (by simp [results, Try.results42, go_sem, a2, a3]) rfl ⟨rfl, g', ?_, ?_, HF.out⟩
  · have hP : P < s := by rw [HS.out]; exact hPl
    have n1 : g' ≠ some (s + 1) := fun e => by have := HG.out _ e; omega
    have n2 : g' ≠ some (s + 1 + 1) := fun e => by have := HG.out _ e; omega
    exact ((HLOG.out.setCell (by omega) n1 _).setCell (by omega) n2 _).setCell (by omega) n2 _
  · exact two_set (two_set (two_set HT.out (by rw [HS.out]; omega) _) (by rw [HS.out]; omega) _) (by rw [HS.out]; omega) _
theorem two_below {P : Nat} {W0 w w' : World} (h : Two P none W0 w) (hb : Below W0.heap.size w w') : Two P none W0 w' :=
  ⟨hb.os.trans h.os, hb.tape.trans h.tape, hb.output.trans h.output, Nat.le_trans h.size hb.size, fun k hk h1 h2 => (hb.block k hk).trans (h.block k hk h1 h2)⟩
/-- what is merged so far, in a row of the call's own, beside what was noted -/
structure Out2 (W0 w : World) (P : Nat) (g : Option Nat) (L : List (Int × Int)) (v : Value) (acc : Ps) : Prop where
  own : w.ownsRow W0.heap.size 60 2 v acc.length (flat acc)
  log : LogAt w P g L
  dis : ∀ k, v.ownBlock = some k → g ≠ some k
  two : Two P none W0 w
  fr : Fresh none g W0
  pl : P < W0.heap.size
section
variable {W0 w w' : World} {P : Nat} {g g' : Option Nat} {L L' : List (Int × Int)} {v : Value} {acc : Ps}
theorem Out2.later (o : Out2 W0 w P g L v acc) (hb : Below w.heap.size w w') : Out2 W0 w' P g L v acc :=
  ⟨ownsRow_later o.own hb, o.log.below hb, o.dis, two_below o.two (hb.mono o.two.size), o.fr, o.pl⟩
theorem Out2.note (o : Out2 W0 w P g L v acc) (hl : LogAt w' P g' L') (ht : Two P g w w') (hf : Fresh g g' w) : Out2 W0 w' P g' L' v acc := by
  refine ⟨ownsRow_two o.own ht (fun b hb => ⟨?_, fun e => o.dis b hb e.symm⟩), hl, fun k hk e => ?_, o.two.trans o.fr ht, o.fr.trans o.two.size hf, o.pl⟩
  · have := (o.own.lt b hb).1
    have := o.pl
    omega
  · rcases hf with h | h | ⟨q, h, h2⟩
    · rw [h] at e; cases e
    · rw [h] at e; exact o.dis k hk e
    · rw [h] at e; injection e with e
      have := (o.own.lt k hk).2
      omega
theorem Out2.app (o : Out2 W0 w P g L v acc) {B : Nat} {A : Option Addr} {m c : Nat} {xs : Ps} (hl : xs.length = m) (hr : Rd w B 2 A m c (flat xs)) (hn : acc.length + m ≤ 1000000) :
    ∃ v' w', (Builtin.append_ #[24, 24] 24 #[v, .slice A m c]).run Try.prog w = .ok v' w' ∧ Out2 W0 w' P g L v' (acc ++ xs) ∧ Below W0.heap.size w w' := by
  obtain ⟨i0, hi0, hz0, hz1, hz2⟩ := info_parts info
  obtain ⟨v', w', h1, h2, h3, h4⟩ := run_app (P := Try.prog) w W0.heap.size 24 24 60 i0 _ 2 24 Try.underlying24 hi0 hz0 hz1 hz2 rfl (by omega) o.own hr hn (by omega) o.two.size
  have hb : Below W0.heap.size w w' := (Below.refl _ w).grown h3 o.two.size (fun k hk => (o.own.lt k hk).1)
  have e : flat (acc ++ xs) = flat acc ++ flat xs := by unfold flat; rw [flat2_append]
  refine ⟨v', w', h1, ⟨?_, o.log.grown h3 ?_ ?_, ?_, two_below o.two hb, o.fr, o.pl⟩, hb⟩
  · rw [e, List.length_append, hl]; exact h2
  · intro e
    have := (o.own.lt P e).1
    have := o.pl
    omega
  · intro hne e
    cases hv : v.ownBlock with
    | none => exact hne hv
    | some k => exact o.dis k hv (by rw [← e, hv])
  · intro k hk e
    rcases h4 with h4 | h4
    · exact o.dis k (h4 ▸ hk) e
    · rw [h4] at hk; injection hk with hk
      have := (o.log.glt e).2
      omega
theorem Out2.push (o : Out2 W0 w P g L v acc) (q : Nat) (hq : w.heap.size = q) (p : ByteArray × Int) (hn : acc.length ≤ 1000) :
    ∃ v' w', (Builtin.append_ #[24, 24] 24 #[v, .slice (some ⟨q, 0, none⟩) 1 1]).run Try.prog (w.alloc (.cells #[.string p.1, .int .i64 p.2] 60)) = .ok v' w' ∧ Out2 W0 w' P g L v' (acc ++ [p]) ∧ Below W0.heap.size w w' := by
  subst hq
  have hb : Below w.heap.size w (w.alloc (.cells #[.string p.1, .int .i64 p.2] 60)) := (Below.refl _ _).alloc (Nat.le_refl _) _
  obtain ⟨v', w', h1, h2, h3⟩ := (o.later hb).app (xs := [p]) (m := 1) (c := 1) (A := some ⟨w.heap.size, 0, none⟩) (B := w.heap.size + 1) rfl
    ⟨rfl, by omega, by intro u hu; simp only [flat, flat2, List.flatMap_cons, List.flatMap_nil, List.append_nil, List.mem_cons, List.not_mem_nil, or_false] at hu; rcases hu with rfl | rfl <;> rfl, fun _ => ⟨_, _, rfl, by omega, fun j u hu => by
      rw [Nat.zero_add, cell_of_row _ _ j _ _ (0, 0) (heap_alloc_new _ _)]
      simpa [flat, flat2, kc, vc] using hu⟩⟩ (by omega)
  exact ⟨v', w', h1, h2, (hb.mono o.two.size).trans h3⟩
end
/-- what the loop knows: the rests, what is merged so far, what is noted -/
def Mid2 (a b xs ys acc : Ps) (L : List (Int × Int)) : Prop := acc ++ mrg put2 xs ys = mrg put2 a b ∧ L ++ met xs ys = met a b
end SortS
end Go.Proofs.Ytolfockpiioncaa
