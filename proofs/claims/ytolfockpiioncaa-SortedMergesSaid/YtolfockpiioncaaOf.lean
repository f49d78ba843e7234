/- sorted.Of at string keys: of each key the last pair. -/
import Derived.Test.YtolfockpiioncaaSorting
import Derived.Test.YtolfockpiioncaaSortS3
namespace Go.Proofs.Ytolfockpiioncaa
open Go.RowKit
section
variable {K V : Type} [DecidableEq K] {lt : K → K → Prop}
/-- of each run of like keys the last one -/
def lasts : List (K × V) → List (K × V)
  | [] => []
  | [p] => [p]
  | p :: q :: t => if p.1 = q.1 then lasts (q :: t) else p :: lasts (q :: t)
theorem lasts_sub : ∀ l : List (K × V), ∀ p ∈ lasts l, p ∈ l
  | [], p, h => by simp [lasts] at h
  | [q], p, h => by simpa [lasts] using h
  | a :: b :: t, p, h => by
    unfold lasts at h
    split at h
    · exact List.mem_cons_of_mem _ (lasts_sub (b :: t) p h)
    · rcases List.mem_cons.1 h with rfl | h
      · simp
      · exact List.mem_cons_of_mem _ (lasts_sub (b :: t) p h)
theorem lasts_up (T : Tot lt) : ∀ l : List (K × V), Srt lt l → (lasts l).Pairwise (fun a b => lt a.1 b.1)
  | [], _ => by simp [lasts]
  | [q], _ => by simp [lasts]
  | a :: b :: t, h => by
    have h1 := List.pairwise_cons.1 h
    have ih := lasts_up T (b :: t) h1.2
    unfold lasts
    split
    · exact ih
    · rename_i hne
      refine List.pairwise_cons.2 ⟨fun p hp => ?_, ih⟩
      have hp' := lasts_sub _ p hp
      have h2 := List.pairwise_cons.1 h1.2
      have hab : lt a.1 b.1 := by
        rcases T.tri a.1 b.1 with e | e | e
        · exact e
        · exact (hne e).elim
        · exact (h1.1 b (by simp) e).elim
      rcases List.mem_cons.1 hp' with rfl | hp'
      · exact hab
      · rcases T.tri b.1 p.1 with e | e | e
        · exact T.tr _ _ _ hab e
        · rwa [← e]
        · exact (h2.1 p hp' e).elim
theorem lasts_mem (T : Tot lt) : ∀ l : List (K × V), Srt lt l → ∀ p, p ∈ lasts l ↔ (l.filter (fun q => q.1 = p.1)).getLast? = some p
  | [], _, p => by simp [lasts]
  | [q], _, p => by
    simp only [lasts, List.mem_singleton, List.filter_cons, List.filter_nil]
    by_cases h : q.1 = p.1
    · simp [h]; exact eq_comm
    · simp [h]; intro e; exact h (by rw [e])
  | a :: b :: t, h, p => by
    have h1 := List.pairwise_cons.1 h
    have ih := lasts_mem T (b :: t) h1.2 p
    unfold lasts
    split
    · rename_i heq
      rw [ih, List.filter_cons (x := a)]
      by_cases ha : a.1 = p.1
      · have hb : b.1 = p.1 := heq ▸ ha
        simp only [ha, decide_true, if_true, List.filter_cons, hb, List.getLast?_cons_cons]
      · simp [ha]
    · rename_i hne
      rw [List.mem_cons, ih, List.filter_cons (x := a)]
      by_cases ha : a.1 = p.1
      · have hnil : (b :: t).filter (fun q => q.1 = p.1) = [] := by
          rw [List.filter_eq_nil_iff]
          intro q hq hqp
          have hqp : q.1 = p.1 := by simpa using hqp
          have hab : lt a.1 b.1 := by
            rcases T.tri a.1 b.1 with e | e | e
            · exact e
            · exact (hne e).elim
            · exact (h1.1 b (by simp) e).elim
          have h2 := List.pairwise_cons.1 h1.2
          rcases List.mem_cons.1 hq with rfl | hq
          · exact hne (ha.trans hqp.symm)
          · exact h2.1 q hq (by rw [hqp, ← ha]; exact hab)
        simp only [ha, decide_true, if_true, hnil]
        simp; exact eq_comm
      · simp only [ha, decide_false]
        constructor
        · rintro (rfl | h)
          · exact (ha rfl).elim
          · exact h
        · exact .inr
/-- a map of pairs: of each key the last one -/
def OfIs (lt : K → K → Prop) (xs m : List (K × V)) : Prop := Up lt m ∧ ∀ p, p ∈ m ↔ (xs.filter (fun q => q.1 = p.1)).getLast? = some p
theorem ofIs_lasts (T : Tot lt) {xs ys : List (K × V)} (hs : Srt lt ys) (h : Same xs ys) : OfIs lt xs (lasts ys) := by
  refine ⟨fun i j hi hj hij => ?_, fun p => ?_⟩
  · exact List.pairwise_iff_getElem.1 (lasts_up T ys hs) i j hi hj hij
  · rw [lasts_mem T ys hs, h p.1]
theorem lasts_len : ∀ l : List (K × V), (lasts l).length ≤ l.length
  | [] => by simp [lasts]
  | [q] => by simp [lasts]
  | a :: b :: t => by
    have := lasts_len (b :: t)
    unfold lasts
    split
    · simp at this ⊢; omega
    · simp at this ⊢; omega
end
namespace SortS
theorem cmp_is (a b : ByteArray) (k : Int) (h : cmpK ltS a b = k) (w : World) :
    Calls Try.prog 37 #[.string a, .string b] w fun e w' => e = .returned (.int .i64 k) ∧ w' = w := by
  subst h
  exact (cmp_any a b w).mono fun _ _ ⟨h1, h2⟩ => ⟨h1, h2.symm⟩
/-- append of one pair that the call has just laid -/
theorem run_push (W : World) (base q : Nat) (hq : W.heap.size = q) (hb : base ≤ W.heap.size) (v : Value) (acc : Ps) (hown : W.ownsRow base 60 2 v acc.length (flat acc)) (p : ByteArray × Int) (hn : acc.length ≤ 1000) :
    ∃ v' w', (Builtin.append_ #[24, 24] 24 #[v, .slice (some ⟨q, 0, none⟩) 1 1]).run Try.prog (W.alloc (.cells #[.string p.1, .int .i64 p.2] 60)) = .ok v' w' ∧
      w'.ownsRow base 60 2 v' (acc ++ [p]).length (flat (acc ++ [p])) ∧ Below base W w' := by
  subst hq
  obtain ⟨i0, hi0, hz0, hz1, hz2⟩ := info_parts info
  obtain ⟨v', w', h1, h2, h3, h4⟩ := run_app (P := Try.prog) (W.alloc (.cells #[.string p.1, .int .i64 p.2] 60)) base 24 24 60 i0 _ 2 24 Try.underlying24 hi0 hz0 hz1 hz2 rfl (by omega)
    (hown.alloc _) (B := W.heap.size + 1) (A := some ⟨W.heap.size, 0, none⟩) (m := 1) (c := 1) (news := [.string p.1, .int .i64 p.2])
    ⟨rfl, by omega, by intro u hu; simp only [List.mem_cons, List.not_mem_nil, or_false] at hu; rcases hu with rfl | rfl <;> rfl, fun _ => ⟨_, _, rfl, by omega, fun j u hu => by
      rw [Nat.zero_add, cell_of_row _ _ j _ _ (0, 0) (heap_alloc_new _ _)]
      simpa using hu⟩⟩ (by omega) (by omega) (by simp; omega)
  refine ⟨v', w', h1, ?_, ?_⟩
  · have e : flat (acc ++ [p]) = flat acc ++ [.string p.1, .int .i64 p.2] := by unfold flat; rw [flat2_append]; rfl
    rw [e]
    simpa using h2
  · exact ((Below.refl base W).alloc hb _).grown h3 (by simp; omega) (fun k hk => (hown.lt k hk).1)
set_option maxRecDepth 100000 in
set_option maxHeartbeats 1000000 in
theorem of_any (n : Nat) (xs : Ps) (A : Option Addr) (c : Nat) (w : World) (hlen : xs.length = n) (hr : Rd w w.heap.size 2 A n c (flat xs)) (h0 : 0 < n) (hn : n ≤ 1000)
    (hsort : ∀ base g c' W, Row base g n c' W xs → Calls Try.prog 35 #[.slice (some ⟨g, 0, none⟩) n c', .func (.func 36) #[] #[]] W
      (Turned base g n c' (fun ys => Stable xs ys) W)) :
    Calls Try.prog 14 #[.slice A n c] w fun e w' => ∃ m, OfIs ltS xs m ∧ m.length ≤ n ∧ NewMap m w e w' := by
  have HR := Lib.hid hr
  have HL := Lib.hid hlen
  have HS := Lib.hid hsort
  clear hr hlen hsort
  obtain ⟨i0, hi0, hz0, hz1, hz2⟩ := info_parts info
  go_enter Try.func14, Try.ntmps14
  go_wp2_with (go_at_call 34; refine (clone_any n (flat xs) A c _ hn ((HR.out.alloc (Nat.le_refl _) _).more (by simp))).mono ?_; rintro e w1 ⟨A1, c1, rfl, hown, hb1⟩)
  obtain ⟨g, rfl, hg1⟩ : ∃ g, A1 = some ⟨g, 0, none⟩ ∧ w.heap.size + 1 ≤ g := by
    rcases hown.row.2 with ⟨_, h⟩ | ⟨g, _, _, h, h2, _⟩
    · omega
    · injection h with h; exact ⟨g, h, by simpa using h2⟩
  have hrow : Row w.heap.size g n c1 w1 xs := ⟨HL.out, (hown.mono (by simp)).row⟩
  have hg2 := hrow.lt
  have hres1 : w1.cell? ⟨w.heap.size, 0, none⟩ = some (.slice none 0 0) := (hb1.cell (p := ⟨w.heap.size, 0, none⟩) (by simp)).trans (by go_simp)
  have hfrz1 : w1.frozen? ⟨w.heap.size, 0, none⟩ = false := (hb1.frozen (p := ⟨w.heap.size, 0, none⟩) (by simp)).trans (by go_simp)
  have hB1 : Below w.heap.size w w1 := ((Below.refl _ _).alloc (Nat.le_refl _) _).trans (hb1.mono (by simp))
  refine (HS.out _ g c1 w1 hrow).mono ?_
  rintro e w2 ⟨rfl, hys, hgr⟩
  obtain ⟨ys, hst, hrw⟩ := hys
  have hB2 : Below w.heap.size w w2 := hB1.grown hgr hB1.size (by intro k hk; injection hk with hk; omega)
  have hres2 : w2.cell? ⟨w.heap.size, 0, none⟩ = some (.slice none 0 0) := (World.cell?_of_block (hgr.block w.heap.size (by omega) (by intro e; injection e with e; omega))).trans hres1
  have hfrz2 : w2.frozen? ⟨w.heap.size, 0, none⟩ = false := (World.frozen?_of_block (hgr.block w.heap.size (by omega) (by intro e; injection e with e; omega))).trans hfrz1
  have hz2' : w.heap.size < w2.heap.size := by have := hgr.size; omega
  have HST := Lib.hid hst
  have HRW := Lib.hid hrw
  have HYL := Lib.hid hrw.1
  clear hst hrw hrow hown hb1 hres1 hfrz1 hgr
  have hm48 : i0.bytes * n ≤ 281474976710656 := by rw [hz2]; omega
  have hm63 : n ≤ maxLen := by simp only [maxLen]; omega
  go_wp2_with (at_make; refine wpList_make_own _ rfl _ _ _ rfl w2.heap.size 60 i0 _ 2 Try.underlying24 hi0 hz0 hz1 .i64 .i64 _ n rfl rfl rfl hm48 hm63 (Nat.le_refl _) ?_; intro w3 hout hg3)
  have hB3 : Below w2.heap.size w2 w3 := (Below.refl _ _).grown hg3 (Nat.le_refl _) (by intro k hk; cases hk)
  clear hg3
  go_loopw [4, 16] (fun v q wr => ∃ i : Nat, ∃ acc : Ps, q = .int .i64 i ∧ i ≤ n ∧ wr.ownsRow w2.heap.size 60 2 v acc.length (flat acc) ∧ Below w2.heap.size w2 wr ∧ Hid (acc ++ lasts (ys.drop i) = lasts ys)) (fun _ q _ => (n - intOf q).toNat)
  case atStart => exact ⟨0, [], rfl, Nat.zero_le _, hout, hB3, by simp [Hid]⟩
  case round =>
    obtain ⟨i, acc, rfl, hi, hacc, hB, hrel⟩ := hrel
    have hal : acc.length ≤ 1000 := by
      have h1 := congrArg List.length hrel
      have h2 := lasts_len ys
      have h3 := HYL.out
      simp at h1
      omega
    clear hout hB3
    by_cases hlt : i < n
    · have HR' := Lib.hid (HRW.out.later hB)
      have hil : i < ys.length := by have := HYL.out; omega
      obtain ⟨p, hp⟩ : ∃ p, p = ys[i] := ⟨_, rfl⟩
      have k0 : wr.cell? ⟨g, i * 2, none⟩ = some (.string p.1) := by rw [hp]; exact HR'.out.fst i hil
      have k1 : wr.cell? ⟨g, i * 2 + 1, none⟩ = some (.int .i64 p.2) := by rw [hp]; exact HR'.out.snd i hil
      have HP := Lib.hid hp
      have hin : (i : Int) < n := by omega
      have hgw : g < wr.heap.size := HR'.out.lt
      clear hp
      by_cases hlast : i + 1 = n
      · have e1 : ((i : Int) + 1 == n) = true := by simp; omega
        have hdrop : Hid (acc ++ [p] ++ lasts (ys.drop (i + 1)) = lasts ys) := by
          have h2 : ys.drop (i + 1) = [] := List.drop_eq_nil_of_le (by have := HYL.out; omega)
          have h3 : ys.drop i = [p] := by rw [List.drop_eq_getElem_cons hil, h2, HP.out]
          have := hrel
          unfold Hid at *
          rw [h3] at this
          rw [h2]
          simpa [lasts] using this
        go_wp2
        go_quiet (fail)
        obtain ⟨v2, w4, hrun, hacc2, hb4⟩ := run_push ((wr.alloc (.cells #[.string p.1, .int .i64 p.2] 60)).drewN nq) w2.heap.size (wr.heap.size + 1) (by simp) (by have := hB.size; simp; omega) u4 acc (hacc.alloc _) p hal
        have Hrun := Lib.hid hrun
        clear hrun
        go_wp2_with (at_builtin; refine Lib.wpList_append_run _ rfl _ _ _ _ rfl _ _ rfl rfl _ _ Hrun.out ?_)
        go_roundw
        case rel => exact ⟨i + 1, acc ++ [p], by go_num, by omega, hacc2, ((bel_drewN (hB.alloc (by have := hB.size; omega) _) _).trans hb4), hdrop⟩
        case measure => simp [intOf]; omega
      · obtain ⟨i1, hi1⟩ : ∃ i1 : Nat, i1 = i + 1 := ⟨_, rfl⟩
        have hi1l : i1 < ys.length := by have := HYL.out; omega
        obtain ⟨q, hq⟩ : ∃ q, q = ys[i1] := ⟨_, rfl⟩
        have e1 : ((i1 : Int) == n) = false := by simp; omega
        have hw0 : IntKind.i64.wrap ((i : Int) + 1) = (i1 : Int) := by rw [IntWalk.i64_in _ (by omega)]; omega
        have hw1 : (i : Int) + 1 = (i1 : Int) := by omega
        have hi1n : (i1 : Int) < n := by omega
        have k2 : wr.cell? ⟨g, i1 * 2, none⟩ = some (.string q.1) := by rw [hq]; exact HR'.out.fst i1 hi1l
        have k3 : wr.cell? ⟨g, i1 * 2 + 1, none⟩ = some (.int .i64 q.2) := by rw [hq]; exact HR'.out.snd i1 hi1l
        have HI1 := Lib.hid hi1
        have HQ := Lib.hid hq
        have hdrop : Hid (ys.drop i = p :: q :: ys.drop (i1 + 1)) := by
          unfold Hid
          rw [List.drop_eq_getElem_cons hil, HP.out]
          have := HI1.out
          subst this
          rw [List.drop_eq_getElem_cons hi1l, HQ.out]
        have hdrop1 : Hid (ys.drop i1 = q :: ys.drop (i1 + 1)) := by
          unfold Hid
          rw [List.drop_eq_getElem_cons hi1l, HQ.out]
        have hle : Hid (Le ltS p q) := by
          have h1 := List.pairwise_iff_getElem.1 HST.out.2.1 i i1 hil hi1l (by omega)
          rw [HP.out, HQ.out]; exact h1
        clear hi1 hq
        by_cases hpq : p.1 = q.1
        · have HC := fun W => Lib.hid (cmp_is p.1 q.1 0 ((cmpK_zero tot_str).2 hpq) W)
          have hrel2 : Hid (acc ++ lasts (ys.drop i1) = lasts ys) := by
            have h1 : acc ++ lasts (ys.drop i) = lasts ys := hrel
            rw [hdrop.out] at h1
            show acc ++ lasts (ys.drop i1) = lasts ys
            rw [hdrop1.out, ← h1]
            simp [lasts, hpq]
          clear hpq
          go_wp2
          go_quiet ((go_at_call 37; exact Calls.quiet_of_same (HC _).out))
          go_wp2
          go_roundw
          case rel => exact ⟨i1, acc, rfl, by omega, hacc.alloc _, (bel_drewN (hB.alloc (by have := hB.size; omega) _) _), hrel2⟩
          case measure => have := HI1.out; simp [intOf]; omega
        · have HC := fun W => Lib.hid (cmp_is p.1 q.1 (-1) (by
            have h1 := hle.out
            rcases tot_str.tri p.1 q.1 with h | h | h
            · exact cmpK_lt h
            · exact absurd h hpq
            · exact absurd h h1) W)
          have hrel2 : Hid (acc ++ [p] ++ lasts (ys.drop i1) = lasts ys) := by
            have h1 : acc ++ lasts (ys.drop i) = lasts ys := hrel
            rw [hdrop.out] at h1
            show acc ++ [p] ++ lasts (ys.drop i1) = lasts ys
            rw [hdrop1.out, ← h1]
            simp [lasts, hpq]
          clear hpq
          go_wp2
          go_quiet ((go_at_call 37; exact Calls.quiet_of_same (HC _).out))
          obtain ⟨v2, w4, hrun, hacc2, hb4⟩ := run_push ((wr.alloc (.cells #[.string p.1, .int .i64 p.2] 60)).drewN nq) w2.heap.size (wr.heap.size + 1) (by simp) (by have := hB.size; simp; omega) u4 acc (hacc.alloc _) p hal
          have Hrun := Lib.hid hrun
          clear hrun
          go_wp2_with (at_builtin; refine Lib.wpList_append_run _ rfl _ _ _ _ rfl _ _ rfl rfl _ _ Hrun.out ?_)
          go_roundw
          case rel => exact ⟨i1, acc ++ [p], rfl, by omega, hacc2, ((bel_drewN (hB.alloc (by have := hB.size; omega) _) _).trans hb4), hrel2⟩
          case measure => have := HI1.out; simp [intOf]; omega
    · obtain rfl : i = n := by omega
      have hacc3 : acc = lasts ys := by
        have h1 : acc ++ lasts (ys.drop i) = lasts ys := hrel
        rw [List.drop_eq_nil_of_le (by have := HYL.out; omega)] at h1
        simpa [lasts] using h1
      have HM := Lib.hid (ofIs_lasts tot_str HST.out.2.1 HST.out.2.2)
      rw [← hacc3] at HM
      have hml : acc.length ≤ i := by rw [hacc3]; have := lasts_len ys; have := HYL.out; omega
      obtain ⟨A4, c4, rfl, hown4⟩ := Own.of_row hacc (flat_one acc)
      have k0 : wr.cell? ⟨w.heap.size, 0, none⟩ = some (.slice none 0 0) := (hB.cell (p := ⟨w.heap.size, 0, none⟩) hz2').trans hres2
      have k1 : wr.frozen? ⟨w.heap.size, 0, none⟩ = false := (hB.frozen (p := ⟨w.heap.size, 0, none⟩) hz2').trans hfrz2
      have HA := Lib.hid hacc3
      clear hacc3 hrel
      go_wp2
      refine bodyPost_ret (v := .agg #[.slice A4 acc.length c4]) (by simp [results, Try.results14, go_sem, k0]) rfl ⟨acc, HM.out, hml, A4, c4, rfl, ?_, ?_⟩
      · have h1 := (hown4.set_below (a := ⟨w.heap.size, 0, none⟩) hz2' (.slice A4 acc.length c4)).mono hB2.size
        simpa using h1
      · exact (hB2.trans (hB.mono (by omega))).setCell (p := ⟨w.heap.size, 0, none⟩) (Nat.le_refl _) _
end SortS
end Go.Proofs.Ytolfockpiioncaa
