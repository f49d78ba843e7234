/- SortedOf's own: the pairs of the acts, the acts that put alone, and what a map of them has. -/
import Derived.Test.YtolfockpiioncaaTells
import Derived.Test.YtolfockpiioncaaAwake
import Derived.Test.YtolfockpiioncaaPlays
namespace Go.Proofs.Ytolfockpiioncaa
open Go.RowKit
namespace SortS
theorem upon_append {P : Program} {o : Oper} {a : Go.Act} {K : Go.Act → World → Prop} {Q : Exit → Go.Act → World → Prop} {w w' : World} {v xv v' : Value} (s x : Operand) (t : TypeId)
    (ho : o.op = .call { callee := .builtin .append, args := #[s, x], argTypes := #[t, t] }) (hs : a.eval s = v) (hx : a.eval x = xv)
    (hr : (Builtin.append_ #[t, t] o.type #[v, xv]).run P w = .ok v' w') (h : K (a.put o.dst v') w') : Oper.upon P o a K Q ((execOp a.eval o).run P w) := by
  unfold execOp
  simp only [ho, resolve, invoke, builtin, Sem.run_bind, Sem.run_pure, Result.andThen_ok, List.map_toArray, List.map_cons, List.map_nil, hs, hx, hr]
  exact h
def prs (h : List Act) : Ps := h.map fun a => (a.key, a.v)
def pts (h : List Act) : List Act := h.map fun a => ⟨a.key, a.v, false⟩
theorem last_val (k : ByteArray) : ∀ (n : Nat) (h : List Act), h.length = n → ((prs h).filter (fun q => q.1 = k)).getLast? = (valueOf (pts h) k).map (fun v => (k, v))
  | 0, h, hn => by
    have := List.eq_nil_of_length_eq_zero hn
    subst this
    simp [prs, pts, valueOf_nil]
  | n + 1, h, hn => by
    have hne : h ≠ [] := by intro e; subst e; simp at hn
    have hs := List.dropLast_concat_getLast hne
    obtain ⟨t, ht⟩ : ∃ t, t = h.dropLast := ⟨_, rfl⟩
    obtain ⟨a, ha⟩ : ∃ a, a = h.getLast hne := ⟨_, rfl⟩
    rw [← ht, ← ha] at hs
    have hl : t.length = n := by rw [ht, List.length_dropLast]; omega
    have ih := last_val k n t hl
    rw [← hs]
    have e1 : prs (t ++ [a]) = prs t ++ [(a.key, a.v)] := by simp [prs]
    have e2 : pts (t ++ [a]) = pts t ++ [⟨a.key, a.v, false⟩] := by simp [pts]
    rw [e1, e2, valueOf_snoc, List.filter_append]
    by_cases hk : a.key = k
    · simp [hk]
    · simp [hk, ih]
theorem RepH.of {h : List Act} {m : Ps} (o : OfIs ltS (prs h) m) : RepH (pts h) m := by
  refine ⟨o.1, fun p => ?_⟩
  rw [o.2 p, last_val p.1 _ h rfl]
  cases hv : valueOf (pts h) p.1 with
  | none => simp
  | some x => 
    obtain ⟨k, v⟩ := p
    simp
set_option maxRecDepth 100000 in
set_option maxHeartbeats 1000000 in
theorem pairs_any (h : List Act) (H : Option Addr) (d : Nat) (w : World) (hh : Rd w w.heap.size 3 H h.length d (flatA h)) (hn : h.length ≤ 1000) :
    Calls Try.prog 15 #[.slice H h.length d] w (NewRow 60 2 (flat (prs h)) h.length w) := by
  have HH := Lib.hid hh
  clear hh
  go_enter Try.func15, Try.ntmps15
  go_wp2
  go_loopw [3, 7] (fun v q wr => ∃ i : Nat, q = .int .i64 i ∧ i ≤ h.length ∧ wr.ownsRow w.heap.size 60 2 v (prs (h.take i)).length (flat (prs (h.take i))) ∧ Below w.heap.size w wr) (fun _ q _ => (h.length - intOf q).toNat)
  case atStart => exact ⟨0, rfl, Nat.zero_le _, by simpa [prs, flat, flat2] using World.ownsRow_nil _ _ _ _, Below.refl _ _⟩
  case round =>
    obtain ⟨i, rfl, hi, hown, hB⟩ := hrel
    by_cases hlt : i < h.length
    · obtain ⟨b, o, rfl, hb, hc⟩ := HH.out.at_ (by omega)
      obtain ⟨f0, f1, f2⟩ := flatA_at h i hlt
      obtain ⟨⟨ak, av, ag⟩, ha⟩ : ∃ a, a = h[i] := ⟨_, rfl⟩
      rw [← ha] at f0 f1 f2
      have k0 : wr.cell? ⟨b, o + i * 3, none⟩ = some (.string ak) := (hB.cell (p := ⟨b, o + i * 3, none⟩) hb).trans (hc _ _ f0)
      have k1 : wr.cell? ⟨b, o + i * 3 + 1, none⟩ = some (.int .i64 av) := (hB.cell (p := ⟨b, o + i * 3 + 1, none⟩) hb).trans (hc _ _ f1)
      have hi1 : (i : Int) < h.length := by omega
      have htake : prs (h.take (i + 1)) = prs (h.take i) ++ [(ak, av)] := by rw [List.take_succ_eq_append_getElem hlt, ← ha]; simp [prs]
      have HT := Lib.hid htake
      have hl1 : (prs (h.take i)).length ≤ 1000 := by simp [prs]; omega
      clear hc f0 f1 f2 ha htake
      obtain ⟨A3, c3, rfl, hown3⟩ := Own.of_row hown (flat_one _)
      have HO := Lib.hid hown3
      clear hown hown3
      go_wp2
      go_region_law (first
        | (go_simp; go_at_call 27; refine (pair_any _ _ wr.drew).mono ?_; rintro e w2 ⟨rfl, hb2⟩; (have hb4 : Below wr.heap.size wr w2 := (Below.refl _ _).drew.trans (hb2.mono (by simp))); (obtain ⟨v2, w4, hrun, hacc2, hb5⟩ := run_push w2 w.heap.size w2.heap.size rfl (by have := hB.size; have := hb4.size; omega) _ (prs (h.take i)) (HO.out.later hb4).row (ak, av) hl1); (have Hrun := Lib.hid hrun); clear hrun)
        | (refine upon_append _ _ _ rfl rfl rfl Hrun.out ?_))
      all_goals
        have hBn : Below w.heap.size w w4 := (hB.trans (hb4.mono hB.size)).trans hb5
        have HBn := Lib.hid hBn
        clear hBn hb4 hb5 hb2 Hrun k0 k1
        go_wp2
        go_roundw
        case rel => exact ⟨i + 1, by go_num, by omega, by rw [HT.out]; exact hacc2, HBn.out⟩
        case measure => simp [intOf]; omega
    · obtain rfl : i = h.length := by omega
      rw [List.take_length] at hown
      obtain ⟨A3, c3, rfl, hown3⟩ := Own.of_row hown (flat_one _)
      go_wp2
      go_ret
      obtain ⟨p, hp⟩ : ∃ p, p = prs h := ⟨_, rfl⟩
      have hpl : p.length = h.length := by rw [hp]; simp [prs]
      rw [← hp] at hown3 ⊢
      rw [← hpl]
      exact ⟨_, _, rfl, hown3, hB⟩
theorem run_pushA (W : World) (base q : Nat) (hq : W.heap.size = q) (hb : base ≤ W.heap.size) (v : Value) (acc : List Act) (hown : W.ownsRow base 29 3 v acc.length (flatA acc)) (p : Act) (hn : acc.length ≤ 1000) :
    ∃ v' w', (Builtin.append_ #[22, 22] 22 #[v, .slice (some ⟨q, 0, none⟩) 1 1]).run Try.prog (W.alloc (.cells #[.string p.key, .int .i64 p.v, .bool p.gone] 29)) = .ok v' w' ∧
      w'.ownsRow base 29 3 v' (acc ++ [p]).length (flatA (acc ++ [p])) ∧ Below base W w' := by
  subst hq
  obtain ⟨i0, hi0, hz0, hz1, hz2⟩ := info_parts infoA
  obtain ⟨v', w', h1, h2, h3, h4⟩ := run_app (P := Try.prog) (W.alloc (.cells #[.string p.key, .int .i64 p.v, .bool p.gone] 29)) base 22 22 29 i0 _ 3 32 Try.underlying22 hi0 hz0 hz1 hz2 rfl (by omega)
    (hown.alloc _) (B := W.heap.size + 1) (A := some ⟨W.heap.size, 0, none⟩) (m := 1) (c := 1) (news := [.string p.key, .int .i64 p.v, .bool p.gone])
    ⟨rfl, by omega, by intro u hu; simp only [List.mem_cons, List.not_mem_nil, or_false] at hu; rcases hu with rfl | rfl | rfl <;> rfl, fun _ => ⟨_, _, rfl, by omega, fun j u hu => by
      rw [Nat.zero_add, cell_of_row _ _ j _ _ (0, 0) (heap_alloc_new _ _)]
      simpa using hu⟩⟩ (by omega) (by omega) (by simp; omega)
  refine ⟨v', w', h1, ?_, ?_⟩
  · have e : flatA (acc ++ [p]) = flatA acc ++ [.string p.key, .int .i64 p.v, .bool p.gone] := by simp [flatA]
    rw [e]
    simpa using h2
  · exact ((Below.refl base W).alloc hb _).grown h3 (by simp; omega) (fun k hk => (hown.lt k hk).1)
set_option maxRecDepth 100000 in
set_option maxHeartbeats 1000000 in
theorem puts_any (h : List Act) (H : Option Addr) (d : Nat) (w : World) (hh : Rd w w.heap.size 3 H h.length d (flatA h)) (hn : h.length ≤ 1000) :
    Calls Try.prog 16 #[.slice H h.length d] w (NewRow 29 3 (flatA (pts h)) h.length w) := by
  have HH := Lib.hid hh
  clear hh
  go_enter Try.func16, Try.ntmps16
  go_wp2
  go_loopw [3, 7] (fun v q wr => ∃ i : Nat, q = .int .i64 i ∧ i ≤ h.length ∧ wr.ownsRow w.heap.size 29 3 v (pts (h.take i)).length (flatA (pts (h.take i))) ∧ Below w.heap.size w wr) (fun _ q _ => (h.length - intOf q).toNat)
  case atStart => exact ⟨0, rfl, Nat.zero_le _, by simpa [pts, flatA] using World.ownsRow_nil _ _ _ _, Below.refl _ _⟩
  case round =>
    obtain ⟨i, rfl, hi, hown, hB⟩ := hrel
    by_cases hlt : i < h.length
    · obtain ⟨b, o, rfl, hb, hc⟩ := HH.out.at_ (by omega)
      obtain ⟨f0, f1, f2⟩ := flatA_at h i hlt
      obtain ⟨⟨ak, av, ag⟩, ha⟩ : ∃ a, a = h[i] := ⟨_, rfl⟩
      rw [← ha] at f0 f1 f2
      have k0 : wr.cell? ⟨b, o + i * 3, none⟩ = some (.string ak) := (hB.cell (p := ⟨b, o + i * 3, none⟩) hb).trans (hc _ _ f0)
      have k1 : wr.cell? ⟨b, o + i * 3 + 1, none⟩ = some (.int .i64 av) := (hB.cell (p := ⟨b, o + i * 3 + 1, none⟩) hb).trans (hc _ _ f1)
      have hi1 : (i : Int) < h.length := by omega
      have htake : pts (h.take (i + 1)) = pts (h.take i) ++ [⟨ak, av, false⟩] := by rw [List.take_succ_eq_append_getElem hlt, ← ha]; simp [pts]
      have HT := Lib.hid htake
      have hl1 : (pts (h.take i)).length ≤ 1000 := by simp [pts]; omega
      clear hc f0 f1 f2 ha htake
      obtain ⟨A3, c3, rfl, hown3⟩ := Own.of_row hown (flatA_one _)
      have HO := Lib.hid hown3
      clear hown hown3
      go_wp2
      obtain ⟨v2, w4, hrun, hacc2, hb4⟩ := run_pushA wr.drew w.heap.size wr.heap.size (by simp) (by have := hB.size; simp; omega) _ (pts (h.take i)) (HO.out.later (Below.refl _ _).drew).row ⟨ak, av, false⟩ hl1
      have Hrun := Lib.hid hrun
      have HBn := Lib.hid ((hB.drew).trans hb4)
      clear hrun hb4
      go_region_law (refine upon_append _ _ _ rfl rfl rfl Hrun.out ?_)
      all_goals
        clear Hrun k0 k1
        go_wp2
        go_roundw
        case rel => exact ⟨i + 1, by go_num, by omega, by rw [HT.out]; exact hacc2, HBn.out⟩
        case measure => simp [intOf]; omega
    · obtain rfl : i = h.length := by omega
      rw [List.take_length] at hown
      obtain ⟨A3, c3, rfl, hown3⟩ := Own.of_row hown (flatA_one _)
      go_wp2
      go_ret
      obtain ⟨p, hp⟩ : ∃ p, p = pts h := ⟨_, rfl⟩
      have hpl : p.length = h.length := by rw [hp]; simp [pts]
      rw [← hp] at hown3 ⊢
      rw [← hpl]
      exact ⟨_, _, rfl, hown3, hB⟩
end SortS
end Go.Proofs.Ytolfockpiioncaa
