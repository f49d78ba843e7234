/- SpanAdds answers true for every list of pairs of whole numbers and every two numbers. No condition. -/
import Derived.Test.YtcdpmedihgobcaaSpanKit1
import Derived.ProofKit
import Derived.OpenShut
namespace Go.Proofs.Ytcdpmedihgobcaa.lawSpanAdds
open Go.ChangeShapes Go.WideShapes Go.ChangeAt Go.RowKit Sp
theorem right_one {v : Int} (h : 1 ≤ v ∧ v ≤ 1099511627776) : RightF 1 [(v, v)] := ⟨h.1, Int.le_refl _, h.2, trivial⟩
theorem has_one (v x : Int) : hasB [(v, v)] x = decide (x = v) := by
  rw [has_cons, has_nil, Bool.or_false]
  congr 1
  exact propext ⟨fun h => by dsimp only at h; omega, fun h => ⟨by dsimp only; omega, by dsimp only; omega⟩⟩
theorem set_one (v : Int) (h : 1 ≤ v ∧ v ≤ 1099511627776) : SetIs [v] [(v, v)] := ⟨right_one h, fun n => by rw [has_one]; simp⟩
/-- the set of one number, of a row that lies there new -/
theorem of_one (v : Int) (w : World) (h : 1 ≤ v ∧ v ≤ 1099511627776) : Calls Try.prog 19 #[.slice (some ⟨w.heap.size, 0, none⟩) 1 1] (w.alloc (.cells #[.int .i64 v] 2)) fun e w' => ∃ A c, e = .returned (.tuple #[.slice A 1 c, .int .i64 0]) ∧ Rd w' w'.heap.size 2 A 1 c (runsC [(v, v)]) ∧ Below w.heap.size w w' := by
  refine (of_any [v] 1 _ 1 _ rfl (by omega) (rd_new w [v] 1 rfl)).mono ?_
  rintro e w2 (⟨_, l, A, c, rfl, hs, _, ho, hb⟩ | ⟨⟨x, hx, hx2⟩, _⟩)
  · have : l = [(v, v)] := hs.eq (set_one v h)
    subst this
    exact ⟨A, c, rfl, ho.rd, ((Below.refl w.heap.size w).alloc (Nat.le_refl _) _).trans (hb.mono (by simp))⟩
  · rw [List.mem_singleton.1 hx] at hx2
    omega
set_option maxRecDepth 100000 in
set_option maxHeartbeats 4000000 in
theorem walk_any (ua : List (Int × Int)) (Aa : Option Addr) (ca : Nat) (v t : Int) (w : World) (hra : Rd w w.heap.size 2 Aa ua.length ca (runsC ua)) (_ : -9223372036854775808 ≤ v ∧ v ≤ 9223372036854775807) (_ : -9223372036854775808 ≤ t ∧ t ≤ 9223372036854775807) :
    Calls Try.prog 10 #[.slice Aa ua.length ca, .int .i64 v, .int .i64 t] w fun e w' => e = .returned (.bool true) ∧ Below w.heap.size w w' := by
  obtain ⟨na, hna⟩ : ∃ n, n = ua.length := ⟨_, rfl⟩
  rw [← hna] at hra ⊢
  have HLa : Hid (ua.length = na) := hna.symm
  have Ra := Lib.hid hra
  clear hra hna
  have HB0 : Hid (Below w.heap.size w w) := Below.refl _ _
  cases hz : ([⟨Aa, na, ca, ua⟩] : List SP).all SP.ok with
  | false =>
    have HZ := Lib.hid hz
    clear hz
    go_enter Try.func10, Try.ntmps10
    go_wp2_with fail
    refine (awake_any _).mono ?_
    rintro e w1 ⟨rfl, hb⟩
    have HB1 := Lib.hid (HB0.out.trans (hb.mono HB0.out.size))
    have Ra := Lib.hid (Ra.out.later hb)
    clear hb
    go_wp2_with fail
    refine (sets_to [⟨Aa, na, ca, ua⟩] #[.slice Aa na ca] 1 w1 rfl rfl (by omega) (by intro p hp; simp only [List.mem_cons, List.not_mem_nil, or_false] at hp; rcases hp with rfl; exact ⟨HLa.out, Ra.out⟩) false HZ.out).mono ?_
    rintro e w2 ⟨rfl, hb⟩
    have HB2 := Lib.hid (HB1.out.trans (hb.mono HB1.out.size))
    have Ra := Lib.hid (Ra.out.later hb)
    clear hb
    go_wp2_with fail
    refine (awake_any _).mono ?_
    rintro e w3 ⟨rfl, hb⟩
    have HB3 := Lib.hid (HB2.out.trans (hb.mono HB2.out.size))
    have Ra := Lib.hid (Ra.out.later hb)
    clear hb
    go_wp2
    go_ret
    exact ⟨rfl, HB3.out⟩
  | true =>
    have HZ := Lib.hid hz
    simp only [List.all_cons, List.all_nil, SP.ok, Bool.and_true, Bool.and_eq_true, decide_eq_true_eq] at hz
    obtain ⟨h40a, hRa⟩ := hz
    have HRa0 := Lib.hid hRa
    have HRa : Hid (RightF 1 ua) := Lib.hid (of_decide_eq_true (p := RightF 1 ua) hRa)
    clear hRa
    rcases (by omega : v < 1 ∨ (1 ≤ v ∧ 1099511627776 < v) ∨ (1 ≤ v ∧ v ≤ 1099511627776)) with h1 | ⟨h1, h2⟩ | ⟨h1, h2⟩
    · have g1 : decide (v < 1) = true := decide_eq_true h1
      go_enter Try.func10, Try.ntmps10
      go_wp2_with fail
      refine (awake_any _).mono ?_
      rintro e w1 ⟨rfl, hb⟩
      have HB1 := Lib.hid (HB0.out.trans (hb.mono HB0.out.size))
      have Ra := Lib.hid (Ra.out.later hb)
      clear hb
      go_wp2_with fail
      refine (sets_to [⟨Aa, na, ca, ua⟩] #[.slice Aa na ca] 1 w1 rfl rfl (by omega) (by intro p hp; simp only [List.mem_cons, List.not_mem_nil, or_false] at hp; rcases hp with rfl; exact ⟨HLa.out, Ra.out⟩) true HZ.out).mono ?_
      rintro e w2 ⟨rfl, hb⟩
      have HB2 := Lib.hid (HB1.out.trans (hb.mono HB1.out.size))
      have Ra := Lib.hid (Ra.out.later hb)
      clear hb
      go_wp2_with fail
      refine (awake_any _).mono ?_
      rintro e w3 ⟨rfl, hb⟩
      have HB3 := Lib.hid (HB2.out.trans (hb.mono HB2.out.size))
      have Ra := Lib.hid (Ra.out.later hb)
      clear hb
      go_wp2
      go_ret
      exact ⟨rfl, HB3.out⟩
    · have g1 : decide (v < 1) = false := decide_eq_false (by omega)
      have g2 : decide (1099511627776 < v) = true := decide_eq_true h2
      go_enter Try.func10, Try.ntmps10
      go_wp2_with fail
      refine (awake_any _).mono ?_
      rintro e w1 ⟨rfl, hb⟩
      have HB1 := Lib.hid (HB0.out.trans (hb.mono HB0.out.size))
      have Ra := Lib.hid (Ra.out.later hb)
      clear hb
      go_wp2_with fail
      refine (sets_to [⟨Aa, na, ca, ua⟩] #[.slice Aa na ca] 1 w1 rfl rfl (by omega) (by intro p hp; simp only [List.mem_cons, List.not_mem_nil, or_false] at hp; rcases hp with rfl; exact ⟨HLa.out, Ra.out⟩) true HZ.out).mono ?_
      rintro e w2 ⟨rfl, hb⟩
      have HB2 := Lib.hid (HB1.out.trans (hb.mono HB1.out.size))
      have Ra := Lib.hid (Ra.out.later hb)
      clear hb
      go_wp2_with fail
      refine (awake_any _).mono ?_
      rintro e w3 ⟨rfl, hb⟩
      have HB3 := Lib.hid (HB2.out.trans (hb.mono HB2.out.size))
      have Ra := Lib.hid (Ra.out.later hb)
      clear hb
      go_wp2
      go_ret
      exact ⟨rfl, HB3.out⟩
    · have g1 : decide (v < 1) = false := decide_eq_false (by omega)
      have g2 : decide (1099511627776 < v) = false := decide_eq_false (by omega)
      by_cases hne : t = v
      · subst hne
        cases hp : hasB ua t with
        | true =>
          have HP := Lib.hid hp
          clear hp
          go_enter Try.func10, Try.ntmps10
          go_wp2_with fail
          refine (awake_any _).mono ?_
          rintro e w1 ⟨rfl, hb⟩
          have HB1 := Lib.hid (HB0.out.trans (hb.mono HB0.out.size))
          have Ra := Lib.hid (Ra.out.later hb)
          clear hb
          go_wp2_with fail
          refine (sets_to [⟨Aa, na, ca, ua⟩] #[.slice Aa na ca] 1 w1 rfl rfl (by omega) (by intro p hp; simp only [List.mem_cons, List.not_mem_nil, or_false] at hp; rcases hp with rfl; exact ⟨HLa.out, Ra.out⟩) true HZ.out).mono ?_
          rintro e w2 ⟨rfl, hb⟩
          have HB2 := Lib.hid (HB1.out.trans (hb.mono HB1.out.size))
          have Ra := Lib.hid (Ra.out.later hb)
          clear hb
          go_wp2_with fail
          refine (runs_to ua na Aa ca w2 HLa.out (by omega) Ra.out).mono ?_
          rintro e w3 ⟨Ax, cx, rfl, hrx, hb⟩
          have HB3 := Lib.hid (HB2.out.trans (hb.mono HB2.out.size))
          have Ra := Lib.hid (Ra.out.later hb)
          clear hb
          have Rx := Lib.hid hrx
          clear hrx
          go_wp2_with fail
          refine (of_one t w3 ⟨h1, h2⟩).mono ?_
          rintro e w4 ⟨Ao, co, rfl, hro, hb⟩
          have HB4 := Lib.hid (HB3.out.trans (hb.mono HB3.out.size))
          have Ra := Lib.hid (Ra.out.later hb)
          have Rx := Lib.hid (Rx.out.later hb)
          clear hb
          have Ro := Lib.hid hro
          clear hro
          go_wp2_with fail
          refine (union_to ua [(t, t)] na 1 Ax Ao cx co w4 HLa.out rfl (by omega) (by omega) Rx.out Ro.out HRa.out (right_one ⟨h1, h2⟩)).mono ?_
          rintro e w5 ⟨uy, ny, Ay, cy, rfl, HLy, HPy, hqy, Ry, hb⟩
          have HB5 := Lib.hid (HB4.out.trans (hb.mono HB4.out.size))
          have Ra := Lib.hid (Ra.out.later hb)
          have Rx := Lib.hid (Rx.out.later hb)
          have Ro := Lib.hid (Ro.out.later hb)
          clear hb
          have HY : Hid (∀ x, hasB uy x = (hasB ua x || decide (x = t))) := fun x => by rw [HPy.out.has, has_one]; rfl
          have HYR : Hid (rightB uy = true) := decide_eq_true HPy.out.right
          have HCT := Lib.hid (count_one HRa.out HPy.out.right ⟨h1, h2⟩ HY.out)
          rw [HP.out] at HCT
          have hcb := countI_bound HRa.out
          obtain ⟨k, hk⟩ : ∃ k, k = countI ua := ⟨_, rfl⟩
          rw [← hk] at HCT hcb
          have HK := Lib.hid hk.symm
          clear hk
          go_wp2_with fail
          refine (has_to ua na Ax cx w5 t HLa.out (by omega) Rx.out true (by rw [HRa0.out, HP.out]; rfl)).mono ?_
          rintro e w6 ⟨rfl, hb⟩
          have HB6 := Lib.hid (HB5.out.trans (hb.mono HB5.out.size))
          have Ra := Lib.hid (Ra.out.later hb)
          have Rx := Lib.hid (Rx.out.later hb)
          have Ro := Lib.hid (Ro.out.later hb)
          have Ry := Lib.hid (Ry.out.later hb)
          clear hb
          go_wp2_with fail
          refine (has_to uy ny Ay cy w6 t HLy.out (by omega) Ry.out true (by rw [HYR.out, HY.out, decide_eq_true rfl, Bool.or_true]; rfl)).mono ?_
          rintro e w7 ⟨rfl, hb⟩
          have HB7 := Lib.hid (HB6.out.trans (hb.mono HB6.out.size))
          have Ra := Lib.hid (Ra.out.later hb)
          have Rx := Lib.hid (Rx.out.later hb)
          have Ro := Lib.hid (Ro.out.later hb)
          have Ry := Lib.hid (Ry.out.later hb)
          clear hb
          go_wp2_with fail
          refine (count_to uy ny Ay cy w7 HLy.out (by omega) Ry.out true HYR.out (k + 0) (by rw [if_pos rfl, HCT.out]; rfl)).mono ?_
          rintro e w8 ⟨rfl, hb⟩
          have HB8 := Lib.hid (HB7.out.trans (hb.mono HB7.out.size))
          have Ra := Lib.hid (Ra.out.later hb)
          have Rx := Lib.hid (Rx.out.later hb)
          have Ro := Lib.hid (Ro.out.later hb)
          have Ry := Lib.hid (Ry.out.later hb)
          clear hb
          go_wp2_with fail
          refine (count_to ua na Ax cx w8 HLa.out (by omega) Rx.out true HRa0.out k (by rw [if_pos rfl, HK.out])).mono ?_
          rintro e w9 ⟨rfl, hb⟩
          have HB9 := Lib.hid (HB8.out.trans (hb.mono HB8.out.size))
          have Ra := Lib.hid (Ra.out.later hb)
          have Rx := Lib.hid (Rx.out.later hb)
          have Ro := Lib.hid (Ro.out.later hb)
          have Ry := Lib.hid (Ry.out.later hb)
          clear hb
          go_wp2_with fail
          refine (right_to uy ny Ay cy w9 HLy.out (by omega) Ry.out true HYR.out).mono ?_
          rintro e w10 ⟨rfl, hb⟩
          have HB10 := Lib.hid (HB9.out.trans (hb.mono HB9.out.size))
          have Ra := Lib.hid (Ra.out.later hb)
          have Rx := Lib.hid (Rx.out.later hb)
          have Ro := Lib.hid (Ro.out.later hb)
          have Ry := Lib.hid (Ry.out.later hb)
          clear hb
          go_wp2
          go_ret
          exact ⟨rfl, HB10.out⟩
        | false =>
          have HP := Lib.hid hp
          clear hp
          go_enter Try.func10, Try.ntmps10
          go_wp2_with fail
          refine (awake_any _).mono ?_
          rintro e w1 ⟨rfl, hb⟩
          have HB1 := Lib.hid (HB0.out.trans (hb.mono HB0.out.size))
          have Ra := Lib.hid (Ra.out.later hb)
          clear hb
          go_wp2_with fail
          refine (sets_to [⟨Aa, na, ca, ua⟩] #[.slice Aa na ca] 1 w1 rfl rfl (by omega) (by intro p hp; simp only [List.mem_cons, List.not_mem_nil, or_false] at hp; rcases hp with rfl; exact ⟨HLa.out, Ra.out⟩) true HZ.out).mono ?_
          rintro e w2 ⟨rfl, hb⟩
          have HB2 := Lib.hid (HB1.out.trans (hb.mono HB1.out.size))
          have Ra := Lib.hid (Ra.out.later hb)
          clear hb
          go_wp2_with fail
          refine (runs_to ua na Aa ca w2 HLa.out (by omega) Ra.out).mono ?_
          rintro e w3 ⟨Ax, cx, rfl, hrx, hb⟩
          have HB3 := Lib.hid (HB2.out.trans (hb.mono HB2.out.size))
          have Ra := Lib.hid (Ra.out.later hb)
          clear hb
          have Rx := Lib.hid hrx
          clear hrx
          go_wp2_with fail
          refine (of_one t w3 ⟨h1, h2⟩).mono ?_
          rintro e w4 ⟨Ao, co, rfl, hro, hb⟩
          have HB4 := Lib.hid (HB3.out.trans (hb.mono HB3.out.size))
          have Ra := Lib.hid (Ra.out.later hb)
          have Rx := Lib.hid (Rx.out.later hb)
          clear hb
          have Ro := Lib.hid hro
          clear hro
          go_wp2_with fail
          refine (union_to ua [(t, t)] na 1 Ax Ao cx co w4 HLa.out rfl (by omega) (by omega) Rx.out Ro.out HRa.out (right_one ⟨h1, h2⟩)).mono ?_
          rintro e w5 ⟨uy, ny, Ay, cy, rfl, HLy, HPy, hqy, Ry, hb⟩
          have HB5 := Lib.hid (HB4.out.trans (hb.mono HB4.out.size))
          have Ra := Lib.hid (Ra.out.later hb)
          have Rx := Lib.hid (Rx.out.later hb)
          have Ro := Lib.hid (Ro.out.later hb)
          clear hb
          have HY : Hid (∀ x, hasB uy x = (hasB ua x || decide (x = t))) := fun x => by rw [HPy.out.has, has_one]; rfl
          have HYR : Hid (rightB uy = true) := decide_eq_true HPy.out.right
          have HCT := Lib.hid (count_one HRa.out HPy.out.right ⟨h1, h2⟩ HY.out)
          rw [HP.out] at HCT
          have hcb := countI_bound HRa.out
          obtain ⟨k, hk⟩ : ∃ k, k = countI ua := ⟨_, rfl⟩
          rw [← hk] at HCT hcb
          have HK := Lib.hid hk.symm
          clear hk
          go_wp2_with fail
          refine (has_to ua na Ax cx w5 t HLa.out (by omega) Rx.out false (by rw [HRa0.out, HP.out]; rfl)).mono ?_
          rintro e w6 ⟨rfl, hb⟩
          have HB6 := Lib.hid (HB5.out.trans (hb.mono HB5.out.size))
          have Ra := Lib.hid (Ra.out.later hb)
          have Rx := Lib.hid (Rx.out.later hb)
          have Ro := Lib.hid (Ro.out.later hb)
          have Ry := Lib.hid (Ry.out.later hb)
          clear hb
          go_wp2_with fail
          refine (has_to uy ny Ay cy w6 t HLy.out (by omega) Ry.out true (by rw [HYR.out, HY.out, decide_eq_true rfl, Bool.or_true]; rfl)).mono ?_
          rintro e w7 ⟨rfl, hb⟩
          have HB7 := Lib.hid (HB6.out.trans (hb.mono HB6.out.size))
          have Ra := Lib.hid (Ra.out.later hb)
          have Rx := Lib.hid (Rx.out.later hb)
          have Ro := Lib.hid (Ro.out.later hb)
          have Ry := Lib.hid (Ry.out.later hb)
          clear hb
          go_wp2_with fail
          refine (count_to uy ny Ay cy w7 HLy.out (by omega) Ry.out true HYR.out (k + 1) (by rw [if_pos rfl, HCT.out]; rfl)).mono ?_
          rintro e w8 ⟨rfl, hb⟩
          have HB8 := Lib.hid (HB7.out.trans (hb.mono HB7.out.size))
          have Ra := Lib.hid (Ra.out.later hb)
          have Rx := Lib.hid (Rx.out.later hb)
          have Ro := Lib.hid (Ro.out.later hb)
          have Ry := Lib.hid (Ry.out.later hb)
          clear hb
          go_wp2_with fail
          refine (count_to ua na Ax cx w8 HLa.out (by omega) Rx.out true HRa0.out k (by rw [if_pos rfl, HK.out])).mono ?_
          rintro e w9 ⟨rfl, hb⟩
          have HB9 := Lib.hid (HB8.out.trans (hb.mono HB8.out.size))
          have Ra := Lib.hid (Ra.out.later hb)
          have Rx := Lib.hid (Rx.out.later hb)
          have Ro := Lib.hid (Ro.out.later hb)
          have Ry := Lib.hid (Ry.out.later hb)
          clear hb
          go_wp2_with fail
          refine (right_to uy ny Ay cy w9 HLy.out (by omega) Ry.out true HYR.out).mono ?_
          rintro e w10 ⟨rfl, hb⟩
          have HB10 := Lib.hid (HB9.out.trans (hb.mono HB9.out.size))
          have Ra := Lib.hid (Ra.out.later hb)
          have Rx := Lib.hid (Rx.out.later hb)
          have Ro := Lib.hid (Ro.out.later hb)
          have Ry := Lib.hid (Ry.out.later hb)
          clear hb
          go_wp2
          go_ret
          exact ⟨rfl, HB10.out⟩
      · have f9 : (t == v) = false := by simpa using hne
        obtain ⟨s, hs⟩ : ∃ s, s = hasB ua t := ⟨_, rfl⟩
        have HS := Lib.hid hs.symm
        clear hs
        cases hp : hasB ua v with
        | true =>
          have HP := Lib.hid hp
          clear hp
          go_enter Try.func10, Try.ntmps10
          go_wp2_with fail
          refine (awake_any _).mono ?_
          rintro e w1 ⟨rfl, hb⟩
          have HB1 := Lib.hid (HB0.out.trans (hb.mono HB0.out.size))
          have Ra := Lib.hid (Ra.out.later hb)
          clear hb
          go_wp2_with fail
          refine (sets_to [⟨Aa, na, ca, ua⟩] #[.slice Aa na ca] 1 w1 rfl rfl (by omega) (by intro p hp; simp only [List.mem_cons, List.not_mem_nil, or_false] at hp; rcases hp with rfl; exact ⟨HLa.out, Ra.out⟩) true HZ.out).mono ?_
          rintro e w2 ⟨rfl, hb⟩
          have HB2 := Lib.hid (HB1.out.trans (hb.mono HB1.out.size))
          have Ra := Lib.hid (Ra.out.later hb)
          clear hb
          go_wp2_with fail
          refine (runs_to ua na Aa ca w2 HLa.out (by omega) Ra.out).mono ?_
          rintro e w3 ⟨Ax, cx, rfl, hrx, hb⟩
          have HB3 := Lib.hid (HB2.out.trans (hb.mono HB2.out.size))
          have Ra := Lib.hid (Ra.out.later hb)
          clear hb
          have Rx := Lib.hid hrx
          clear hrx
          go_wp2_with fail
          refine (of_one v w3 ⟨h1, h2⟩).mono ?_
          rintro e w4 ⟨Ao, co, rfl, hro, hb⟩
          have HB4 := Lib.hid (HB3.out.trans (hb.mono HB3.out.size))
          have Ra := Lib.hid (Ra.out.later hb)
          have Rx := Lib.hid (Rx.out.later hb)
          clear hb
          have Ro := Lib.hid hro
          clear hro
          go_wp2_with fail
          refine (union_to ua [(v, v)] na 1 Ax Ao cx co w4 HLa.out rfl (by omega) (by omega) Rx.out Ro.out HRa.out (right_one ⟨h1, h2⟩)).mono ?_
          rintro e w5 ⟨uy, ny, Ay, cy, rfl, HLy, HPy, hqy, Ry, hb⟩
          have HB5 := Lib.hid (HB4.out.trans (hb.mono HB4.out.size))
          have Ra := Lib.hid (Ra.out.later hb)
          have Rx := Lib.hid (Rx.out.later hb)
          have Ro := Lib.hid (Ro.out.later hb)
          clear hb
          have HY : Hid (∀ x, hasB uy x = (hasB ua x || decide (x = v))) := fun x => by rw [HPy.out.has, has_one]; rfl
          have HYR : Hid (rightB uy = true) := decide_eq_true HPy.out.right
          have HCT := Lib.hid (count_one HRa.out HPy.out.right ⟨h1, h2⟩ HY.out)
          rw [HP.out] at HCT
          have hcb := countI_bound HRa.out
          obtain ⟨k, hk⟩ : ∃ k, k = countI ua := ⟨_, rfl⟩
          rw [← hk] at HCT hcb
          have HK := Lib.hid hk.symm
          clear hk
          go_wp2_with fail
          refine (has_to ua na Ax cx w5 v HLa.out (by omega) Rx.out true (by rw [HRa0.out, HP.out]; rfl)).mono ?_
          rintro e w6 ⟨rfl, hb⟩
          have HB6 := Lib.hid (HB5.out.trans (hb.mono HB5.out.size))
          have Ra := Lib.hid (Ra.out.later hb)
          have Rx := Lib.hid (Rx.out.later hb)
          have Ro := Lib.hid (Ro.out.later hb)
          have Ry := Lib.hid (Ry.out.later hb)
          clear hb
          go_wp2_with fail
          refine (has_to uy ny Ay cy w6 v HLy.out (by omega) Ry.out true (by rw [HYR.out, HY.out, decide_eq_true rfl, Bool.or_true]; rfl)).mono ?_
          rintro e w7 ⟨rfl, hb⟩
          have HB7 := Lib.hid (HB6.out.trans (hb.mono HB6.out.size))
          have Ra := Lib.hid (Ra.out.later hb)
          have Rx := Lib.hid (Rx.out.later hb)
          have Ro := Lib.hid (Ro.out.later hb)
          have Ry := Lib.hid (Ry.out.later hb)
          clear hb
          go_wp2_with fail
          refine (count_to uy ny Ay cy w7 HLy.out (by omega) Ry.out true HYR.out (k + 0) (by rw [if_pos rfl, HCT.out]; rfl)).mono ?_
          rintro e w8 ⟨rfl, hb⟩
          have HB8 := Lib.hid (HB7.out.trans (hb.mono HB7.out.size))
          have Ra := Lib.hid (Ra.out.later hb)
          have Rx := Lib.hid (Rx.out.later hb)
          have Ro := Lib.hid (Ro.out.later hb)
          have Ry := Lib.hid (Ry.out.later hb)
          clear hb
          go_wp2_with fail
          refine (count_to ua na Ax cx w8 HLa.out (by omega) Rx.out true HRa0.out k (by rw [if_pos rfl, HK.out])).mono ?_
          rintro e w9 ⟨rfl, hb⟩
          have HB9 := Lib.hid (HB8.out.trans (hb.mono HB8.out.size))
          have Ra := Lib.hid (Ra.out.later hb)
          have Rx := Lib.hid (Rx.out.later hb)
          have Ro := Lib.hid (Ro.out.later hb)
          have Ry := Lib.hid (Ry.out.later hb)
          clear hb
          go_wp2_with fail
          refine (has_to uy ny Ay cy w9 t HLy.out (by omega) Ry.out s (by rw [HYR.out, HY.out, decide_eq_false (fun h => hne h), Bool.or_false, HS.out]; rfl)).mono ?_
          rintro e w10 ⟨rfl, hb⟩
          have HB10 := Lib.hid (HB9.out.trans (hb.mono HB9.out.size))
          have Ra := Lib.hid (Ra.out.later hb)
          have Rx := Lib.hid (Rx.out.later hb)
          have Ro := Lib.hid (Ro.out.later hb)
          have Ry := Lib.hid (Ry.out.later hb)
          clear hb
          go_wp2_with fail
          refine (has_to ua na Ax cx w10 t HLa.out (by omega) Rx.out s (by rw [HRa0.out, HS.out]; rfl)).mono ?_
          rintro e w11 ⟨rfl, hb⟩
          have HB11 := Lib.hid (HB10.out.trans (hb.mono HB10.out.size))
          have Ra := Lib.hid (Ra.out.later hb)
          have Rx := Lib.hid (Rx.out.later hb)
          have Ro := Lib.hid (Ro.out.later hb)
          have Ry := Lib.hid (Ry.out.later hb)
          clear hb
          have fs : (s == s) = true := by cases s <;> rfl
          go_wp2_with fail
          refine (right_to uy ny Ay cy w11 HLy.out (by omega) Ry.out true HYR.out).mono ?_
          rintro e w12 ⟨rfl, hb⟩
          have HB12 := Lib.hid (HB11.out.trans (hb.mono HB11.out.size))
          have Ra := Lib.hid (Ra.out.later hb)
          have Rx := Lib.hid (Rx.out.later hb)
          have Ro := Lib.hid (Ro.out.later hb)
          have Ry := Lib.hid (Ry.out.later hb)
          clear hb
          go_wp2
          go_ret
          exact ⟨rfl, HB12.out⟩
        | false =>
          have HP := Lib.hid hp
          clear hp
          go_enter Try.func10, Try.ntmps10
          go_wp2_with fail
          refine (awake_any _).mono ?_
          rintro e w1 ⟨rfl, hb⟩
          have HB1 := Lib.hid (HB0.out.trans (hb.mono HB0.out.size))
          have Ra := Lib.hid (Ra.out.later hb)
          clear hb
          go_wp2_with fail
          refine (sets_to [⟨Aa, na, ca, ua⟩] #[.slice Aa na ca] 1 w1 rfl rfl (by omega) (by intro p hp; simp only [List.mem_cons, List.not_mem_nil, or_false] at hp; rcases hp with rfl; exact ⟨HLa.out, Ra.out⟩) true HZ.out).mono ?_
          rintro e w2 ⟨rfl, hb⟩
          have HB2 := Lib.hid (HB1.out.trans (hb.mono HB1.out.size))
          have Ra := Lib.hid (Ra.out.later hb)
          clear hb
          go_wp2_with fail
          refine (runs_to ua na Aa ca w2 HLa.out (by omega) Ra.out).mono ?_
          rintro e w3 ⟨Ax, cx, rfl, hrx, hb⟩
          have HB3 := Lib.hid (HB2.out.trans (hb.mono HB2.out.size))
          have Ra := Lib.hid (Ra.out.later hb)
          clear hb
          have Rx := Lib.hid hrx
          clear hrx
          go_wp2_with fail
          refine (of_one v w3 ⟨h1, h2⟩).mono ?_
          rintro e w4 ⟨Ao, co, rfl, hro, hb⟩
          have HB4 := Lib.hid (HB3.out.trans (hb.mono HB3.out.size))
          have Ra := Lib.hid (Ra.out.later hb)
          have Rx := Lib.hid (Rx.out.later hb)
          clear hb
          have Ro := Lib.hid hro
          clear hro
          go_wp2_with fail
          refine (union_to ua [(v, v)] na 1 Ax Ao cx co w4 HLa.out rfl (by omega) (by omega) Rx.out Ro.out HRa.out (right_one ⟨h1, h2⟩)).mono ?_
          rintro e w5 ⟨uy, ny, Ay, cy, rfl, HLy, HPy, hqy, Ry, hb⟩
          have HB5 := Lib.hid (HB4.out.trans (hb.mono HB4.out.size))
          have Ra := Lib.hid (Ra.out.later hb)
          have Rx := Lib.hid (Rx.out.later hb)
          have Ro := Lib.hid (Ro.out.later hb)
          clear hb
          have HY : Hid (∀ x, hasB uy x = (hasB ua x || decide (x = v))) := fun x => by rw [HPy.out.has, has_one]; rfl
          have HYR : Hid (rightB uy = true) := decide_eq_true HPy.out.right
          have HCT := Lib.hid (count_one HRa.out HPy.out.right ⟨h1, h2⟩ HY.out)
          rw [HP.out] at HCT
          have hcb := countI_bound HRa.out
          obtain ⟨k, hk⟩ : ∃ k, k = countI ua := ⟨_, rfl⟩
          rw [← hk] at HCT hcb
          have HK := Lib.hid hk.symm
          clear hk
          go_wp2_with fail
          refine (has_to ua na Ax cx w5 v HLa.out (by omega) Rx.out false (by rw [HRa0.out, HP.out]; rfl)).mono ?_
          rintro e w6 ⟨rfl, hb⟩
          have HB6 := Lib.hid (HB5.out.trans (hb.mono HB5.out.size))
          have Ra := Lib.hid (Ra.out.later hb)
          have Rx := Lib.hid (Rx.out.later hb)
          have Ro := Lib.hid (Ro.out.later hb)
          have Ry := Lib.hid (Ry.out.later hb)
          clear hb
          go_wp2_with fail
          refine (has_to uy ny Ay cy w6 v HLy.out (by omega) Ry.out true (by rw [HYR.out, HY.out, decide_eq_true rfl, Bool.or_true]; rfl)).mono ?_
          rintro e w7 ⟨rfl, hb⟩
          have HB7 := Lib.hid (HB6.out.trans (hb.mono HB6.out.size))
          have Ra := Lib.hid (Ra.out.later hb)
          have Rx := Lib.hid (Rx.out.later hb)
          have Ro := Lib.hid (Ro.out.later hb)
          have Ry := Lib.hid (Ry.out.later hb)
          clear hb
          go_wp2_with fail
          refine (count_to uy ny Ay cy w7 HLy.out (by omega) Ry.out true HYR.out (k + 1) (by rw [if_pos rfl, HCT.out]; rfl)).mono ?_
          rintro e w8 ⟨rfl, hb⟩
          have HB8 := Lib.hid (HB7.out.trans (hb.mono HB7.out.size))
          have Ra := Lib.hid (Ra.out.later hb)
          have Rx := Lib.hid (Rx.out.later hb)
          have Ro := Lib.hid (Ro.out.later hb)
          have Ry := Lib.hid (Ry.out.later hb)
          clear hb
          go_wp2_with fail
          refine (count_to ua na Ax cx w8 HLa.out (by omega) Rx.out true HRa0.out k (by rw [if_pos rfl, HK.out])).mono ?_
          rintro e w9 ⟨rfl, hb⟩
          have HB9 := Lib.hid (HB8.out.trans (hb.mono HB8.out.size))
          have Ra := Lib.hid (Ra.out.later hb)
          have Rx := Lib.hid (Rx.out.later hb)
          have Ro := Lib.hid (Ro.out.later hb)
          have Ry := Lib.hid (Ry.out.later hb)
          clear hb
          go_wp2_with fail
          refine (has_to uy ny Ay cy w9 t HLy.out (by omega) Ry.out s (by rw [HYR.out, HY.out, decide_eq_false (fun h => hne h), Bool.or_false, HS.out]; rfl)).mono ?_
          rintro e w10 ⟨rfl, hb⟩
          have HB10 := Lib.hid (HB9.out.trans (hb.mono HB9.out.size))
          have Ra := Lib.hid (Ra.out.later hb)
          have Rx := Lib.hid (Rx.out.later hb)
          have Ro := Lib.hid (Ro.out.later hb)
          have Ry := Lib.hid (Ry.out.later hb)
          clear hb
          go_wp2_with fail
          refine (has_to ua na Ax cx w10 t HLa.out (by omega) Rx.out s (by rw [HRa0.out, HS.out]; rfl)).mono ?_
          rintro e w11 ⟨rfl, hb⟩
          have HB11 := Lib.hid (HB10.out.trans (hb.mono HB10.out.size))
          have Ra := Lib.hid (Ra.out.later hb)
          have Rx := Lib.hid (Rx.out.later hb)
          have Ro := Lib.hid (Ro.out.later hb)
          have Ry := Lib.hid (Ry.out.later hb)
          clear hb
          have fs : (s == s) = true := by cases s <;> rfl
          go_wp2_with fail
          refine (right_to uy ny Ay cy w11 HLy.out (by omega) Ry.out true HYR.out).mono ?_
          rintro e w12 ⟨rfl, hb⟩
          have HB12 := Lib.hid (HB11.out.trans (hb.mono HB11.out.size))
          have Ra := Lib.hid (Ra.out.later hb)
          have Rx := Lib.hid (Rx.out.later hb)
          have Ro := Lib.hid (Ro.out.later hb)
          have Ry := Lib.hid (Ry.out.later hb)
          clear hb
          go_wp2
          go_ret
          exact ⟨rfl, HB12.out⟩
set_option maxRecDepth 100000 in
theorem lifted (os : Os) (started : os.Started) (H : Type) (enc : TypeId × Value → H) :
    ReturnsInHanded {} Try.checked os 10 .any (Rows.spanAddsSpec.pre6 enc Try.prog Try.f10 Rows.spanAddsRow.domain false) (Rows.spanAddsSpec.post enc Try.prog Try.f10 false true false false) := by
  refine returnsInHanded_of_change (C := Try.checked) own started (by kernel_rfl) Try.func10
    (ChangeSpec.witness6 (enc := enc) (C := Try.checked) false ⟨#[], #[.slice none 0 0, .int .i64 0, .int .i64 0], []⟩ 8 (by kernel_rfl) (by kernel_rfl) (by kernel_rfl) (by kernel_rfl)) ?_
  intro W base args ds gs before hval0 hW _ _
  have hval : ∀ (j : Nat) t v, Try.f10.params[j]? = some t → args[j]? = some v → Value.okWide Try.prog W .any base t v := hval0
  have hW' := hW
  obtain ⟨p, q, hA0, hV, rfl, hfz, hnd⟩ := hW
  have hA : DataW.TrodAll enc Try.prog W 0 (fun _ => true) true Try.f10.params.toList args.toList ds p := hA0
  rw [Try.params10] at hA hval
  obtain ⟨v0, v1, v2, d0, d1, d2, p0, p1, p2, rfl, rfl, rfl, h0, h1, h2⟩ := trodAll_three hA
  obtain ⟨rfl, rfl⟩ := trodVars_none hV
  obtain ⟨a0, len0, cap0, rfl⟩ := okWide_slice Try.underlying22 (hval 0 22 v0 rfl rfl)
  obtain ⟨fuel0, hf0⟩ := h0
  obtain ⟨l0, rfl, hr0, _⟩ := Sp.runs_of_trod hf0
  obtain ⟨x1, rfl, rfl, rfl, w1⟩ := open_int Try.underlying2 (hval 1 2 v1 rfl rfl) h1
  obtain ⟨x2, rfl, rfl, rfl, w2⟩ := open_int Try.underlying2 (hval 2 2 v2 rfl rfl) h2
  refine (walk_any l0 a0 cap0 x1 x2 W hr0 (Sp.wf_i64 w1) (Sp.wf_i64 w2)).mono fun e W' ⟨he, hb⟩ => ?_
  subst he
  exact ⟨_, rfl, law_post hW' (by kernel_rfl) rfl rfl rfl hb⟩
theorem proved : Rows.SpanAddsSaid :=
  OpenClaim.holds_of_wide 10 Try.f10 rfl rfl rfl rfl rfl rfl rfl ⟨rfl, rfl, rfl, rfl, rfl⟩ rfl rfl rfl rfl rfl (by kernel_rfl) Try.func10 (by kernel_rfl)
    (of_decide_eq_true (by kernel_rfl)) (by unfold Func.isWrapper; first | (rw [if_pos (by decide +kernel)]; kernel_rfl) | (rw [if_neg (by decide +kernel)]; exact ⟨rfl, rfl⟩))
    (fun os started H enc _ => lifted os started H enc)
#print axioms proved
end Go.Proofs.Ytcdpmedihgobcaa.lawSpanAdds
