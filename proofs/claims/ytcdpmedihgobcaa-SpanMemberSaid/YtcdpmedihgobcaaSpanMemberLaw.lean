/- SpanMember answers true for every two lists of pairs of whole numbers and every number. No condition. -/
import Derived.Test.YtcdpmedihgobcaaSpanKit1
import Derived.ProofKit
import Derived.OpenShut
namespace Go.Proofs.Ytcdpmedihgobcaa.lawSpanMember
open Go.ChangeShapes Go.WideShapes Go.ChangeAt Go.RowKit Sp
set_option maxRecDepth 100000 in
set_option maxHeartbeats 2000000 in
theorem walk_any (ua : List (Int × Int)) (Aa : Option Addr) (ca : Nat) (ub : List (Int × Int)) (Ab : Option Addr) (cb : Nat) (v : Int) (w : World) (hra : Rd w w.heap.size 2 Aa ua.length ca (runsC ua)) (hrb : Rd w w.heap.size 2 Ab ub.length cb (runsC ub)) (_ : -9223372036854775808 ≤ v ∧ v ≤ 9223372036854775807) :
    Calls Try.prog 7 #[.slice Aa ua.length ca, .slice Ab ub.length cb, .int .i64 v] w fun e w' => e = .returned (.bool true) ∧ Below w.heap.size w w' := by
  obtain ⟨na, hna⟩ : ∃ n, n = ua.length := ⟨_, rfl⟩
  rw [← hna] at hra ⊢
  have HLa : Hid (ua.length = na) := hna.symm
  have Ra := Lib.hid hra
  clear hra hna
  obtain ⟨nb, hnb⟩ : ∃ n, n = ub.length := ⟨_, rfl⟩
  rw [← hnb] at hrb ⊢
  have HLb : Hid (ub.length = nb) := hnb.symm
  have Rb := Lib.hid hrb
  clear hrb hnb
  have HB0 : Hid (Below w.heap.size w w) := Below.refl _ _
  cases hz : ([⟨Aa, na, ca, ua⟩, ⟨Ab, nb, cb, ub⟩] : List SP).all SP.ok with
  | false =>
    have HZ := Lib.hid hz
    clear hz
    go_enter Try.func7, Try.ntmps7
    go_wp2_with fail
    refine (awake_any _).mono ?_
    rintro e w1 ⟨rfl, hb⟩
    have HB1 := Lib.hid (HB0.out.trans (hb.mono HB0.out.size))
    have Ra := Lib.hid (Ra.out.later hb)
    have Rb := Lib.hid (Rb.out.later hb)
    clear hb
    go_wp2_with fail
    refine (sets_to [⟨Aa, na, ca, ua⟩, ⟨Ab, nb, cb, ub⟩] #[.slice Aa na ca, .slice Ab nb cb] 2 w1 rfl rfl (by omega) (by intro p hp; simp only [List.mem_cons, List.not_mem_nil, or_false] at hp; rcases hp with rfl | rfl; all_goals first | exact ⟨HLa.out, Ra.out⟩ | exact ⟨HLb.out, Rb.out⟩) false HZ.out).mono ?_
    rintro e w2 ⟨rfl, hb⟩
    have HB2 := Lib.hid (HB1.out.trans (hb.mono HB1.out.size))
    have Ra := Lib.hid (Ra.out.later hb)
    have Rb := Lib.hid (Rb.out.later hb)
    clear hb
    go_wp2_with fail
    refine (awake_any _).mono ?_
    rintro e w3 ⟨rfl, hb⟩
    have HB3 := Lib.hid (HB2.out.trans (hb.mono HB2.out.size))
    have Ra := Lib.hid (Ra.out.later hb)
    have Rb := Lib.hid (Rb.out.later hb)
    clear hb
    go_wp2
    go_ret
    exact ⟨rfl, HB3.out⟩
  | true =>
    have HZ := Lib.hid hz
    simp only [List.all_cons, List.all_nil, SP.ok, Bool.and_true, Bool.and_eq_true, decide_eq_true_eq] at hz
    obtain ⟨⟨h40a, hRa⟩, ⟨h40b, hRb⟩⟩ := hz
    have HRa0 := Lib.hid hRa
    have HRa : Hid (RightF 1 ua) := Lib.hid (of_decide_eq_true (p := RightF 1 ua) hRa)
    clear hRa
    have HRb0 := Lib.hid hRb
    have HRb : Hid (RightF 1 ub) := Lib.hid (of_decide_eq_true (p := RightF 1 ub) hRb)
    clear hRb
    cases hp : hasB ua v with
    | true =>
      cases hq : hasB ub v with
      | true =>
        have HP := Lib.hid hp
        have HQ := Lib.hid hq
        clear hp hq
        go_enter Try.func7, Try.ntmps7
        go_wp2_with fail
        refine (awake_any _).mono ?_
        rintro e w1 ⟨rfl, hb⟩
        have HB1 := Lib.hid (HB0.out.trans (hb.mono HB0.out.size))
        have Ra := Lib.hid (Ra.out.later hb)
        have Rb := Lib.hid (Rb.out.later hb)
        clear hb
        go_wp2_with fail
        refine (sets_to [⟨Aa, na, ca, ua⟩, ⟨Ab, nb, cb, ub⟩] #[.slice Aa na ca, .slice Ab nb cb] 2 w1 rfl rfl (by omega) (by intro p hp; simp only [List.mem_cons, List.not_mem_nil, or_false] at hp; rcases hp with rfl | rfl; all_goals first | exact ⟨HLa.out, Ra.out⟩ | exact ⟨HLb.out, Rb.out⟩) true HZ.out).mono ?_
        rintro e w2 ⟨rfl, hb⟩
        have HB2 := Lib.hid (HB1.out.trans (hb.mono HB1.out.size))
        have Ra := Lib.hid (Ra.out.later hb)
        have Rb := Lib.hid (Rb.out.later hb)
        clear hb
        go_wp2_with fail
        refine (runs_to ua na Aa ca w2 HLa.out (by omega) Ra.out).mono ?_
        rintro e w3 ⟨Ax, cx, rfl, hrx, hb⟩
        have HB3 := Lib.hid (HB2.out.trans (hb.mono HB2.out.size))
        have Ra := Lib.hid (Ra.out.later hb)
        have Rb := Lib.hid (Rb.out.later hb)
        clear hb
        have Rx := Lib.hid hrx
        clear hrx
        go_wp2_with fail
        refine (runs_to ub nb Ab cb w3 HLb.out (by omega) Rb.out).mono ?_
        rintro e w4 ⟨Ay, cy, rfl, hry, hb⟩
        have HB4 := Lib.hid (HB3.out.trans (hb.mono HB3.out.size))
        have Ra := Lib.hid (Ra.out.later hb)
        have Rb := Lib.hid (Rb.out.later hb)
        have Rx := Lib.hid (Rx.out.later hb)
        clear hb
        have Ry := Lib.hid hry
        clear hry
        go_wp2_with fail
        refine (has_to ua na Ax cx w4 v HLa.out (by omega) Rx.out true (by rw [HRa0.out, HP.out]; rfl)).mono ?_
        rintro e w5 ⟨rfl, hb⟩
        have HB5 := Lib.hid (HB4.out.trans (hb.mono HB4.out.size))
        have Ra := Lib.hid (Ra.out.later hb)
        have Rb := Lib.hid (Rb.out.later hb)
        have Rx := Lib.hid (Rx.out.later hb)
        have Ry := Lib.hid (Ry.out.later hb)
        clear hb
        go_wp2_with fail
        refine (has_to ub nb Ay cy w5 v HLb.out (by omega) Ry.out true (by rw [HRb0.out, HQ.out]; rfl)).mono ?_
        rintro e w6 ⟨rfl, hb⟩
        have HB6 := Lib.hid (HB5.out.trans (hb.mono HB5.out.size))
        have Ra := Lib.hid (Ra.out.later hb)
        have Rb := Lib.hid (Rb.out.later hb)
        have Rx := Lib.hid (Rx.out.later hb)
        have Ry := Lib.hid (Ry.out.later hb)
        clear hb
        go_wp2_with fail
        refine (union_to ua ub na nb Ax Ay cx cy w6 HLa.out HLb.out (by omega) (by omega) Rx.out Ry.out HRa.out HRb.out).mono ?_
        rintro e w7 ⟨uu, nu, Au, cu, rfl, HLu, HPu, hqu, Ru, hb⟩
        have HB7 := Lib.hid (HB6.out.trans (hb.mono HB6.out.size))
        have Ra := Lib.hid (Ra.out.later hb)
        have Rb := Lib.hid (Rb.out.later hb)
        have Rx := Lib.hid (Rx.out.later hb)
        have Ry := Lib.hid (Ry.out.later hb)
        clear hb
        go_wp2_with fail
        refine (has_to uu nu Au cu w7 v HLu.out (by omega) Ru.out true (by rw [show rightB uu = true from decide_eq_true HPu.out.right, HPu.out.has, HP.out, HQ.out]; rfl)).mono ?_
        rintro e w8 ⟨rfl, hb⟩
        have HB8 := Lib.hid (HB7.out.trans (hb.mono HB7.out.size))
        have Ra := Lib.hid (Ra.out.later hb)
        have Rb := Lib.hid (Rb.out.later hb)
        have Rx := Lib.hid (Rx.out.later hb)
        have Ry := Lib.hid (Ry.out.later hb)
        have Ru := Lib.hid (Ru.out.later hb)
        clear hb
        go_wp2_with fail
        refine (meet_to ua ub na nb Ax Ay cx cy w8 HLa.out HLb.out (by omega) (by omega) Rx.out Ry.out HRa.out HRb.out).mono ?_
        rintro e w9 ⟨um, nm, Am, cm, rfl, HLm, HPm, hqm, Rm, hb⟩
        have HB9 := Lib.hid (HB8.out.trans (hb.mono HB8.out.size))
        have Ra := Lib.hid (Ra.out.later hb)
        have Rb := Lib.hid (Rb.out.later hb)
        have Rx := Lib.hid (Rx.out.later hb)
        have Ry := Lib.hid (Ry.out.later hb)
        have Ru := Lib.hid (Ru.out.later hb)
        clear hb
        go_wp2_with fail
        refine (has_to um nm Am cm w9 v HLm.out (by omega) Rm.out true (by rw [show rightB um = true from decide_eq_true HPm.out.right, HPm.out.has, HP.out, HQ.out]; rfl)).mono ?_
        rintro e w10 ⟨rfl, hb⟩
        have HB10 := Lib.hid (HB9.out.trans (hb.mono HB9.out.size))
        have Ra := Lib.hid (Ra.out.later hb)
        have Rb := Lib.hid (Rb.out.later hb)
        have Rx := Lib.hid (Rx.out.later hb)
        have Ry := Lib.hid (Ry.out.later hb)
        have Ru := Lib.hid (Ru.out.later hb)
        have Rm := Lib.hid (Rm.out.later hb)
        clear hb
        go_wp2_with fail
        refine (minus_to ua ub na nb Ax Ay cx cy w10 HLa.out HLb.out (by omega) (by omega) Rx.out Ry.out HRa.out HRb.out).mono ?_
        rintro e w11 ⟨ud, nd, Ad, cd, rfl, HLd, HPd, hqd, Rd, hb⟩
        have HB11 := Lib.hid (HB10.out.trans (hb.mono HB10.out.size))
        have Ra := Lib.hid (Ra.out.later hb)
        have Rb := Lib.hid (Rb.out.later hb)
        have Rx := Lib.hid (Rx.out.later hb)
        have Ry := Lib.hid (Ry.out.later hb)
        have Ru := Lib.hid (Ru.out.later hb)
        have Rm := Lib.hid (Rm.out.later hb)
        clear hb
        go_wp2_with fail
        refine (has_to ud nd Ad cd w11 v HLd.out (by omega) Rd.out false (by rw [show rightB ud = true from decide_eq_true HPd.out.right, HPd.out.has, HP.out, HQ.out]; rfl)).mono ?_
        rintro e w12 ⟨rfl, hb⟩
        have HB12 := Lib.hid (HB11.out.trans (hb.mono HB11.out.size))
        have Ra := Lib.hid (Ra.out.later hb)
        have Rb := Lib.hid (Rb.out.later hb)
        have Rx := Lib.hid (Rx.out.later hb)
        have Ry := Lib.hid (Ry.out.later hb)
        have Ru := Lib.hid (Ru.out.later hb)
        have Rm := Lib.hid (Rm.out.later hb)
        have Rd := Lib.hid (Rd.out.later hb)
        clear hb
        go_wp2
        go_ret
        exact ⟨rfl, HB12.out⟩
      | false =>
        have HP := Lib.hid hp
        have HQ := Lib.hid hq
        clear hp hq
        go_enter Try.func7, Try.ntmps7
        go_wp2_with fail
        refine (awake_any _).mono ?_
        rintro e w1 ⟨rfl, hb⟩
        have HB1 := Lib.hid (HB0.out.trans (hb.mono HB0.out.size))
        have Ra := Lib.hid (Ra.out.later hb)
        have Rb := Lib.hid (Rb.out.later hb)
        clear hb
        go_wp2_with fail
        refine (sets_to [⟨Aa, na, ca, ua⟩, ⟨Ab, nb, cb, ub⟩] #[.slice Aa na ca, .slice Ab nb cb] 2 w1 rfl rfl (by omega) (by intro p hp; simp only [List.mem_cons, List.not_mem_nil, or_false] at hp; rcases hp with rfl | rfl; all_goals first | exact ⟨HLa.out, Ra.out⟩ | exact ⟨HLb.out, Rb.out⟩) true HZ.out).mono ?_
        rintro e w2 ⟨rfl, hb⟩
        have HB2 := Lib.hid (HB1.out.trans (hb.mono HB1.out.size))
        have Ra := Lib.hid (Ra.out.later hb)
        have Rb := Lib.hid (Rb.out.later hb)
        clear hb
        go_wp2_with fail
        refine (runs_to ua na Aa ca w2 HLa.out (by omega) Ra.out).mono ?_
        rintro e w3 ⟨Ax, cx, rfl, hrx, hb⟩
        have HB3 := Lib.hid (HB2.out.trans (hb.mono HB2.out.size))
        have Ra := Lib.hid (Ra.out.later hb)
        have Rb := Lib.hid (Rb.out.later hb)
        clear hb
        have Rx := Lib.hid hrx
        clear hrx
        go_wp2_with fail
        refine (runs_to ub nb Ab cb w3 HLb.out (by omega) Rb.out).mono ?_
        rintro e w4 ⟨Ay, cy, rfl, hry, hb⟩
        have HB4 := Lib.hid (HB3.out.trans (hb.mono HB3.out.size))
        have Ra := Lib.hid (Ra.out.later hb)
        have Rb := Lib.hid (Rb.out.later hb)
        have Rx := Lib.hid (Rx.out.later hb)
        clear hb
        have Ry := Lib.hid hry
        clear hry
        go_wp2_with fail
        refine (has_to ua na Ax cx w4 v HLa.out (by omega) Rx.out true (by rw [HRa0.out, HP.out]; rfl)).mono ?_
        rintro e w5 ⟨rfl, hb⟩
        have HB5 := Lib.hid (HB4.out.trans (hb.mono HB4.out.size))
        have Ra := Lib.hid (Ra.out.later hb)
        have Rb := Lib.hid (Rb.out.later hb)
        have Rx := Lib.hid (Rx.out.later hb)
        have Ry := Lib.hid (Ry.out.later hb)
        clear hb
        go_wp2_with fail
        refine (has_to ub nb Ay cy w5 v HLb.out (by omega) Ry.out false (by rw [HRb0.out, HQ.out]; rfl)).mono ?_
        rintro e w6 ⟨rfl, hb⟩
        have HB6 := Lib.hid (HB5.out.trans (hb.mono HB5.out.size))
        have Ra := Lib.hid (Ra.out.later hb)
        have Rb := Lib.hid (Rb.out.later hb)
        have Rx := Lib.hid (Rx.out.later hb)
        have Ry := Lib.hid (Ry.out.later hb)
        clear hb
        go_wp2_with fail
        refine (union_to ua ub na nb Ax Ay cx cy w6 HLa.out HLb.out (by omega) (by omega) Rx.out Ry.out HRa.out HRb.out).mono ?_
        rintro e w7 ⟨uu, nu, Au, cu, rfl, HLu, HPu, hqu, Ru, hb⟩
        have HB7 := Lib.hid (HB6.out.trans (hb.mono HB6.out.size))
        have Ra := Lib.hid (Ra.out.later hb)
        have Rb := Lib.hid (Rb.out.later hb)
        have Rx := Lib.hid (Rx.out.later hb)
        have Ry := Lib.hid (Ry.out.later hb)
        clear hb
        go_wp2_with fail
        refine (has_to uu nu Au cu w7 v HLu.out (by omega) Ru.out true (by rw [show rightB uu = true from decide_eq_true HPu.out.right, HPu.out.has, HP.out, HQ.out]; rfl)).mono ?_
        rintro e w8 ⟨rfl, hb⟩
        have HB8 := Lib.hid (HB7.out.trans (hb.mono HB7.out.size))
        have Ra := Lib.hid (Ra.out.later hb)
        have Rb := Lib.hid (Rb.out.later hb)
        have Rx := Lib.hid (Rx.out.later hb)
        have Ry := Lib.hid (Ry.out.later hb)
        have Ru := Lib.hid (Ru.out.later hb)
        clear hb
        go_wp2_with fail
        refine (meet_to ua ub na nb Ax Ay cx cy w8 HLa.out HLb.out (by omega) (by omega) Rx.out Ry.out HRa.out HRb.out).mono ?_
        rintro e w9 ⟨um, nm, Am, cm, rfl, HLm, HPm, hqm, Rm, hb⟩
        have HB9 := Lib.hid (HB8.out.trans (hb.mono HB8.out.size))
        have Ra := Lib.hid (Ra.out.later hb)
        have Rb := Lib.hid (Rb.out.later hb)
        have Rx := Lib.hid (Rx.out.later hb)
        have Ry := Lib.hid (Ry.out.later hb)
        have Ru := Lib.hid (Ru.out.later hb)
        clear hb
        go_wp2_with fail
        refine (has_to um nm Am cm w9 v HLm.out (by omega) Rm.out false (by rw [show rightB um = true from decide_eq_true HPm.out.right, HPm.out.has, HP.out, HQ.out]; rfl)).mono ?_
        rintro e w10 ⟨rfl, hb⟩
        have HB10 := Lib.hid (HB9.out.trans (hb.mono HB9.out.size))
        have Ra := Lib.hid (Ra.out.later hb)
        have Rb := Lib.hid (Rb.out.later hb)
        have Rx := Lib.hid (Rx.out.later hb)
        have Ry := Lib.hid (Ry.out.later hb)
        have Ru := Lib.hid (Ru.out.later hb)
        have Rm := Lib.hid (Rm.out.later hb)
        clear hb
        go_wp2_with fail
        refine (minus_to ua ub na nb Ax Ay cx cy w10 HLa.out HLb.out (by omega) (by omega) Rx.out Ry.out HRa.out HRb.out).mono ?_
        rintro e w11 ⟨ud, nd, Ad, cd, rfl, HLd, HPd, hqd, Rd, hb⟩
        have HB11 := Lib.hid (HB10.out.trans (hb.mono HB10.out.size))
        have Ra := Lib.hid (Ra.out.later hb)
        have Rb := Lib.hid (Rb.out.later hb)
        have Rx := Lib.hid (Rx.out.later hb)
        have Ry := Lib.hid (Ry.out.later hb)
        have Ru := Lib.hid (Ru.out.later hb)
        have Rm := Lib.hid (Rm.out.later hb)
        clear hb
        go_wp2_with fail
        refine (has_to ud nd Ad cd w11 v HLd.out (by omega) Rd.out true (by rw [show rightB ud = true from decide_eq_true HPd.out.right, HPd.out.has, HP.out, HQ.out]; rfl)).mono ?_
        rintro e w12 ⟨rfl, hb⟩
        have HB12 := Lib.hid (HB11.out.trans (hb.mono HB11.out.size))
        have Ra := Lib.hid (Ra.out.later hb)
        have Rb := Lib.hid (Rb.out.later hb)
        have Rx := Lib.hid (Rx.out.later hb)
        have Ry := Lib.hid (Ry.out.later hb)
        have Ru := Lib.hid (Ru.out.later hb)
        have Rm := Lib.hid (Rm.out.later hb)
        have Rd := Lib.hid (Rd.out.later hb)
        clear hb
        go_wp2
        go_ret
        exact ⟨rfl, HB12.out⟩
    | false =>
      cases hq : hasB ub v with
      | true =>
        have HP := Lib.hid hp
        have HQ := Lib.hid hq
        clear hp hq
        go_enter Try.func7, Try.ntmps7
        go_wp2_with fail
        refine (awake_any _).mono ?_
        rintro e w1 ⟨rfl, hb⟩
        have HB1 := Lib.hid (HB0.out.trans (hb.mono HB0.out.size))
        have Ra := Lib.hid (Ra.out.later hb)
        have Rb := Lib.hid (Rb.out.later hb)
        clear hb
        go_wp2_with fail
        refine (sets_to [⟨Aa, na, ca, ua⟩, ⟨Ab, nb, cb, ub⟩] #[.slice Aa na ca, .slice Ab nb cb] 2 w1 rfl rfl (by omega) (by intro p hp; simp only [List.mem_cons, List.not_mem_nil, or_false] at hp; rcases hp with rfl | rfl; all_goals first | exact ⟨HLa.out, Ra.out⟩ | exact ⟨HLb.out, Rb.out⟩) true HZ.out).mono ?_
        rintro e w2 ⟨rfl, hb⟩
        have HB2 := Lib.hid (HB1.out.trans (hb.mono HB1.out.size))
        have Ra := Lib.hid (Ra.out.later hb)
        have Rb := Lib.hid (Rb.out.later hb)
        clear hb
        go_wp2_with fail
        refine (runs_to ua na Aa ca w2 HLa.out (by omega) Ra.out).mono ?_
        rintro e w3 ⟨Ax, cx, rfl, hrx, hb⟩
        have HB3 := Lib.hid (HB2.out.trans (hb.mono HB2.out.size))
        have Ra := Lib.hid (Ra.out.later hb)
        have Rb := Lib.hid (Rb.out.later hb)
        clear hb
        have Rx := Lib.hid hrx
        clear hrx
        go_wp2_with fail
        refine (runs_to ub nb Ab cb w3 HLb.out (by omega) Rb.out).mono ?_
        rintro e w4 ⟨Ay, cy, rfl, hry, hb⟩
        have HB4 := Lib.hid (HB3.out.trans (hb.mono HB3.out.size))
        have Ra := Lib.hid (Ra.out.later hb)
        have Rb := Lib.hid (Rb.out.later hb)
        have Rx := Lib.hid (Rx.out.later hb)
        clear hb
        have Ry := Lib.hid hry
        clear hry
        go_wp2_with fail
        refine (has_to ua na Ax cx w4 v HLa.out (by omega) Rx.out false (by rw [HRa0.out, HP.out]; rfl)).mono ?_
        rintro e w5 ⟨rfl, hb⟩
        have HB5 := Lib.hid (HB4.out.trans (hb.mono HB4.out.size))
        have Ra := Lib.hid (Ra.out.later hb)
        have Rb := Lib.hid (Rb.out.later hb)
        have Rx := Lib.hid (Rx.out.later hb)
        have Ry := Lib.hid (Ry.out.later hb)
        clear hb
        go_wp2_with fail
        refine (has_to ub nb Ay cy w5 v HLb.out (by omega) Ry.out true (by rw [HRb0.out, HQ.out]; rfl)).mono ?_
        rintro e w6 ⟨rfl, hb⟩
        have HB6 := Lib.hid (HB5.out.trans (hb.mono HB5.out.size))
        have Ra := Lib.hid (Ra.out.later hb)
        have Rb := Lib.hid (Rb.out.later hb)
        have Rx := Lib.hid (Rx.out.later hb)
        have Ry := Lib.hid (Ry.out.later hb)
        clear hb
        go_wp2_with fail
        refine (union_to ua ub na nb Ax Ay cx cy w6 HLa.out HLb.out (by omega) (by omega) Rx.out Ry.out HRa.out HRb.out).mono ?_
        rintro e w7 ⟨uu, nu, Au, cu, rfl, HLu, HPu, hqu, Ru, hb⟩
        have HB7 := Lib.hid (HB6.out.trans (hb.mono HB6.out.size))
        have Ra := Lib.hid (Ra.out.later hb)
        have Rb := Lib.hid (Rb.out.later hb)
        have Rx := Lib.hid (Rx.out.later hb)
        have Ry := Lib.hid (Ry.out.later hb)
        clear hb
        go_wp2_with fail
        refine (has_to uu nu Au cu w7 v HLu.out (by omega) Ru.out true (by rw [show rightB uu = true from decide_eq_true HPu.out.right, HPu.out.has, HP.out, HQ.out]; rfl)).mono ?_
        rintro e w8 ⟨rfl, hb⟩
        have HB8 := Lib.hid (HB7.out.trans (hb.mono HB7.out.size))
        have Ra := Lib.hid (Ra.out.later hb)
        have Rb := Lib.hid (Rb.out.later hb)
        have Rx := Lib.hid (Rx.out.later hb)
        have Ry := Lib.hid (Ry.out.later hb)
        have Ru := Lib.hid (Ru.out.later hb)
        clear hb
        go_wp2_with fail
        refine (meet_to ua ub na nb Ax Ay cx cy w8 HLa.out HLb.out (by omega) (by omega) Rx.out Ry.out HRa.out HRb.out).mono ?_
        rintro e w9 ⟨um, nm, Am, cm, rfl, HLm, HPm, hqm, Rm, hb⟩
        have HB9 := Lib.hid (HB8.out.trans (hb.mono HB8.out.size))
        have Ra := Lib.hid (Ra.out.later hb)
        have Rb := Lib.hid (Rb.out.later hb)
        have Rx := Lib.hid (Rx.out.later hb)
        have Ry := Lib.hid (Ry.out.later hb)
        have Ru := Lib.hid (Ru.out.later hb)
        clear hb
        go_wp2_with fail
        refine (has_to um nm Am cm w9 v HLm.out (by omega) Rm.out false (by rw [show rightB um = true from decide_eq_true HPm.out.right, HPm.out.has, HP.out, HQ.out]; rfl)).mono ?_
        rintro e w10 ⟨rfl, hb⟩
        have HB10 := Lib.hid (HB9.out.trans (hb.mono HB9.out.size))
        have Ra := Lib.hid (Ra.out.later hb)
        have Rb := Lib.hid (Rb.out.later hb)
        have Rx := Lib.hid (Rx.out.later hb)
        have Ry := Lib.hid (Ry.out.later hb)
        have Ru := Lib.hid (Ru.out.later hb)
        have Rm := Lib.hid (Rm.out.later hb)
        clear hb
        go_wp2_with fail
        refine (minus_to ua ub na nb Ax Ay cx cy w10 HLa.out HLb.out (by omega) (by omega) Rx.out Ry.out HRa.out HRb.out).mono ?_
        rintro e w11 ⟨ud, nd, Ad, cd, rfl, HLd, HPd, hqd, Rd, hb⟩
        have HB11 := Lib.hid (HB10.out.trans (hb.mono HB10.out.size))
        have Ra := Lib.hid (Ra.out.later hb)
        have Rb := Lib.hid (Rb.out.later hb)
        have Rx := Lib.hid (Rx.out.later hb)
        have Ry := Lib.hid (Ry.out.later hb)
        have Ru := Lib.hid (Ru.out.later hb)
        have Rm := Lib.hid (Rm.out.later hb)
        clear hb
        go_wp2_with fail
        refine (has_to ud nd Ad cd w11 v HLd.out (by omega) Rd.out false (by rw [show rightB ud = true from decide_eq_true HPd.out.right, HPd.out.has, HP.out, HQ.out]; rfl)).mono ?_
        rintro e w12 ⟨rfl, hb⟩
        have HB12 := Lib.hid (HB11.out.trans (hb.mono HB11.out.size))
        have Ra := Lib.hid (Ra.out.later hb)
        have Rb := Lib.hid (Rb.out.later hb)
        have Rx := Lib.hid (Rx.out.later hb)
        have Ry := Lib.hid (Ry.out.later hb)
        have Ru := Lib.hid (Ru.out.later hb)
        have Rm := Lib.hid (Rm.out.later hb)
        have Rd := Lib.hid (Rd.out.later hb)
        clear hb
        go_wp2
        go_ret
        exact ⟨rfl, HB12.out⟩
      | false =>
        have HP := Lib.hid hp
        have HQ := Lib.hid hq
        clear hp hq
        go_enter Try.func7, Try.ntmps7
        go_wp2_with fail
        refine (awake_any _).mono ?_
        rintro e w1 ⟨rfl, hb⟩
        have HB1 := Lib.hid (HB0.out.trans (hb.mono HB0.out.size))
        have Ra := Lib.hid (Ra.out.later hb)
        have Rb := Lib.hid (Rb.out.later hb)
        clear hb
        go_wp2_with fail
        refine (sets_to [⟨Aa, na, ca, ua⟩, ⟨Ab, nb, cb, ub⟩] #[.slice Aa na ca, .slice Ab nb cb] 2 w1 rfl rfl (by omega) (by intro p hp; simp only [List.mem_cons, List.not_mem_nil, or_false] at hp; rcases hp with rfl | rfl; all_goals first | exact ⟨HLa.out, Ra.out⟩ | exact ⟨HLb.out, Rb.out⟩) true HZ.out).mono ?_
        rintro e w2 ⟨rfl, hb⟩
        have HB2 := Lib.hid (HB1.out.trans (hb.mono HB1.out.size))
        have Ra := Lib.hid (Ra.out.later hb)
        have Rb := Lib.hid (Rb.out.later hb)
        clear hb
        go_wp2_with fail
        refine (runs_to ua na Aa ca w2 HLa.out (by omega) Ra.out).mono ?_
        rintro e w3 ⟨Ax, cx, rfl, hrx, hb⟩
        have HB3 := Lib.hid (HB2.out.trans (hb.mono HB2.out.size))
        have Ra := Lib.hid (Ra.out.later hb)
        have Rb := Lib.hid (Rb.out.later hb)
        clear hb
        have Rx := Lib.hid hrx
        clear hrx
        go_wp2_with fail
        refine (runs_to ub nb Ab cb w3 HLb.out (by omega) Rb.out).mono ?_
        rintro e w4 ⟨Ay, cy, rfl, hry, hb⟩
        have HB4 := Lib.hid (HB3.out.trans (hb.mono HB3.out.size))
        have Ra := Lib.hid (Ra.out.later hb)
        have Rb := Lib.hid (Rb.out.later hb)
        have Rx := Lib.hid (Rx.out.later hb)
        clear hb
        have Ry := Lib.hid hry
        clear hry
        go_wp2_with fail
        refine (has_to ua na Ax cx w4 v HLa.out (by omega) Rx.out false (by rw [HRa0.out, HP.out]; rfl)).mono ?_
        rintro e w5 ⟨rfl, hb⟩
        have HB5 := Lib.hid (HB4.out.trans (hb.mono HB4.out.size))
        have Ra := Lib.hid (Ra.out.later hb)
        have Rb := Lib.hid (Rb.out.later hb)
        have Rx := Lib.hid (Rx.out.later hb)
        have Ry := Lib.hid (Ry.out.later hb)
        clear hb
        go_wp2_with fail
        refine (has_to ub nb Ay cy w5 v HLb.out (by omega) Ry.out false (by rw [HRb0.out, HQ.out]; rfl)).mono ?_
        rintro e w6 ⟨rfl, hb⟩
        have HB6 := Lib.hid (HB5.out.trans (hb.mono HB5.out.size))
        have Ra := Lib.hid (Ra.out.later hb)
        have Rb := Lib.hid (Rb.out.later hb)
        have Rx := Lib.hid (Rx.out.later hb)
        have Ry := Lib.hid (Ry.out.later hb)
        clear hb
        go_wp2_with fail
        refine (union_to ua ub na nb Ax Ay cx cy w6 HLa.out HLb.out (by omega) (by omega) Rx.out Ry.out HRa.out HRb.out).mono ?_
        rintro e w7 ⟨uu, nu, Au, cu, rfl, HLu, HPu, hqu, Ru, hb⟩
        have HB7 := Lib.hid (HB6.out.trans (hb.mono HB6.out.size))
        have Ra := Lib.hid (Ra.out.later hb)
        have Rb := Lib.hid (Rb.out.later hb)
        have Rx := Lib.hid (Rx.out.later hb)
        have Ry := Lib.hid (Ry.out.later hb)
        clear hb
        go_wp2_with fail
        refine (has_to uu nu Au cu w7 v HLu.out (by omega) Ru.out false (by rw [show rightB uu = true from decide_eq_true HPu.out.right, HPu.out.has, HP.out, HQ.out]; rfl)).mono ?_
        rintro e w8 ⟨rfl, hb⟩
        have HB8 := Lib.hid (HB7.out.trans (hb.mono HB7.out.size))
        have Ra := Lib.hid (Ra.out.later hb)
        have Rb := Lib.hid (Rb.out.later hb)
        have Rx := Lib.hid (Rx.out.later hb)
        have Ry := Lib.hid (Ry.out.later hb)
        have Ru := Lib.hid (Ru.out.later hb)
        clear hb
        go_wp2_with fail
        refine (meet_to ua ub na nb Ax Ay cx cy w8 HLa.out HLb.out (by omega) (by omega) Rx.out Ry.out HRa.out HRb.out).mono ?_
        rintro e w9 ⟨um, nm, Am, cm, rfl, HLm, HPm, hqm, Rm, hb⟩
        have HB9 := Lib.hid (HB8.out.trans (hb.mono HB8.out.size))
        have Ra := Lib.hid (Ra.out.later hb)
        have Rb := Lib.hid (Rb.out.later hb)
        have Rx := Lib.hid (Rx.out.later hb)
        have Ry := Lib.hid (Ry.out.later hb)
        have Ru := Lib.hid (Ru.out.later hb)
        clear hb
        go_wp2_with fail
        refine (has_to um nm Am cm w9 v HLm.out (by omega) Rm.out false (by rw [show rightB um = true from decide_eq_true HPm.out.right, HPm.out.has, HP.out, HQ.out]; rfl)).mono ?_
        rintro e w10 ⟨rfl, hb⟩
        have HB10 := Lib.hid (HB9.out.trans (hb.mono HB9.out.size))
        have Ra := Lib.hid (Ra.out.later hb)
        have Rb := Lib.hid (Rb.out.later hb)
        have Rx := Lib.hid (Rx.out.later hb)
        have Ry := Lib.hid (Ry.out.later hb)
        have Ru := Lib.hid (Ru.out.later hb)
        have Rm := Lib.hid (Rm.out.later hb)
        clear hb
        go_wp2_with fail
        refine (minus_to ua ub na nb Ax Ay cx cy w10 HLa.out HLb.out (by omega) (by omega) Rx.out Ry.out HRa.out HRb.out).mono ?_
        rintro e w11 ⟨ud, nd, Ad, cd, rfl, HLd, HPd, hqd, Rd, hb⟩
        have HB11 := Lib.hid (HB10.out.trans (hb.mono HB10.out.size))
        have Ra := Lib.hid (Ra.out.later hb)
        have Rb := Lib.hid (Rb.out.later hb)
        have Rx := Lib.hid (Rx.out.later hb)
        have Ry := Lib.hid (Ry.out.later hb)
        have Ru := Lib.hid (Ru.out.later hb)
        have Rm := Lib.hid (Rm.out.later hb)
        clear hb
        go_wp2_with fail
        refine (has_to ud nd Ad cd w11 v HLd.out (by omega) Rd.out false (by rw [show rightB ud = true from decide_eq_true HPd.out.right, HPd.out.has, HP.out, HQ.out]; rfl)).mono ?_
        rintro e w12 ⟨rfl, hb⟩
        have HB12 := Lib.hid (HB11.out.trans (hb.mono HB11.out.size))
        have Ra := Lib.hid (Ra.out.later hb)
        have Rb := Lib.hid (Rb.out.later hb)
        have Rx := Lib.hid (Rx.out.later hb)
        have Ry := Lib.hid (Ry.out.later hb)
        have Ru := Lib.hid (Ru.out.later hb)
        have Rm := Lib.hid (Rm.out.later hb)
        have Rd := Lib.hid (Rd.out.later hb)
        clear hb
        go_wp2
        go_ret
        exact ⟨rfl, HB12.out⟩
set_option maxRecDepth 100000 in
theorem lifted (os : Os) (started : os.Started) (H : Type) (enc : TypeId × Value → H) :
    ReturnsInHanded {} Try.checked os 7 .any (Rows.spanMemberSpec.pre6 enc Try.prog Try.f7 Rows.spanMemberRow.domain false) (Rows.spanMemberSpec.post enc Try.prog Try.f7 false true false false) := by
  refine returnsInHanded_of_change (C := Try.checked) own started (by kernel_rfl) Try.func7
    (ChangeSpec.witness6 (enc := enc) (C := Try.checked) false ⟨#[], #[.slice none 0 0, .slice none 0 0, .int .i64 0], []⟩ 8 (by kernel_rfl) (by kernel_rfl) (by kernel_rfl) (by kernel_rfl)) ?_
  intro W base args ds gs before hval0 hW _ _
  have hval : ∀ (j : Nat) t v, Try.f7.params[j]? = some t → args[j]? = some v → Value.okWide Try.prog W .any base t v := hval0
  have hW' := hW
  obtain ⟨p, q, hA0, hV, rfl, hfz, hnd⟩ := hW
  have hA : DataW.TrodAll enc Try.prog W 0 (fun _ => true) true Try.f7.params.toList args.toList ds p := hA0
  rw [Try.params7] at hA hval
  obtain ⟨v0, v1, v2, d0, d1, d2, p0, p1, p2, rfl, rfl, rfl, h0, h1, h2⟩ := trodAll_three hA
  obtain ⟨rfl, rfl⟩ := trodVars_none hV
  obtain ⟨a0, len0, cap0, rfl⟩ := okWide_slice Try.underlying22 (hval 0 22 v0 rfl rfl)
  obtain ⟨fuel0, hf0⟩ := h0
  obtain ⟨l0, rfl, hr0, _⟩ := Sp.runs_of_trod hf0
  obtain ⟨a1, len1, cap1, rfl⟩ := okWide_slice Try.underlying22 (hval 1 22 v1 rfl rfl)
  obtain ⟨fuel1, hf1⟩ := h1
  obtain ⟨l1, rfl, hr1, _⟩ := Sp.runs_of_trod hf1
  obtain ⟨x2, rfl, rfl, rfl, w2⟩ := open_int Try.underlying2 (hval 2 2 v2 rfl rfl) h2
  refine (walk_any l0 a0 cap0 l1 a1 cap1 x2 W hr0 hr1 (Sp.wf_i64 w2)).mono fun e W' ⟨he, hb⟩ => ?_
  subst he
  exact ⟨_, rfl, law_post hW' (by kernel_rfl) rfl rfl rfl hb⟩
theorem proved : Rows.SpanMemberSaid :=
  OpenClaim.holds_of_wide 7 Try.f7 rfl rfl rfl rfl rfl rfl rfl ⟨rfl, rfl, rfl, rfl, rfl⟩ rfl rfl rfl rfl rfl (by kernel_rfl) Try.func7 (by kernel_rfl)
    (of_decide_eq_true (by kernel_rfl)) (by unfold Func.isWrapper; first | (rw [if_pos (by decide +kernel)]; kernel_rfl) | (rw [if_neg (by decide +kernel)]; exact ⟨rfl, rfl⟩))
    (fun os started H enc _ => lifted os started H enc)
#print axioms proved
end Go.Proofs.Ytcdpmedihgobcaa.lawSpanMember
