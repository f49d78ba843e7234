/- SpanAlgebra answers true for every three lists of pairs of whole numbers. No condition. -/
import Derived.Test.YtcdpmedihgobcaaSpanKit1
import Derived.ProofKit
import Derived.OpenShut
namespace Go.Proofs.Ytcdpmedihgobcaa.lawSpanAlgebra
open Go.ChangeShapes Go.WideShapes Go.ChangeAt Go.RowKit Sp
set_option maxRecDepth 100000 in
set_option maxHeartbeats 4000000 in
theorem walk_any (ua : List (Int × Int)) (Aa : Option Addr) (ca : Nat) (ub : List (Int × Int)) (Ab : Option Addr) (cb : Nat) (uc : List (Int × Int)) (Ac : Option Addr) (cc : Nat) (w : World) (hra : Rd w w.heap.size 2 Aa ua.length ca (runsC ua)) (hrb : Rd w w.heap.size 2 Ab ub.length cb (runsC ub)) (hrc : Rd w w.heap.size 2 Ac uc.length cc (runsC uc)) :
    Calls Try.prog 8 #[.slice Aa ua.length ca, .slice Ab ub.length cb, .slice Ac uc.length cc] w fun e w' => e = .returned (.bool true) ∧ Below w.heap.size w w' := by
  obtain ⟨na, hna⟩ : ∃ n, n = ua.length := ⟨_, rfl⟩
  rw [← hna] at hra ⊢
  have HLa : Hid (ua.length = na) := hna.symm
  have Ra := Lib.hid hra
  clear hra hna
  obtain ⟨nb, hnb⟩ : ∃ n, n = ub.length := ⟨_, rfl⟩
  rw [← hnb] at hrb ⊢
  have HLb : Hid (ub.length = nb) := hnb.symm
  have Rb := Lib.hid hrb
  clear hrb hnb
  obtain ⟨nc, hnc⟩ : ∃ n, n = uc.length := ⟨_, rfl⟩
  rw [← hnc] at hrc ⊢
  have HLc : Hid (uc.length = nc) := hnc.symm
  have Rc := Lib.hid hrc
  clear hrc hnc
  have HB0 : Hid (Below w.heap.size w w) := Below.refl _ _
  cases hz : ([⟨Aa, na, ca, ua⟩, ⟨Ab, nb, cb, ub⟩, ⟨Ac, nc, cc, uc⟩] : List SP).all SP.ok with
  | false =>
    have HZ := Lib.hid hz
    clear hz
    go_enter Try.func8, Try.ntmps8
    go_wp2_with fail
    refine (awake_any _).mono ?_
    rintro e w1 ⟨rfl, hb⟩
    have HB1 := Lib.hid (HB0.out.trans (hb.mono HB0.out.size))
    have Ra := Lib.hid (Ra.out.later hb)
    have Rb := Lib.hid (Rb.out.later hb)
    have Rc := Lib.hid (Rc.out.later hb)
    clear hb
    go_wp2_with fail
    refine (sets_to [⟨Aa, na, ca, ua⟩, ⟨Ab, nb, cb, ub⟩, ⟨Ac, nc, cc, uc⟩] #[.slice Aa na ca, .slice Ab nb cb, .slice Ac nc cc] 3 w1 rfl rfl (by omega) (by intro p hp; simp only [List.mem_cons, List.not_mem_nil, or_false] at hp; rcases hp with rfl | rfl | rfl; all_goals first | exact ⟨HLa.out, Ra.out⟩ | exact ⟨HLb.out, Rb.out⟩ | exact ⟨HLc.out, Rc.out⟩) false HZ.out).mono ?_
    rintro e w2 ⟨rfl, hb⟩
    have HB2 := Lib.hid (HB1.out.trans (hb.mono HB1.out.size))
    have Ra := Lib.hid (Ra.out.later hb)
    have Rb := Lib.hid (Rb.out.later hb)
    have Rc := Lib.hid (Rc.out.later hb)
    clear hb
    go_wp2_with fail
    refine (awake_any _).mono ?_
    rintro e w3 ⟨rfl, hb⟩
    have HB3 := Lib.hid (HB2.out.trans (hb.mono HB2.out.size))
    have Ra := Lib.hid (Ra.out.later hb)
    have Rb := Lib.hid (Rb.out.later hb)
    have Rc := Lib.hid (Rc.out.later hb)
    clear hb
    go_wp2
    go_ret
    exact ⟨rfl, HB3.out⟩
  | true =>
    have HZ := Lib.hid hz
    simp only [List.all_cons, List.all_nil, SP.ok, Bool.and_true, Bool.and_eq_true, decide_eq_true_eq] at hz
    obtain ⟨⟨h40a, hRa⟩, ⟨h40b, hRb⟩, ⟨h40c, hRc⟩⟩ := hz
    have HRa0 := Lib.hid hRa
    have HRa : Hid (RightF 1 ua) := Lib.hid (of_decide_eq_true (p := RightF 1 ua) hRa)
    clear hRa
    have HRb0 := Lib.hid hRb
    have HRb : Hid (RightF 1 ub) := Lib.hid (of_decide_eq_true (p := RightF 1 ub) hRb)
    clear hRb
    have HRc0 := Lib.hid hRc
    have HRc : Hid (RightF 1 uc) := Lib.hid (of_decide_eq_true (p := RightF 1 uc) hRc)
    clear hRc
    go_enter Try.func8, Try.ntmps8
    go_wp2_with fail
    refine (awake_any _).mono ?_
    rintro e w1 ⟨rfl, hb⟩
    have HB1 := Lib.hid (HB0.out.trans (hb.mono HB0.out.size))
    have Ra := Lib.hid (Ra.out.later hb)
    have Rb := Lib.hid (Rb.out.later hb)
    have Rc := Lib.hid (Rc.out.later hb)
    clear hb
    go_wp2_with fail
    refine (sets_to [⟨Aa, na, ca, ua⟩, ⟨Ab, nb, cb, ub⟩, ⟨Ac, nc, cc, uc⟩] #[.slice Aa na ca, .slice Ab nb cb, .slice Ac nc cc] 3 w1 rfl rfl (by omega) (by intro p hp; simp only [List.mem_cons, List.not_mem_nil, or_false] at hp; rcases hp with rfl | rfl | rfl; all_goals first | exact ⟨HLa.out, Ra.out⟩ | exact ⟨HLb.out, Rb.out⟩ | exact ⟨HLc.out, Rc.out⟩) true HZ.out).mono ?_
    rintro e w2 ⟨rfl, hb⟩
    have HB2 := Lib.hid (HB1.out.trans (hb.mono HB1.out.size))
    have Ra := Lib.hid (Ra.out.later hb)
    have Rb := Lib.hid (Rb.out.later hb)
    have Rc := Lib.hid (Rc.out.later hb)
    clear hb
    go_wp2_with fail
    refine (runs_to ua na Aa ca w2 HLa.out (by omega) Ra.out).mono ?_
    rintro e w3 ⟨Ax, cx, rfl, hrx, hb⟩
    have HB3 := Lib.hid (HB2.out.trans (hb.mono HB2.out.size))
    have Ra := Lib.hid (Ra.out.later hb)
    have Rb := Lib.hid (Rb.out.later hb)
    have Rc := Lib.hid (Rc.out.later hb)
    clear hb
    have Rx := Lib.hid hrx
    clear hrx
    go_wp2_with fail
    refine (runs_to ub nb Ab cb w3 HLb.out (by omega) Rb.out).mono ?_
    rintro e w4 ⟨Ay, cy, rfl, hry, hb⟩
    have HB4 := Lib.hid (HB3.out.trans (hb.mono HB3.out.size))
    have Ra := Lib.hid (Ra.out.later hb)
    have Rb := Lib.hid (Rb.out.later hb)
    have Rc := Lib.hid (Rc.out.later hb)
    have Rx := Lib.hid (Rx.out.later hb)
    clear hb
    have Ry := Lib.hid hry
    clear hry
    go_wp2_with fail
    refine (runs_to uc nc Ac cc w4 HLc.out (by omega) Rc.out).mono ?_
    rintro e w5 ⟨Az, cz, rfl, hrz, hb⟩
    have HB5 := Lib.hid (HB4.out.trans (hb.mono HB4.out.size))
    have Ra := Lib.hid (Ra.out.later hb)
    have Rb := Lib.hid (Rb.out.later hb)
    have Rc := Lib.hid (Rc.out.later hb)
    have Rx := Lib.hid (Rx.out.later hb)
    have Ry := Lib.hid (Ry.out.later hb)
    clear hb
    have Rz := Lib.hid hrz
    clear hrz
    go_wp2_with fail
    refine (meet_to ua ub na nb Ax Ay cx cy w5 HLa.out HLb.out (by omega) (by omega) Rx.out Ry.out HRa.out HRb.out).mono ?_
    rintro e w6 ⟨um, nm, Am, cm, rfl, HLm, HPm, hqm, Rm, hb⟩
    have HB6 := Lib.hid (HB5.out.trans (hb.mono HB5.out.size))
    have Ra := Lib.hid (Ra.out.later hb)
    have Rb := Lib.hid (Rb.out.later hb)
    have Rc := Lib.hid (Rc.out.later hb)
    have Rx := Lib.hid (Rx.out.later hb)
    have Ry := Lib.hid (Ry.out.later hb)
    have Rz := Lib.hid (Rz.out.later hb)
    clear hb
    go_wp2_with fail
    refine (union_to ub uc nb nc Ay Az cy cz w6 HLb.out HLc.out (by omega) (by omega) Ry.out Rz.out HRb.out HRc.out).mono ?_
    rintro e w7 ⟨ud1, nd1, Ad1, cd1, rfl, HLd1, HPd1, hqd1, Rd1, hb⟩
    have HB7 := Lib.hid (HB6.out.trans (hb.mono HB6.out.size))
    have Ra := Lib.hid (Ra.out.later hb)
    have Rb := Lib.hid (Rb.out.later hb)
    have Rc := Lib.hid (Rc.out.later hb)
    have Rx := Lib.hid (Rx.out.later hb)
    have Ry := Lib.hid (Ry.out.later hb)
    have Rz := Lib.hid (Rz.out.later hb)
    have Rm := Lib.hid (Rm.out.later hb)
    clear hb
    go_wp2_with fail
    refine (union_to ua ud1 na nd1 Ax Ad1 cx cd1 w7 HLa.out HLd1.out (by omega) (by omega) Rx.out Rd1.out HRa.out HPd1.out.right).mono ?_
    rintro e w8 ⟨ud2, nd2, Ad2, cd2, rfl, HLd2, HPd2, hqd2, Rd2, hb⟩
    have HB8 := Lib.hid (HB7.out.trans (hb.mono HB7.out.size))
    have Ra := Lib.hid (Ra.out.later hb)
    have Rb := Lib.hid (Rb.out.later hb)
    have Rc := Lib.hid (Rc.out.later hb)
    have Rx := Lib.hid (Rx.out.later hb)
    have Ry := Lib.hid (Ry.out.later hb)
    have Rz := Lib.hid (Rz.out.later hb)
    have Rm := Lib.hid (Rm.out.later hb)
    have Rd1 := Lib.hid (Rd1.out.later hb)
    clear hb
    go_wp2_with fail
    refine (union_to uc ua nc na Az Ax cz cx w8 HLc.out HLa.out (by omega) (by omega) Rz.out Rx.out HRc.out HRa.out).mono ?_
    rintro e w9 ⟨ud3, nd3, Ad3, cd3, rfl, HLd3, HPd3, hqd3, Rd3, hb⟩
    have HB9 := Lib.hid (HB8.out.trans (hb.mono HB8.out.size))
    have Ra := Lib.hid (Ra.out.later hb)
    have Rb := Lib.hid (Rb.out.later hb)
    have Rc := Lib.hid (Rc.out.later hb)
    have Rx := Lib.hid (Rx.out.later hb)
    have Ry := Lib.hid (Ry.out.later hb)
    have Rz := Lib.hid (Rz.out.later hb)
    have Rm := Lib.hid (Rm.out.later hb)
    have Rd1 := Lib.hid (Rd1.out.later hb)
    have Rd2 := Lib.hid (Rd2.out.later hb)
    clear hb
    go_wp2_with fail
    refine (union_to ud3 ub nd3 nb Ad3 Ay cd3 cy w9 HLd3.out HLb.out (by omega) (by omega) Rd3.out Ry.out HPd3.out.right HRb.out).mono ?_
    rintro e w10 ⟨ud4, nd4, Ad4, cd4, rfl, HLd4, HPd4, hqd4, Rd4, hb⟩
    have HB10 := Lib.hid (HB9.out.trans (hb.mono HB9.out.size))
    have Ra := Lib.hid (Ra.out.later hb)
    have Rb := Lib.hid (Rb.out.later hb)
    have Rc := Lib.hid (Rc.out.later hb)
    have Rx := Lib.hid (Rx.out.later hb)
    have Ry := Lib.hid (Ry.out.later hb)
    have Rz := Lib.hid (Rz.out.later hb)
    have Rm := Lib.hid (Rm.out.later hb)
    have Rd1 := Lib.hid (Rd1.out.later hb)
    have Rd2 := Lib.hid (Rd2.out.later hb)
    have Rd3 := Lib.hid (Rd3.out.later hb)
    clear hb
    go_wp2_with fail
    refine (plain_to ud4 nd4 Ad4 cd4 w10 HLd4.out (by omega) Rd4.out).mono ?_
    rintro e w11 ⟨Ad5, cd5, rfl, hrd5, hb⟩
    have HB11 := Lib.hid (HB10.out.trans (hb.mono HB10.out.size))
    have Ra := Lib.hid (Ra.out.later hb)
    have Rb := Lib.hid (Rb.out.later hb)
    have Rc := Lib.hid (Rc.out.later hb)
    have Rx := Lib.hid (Rx.out.later hb)
    have Ry := Lib.hid (Ry.out.later hb)
    have Rz := Lib.hid (Rz.out.later hb)
    have Rm := Lib.hid (Rm.out.later hb)
    have Rd1 := Lib.hid (Rd1.out.later hb)
    have Rd2 := Lib.hid (Rd2.out.later hb)
    have Rd3 := Lib.hid (Rd3.out.later hb)
    have Rd4 := Lib.hid (Rd4.out.later hb)
    clear hb
    have Rd5 := Lib.hid hrd5
    clear hrd5
    go_wp2_with fail
    refine (same_to ud2 ud4 nd2 nd4 Ad2 Ad5 cd2 cd5 w11 HLd2.out HLd4.out (by omega) Rd2.out Rd5.out (ext HPd2.out.right HPd4.out.right (by intro n; rw [HPd2.out.has, HPd1.out.has, HPd4.out.has, HPd3.out.has]; cases hasB ua n <;> cases hasB ub n <;> cases hasB uc n <;> rfl))).mono ?_
    rintro e w12 ⟨rfl, hb⟩
    have HB12 := Lib.hid (HB11.out.trans (hb.mono HB11.out.size))
    have Ra := Lib.hid (Ra.out.later hb)
    have Rb := Lib.hid (Rb.out.later hb)
    have Rc := Lib.hid (Rc.out.later hb)
    have Rx := Lib.hid (Rx.out.later hb)
    have Ry := Lib.hid (Ry.out.later hb)
    have Rz := Lib.hid (Rz.out.later hb)
    have Rm := Lib.hid (Rm.out.later hb)
    have Rd1 := Lib.hid (Rd1.out.later hb)
    have Rd2 := Lib.hid (Rd2.out.later hb)
    have Rd3 := Lib.hid (Rd3.out.later hb)
    have Rd4 := Lib.hid (Rd4.out.later hb)
    have Rd5 := Lib.hid (Rd5.out.later hb)
    clear hb
    go_wp2_with fail
    refine (union_to ub uc nb nc Ay Az cy cz w12 HLb.out HLc.out (by omega) (by omega) Ry.out Rz.out HRb.out HRc.out).mono ?_
    rintro e w13 ⟨ue1, ne1, Ae1, ce1, rfl, HLe1, HPe1, hqe1, Re1, hb⟩
    have HB13 := Lib.hid (HB12.out.trans (hb.mono HB12.out.size))
    have Ra := Lib.hid (Ra.out.later hb)
    have Rb := Lib.hid (Rb.out.later hb)
    have Rc := Lib.hid (Rc.out.later hb)
    have Rx := Lib.hid (Rx.out.later hb)
    have Ry := Lib.hid (Ry.out.later hb)
    have Rz := Lib.hid (Rz.out.later hb)
    have Rm := Lib.hid (Rm.out.later hb)
    have Rd1 := Lib.hid (Rd1.out.later hb)
    have Rd2 := Lib.hid (Rd2.out.later hb)
    have Rd3 := Lib.hid (Rd3.out.later hb)
    have Rd4 := Lib.hid (Rd4.out.later hb)
    have Rd5 := Lib.hid (Rd5.out.later hb)
    clear hb
    go_wp2_with fail
    refine (meet_to ua ue1 na ne1 Ax Ae1 cx ce1 w13 HLa.out HLe1.out (by omega) (by omega) Rx.out Re1.out HRa.out HPe1.out.right).mono ?_
    rintro e w14 ⟨ue2, ne2, Ae2, ce2, rfl, HLe2, HPe2, hqe2, Re2, hb⟩
    have HB14 := Lib.hid (HB13.out.trans (hb.mono HB13.out.size))
    have Ra := Lib.hid (Ra.out.later hb)
    have Rb := Lib.hid (Rb.out.later hb)
    have Rc := Lib.hid (Rc.out.later hb)
    have Rx := Lib.hid (Rx.out.later hb)
    have Ry := Lib.hid (Ry.out.later hb)
    have Rz := Lib.hid (Rz.out.later hb)
    have Rm := Lib.hid (Rm.out.later hb)
    have Rd1 := Lib.hid (Rd1.out.later hb)
    have Rd2 := Lib.hid (Rd2.out.later hb)
    have Rd3 := Lib.hid (Rd3.out.later hb)
    have Rd4 := Lib.hid (Rd4.out.later hb)
    have Rd5 := Lib.hid (Rd5.out.later hb)
    have Re1 := Lib.hid (Re1.out.later hb)
    clear hb
    go_wp2_with fail
    refine (meet_to ua uc na nc Ax Az cx cz w14 HLa.out HLc.out (by omega) (by omega) Rx.out Rz.out HRa.out HRc.out).mono ?_
    rintro e w15 ⟨ue3, ne3, Ae3, ce3, rfl, HLe3, HPe3, hqe3, Re3, hb⟩
    have HB15 := Lib.hid (HB14.out.trans (hb.mono HB14.out.size))
    have Ra := Lib.hid (Ra.out.later hb)
    have Rb := Lib.hid (Rb.out.later hb)
    have Rc := Lib.hid (Rc.out.later hb)
    have Rx := Lib.hid (Rx.out.later hb)
    have Ry := Lib.hid (Ry.out.later hb)
    have Rz := Lib.hid (Rz.out.later hb)
    have Rm := Lib.hid (Rm.out.later hb)
    have Rd1 := Lib.hid (Rd1.out.later hb)
    have Rd2 := Lib.hid (Rd2.out.later hb)
    have Rd3 := Lib.hid (Rd3.out.later hb)
    have Rd4 := Lib.hid (Rd4.out.later hb)
    have Rd5 := Lib.hid (Rd5.out.later hb)
    have Re1 := Lib.hid (Re1.out.later hb)
    have Re2 := Lib.hid (Re2.out.later hb)
    clear hb
    go_wp2_with fail
    refine (union_to um ue3 nm ne3 Am Ae3 cm ce3 w15 HLm.out HLe3.out (by omega) (by omega) Rm.out Re3.out HPm.out.right HPe3.out.right).mono ?_
    rintro e w16 ⟨ue4, ne4, Ae4, ce4, rfl, HLe4, HPe4, hqe4, Re4, hb⟩
    have HB16 := Lib.hid (HB15.out.trans (hb.mono HB15.out.size))
    have Ra := Lib.hid (Ra.out.later hb)
    have Rb := Lib.hid (Rb.out.later hb)
    have Rc := Lib.hid (Rc.out.later hb)
    have Rx := Lib.hid (Rx.out.later hb)
    have Ry := Lib.hid (Ry.out.later hb)
    have Rz := Lib.hid (Rz.out.later hb)
    have Rm := Lib.hid (Rm.out.later hb)
    have Rd1 := Lib.hid (Rd1.out.later hb)
    have Rd2 := Lib.hid (Rd2.out.later hb)
    have Rd3 := Lib.hid (Rd3.out.later hb)
    have Rd4 := Lib.hid (Rd4.out.later hb)
    have Rd5 := Lib.hid (Rd5.out.later hb)
    have Re1 := Lib.hid (Re1.out.later hb)
    have Re2 := Lib.hid (Re2.out.later hb)
    have Re3 := Lib.hid (Re3.out.later hb)
    clear hb
    go_wp2_with fail
    refine (plain_to ue4 ne4 Ae4 ce4 w16 HLe4.out (by omega) Re4.out).mono ?_
    rintro e w17 ⟨Ae5, ce5, rfl, hre5, hb⟩
    have HB17 := Lib.hid (HB16.out.trans (hb.mono HB16.out.size))
    have Ra := Lib.hid (Ra.out.later hb)
    have Rb := Lib.hid (Rb.out.later hb)
    have Rc := Lib.hid (Rc.out.later hb)
    have Rx := Lib.hid (Rx.out.later hb)
    have Ry := Lib.hid (Ry.out.later hb)
    have Rz := Lib.hid (Rz.out.later hb)
    have Rm := Lib.hid (Rm.out.later hb)
    have Rd1 := Lib.hid (Rd1.out.later hb)
    have Rd2 := Lib.hid (Rd2.out.later hb)
    have Rd3 := Lib.hid (Rd3.out.later hb)
    have Rd4 := Lib.hid (Rd4.out.later hb)
    have Rd5 := Lib.hid (Rd5.out.later hb)
    have Re1 := Lib.hid (Re1.out.later hb)
    have Re2 := Lib.hid (Re2.out.later hb)
    have Re3 := Lib.hid (Re3.out.later hb)
    have Re4 := Lib.hid (Re4.out.later hb)
    clear hb
    have Re5 := Lib.hid hre5
    clear hre5
    go_wp2_with fail
    refine (same_to ue2 ue4 ne2 ne4 Ae2 Ae5 ce2 ce5 w17 HLe2.out HLe4.out (by omega) Re2.out Re5.out (ext HPe2.out.right HPe4.out.right (by intro n; rw [HPe2.out.has, HPe1.out.has, HPe4.out.has, HPm.out.has, HPe3.out.has]; cases hasB ua n <;> cases hasB ub n <;> cases hasB uc n <;> rfl))).mono ?_
    rintro e w18 ⟨rfl, hb⟩
    have HB18 := Lib.hid (HB17.out.trans (hb.mono HB17.out.size))
    have Ra := Lib.hid (Ra.out.later hb)
    have Rb := Lib.hid (Rb.out.later hb)
    have Rc := Lib.hid (Rc.out.later hb)
    have Rx := Lib.hid (Rx.out.later hb)
    have Ry := Lib.hid (Ry.out.later hb)
    have Rz := Lib.hid (Rz.out.later hb)
    have Rm := Lib.hid (Rm.out.later hb)
    have Rd1 := Lib.hid (Rd1.out.later hb)
    have Rd2 := Lib.hid (Rd2.out.later hb)
    have Rd3 := Lib.hid (Rd3.out.later hb)
    have Rd4 := Lib.hid (Rd4.out.later hb)
    have Rd5 := Lib.hid (Rd5.out.later hb)
    have Re1 := Lib.hid (Re1.out.later hb)
    have Re2 := Lib.hid (Re2.out.later hb)
    have Re3 := Lib.hid (Re3.out.later hb)
    have Re4 := Lib.hid (Re4.out.later hb)
    have Re5 := Lib.hid (Re5.out.later hb)
    clear hb
    go_wp2_with fail
    refine (minus_to ua ub na nb Ax Ay cx cy w18 HLa.out HLb.out (by omega) (by omega) Rx.out Ry.out HRa.out HRb.out).mono ?_
    rintro e w19 ⟨uf1, nf1, Af1, cf1, rfl, HLf1, HPf1, hqf1, Rf1, hb⟩
    have HB19 := Lib.hid (HB18.out.trans (hb.mono HB18.out.size))
    have Ra := Lib.hid (Ra.out.later hb)
    have Rb := Lib.hid (Rb.out.later hb)
    have Rc := Lib.hid (Rc.out.later hb)
    have Rx := Lib.hid (Rx.out.later hb)
    have Ry := Lib.hid (Ry.out.later hb)
    have Rz := Lib.hid (Rz.out.later hb)
    have Rm := Lib.hid (Rm.out.later hb)
    have Rd1 := Lib.hid (Rd1.out.later hb)
    have Rd2 := Lib.hid (Rd2.out.later hb)
    have Rd3 := Lib.hid (Rd3.out.later hb)
    have Rd4 := Lib.hid (Rd4.out.later hb)
    have Rd5 := Lib.hid (Rd5.out.later hb)
    have Re1 := Lib.hid (Re1.out.later hb)
    have Re2 := Lib.hid (Re2.out.later hb)
    have Re3 := Lib.hid (Re3.out.later hb)
    have Re4 := Lib.hid (Re4.out.later hb)
    have Re5 := Lib.hid (Re5.out.later hb)
    clear hb
    go_wp2_with fail
    refine (minus_to ua uf1 na nf1 Ax Af1 cx cf1 w19 HLa.out HLf1.out (by omega) (by omega) Rx.out Rf1.out HRa.out HPf1.out.right).mono ?_
    rintro e w20 ⟨uf2, nf2, Af2, cf2, rfl, HLf2, HPf2, hqf2, Rf2, hb⟩
    have HB20 := Lib.hid (HB19.out.trans (hb.mono HB19.out.size))
    have Ra := Lib.hid (Ra.out.later hb)
    have Rb := Lib.hid (Rb.out.later hb)
    have Rc := Lib.hid (Rc.out.later hb)
    have Rx := Lib.hid (Rx.out.later hb)
    have Ry := Lib.hid (Ry.out.later hb)
    have Rz := Lib.hid (Rz.out.later hb)
    have Rm := Lib.hid (Rm.out.later hb)
    have Rd1 := Lib.hid (Rd1.out.later hb)
    have Rd2 := Lib.hid (Rd2.out.later hb)
    have Rd3 := Lib.hid (Rd3.out.later hb)
    have Rd4 := Lib.hid (Rd4.out.later hb)
    have Rd5 := Lib.hid (Rd5.out.later hb)
    have Re1 := Lib.hid (Re1.out.later hb)
    have Re2 := Lib.hid (Re2.out.later hb)
    have Re3 := Lib.hid (Re3.out.later hb)
    have Re4 := Lib.hid (Re4.out.later hb)
    have Re5 := Lib.hid (Re5.out.later hb)
    have Rf1 := Lib.hid (Rf1.out.later hb)
    clear hb
    go_wp2_with fail
    refine (plain_to um nm Am cm w20 HLm.out (by omega) Rm.out).mono ?_
    rintro e w21 ⟨Af3, cf3, rfl, hrf3, hb⟩
    have HB21 := Lib.hid (HB20.out.trans (hb.mono HB20.out.size))
    have Ra := Lib.hid (Ra.out.later hb)
    have Rb := Lib.hid (Rb.out.later hb)
    have Rc := Lib.hid (Rc.out.later hb)
    have Rx := Lib.hid (Rx.out.later hb)
    have Ry := Lib.hid (Ry.out.later hb)
    have Rz := Lib.hid (Rz.out.later hb)
    have Rm := Lib.hid (Rm.out.later hb)
    have Rd1 := Lib.hid (Rd1.out.later hb)
    have Rd2 := Lib.hid (Rd2.out.later hb)
    have Rd3 := Lib.hid (Rd3.out.later hb)
    have Rd4 := Lib.hid (Rd4.out.later hb)
    have Rd5 := Lib.hid (Rd5.out.later hb)
    have Re1 := Lib.hid (Re1.out.later hb)
    have Re2 := Lib.hid (Re2.out.later hb)
    have Re3 := Lib.hid (Re3.out.later hb)
    have Re4 := Lib.hid (Re4.out.later hb)
    have Re5 := Lib.hid (Re5.out.later hb)
    have Rf1 := Lib.hid (Rf1.out.later hb)
    have Rf2 := Lib.hid (Rf2.out.later hb)
    clear hb
    have Rf3 := Lib.hid hrf3
    clear hrf3
    go_wp2_with fail
    refine (same_to uf2 um nf2 nm Af2 Af3 cf2 cf3 w21 HLf2.out HLm.out (by omega) Rf2.out Rf3.out (ext HPf2.out.right HPm.out.right (by intro n; rw [HPf2.out.has, HPf1.out.has, HPm.out.has]; cases hasB ua n <;> cases hasB ub n <;> cases hasB uc n <;> rfl))).mono ?_
    rintro e w22 ⟨rfl, hb⟩
    have HB22 := Lib.hid (HB21.out.trans (hb.mono HB21.out.size))
    have Ra := Lib.hid (Ra.out.later hb)
    have Rb := Lib.hid (Rb.out.later hb)
    have Rc := Lib.hid (Rc.out.later hb)
    have Rx := Lib.hid (Rx.out.later hb)
    have Ry := Lib.hid (Ry.out.later hb)
    have Rz := Lib.hid (Rz.out.later hb)
    have Rm := Lib.hid (Rm.out.later hb)
    have Rd1 := Lib.hid (Rd1.out.later hb)
    have Rd2 := Lib.hid (Rd2.out.later hb)
    have Rd3 := Lib.hid (Rd3.out.later hb)
    have Rd4 := Lib.hid (Rd4.out.later hb)
    have Rd5 := Lib.hid (Rd5.out.later hb)
    have Re1 := Lib.hid (Re1.out.later hb)
    have Re2 := Lib.hid (Re2.out.later hb)
    have Re3 := Lib.hid (Re3.out.later hb)
    have Re4 := Lib.hid (Re4.out.later hb)
    have Re5 := Lib.hid (Re5.out.later hb)
    have Rf1 := Lib.hid (Rf1.out.later hb)
    have Rf2 := Lib.hid (Rf2.out.later hb)
    have Rf3 := Lib.hid (Rf3.out.later hb)
    clear hb
    go_wp2_with fail
    refine (minus_to ua ub na nb Ax Ay cx cy w22 HLa.out HLb.out (by omega) (by omega) Rx.out Ry.out HRa.out HRb.out).mono ?_
    rintro e w23 ⟨ug1, ng1, Ag1, cg1, rfl, HLg1, HPg1, hqg1, Rg1, hb⟩
    have HB23 := Lib.hid (HB22.out.trans (hb.mono HB22.out.size))
    have Ra := Lib.hid (Ra.out.later hb)
    have Rb := Lib.hid (Rb.out.later hb)
    have Rc := Lib.hid (Rc.out.later hb)
    have Rx := Lib.hid (Rx.out.later hb)
    have Ry := Lib.hid (Ry.out.later hb)
    have Rz := Lib.hid (Rz.out.later hb)
    have Rm := Lib.hid (Rm.out.later hb)
    have Rd1 := Lib.hid (Rd1.out.later hb)
    have Rd2 := Lib.hid (Rd2.out.later hb)
    have Rd3 := Lib.hid (Rd3.out.later hb)
    have Rd4 := Lib.hid (Rd4.out.later hb)
    have Rd5 := Lib.hid (Rd5.out.later hb)
    have Re1 := Lib.hid (Re1.out.later hb)
    have Re2 := Lib.hid (Re2.out.later hb)
    have Re3 := Lib.hid (Re3.out.later hb)
    have Re4 := Lib.hid (Re4.out.later hb)
    have Re5 := Lib.hid (Re5.out.later hb)
    have Rf1 := Lib.hid (Rf1.out.later hb)
    have Rf2 := Lib.hid (Rf2.out.later hb)
    have Rf3 := Lib.hid (Rf3.out.later hb)
    clear hb
    go_wp2_with fail
    refine (union_to um ug1 nm ng1 Am Ag1 cm cg1 w23 HLm.out HLg1.out (by omega) (by omega) Rm.out Rg1.out HPm.out.right HPg1.out.right).mono ?_
    rintro e w24 ⟨ug2, ng2, Ag2, cg2, rfl, HLg2, HPg2, hqg2, Rg2, hb⟩
    have HB24 := Lib.hid (HB23.out.trans (hb.mono HB23.out.size))
    have Ra := Lib.hid (Ra.out.later hb)
    have Rb := Lib.hid (Rb.out.later hb)
    have Rc := Lib.hid (Rc.out.later hb)
    have Rx := Lib.hid (Rx.out.later hb)
    have Ry := Lib.hid (Ry.out.later hb)
    have Rz := Lib.hid (Rz.out.later hb)
    have Rm := Lib.hid (Rm.out.later hb)
    have Rd1 := Lib.hid (Rd1.out.later hb)
    have Rd2 := Lib.hid (Rd2.out.later hb)
    have Rd3 := Lib.hid (Rd3.out.later hb)
    have Rd4 := Lib.hid (Rd4.out.later hb)
    have Rd5 := Lib.hid (Rd5.out.later hb)
    have Re1 := Lib.hid (Re1.out.later hb)
    have Re2 := Lib.hid (Re2.out.later hb)
    have Re3 := Lib.hid (Re3.out.later hb)
    have Re4 := Lib.hid (Re4.out.later hb)
    have Re5 := Lib.hid (Re5.out.later hb)
    have Rf1 := Lib.hid (Rf1.out.later hb)
    have Rf2 := Lib.hid (Rf2.out.later hb)
    have Rf3 := Lib.hid (Rf3.out.later hb)
    have Rg1 := Lib.hid (Rg1.out.later hb)
    clear hb
    go_wp2_with fail
    refine (same_to ug2 ua ng2 na Ag2 Aa cg2 ca w24 HLg2.out HLa.out (by omega) Rg2.out Ra.out (ext HPg2.out.right HRa.out (by intro n; rw [HPg2.out.has, HPm.out.has, HPg1.out.has]; cases hasB ua n <;> cases hasB ub n <;> cases hasB uc n <;> rfl))).mono ?_
    rintro e w25 ⟨rfl, hb⟩
    have HB25 := Lib.hid (HB24.out.trans (hb.mono HB24.out.size))
    have Ra := Lib.hid (Ra.out.later hb)
    have Rb := Lib.hid (Rb.out.later hb)
    have Rc := Lib.hid (Rc.out.later hb)
    have Rx := Lib.hid (Rx.out.later hb)
    have Ry := Lib.hid (Ry.out.later hb)
    have Rz := Lib.hid (Rz.out.later hb)
    have Rm := Lib.hid (Rm.out.later hb)
    have Rd1 := Lib.hid (Rd1.out.later hb)
    have Rd2 := Lib.hid (Rd2.out.later hb)
    have Rd3 := Lib.hid (Rd3.out.later hb)
    have Rd4 := Lib.hid (Rd4.out.later hb)
    have Rd5 := Lib.hid (Rd5.out.later hb)
    have Re1 := Lib.hid (Re1.out.later hb)
    have Re2 := Lib.hid (Re2.out.later hb)
    have Re3 := Lib.hid (Re3.out.later hb)
    have Re4 := Lib.hid (Re4.out.later hb)
    have Re5 := Lib.hid (Re5.out.later hb)
    have Rf1 := Lib.hid (Rf1.out.later hb)
    have Rf2 := Lib.hid (Rf2.out.later hb)
    have Rf3 := Lib.hid (Rf3.out.later hb)
    have Rg1 := Lib.hid (Rg1.out.later hb)
    have Rg2 := Lib.hid (Rg2.out.later hb)
    clear hb
    go_wp2
    go_ret
    exact ⟨rfl, HB25.out⟩
set_option maxRecDepth 100000 in
theorem lifted (os : Os) (started : os.Started) (H : Type) (enc : TypeId × Value → H) :
    ReturnsInHanded {} Try.checked os 8 .any (Rows.spanAlgebraSpec.pre6 enc Try.prog Try.f8 Rows.spanAlgebraRow.domain false) (Rows.spanAlgebraSpec.post enc Try.prog Try.f8 false true false false) := by
  refine returnsInHanded_of_change (C := Try.checked) own started (by kernel_rfl) Try.func8
    (ChangeSpec.witness6 (enc := enc) (C := Try.checked) false ⟨#[], #[.slice none 0 0, .slice none 0 0, .slice none 0 0], []⟩ 8 (by kernel_rfl) (by kernel_rfl) (by kernel_rfl) (by kernel_rfl)) ?_
  intro W base args ds gs before hval0 hW _ _
  have hval : ∀ (j : Nat) t v, Try.f8.params[j]? = some t → args[j]? = some v → Value.okWide Try.prog W .any base t v := hval0
  have hW' := hW
  obtain ⟨p, q, hA0, hV, rfl, hfz, hnd⟩ := hW
  have hA : DataW.TrodAll enc Try.prog W 0 (fun _ => true) true Try.f8.params.toList args.toList ds p := hA0
  rw [Try.params8] at hA hval
  obtain ⟨v0, v1, v2, d0, d1, d2, p0, p1, p2, rfl, rfl, rfl, h0, h1, h2⟩ := trodAll_three hA
  obtain ⟨rfl, rfl⟩ := trodVars_none hV
  obtain ⟨a0, len0, cap0, rfl⟩ := okWide_slice Try.underlying22 (hval 0 22 v0 rfl rfl)
  obtain ⟨fuel0, hf0⟩ := h0
  obtain ⟨l0, rfl, hr0, _⟩ := Sp.runs_of_trod hf0
  obtain ⟨a1, len1, cap1, rfl⟩ := okWide_slice Try.underlying22 (hval 1 22 v1 rfl rfl)
  obtain ⟨fuel1, hf1⟩ := h1
  obtain ⟨l1, rfl, hr1, _⟩ := Sp.runs_of_trod hf1
  obtain ⟨a2, len2, cap2, rfl⟩ := okWide_slice Try.underlying22 (hval 2 22 v2 rfl rfl)
  obtain ⟨fuel2, hf2⟩ := h2
  obtain ⟨l2, rfl, hr2, _⟩ := Sp.runs_of_trod hf2
  refine (walk_any l0 a0 cap0 l1 a1 cap1 l2 a2 cap2 W hr0 hr1 hr2).mono fun e W' ⟨he, hb⟩ => ?_
  subst he
  exact ⟨_, rfl, law_post hW' (by kernel_rfl) rfl rfl rfl hb⟩
theorem proved : Rows.SpanAlgebraSaid :=
  OpenClaim.holds_of_wide 8 Try.f8 rfl rfl rfl rfl rfl rfl rfl ⟨rfl, rfl, rfl, rfl, rfl⟩ rfl rfl rfl rfl rfl (by kernel_rfl) Try.func8 (by kernel_rfl)
    (of_decide_eq_true (by kernel_rfl)) (by unfold Func.isWrapper; first | (rw [if_pos (by decide +kernel)]; kernel_rfl) | (rw [if_neg (by decide +kernel)]; exact ⟨rfl, rfl⟩))
    (fun os started H enc _ => lifted os started H enc)
#print axioms proved
end Go.Proofs.Ytcdpmedihgobcaa.lawSpanAlgebra
