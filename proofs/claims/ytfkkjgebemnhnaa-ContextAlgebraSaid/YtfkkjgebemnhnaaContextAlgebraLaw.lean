/- ContextAlgebra answers true for every three lists of spans. No condition. -/
import Derived.Test.YtfkkjgebemnhnaaCtx5
import Derived.Test.YtfkkjgebemnhnaaCtxSame
import Derived.Test.YtfkkjgebemnhnaaCtxAwake
import Derived.Test.YtfkkjgebemnhnaaCtxArgs
import Derived.ProofKit
import Derived.OpenShut
namespace Go.Proofs.Ytfkkjgebemnhnaa.lawContextAlgebra
open Go.ChangeShapes Go.WideShapes Go.ChangeAt Go.RowKit Sp Rw Cx
/-- is a within b? -/
def InC (a b : List S3) (z : Bool) : Prop := z = true ↔ ∀ d n, Cen d → hasC a d n = true → hasC b d n = true
theorem has_none {d n : Int} : hasC [] d n = false := rfl
theorem leq_nil {a b l : List S3} (hp : PutC minF a b l) : l = [] ↔ ∀ d n, Cen d → hasC a d n = true → hasC b d n = true := by
  constructor
  · rintro rfl d n hd h
    have := hp.has d n hd
    rw [has_none, h] at this
    cases hh : hasC b d n with
    | true => rfl
    | false => rw [hh] at this; cases this
  · intro h
    refine extC hp.right ⟨trivial, fun _ _ => trivial⟩ fun d n hd => ?_
    rw [hp.has d n hd, has_none]
    unfold minF
    cases h1 : hasC a d n with
    | false => rfl
    | true => rw [h d n hd h1]; rfl
theorem leqC_iff (a b : List S3) (n m : Nat) (A B : Option Addr) (c d : Nat) (w : World) (hla : a.length = n) (hlb : b.length = m) (hn : n ≤ 50000) (hm : m ≤ 50000) (hra : Rd w w.heap.size 3 A n c (spsC a)) (hrb : Rd w w.heap.size 3 B m d (spsC b)) (ha : RightC a) (hb : RightC b) (z : Bool) (hz : InC a b z) :
    Calls Try.prog 33 #[.slice A n c, .slice B m d] w fun e w' => e = .returned (.bool z) ∧ Below w.heap.size w w' := by
  refine (leqC_any a b n m A B c d w hla hlb hn hm hra hrb ha hb).mono ?_
  rintro e w' ⟨l, hp, he, hb⟩
  refine ⟨?_, hb⟩
  rw [he]
  congr 2
  rw [Bool.eq_iff_iff, decide_eq_true_iff]
  exact (leq_nil hp).trans (Iff.symm hz)
theorem in_both {a b c u : List S3} (hu : PutC uniF a b u) (h1 : InC a c true) (h2 : InC b c true) : InC u c true := ⟨fun _ d n hd h => by
  rw [hu.has d n hd] at h
  cases e1 : hasC a d n with
  | true => exact h1.1 rfl d n hd e1
  | false => rw [e1] at h; exact h2.1 rfl d n hd h, fun _ => rfl⟩
theorem same_true {a b : List S3} (ha : RightC a) (h : a = b) : true = (rightCB a && decide (a = b)) := by rw [rightCB_true ha, decide_eq_true h]; rfl
theorem same_leq {a b u : List S3} (_ : RightC a) (hb : RightC b) (hu : PutC uniF a b u) (z : Bool) (hz : InC a b z) : z = decide (u = b) := by
  rw [Bool.eq_iff_iff, decide_eq_true_iff]
  refine Iff.trans hz ?_
  constructor
  · intro h
    refine extC hu.right hb fun d n hd => ?_
    rw [hu.has d n hd]
    unfold uniF
    cases h1 : hasC a d n with
    | false => rfl
    | true => rw [h d n hd h1]; rfl
  · rintro rfl d n hd h
    rw [hu.has d n hd, h]; rfl
set_option maxRecDepth 100000 in
set_option maxHeartbeats 8000000 in
theorem walk_any (ua : List S3) (Aa : Option Addr) (ca : Nat) (ub : List S3) (Ab : Option Addr) (cb : Nat) (uc : List S3) (Ac : Option Addr) (cc : Nat) (w : World) (hra : Rd w w.heap.size 3 Aa ua.length ca (spsC ua)) (hrb : Rd w w.heap.size 3 Ab ub.length cb (spsC ub)) (hrc : Rd w w.heap.size 3 Ac uc.length cc (spsC uc)) :
    Calls Try.prog 9 #[.slice Aa ua.length ca, .slice Ab ub.length cb, .slice Ac uc.length cc] w fun e w' => e = .returned (.bool true) ∧ Below w.heap.size w w' := by
  obtain ⟨na, hna⟩ : ∃ n, n = ua.length := ⟨_, rfl⟩
  rw [← hna] at hra ⊢
  have HLa : Hid (ua.length = na) := hna.symm
  have Ra := Lib.hid hra
  clear hra hna
  obtain ⟨nb, hnb⟩ : ∃ n, n = ub.length := ⟨_, rfl⟩
  rw [← hnb] at hrb ⊢
  have HLb : Hid (ub.length = nb) := hnb.symm
  have Rb := Lib.hid hrb
  clear hrb hnb
  obtain ⟨nc, hnc⟩ : ∃ n, n = uc.length := ⟨_, rfl⟩
  rw [← hnc] at hrc ⊢
  have HLc : Hid (uc.length = nc) := hnc.symm
  have Rc := Lib.hid hrc
  clear hrc hnc
  have HB0 : Hid (Below w.heap.size w w) := Below.refl _ _
  cases hz : ([⟨Aa, na, ca, ua⟩, ⟨Ab, nb, cb, ub⟩, ⟨Ac, nc, cc, uc⟩] : List CP).all CP.ok with
  | false =>
    have HZ := Lib.hid hz
    clear hz
    go_enter Try.func9, Try.ntmps9
    go_wp2_with fail
    refine (Cx.awake_any _).mono ?_
    rintro e w1 ⟨rfl, hb⟩
    have HB1 := Lib.hid (HB0.out.trans (hb.mono HB0.out.size))
    have Ra := Lib.hid (Ra.out.later hb)
    have Rb := Lib.hid (Rb.out.later hb)
    have Rc := Lib.hid (Rc.out.later hb)
    clear hb
    go_wp2_with fail
    refine (rights_to [⟨Aa, na, ca, ua⟩, ⟨Ab, nb, cb, ub⟩, ⟨Ac, nc, cc, uc⟩] #[.slice Aa na ca, .slice Ab nb cb, .slice Ac nc cc] 3 w1 rfl rfl (by omega) (by intro p hp; simp only [List.mem_cons, List.not_mem_nil, or_false] at hp; rcases hp with rfl | rfl | rfl; all_goals first | exact ⟨HLa.out, Ra.out⟩ | exact ⟨HLb.out, Rb.out⟩ | exact ⟨HLc.out, Rc.out⟩) false HZ.out).mono ?_
    rintro e w2 ⟨rfl, hb⟩
    have HB2 := Lib.hid (HB1.out.trans (hb.mono HB1.out.size))
    have Ra := Lib.hid (Ra.out.later hb)
    have Rb := Lib.hid (Rb.out.later hb)
    have Rc := Lib.hid (Rc.out.later hb)
    clear hb
    go_wp2_with fail
    refine (Cx.awake_any _).mono ?_
    rintro e w3 ⟨rfl, hb⟩
    have HB3 := Lib.hid (HB2.out.trans (hb.mono HB2.out.size))
    have Ra := Lib.hid (Ra.out.later hb)
    have Rb := Lib.hid (Rb.out.later hb)
    have Rc := Lib.hid (Rc.out.later hb)
    clear hb
    go_wp2
    go_ret
    exact ⟨rfl, HB3.out⟩
  | true =>
    have HZ := Lib.hid hz
    simp only [List.all_cons, List.all_nil, CP.ok, Bool.and_true, Bool.and_eq_true, decide_eq_true_eq] at hz
    obtain ⟨⟨h40a, hRa⟩, ⟨h40b, hRb⟩, ⟨h40c, hRc⟩⟩ := hz
    have HRa0 := Lib.hid hRa
    have HRa : Hid (RightC ua) := Lib.hid (of_rightCB hRa)
    clear hRa
    have HRb0 := Lib.hid hRb
    have HRb : Hid (RightC ub) := Lib.hid (of_rightCB hRb)
    clear hRb
    have HRc0 := Lib.hid hRc
    have HRc : Hid (RightC uc) := Lib.hid (of_rightCB hRc)
    clear hRc
    go_enter Try.func9, Try.ntmps9
    go_wp2_with fail
    refine (Cx.awake_any _).mono ?_
    rintro e w1 ⟨rfl, hb⟩
    have HB1 := Lib.hid (HB0.out.trans (hb.mono HB0.out.size))
    have Ra := Lib.hid (Ra.out.later hb)
    have Rb := Lib.hid (Rb.out.later hb)
    have Rc := Lib.hid (Rc.out.later hb)
    clear hb
    go_wp2_with fail
    refine (rights_to [⟨Aa, na, ca, ua⟩, ⟨Ab, nb, cb, ub⟩, ⟨Ac, nc, cc, uc⟩] #[.slice Aa na ca, .slice Ab nb cb, .slice Ac nc cc] 3 w1 rfl rfl (by omega) (by intro p hp; simp only [List.mem_cons, List.not_mem_nil, or_false] at hp; rcases hp with rfl | rfl | rfl; all_goals first | exact ⟨HLa.out, Ra.out⟩ | exact ⟨HLb.out, Rb.out⟩ | exact ⟨HLc.out, Rc.out⟩) true HZ.out).mono ?_
    rintro e w2 ⟨rfl, hb⟩
    have HB2 := Lib.hid (HB1.out.trans (hb.mono HB1.out.size))
    have Ra := Lib.hid (Ra.out.later hb)
    have Rb := Lib.hid (Rb.out.later hb)
    have Rc := Lib.hid (Rc.out.later hb)
    clear hb
    go_wp2_with fail
    refine (unionC_any ua ub na nb Aa Ab ca cb w2 HLa.out HLb.out (by omega) (by omega) Ra.out Rb.out HRa.out HRb.out).mono ?_
    rintro e w3 ⟨uu, nu, Au, cu, rfl, HLu, HPu, hqu, Ru, hb⟩
    have HB3 := Lib.hid (HB2.out.trans (hb.mono HB2.out.size))
    have Ra := Lib.hid (Ra.out.later hb)
    have Rb := Lib.hid (Rb.out.later hb)
    have Rc := Lib.hid (Rc.out.later hb)
    clear hb
    go_wp2_with fail
    refine (unionC_any uu uc nu nc Au Ac cu cc w3 HLu.out HLc.out (by omega) (by omega) Ru.out Rc.out HPu.out.right HRc.out).mono ?_
    rintro e w4 ⟨ud2, nd2, Ad2, cd2, rfl, HLd2, HPd2, hqd2, Rd2, hb⟩
    have HB4 := Lib.hid (HB3.out.trans (hb.mono HB3.out.size))
    have Ra := Lib.hid (Ra.out.later hb)
    have Rb := Lib.hid (Rb.out.later hb)
    have Rc := Lib.hid (Rc.out.later hb)
    have Ru := Lib.hid (Ru.out.later hb)
    clear hb
    go_wp2_with fail
    refine (unionC_any uc ub nc nb Ac Ab cc cb w4 HLc.out HLb.out (by omega) (by omega) Rc.out Rb.out HRc.out HRb.out).mono ?_
    rintro e w5 ⟨ud3, nd3, Ad3, cd3, rfl, HLd3, HPd3, hqd3, Rd3, hb⟩
    have HB5 := Lib.hid (HB4.out.trans (hb.mono HB4.out.size))
    have Ra := Lib.hid (Ra.out.later hb)
    have Rb := Lib.hid (Rb.out.later hb)
    have Rc := Lib.hid (Rc.out.later hb)
    have Ru := Lib.hid (Ru.out.later hb)
    have Rd2 := Lib.hid (Rd2.out.later hb)
    clear hb
    go_wp2_with fail
    refine (unionC_any ud3 ua nd3 na Ad3 Aa cd3 ca w5 HLd3.out HLa.out (by omega) (by omega) Rd3.out Ra.out HPd3.out.right HRa.out).mono ?_
    rintro e w6 ⟨ud4, nd4, Ad4, cd4, rfl, HLd4, HPd4, hqd4, Rd4, hb⟩
    have HB6 := Lib.hid (HB5.out.trans (hb.mono HB5.out.size))
    have Ra := Lib.hid (Ra.out.later hb)
    have Rb := Lib.hid (Rb.out.later hb)
    have Rc := Lib.hid (Rc.out.later hb)
    have Ru := Lib.hid (Ru.out.later hb)
    have Rd2 := Lib.hid (Rd2.out.later hb)
    have Rd3 := Lib.hid (Rd3.out.later hb)
    clear hb
    go_wp2_with fail
    refine (sameC_any ud2 ud4 nd2 nd4 Ad2 Ad4 cd2 cd4 w6 HLd2.out HLd4.out (by omega) Rd2.out Rd4.out true (same_true HPd2.out.right (extC HPd2.out.right HPd4.out.right (by intro d n hd; rw [HPd2.out.has d n hd, HPu.out.has d n hd, HPd4.out.has d n hd, HPd3.out.has d n hd]; cases hasC ua d n <;> cases hasC ub d n <;> cases hasC uc d n <;> rfl)))).mono ?_
    rintro e w7 ⟨rfl, hb⟩
    have HB7 := Lib.hid (HB6.out.trans (hb.mono HB6.out.size))
    have Ra := Lib.hid (Ra.out.later hb)
    have Rb := Lib.hid (Rb.out.later hb)
    have Rc := Lib.hid (Rc.out.later hb)
    have Ru := Lib.hid (Ru.out.later hb)
    have Rd2 := Lib.hid (Rd2.out.later hb)
    have Rd3 := Lib.hid (Rd3.out.later hb)
    have Rd4 := Lib.hid (Rd4.out.later hb)
    clear hb
    go_wp2_with fail
    refine (unionC_any ub uc nb nc Ab Ac cb cc w7 HLb.out HLc.out (by omega) (by omega) Rb.out Rc.out HRb.out HRc.out).mono ?_
    rintro e w8 ⟨ue1, ne1, Ae1, ce1, rfl, HLe1, HPe1, hqe1, Re1, hb⟩
    have HB8 := Lib.hid (HB7.out.trans (hb.mono HB7.out.size))
    have Ra := Lib.hid (Ra.out.later hb)
    have Rb := Lib.hid (Rb.out.later hb)
    have Rc := Lib.hid (Rc.out.later hb)
    have Ru := Lib.hid (Ru.out.later hb)
    have Rd2 := Lib.hid (Rd2.out.later hb)
    have Rd3 := Lib.hid (Rd3.out.later hb)
    have Rd4 := Lib.hid (Rd4.out.later hb)
    clear hb
    go_wp2_with fail
    refine (meetC_any ua ue1 na ne1 Aa Ae1 ca ce1 w8 HLa.out HLe1.out (by omega) (by omega) Ra.out Re1.out HRa.out HPe1.out.right).mono ?_
    rintro e w9 ⟨ue2, ne2, Ae2, ce2, rfl, HLe2, HPe2, hqe2, Re2, hb⟩
    have HB9 := Lib.hid (HB8.out.trans (hb.mono HB8.out.size))
    have Ra := Lib.hid (Ra.out.later hb)
    have Rb := Lib.hid (Rb.out.later hb)
    have Rc := Lib.hid (Rc.out.later hb)
    have Ru := Lib.hid (Ru.out.later hb)
    have Rd2 := Lib.hid (Rd2.out.later hb)
    have Rd3 := Lib.hid (Rd3.out.later hb)
    have Rd4 := Lib.hid (Rd4.out.later hb)
    have Re1 := Lib.hid (Re1.out.later hb)
    clear hb
    go_wp2_with fail
    refine (meetC_any ua ub na nb Aa Ab ca cb w9 HLa.out HLb.out (by omega) (by omega) Ra.out Rb.out HRa.out HRb.out).mono ?_
    rintro e w10 ⟨um, nm, Am, cm, rfl, HLm, HPm, hqm, Rm, hb⟩
    have HB10 := Lib.hid (HB9.out.trans (hb.mono HB9.out.size))
    have Ra := Lib.hid (Ra.out.later hb)
    have Rb := Lib.hid (Rb.out.later hb)
    have Rc := Lib.hid (Rc.out.later hb)
    have Ru := Lib.hid (Ru.out.later hb)
    have Rd2 := Lib.hid (Rd2.out.later hb)
    have Rd3 := Lib.hid (Rd3.out.later hb)
    have Rd4 := Lib.hid (Rd4.out.later hb)
    have Re1 := Lib.hid (Re1.out.later hb)
    have Re2 := Lib.hid (Re2.out.later hb)
    clear hb
    go_wp2_with fail
    refine (meetC_any ua uc na nc Aa Ac ca cc w10 HLa.out HLc.out (by omega) (by omega) Ra.out Rc.out HRa.out HRc.out).mono ?_
    rintro e w11 ⟨ue3, ne3, Ae3, ce3, rfl, HLe3, HPe3, hqe3, Re3, hb⟩
    have HB11 := Lib.hid (HB10.out.trans (hb.mono HB10.out.size))
    have Ra := Lib.hid (Ra.out.later hb)
    have Rb := Lib.hid (Rb.out.later hb)
    have Rc := Lib.hid (Rc.out.later hb)
    have Ru := Lib.hid (Ru.out.later hb)
    have Rd2 := Lib.hid (Rd2.out.later hb)
    have Rd3 := Lib.hid (Rd3.out.later hb)
    have Rd4 := Lib.hid (Rd4.out.later hb)
    have Re1 := Lib.hid (Re1.out.later hb)
    have Re2 := Lib.hid (Re2.out.later hb)
    have Rm := Lib.hid (Rm.out.later hb)
    clear hb
    go_wp2_with fail
    refine (unionC_any um ue3 nm ne3 Am Ae3 cm ce3 w11 HLm.out HLe3.out (by omega) (by omega) Rm.out Re3.out HPm.out.right HPe3.out.right).mono ?_
    rintro e w12 ⟨ue4, ne4, Ae4, ce4, rfl, HLe4, HPe4, hqe4, Re4, hb⟩
    have HB12 := Lib.hid (HB11.out.trans (hb.mono HB11.out.size))
    have Ra := Lib.hid (Ra.out.later hb)
    have Rb := Lib.hid (Rb.out.later hb)
    have Rc := Lib.hid (Rc.out.later hb)
    have Ru := Lib.hid (Ru.out.later hb)
    have Rd2 := Lib.hid (Rd2.out.later hb)
    have Rd3 := Lib.hid (Rd3.out.later hb)
    have Rd4 := Lib.hid (Rd4.out.later hb)
    have Re1 := Lib.hid (Re1.out.later hb)
    have Re2 := Lib.hid (Re2.out.later hb)
    have Rm := Lib.hid (Rm.out.later hb)
    have Re3 := Lib.hid (Re3.out.later hb)
    clear hb
    go_wp2_with fail
    refine (sameC_any ue2 ue4 ne2 ne4 Ae2 Ae4 ce2 ce4 w12 HLe2.out HLe4.out (by omega) Re2.out Re4.out true (same_true HPe2.out.right (extC HPe2.out.right HPe4.out.right (by intro d n hd; rw [HPe2.out.has d n hd, HPe1.out.has d n hd, HPe4.out.has d n hd, HPm.out.has d n hd, HPe3.out.has d n hd]; cases hasC ua d n <;> cases hasC ub d n <;> cases hasC uc d n <;> rfl)))).mono ?_
    rintro e w13 ⟨rfl, hb⟩
    have HB13 := Lib.hid (HB12.out.trans (hb.mono HB12.out.size))
    have Ra := Lib.hid (Ra.out.later hb)
    have Rb := Lib.hid (Rb.out.later hb)
    have Rc := Lib.hid (Rc.out.later hb)
    have Ru := Lib.hid (Ru.out.later hb)
    have Rd2 := Lib.hid (Rd2.out.later hb)
    have Rd3 := Lib.hid (Rd3.out.later hb)
    have Rd4 := Lib.hid (Rd4.out.later hb)
    have Re1 := Lib.hid (Re1.out.later hb)
    have Re2 := Lib.hid (Re2.out.later hb)
    have Rm := Lib.hid (Rm.out.later hb)
    have Re3 := Lib.hid (Re3.out.later hb)
    have Re4 := Lib.hid (Re4.out.later hb)
    clear hb
    go_wp2_with fail
    refine (minusC_any ua ub na nb Aa Ab ca cb w13 HLa.out HLb.out (by omega) (by omega) Ra.out Rb.out HRa.out HRb.out).mono ?_
    rintro e w14 ⟨uf1, nf1, Af1, cf1, rfl, HLf1, HPf1, hqf1, Rf1, hb⟩
    have HB14 := Lib.hid (HB13.out.trans (hb.mono HB13.out.size))
    have Ra := Lib.hid (Ra.out.later hb)
    have Rb := Lib.hid (Rb.out.later hb)
    have Rc := Lib.hid (Rc.out.later hb)
    have Ru := Lib.hid (Ru.out.later hb)
    have Rd2 := Lib.hid (Rd2.out.later hb)
    have Rd3 := Lib.hid (Rd3.out.later hb)
    have Rd4 := Lib.hid (Rd4.out.later hb)
    have Re1 := Lib.hid (Re1.out.later hb)
    have Re2 := Lib.hid (Re2.out.later hb)
    have Rm := Lib.hid (Rm.out.later hb)
    have Re3 := Lib.hid (Re3.out.later hb)
    have Re4 := Lib.hid (Re4.out.later hb)
    clear hb
    go_wp2_with fail
    refine (minusC_any ua uf1 na nf1 Aa Af1 ca cf1 w14 HLa.out HLf1.out (by omega) (by omega) Ra.out Rf1.out HRa.out HPf1.out.right).mono ?_
    rintro e w15 ⟨uf2, nf2, Af2, cf2, rfl, HLf2, HPf2, hqf2, Rf2, hb⟩
    have HB15 := Lib.hid (HB14.out.trans (hb.mono HB14.out.size))
    have Ra := Lib.hid (Ra.out.later hb)
    have Rb := Lib.hid (Rb.out.later hb)
    have Rc := Lib.hid (Rc.out.later hb)
    have Ru := Lib.hid (Ru.out.later hb)
    have Rd2 := Lib.hid (Rd2.out.later hb)
    have Rd3 := Lib.hid (Rd3.out.later hb)
    have Rd4 := Lib.hid (Rd4.out.later hb)
    have Re1 := Lib.hid (Re1.out.later hb)
    have Re2 := Lib.hid (Re2.out.later hb)
    have Rm := Lib.hid (Rm.out.later hb)
    have Re3 := Lib.hid (Re3.out.later hb)
    have Re4 := Lib.hid (Re4.out.later hb)
    have Rf1 := Lib.hid (Rf1.out.later hb)
    clear hb
    go_wp2_with fail
    refine (meetC_any ua ub na nb Aa Ab ca cb w15 HLa.out HLb.out (by omega) (by omega) Ra.out Rb.out HRa.out HRb.out).mono ?_
    rintro e w16 ⟨uf3, nf3, Af3, cf3, rfl, HLf3, HPf3, hqf3, Rf3, hb⟩
    have HB16 := Lib.hid (HB15.out.trans (hb.mono HB15.out.size))
    have Ra := Lib.hid (Ra.out.later hb)
    have Rb := Lib.hid (Rb.out.later hb)
    have Rc := Lib.hid (Rc.out.later hb)
    have Ru := Lib.hid (Ru.out.later hb)
    have Rd2 := Lib.hid (Rd2.out.later hb)
    have Rd3 := Lib.hid (Rd3.out.later hb)
    have Rd4 := Lib.hid (Rd4.out.later hb)
    have Re1 := Lib.hid (Re1.out.later hb)
    have Re2 := Lib.hid (Re2.out.later hb)
    have Rm := Lib.hid (Rm.out.later hb)
    have Re3 := Lib.hid (Re3.out.later hb)
    have Re4 := Lib.hid (Re4.out.later hb)
    have Rf1 := Lib.hid (Rf1.out.later hb)
    have Rf2 := Lib.hid (Rf2.out.later hb)
    clear hb
    go_wp2_with fail
    refine (sameC_any uf2 uf3 nf2 nf3 Af2 Af3 cf2 cf3 w16 HLf2.out HLf3.out (by omega) Rf2.out Rf3.out true (same_true HPf2.out.right (extC HPf2.out.right HPf3.out.right (by intro d n hd; rw [HPf2.out.has d n hd, HPf1.out.has d n hd, HPf3.out.has d n hd]; cases hasC ua d n <;> cases hasC ub d n <;> cases hasC uc d n <;> rfl)))).mono ?_
    rintro e w17 ⟨rfl, hb⟩
    have HB17 := Lib.hid (HB16.out.trans (hb.mono HB16.out.size))
    have Ra := Lib.hid (Ra.out.later hb)
    have Rb := Lib.hid (Rb.out.later hb)
    have Rc := Lib.hid (Rc.out.later hb)
    have Ru := Lib.hid (Ru.out.later hb)
    have Rd2 := Lib.hid (Rd2.out.later hb)
    have Rd3 := Lib.hid (Rd3.out.later hb)
    have Rd4 := Lib.hid (Rd4.out.later hb)
    have Re1 := Lib.hid (Re1.out.later hb)
    have Re2 := Lib.hid (Re2.out.later hb)
    have Rm := Lib.hid (Rm.out.later hb)
    have Re3 := Lib.hid (Re3.out.later hb)
    have Re4 := Lib.hid (Re4.out.later hb)
    have Rf1 := Lib.hid (Rf1.out.later hb)
    have Rf2 := Lib.hid (Rf2.out.later hb)
    have Rf3 := Lib.hid (Rf3.out.later hb)
    clear hb
    go_wp2_with fail
    refine (leqC_iff ua uu na nu Aa Au ca cu w17 HLa.out HLu.out (by omega) (by omega) Ra.out Ru.out HRa.out HPu.out.right true (⟨fun _ d n hd h => by rw [HPu.out.has d n hd, h]; rfl, fun _ => rfl⟩)).mono ?_
    rintro e w18 ⟨rfl, hb⟩
    have HB18 := Lib.hid (HB17.out.trans (hb.mono HB17.out.size))
    have Ra := Lib.hid (Ra.out.later hb)
    have Rb := Lib.hid (Rb.out.later hb)
    have Rc := Lib.hid (Rc.out.later hb)
    have Ru := Lib.hid (Ru.out.later hb)
    have Rd2 := Lib.hid (Rd2.out.later hb)
    have Rd3 := Lib.hid (Rd3.out.later hb)
    have Rd4 := Lib.hid (Rd4.out.later hb)
    have Re1 := Lib.hid (Re1.out.later hb)
    have Re2 := Lib.hid (Re2.out.later hb)
    have Rm := Lib.hid (Rm.out.later hb)
    have Re3 := Lib.hid (Re3.out.later hb)
    have Re4 := Lib.hid (Re4.out.later hb)
    have Rf1 := Lib.hid (Rf1.out.later hb)
    have Rf2 := Lib.hid (Rf2.out.later hb)
    have Rf3 := Lib.hid (Rf3.out.later hb)
    clear hb
    go_wp2_with fail
    refine (leqC_iff ub uu nb nu Ab Au cb cu w18 HLb.out HLu.out (by omega) (by omega) Rb.out Ru.out HRb.out HPu.out.right true (⟨fun _ d n hd h => by rw [HPu.out.has d n hd, h]; cases hasC ua d n <;> rfl, fun _ => rfl⟩)).mono ?_
    rintro e w19 ⟨rfl, hb⟩
    have HB19 := Lib.hid (HB18.out.trans (hb.mono HB18.out.size))
    have Ra := Lib.hid (Ra.out.later hb)
    have Rb := Lib.hid (Rb.out.later hb)
    have Rc := Lib.hid (Rc.out.later hb)
    have Ru := Lib.hid (Ru.out.later hb)
    have Rd2 := Lib.hid (Rd2.out.later hb)
    have Rd3 := Lib.hid (Rd3.out.later hb)
    have Rd4 := Lib.hid (Rd4.out.later hb)
    have Re1 := Lib.hid (Re1.out.later hb)
    have Re2 := Lib.hid (Re2.out.later hb)
    have Rm := Lib.hid (Rm.out.later hb)
    have Re3 := Lib.hid (Re3.out.later hb)
    have Re4 := Lib.hid (Re4.out.later hb)
    have Rf1 := Lib.hid (Rf1.out.later hb)
    have Rf2 := Lib.hid (Rf2.out.later hb)
    have Rf3 := Lib.hid (Rf3.out.later hb)
    clear hb
    by_cases hac : ∀ d n, Cen d → hasC ua d n = true → hasC uc d n = true
    · have HAC : Hid (InC ua uc true) := ⟨fun _ => hac, fun _ => rfl⟩
      clear hac
      by_cases hbc : ∀ d n, Cen d → hasC ub d n = true → hasC uc d n = true
      · have HBC : Hid (InC ub uc true) := ⟨fun _ => hbc, fun _ => rfl⟩
        clear hbc
        by_cases hab : ∀ d n, Cen d → hasC ua d n = true → hasC ub d n = true
        · have HAB : Hid (InC ua ub true) := ⟨fun _ => hab, fun _ => rfl⟩
          clear hab
          go_wp2_with fail
          refine (leqC_iff ua uc na nc Aa Ac ca cc w19 HLa.out HLc.out (by omega) (by omega) Ra.out Rc.out HRa.out HRc.out true (HAC.out)).mono ?_
          rintro e w20 ⟨rfl, hb⟩
          have HB20 := Lib.hid (HB19.out.trans (hb.mono HB19.out.size))
          have Ra := Lib.hid (Ra.out.later hb)
          have Rb := Lib.hid (Rb.out.later hb)
          have Rc := Lib.hid (Rc.out.later hb)
          have Ru := Lib.hid (Ru.out.later hb)
          have Rd2 := Lib.hid (Rd2.out.later hb)
          have Rd3 := Lib.hid (Rd3.out.later hb)
          have Rd4 := Lib.hid (Rd4.out.later hb)
          have Re1 := Lib.hid (Re1.out.later hb)
          have Re2 := Lib.hid (Re2.out.later hb)
          have Rm := Lib.hid (Rm.out.later hb)
          have Re3 := Lib.hid (Re3.out.later hb)
          have Re4 := Lib.hid (Re4.out.later hb)
          have Rf1 := Lib.hid (Rf1.out.later hb)
          have Rf2 := Lib.hid (Rf2.out.later hb)
          have Rf3 := Lib.hid (Rf3.out.later hb)
          clear hb
          go_wp2_with fail
          refine (leqC_iff ub uc nb nc Ab Ac cb cc w20 HLb.out HLc.out (by omega) (by omega) Rb.out Rc.out HRb.out HRc.out true (HBC.out)).mono ?_
          rintro e w21 ⟨rfl, hb⟩
          have HB21 := Lib.hid (HB20.out.trans (hb.mono HB20.out.size))
          have Ra := Lib.hid (Ra.out.later hb)
          have Rb := Lib.hid (Rb.out.later hb)
          have Rc := Lib.hid (Rc.out.later hb)
          have Ru := Lib.hid (Ru.out.later hb)
          have Rd2 := Lib.hid (Rd2.out.later hb)
          have Rd3 := Lib.hid (Rd3.out.later hb)
          have Rd4 := Lib.hid (Rd4.out.later hb)
          have Re1 := Lib.hid (Re1.out.later hb)
          have Re2 := Lib.hid (Re2.out.later hb)
          have Rm := Lib.hid (Rm.out.later hb)
          have Re3 := Lib.hid (Re3.out.later hb)
          have Re4 := Lib.hid (Re4.out.later hb)
          have Rf1 := Lib.hid (Rf1.out.later hb)
          have Rf2 := Lib.hid (Rf2.out.later hb)
          have Rf3 := Lib.hid (Rf3.out.later hb)
          clear hb
          go_wp2_with fail
          refine (leqC_iff uu uc nu nc Au Ac cu cc w21 HLu.out HLc.out (by omega) (by omega) Ru.out Rc.out HPu.out.right HRc.out true (in_both HPu.out HAC.out HBC.out)).mono ?_
          rintro e w22 ⟨rfl, hb⟩
          have HB22 := Lib.hid (HB21.out.trans (hb.mono HB21.out.size))
          have Ra := Lib.hid (Ra.out.later hb)
          have Rb := Lib.hid (Rb.out.later hb)
          have Rc := Lib.hid (Rc.out.later hb)
          have Ru := Lib.hid (Ru.out.later hb)
          have Rd2 := Lib.hid (Rd2.out.later hb)
          have Rd3 := Lib.hid (Rd3.out.later hb)
          have Rd4 := Lib.hid (Rd4.out.later hb)
          have Re1 := Lib.hid (Re1.out.later hb)
          have Re2 := Lib.hid (Re2.out.later hb)
          have Rm := Lib.hid (Rm.out.later hb)
          have Re3 := Lib.hid (Re3.out.later hb)
          have Re4 := Lib.hid (Re4.out.later hb)
          have Rf1 := Lib.hid (Rf1.out.later hb)
          have Rf2 := Lib.hid (Rf2.out.later hb)
          have Rf3 := Lib.hid (Rf3.out.later hb)
          clear hb
          go_wp2_with fail
          refine (leqC_iff ua ub na nb Aa Ab ca cb w22 HLa.out HLb.out (by omega) (by omega) Ra.out Rb.out HRa.out HRb.out true (HAB.out)).mono ?_
          rintro e w23 ⟨rfl, hb⟩
          have HB23 := Lib.hid (HB22.out.trans (hb.mono HB22.out.size))
          have Ra := Lib.hid (Ra.out.later hb)
          have Rb := Lib.hid (Rb.out.later hb)
          have Rc := Lib.hid (Rc.out.later hb)
          have Ru := Lib.hid (Ru.out.later hb)
          have Rd2 := Lib.hid (Rd2.out.later hb)
          have Rd3 := Lib.hid (Rd3.out.later hb)
          have Rd4 := Lib.hid (Rd4.out.later hb)
          have Re1 := Lib.hid (Re1.out.later hb)
          have Re2 := Lib.hid (Re2.out.later hb)
          have Rm := Lib.hid (Rm.out.later hb)
          have Re3 := Lib.hid (Re3.out.later hb)
          have Re4 := Lib.hid (Re4.out.later hb)
          have Rf1 := Lib.hid (Rf1.out.later hb)
          have Rf2 := Lib.hid (Rf2.out.later hb)
          have Rf3 := Lib.hid (Rf3.out.later hb)
          clear hb
          go_wp2_with fail
          refine (sameC_any uu ub nu nb Au Ab cu cb w23 HLu.out HLb.out (by omega) Ru.out Rb.out true (by rw [rightCB_true HPu.out.right, Bool.true_and]; exact (same_leq HRa.out HRb.out HPu.out true HAB.out))).mono ?_
          rintro e w24 ⟨rfl, hb⟩
          have HB24 := Lib.hid (HB23.out.trans (hb.mono HB23.out.size))
          have Ra := Lib.hid (Ra.out.later hb)
          have Rb := Lib.hid (Rb.out.later hb)
          have Rc := Lib.hid (Rc.out.later hb)
          have Ru := Lib.hid (Ru.out.later hb)
          have Rd2 := Lib.hid (Rd2.out.later hb)
          have Rd3 := Lib.hid (Rd3.out.later hb)
          have Rd4 := Lib.hid (Rd4.out.later hb)
          have Re1 := Lib.hid (Re1.out.later hb)
          have Re2 := Lib.hid (Re2.out.later hb)
          have Rm := Lib.hid (Rm.out.later hb)
          have Re3 := Lib.hid (Re3.out.later hb)
          have Re4 := Lib.hid (Re4.out.later hb)
          have Rf1 := Lib.hid (Rf1.out.later hb)
          have Rf2 := Lib.hid (Rf2.out.later hb)
          have Rf3 := Lib.hid (Rf3.out.later hb)
          clear hb
          go_wp2
          go_ret
          exact ⟨rfl, HB24.out⟩
        · have HAB : Hid (InC ua ub false) := ⟨fun h => (Bool.noConfusion h), fun h => absurd h hab⟩
          clear hab
          go_wp2_with fail
          refine (leqC_iff ua uc na nc Aa Ac ca cc w19 HLa.out HLc.out (by omega) (by omega) Ra.out Rc.out HRa.out HRc.out true (HAC.out)).mono ?_
          rintro e w20 ⟨rfl, hb⟩
          have HB20 := Lib.hid (HB19.out.trans (hb.mono HB19.out.size))
          have Ra := Lib.hid (Ra.out.later hb)
          have Rb := Lib.hid (Rb.out.later hb)
          have Rc := Lib.hid (Rc.out.later hb)
          have Ru := Lib.hid (Ru.out.later hb)
          have Rd2 := Lib.hid (Rd2.out.later hb)
          have Rd3 := Lib.hid (Rd3.out.later hb)
          have Rd4 := Lib.hid (Rd4.out.later hb)
          have Re1 := Lib.hid (Re1.out.later hb)
          have Re2 := Lib.hid (Re2.out.later hb)
          have Rm := Lib.hid (Rm.out.later hb)
          have Re3 := Lib.hid (Re3.out.later hb)
          have Re4 := Lib.hid (Re4.out.later hb)
          have Rf1 := Lib.hid (Rf1.out.later hb)
          have Rf2 := Lib.hid (Rf2.out.later hb)
          have Rf3 := Lib.hid (Rf3.out.later hb)
          clear hb
          go_wp2_with fail
          refine (leqC_iff ub uc nb nc Ab Ac cb cc w20 HLb.out HLc.out (by omega) (by omega) Rb.out Rc.out HRb.out HRc.out true (HBC.out)).mono ?_
          rintro e w21 ⟨rfl, hb⟩
          have HB21 := Lib.hid (HB20.out.trans (hb.mono HB20.out.size))
          have Ra := Lib.hid (Ra.out.later hb)
          have Rb := Lib.hid (Rb.out.later hb)
          have Rc := Lib.hid (Rc.out.later hb)
          have Ru := Lib.hid (Ru.out.later hb)
          have Rd2 := Lib.hid (Rd2.out.later hb)
          have Rd3 := Lib.hid (Rd3.out.later hb)
          have Rd4 := Lib.hid (Rd4.out.later hb)
          have Re1 := Lib.hid (Re1.out.later hb)
          have Re2 := Lib.hid (Re2.out.later hb)
          have Rm := Lib.hid (Rm.out.later hb)
          have Re3 := Lib.hid (Re3.out.later hb)
          have Re4 := Lib.hid (Re4.out.later hb)
          have Rf1 := Lib.hid (Rf1.out.later hb)
          have Rf2 := Lib.hid (Rf2.out.later hb)
          have Rf3 := Lib.hid (Rf3.out.later hb)
          clear hb
          go_wp2_with fail
          refine (leqC_iff uu uc nu nc Au Ac cu cc w21 HLu.out HLc.out (by omega) (by omega) Ru.out Rc.out HPu.out.right HRc.out true (in_both HPu.out HAC.out HBC.out)).mono ?_
          rintro e w22 ⟨rfl, hb⟩
          have HB22 := Lib.hid (HB21.out.trans (hb.mono HB21.out.size))
          have Ra := Lib.hid (Ra.out.later hb)
          have Rb := Lib.hid (Rb.out.later hb)
          have Rc := Lib.hid (Rc.out.later hb)
          have Ru := Lib.hid (Ru.out.later hb)
          have Rd2 := Lib.hid (Rd2.out.later hb)
          have Rd3 := Lib.hid (Rd3.out.later hb)
          have Rd4 := Lib.hid (Rd4.out.later hb)
          have Re1 := Lib.hid (Re1.out.later hb)
          have Re2 := Lib.hid (Re2.out.later hb)
          have Rm := Lib.hid (Rm.out.later hb)
          have Re3 := Lib.hid (Re3.out.later hb)
          have Re4 := Lib.hid (Re4.out.later hb)
          have Rf1 := Lib.hid (Rf1.out.later hb)
          have Rf2 := Lib.hid (Rf2.out.later hb)
          have Rf3 := Lib.hid (Rf3.out.later hb)
          clear hb
          go_wp2_with fail
          refine (leqC_iff ua ub na nb Aa Ab ca cb w22 HLa.out HLb.out (by omega) (by omega) Ra.out Rb.out HRa.out HRb.out false (HAB.out)).mono ?_
          rintro e w23 ⟨rfl, hb⟩
          have HB23 := Lib.hid (HB22.out.trans (hb.mono HB22.out.size))
          have Ra := Lib.hid (Ra.out.later hb)
          have Rb := Lib.hid (Rb.out.later hb)
          have Rc := Lib.hid (Rc.out.later hb)
          have Ru := Lib.hid (Ru.out.later hb)
          have Rd2 := Lib.hid (Rd2.out.later hb)
          have Rd3 := Lib.hid (Rd3.out.later hb)
          have Rd4 := Lib.hid (Rd4.out.later hb)
          have Re1 := Lib.hid (Re1.out.later hb)
          have Re2 := Lib.hid (Re2.out.later hb)
          have Rm := Lib.hid (Rm.out.later hb)
          have Re3 := Lib.hid (Re3.out.later hb)
          have Re4 := Lib.hid (Re4.out.later hb)
          have Rf1 := Lib.hid (Rf1.out.later hb)
          have Rf2 := Lib.hid (Rf2.out.later hb)
          have Rf3 := Lib.hid (Rf3.out.later hb)
          clear hb
          go_wp2_with fail
          refine (sameC_any uu ub nu nb Au Ab cu cb w23 HLu.out HLb.out (by omega) Ru.out Rb.out false (by rw [rightCB_true HPu.out.right, Bool.true_and]; exact (same_leq HRa.out HRb.out HPu.out false HAB.out))).mono ?_
          rintro e w24 ⟨rfl, hb⟩
          have HB24 := Lib.hid (HB23.out.trans (hb.mono HB23.out.size))
          have Ra := Lib.hid (Ra.out.later hb)
          have Rb := Lib.hid (Rb.out.later hb)
          have Rc := Lib.hid (Rc.out.later hb)
          have Ru := Lib.hid (Ru.out.later hb)
          have Rd2 := Lib.hid (Rd2.out.later hb)
          have Rd3 := Lib.hid (Rd3.out.later hb)
          have Rd4 := Lib.hid (Rd4.out.later hb)
          have Re1 := Lib.hid (Re1.out.later hb)
          have Re2 := Lib.hid (Re2.out.later hb)
          have Rm := Lib.hid (Rm.out.later hb)
          have Re3 := Lib.hid (Re3.out.later hb)
          have Re4 := Lib.hid (Re4.out.later hb)
          have Rf1 := Lib.hid (Rf1.out.later hb)
          have Rf2 := Lib.hid (Rf2.out.later hb)
          have Rf3 := Lib.hid (Rf3.out.later hb)
          clear hb
          go_wp2
          go_ret
          exact ⟨rfl, HB24.out⟩
      · have HBC : Hid (InC ub uc false) := ⟨fun h => (Bool.noConfusion h), fun h => absurd h hbc⟩
        clear hbc
        by_cases hab : ∀ d n, Cen d → hasC ua d n = true → hasC ub d n = true
        · have HAB : Hid (InC ua ub true) := ⟨fun _ => hab, fun _ => rfl⟩
          clear hab
          go_wp2_with fail
          refine (leqC_iff ua uc na nc Aa Ac ca cc w19 HLa.out HLc.out (by omega) (by omega) Ra.out Rc.out HRa.out HRc.out true (HAC.out)).mono ?_
          rintro e w20 ⟨rfl, hb⟩
          have HB20 := Lib.hid (HB19.out.trans (hb.mono HB19.out.size))
          have Ra := Lib.hid (Ra.out.later hb)
          have Rb := Lib.hid (Rb.out.later hb)
          have Rc := Lib.hid (Rc.out.later hb)
          have Ru := Lib.hid (Ru.out.later hb)
          have Rd2 := Lib.hid (Rd2.out.later hb)
          have Rd3 := Lib.hid (Rd3.out.later hb)
          have Rd4 := Lib.hid (Rd4.out.later hb)
          have Re1 := Lib.hid (Re1.out.later hb)
          have Re2 := Lib.hid (Re2.out.later hb)
          have Rm := Lib.hid (Rm.out.later hb)
          have Re3 := Lib.hid (Re3.out.later hb)
          have Re4 := Lib.hid (Re4.out.later hb)
          have Rf1 := Lib.hid (Rf1.out.later hb)
          have Rf2 := Lib.hid (Rf2.out.later hb)
          have Rf3 := Lib.hid (Rf3.out.later hb)
          clear hb
          go_wp2_with fail
          refine (leqC_iff ub uc nb nc Ab Ac cb cc w20 HLb.out HLc.out (by omega) (by omega) Rb.out Rc.out HRb.out HRc.out false (HBC.out)).mono ?_
          rintro e w21 ⟨rfl, hb⟩
          have HB21 := Lib.hid (HB20.out.trans (hb.mono HB20.out.size))
          have Ra := Lib.hid (Ra.out.later hb)
          have Rb := Lib.hid (Rb.out.later hb)
          have Rc := Lib.hid (Rc.out.later hb)
          have Ru := Lib.hid (Ru.out.later hb)
          have Rd2 := Lib.hid (Rd2.out.later hb)
          have Rd3 := Lib.hid (Rd3.out.later hb)
          have Rd4 := Lib.hid (Rd4.out.later hb)
          have Re1 := Lib.hid (Re1.out.later hb)
          have Re2 := Lib.hid (Re2.out.later hb)
          have Rm := Lib.hid (Rm.out.later hb)
          have Re3 := Lib.hid (Re3.out.later hb)
          have Re4 := Lib.hid (Re4.out.later hb)
          have Rf1 := Lib.hid (Rf1.out.later hb)
          have Rf2 := Lib.hid (Rf2.out.later hb)
          have Rf3 := Lib.hid (Rf3.out.later hb)
          clear hb
          go_wp2_with fail
          refine (leqC_iff ua ub na nb Aa Ab ca cb w21 HLa.out HLb.out (by omega) (by omega) Ra.out Rb.out HRa.out HRb.out true (HAB.out)).mono ?_
          rintro e w22 ⟨rfl, hb⟩
          have HB22 := Lib.hid (HB21.out.trans (hb.mono HB21.out.size))
          have Ra := Lib.hid (Ra.out.later hb)
          have Rb := Lib.hid (Rb.out.later hb)
          have Rc := Lib.hid (Rc.out.later hb)
          have Ru := Lib.hid (Ru.out.later hb)
          have Rd2 := Lib.hid (Rd2.out.later hb)
          have Rd3 := Lib.hid (Rd3.out.later hb)
          have Rd4 := Lib.hid (Rd4.out.later hb)
          have Re1 := Lib.hid (Re1.out.later hb)
          have Re2 := Lib.hid (Re2.out.later hb)
          have Rm := Lib.hid (Rm.out.later hb)
          have Re3 := Lib.hid (Re3.out.later hb)
          have Re4 := Lib.hid (Re4.out.later hb)
          have Rf1 := Lib.hid (Rf1.out.later hb)
          have Rf2 := Lib.hid (Rf2.out.later hb)
          have Rf3 := Lib.hid (Rf3.out.later hb)
          clear hb
          go_wp2_with fail
          refine (sameC_any uu ub nu nb Au Ab cu cb w22 HLu.out HLb.out (by omega) Ru.out Rb.out true (by rw [rightCB_true HPu.out.right, Bool.true_and]; exact (same_leq HRa.out HRb.out HPu.out true HAB.out))).mono ?_
          rintro e w23 ⟨rfl, hb⟩
          have HB23 := Lib.hid (HB22.out.trans (hb.mono HB22.out.size))
          have Ra := Lib.hid (Ra.out.later hb)
          have Rb := Lib.hid (Rb.out.later hb)
          have Rc := Lib.hid (Rc.out.later hb)
          have Ru := Lib.hid (Ru.out.later hb)
          have Rd2 := Lib.hid (Rd2.out.later hb)
          have Rd3 := Lib.hid (Rd3.out.later hb)
          have Rd4 := Lib.hid (Rd4.out.later hb)
          have Re1 := Lib.hid (Re1.out.later hb)
          have Re2 := Lib.hid (Re2.out.later hb)
          have Rm := Lib.hid (Rm.out.later hb)
          have Re3 := Lib.hid (Re3.out.later hb)
          have Re4 := Lib.hid (Re4.out.later hb)
          have Rf1 := Lib.hid (Rf1.out.later hb)
          have Rf2 := Lib.hid (Rf2.out.later hb)
          have Rf3 := Lib.hid (Rf3.out.later hb)
          clear hb
          go_wp2
          go_ret
          exact ⟨rfl, HB23.out⟩
        · have HAB : Hid (InC ua ub false) := ⟨fun h => (Bool.noConfusion h), fun h => absurd h hab⟩
          clear hab
          go_wp2_with fail
          refine (leqC_iff ua uc na nc Aa Ac ca cc w19 HLa.out HLc.out (by omega) (by omega) Ra.out Rc.out HRa.out HRc.out true (HAC.out)).mono ?_
          rintro e w20 ⟨rfl, hb⟩
          have HB20 := Lib.hid (HB19.out.trans (hb.mono HB19.out.size))
          have Ra := Lib.hid (Ra.out.later hb)
          have Rb := Lib.hid (Rb.out.later hb)
          have Rc := Lib.hid (Rc.out.later hb)
          have Ru := Lib.hid (Ru.out.later hb)
          have Rd2 := Lib.hid (Rd2.out.later hb)
          have Rd3 := Lib.hid (Rd3.out.later hb)
          have Rd4 := Lib.hid (Rd4.out.later hb)
          have Re1 := Lib.hid (Re1.out.later hb)
          have Re2 := Lib.hid (Re2.out.later hb)
          have Rm := Lib.hid (Rm.out.later hb)
          have Re3 := Lib.hid (Re3.out.later hb)
          have Re4 := Lib.hid (Re4.out.later hb)
          have Rf1 := Lib.hid (Rf1.out.later hb)
          have Rf2 := Lib.hid (Rf2.out.later hb)
          have Rf3 := Lib.hid (Rf3.out.later hb)
          clear hb
          go_wp2_with fail
          refine (leqC_iff ub uc nb nc Ab Ac cb cc w20 HLb.out HLc.out (by omega) (by omega) Rb.out Rc.out HRb.out HRc.out false (HBC.out)).mono ?_
          rintro e w21 ⟨rfl, hb⟩
          have HB21 := Lib.hid (HB20.out.trans (hb.mono HB20.out.size))
          have Ra := Lib.hid (Ra.out.later hb)
          have Rb := Lib.hid (Rb.out.later hb)
          have Rc := Lib.hid (Rc.out.later hb)
          have Ru := Lib.hid (Ru.out.later hb)
          have Rd2 := Lib.hid (Rd2.out.later hb)
          have Rd3 := Lib.hid (Rd3.out.later hb)
          have Rd4 := Lib.hid (Rd4.out.later hb)
          have Re1 := Lib.hid (Re1.out.later hb)
          have Re2 := Lib.hid (Re2.out.later hb)
          have Rm := Lib.hid (Rm.out.later hb)
          have Re3 := Lib.hid (Re3.out.later hb)
          have Re4 := Lib.hid (Re4.out.later hb)
          have Rf1 := Lib.hid (Rf1.out.later hb)
          have Rf2 := Lib.hid (Rf2.out.later hb)
          have Rf3 := Lib.hid (Rf3.out.later hb)
          clear hb
          go_wp2_with fail
          refine (leqC_iff ua ub na nb Aa Ab ca cb w21 HLa.out HLb.out (by omega) (by omega) Ra.out Rb.out HRa.out HRb.out false (HAB.out)).mono ?_
          rintro e w22 ⟨rfl, hb⟩
          have HB22 := Lib.hid (HB21.out.trans (hb.mono HB21.out.size))
          have Ra := Lib.hid (Ra.out.later hb)
          have Rb := Lib.hid (Rb.out.later hb)
          have Rc := Lib.hid (Rc.out.later hb)
          have Ru := Lib.hid (Ru.out.later hb)
          have Rd2 := Lib.hid (Rd2.out.later hb)
          have Rd3 := Lib.hid (Rd3.out.later hb)
          have Rd4 := Lib.hid (Rd4.out.later hb)
          have Re1 := Lib.hid (Re1.out.later hb)
          have Re2 := Lib.hid (Re2.out.later hb)
          have Rm := Lib.hid (Rm.out.later hb)
          have Re3 := Lib.hid (Re3.out.later hb)
          have Re4 := Lib.hid (Re4.out.later hb)
          have Rf1 := Lib.hid (Rf1.out.later hb)
          have Rf2 := Lib.hid (Rf2.out.later hb)
          have Rf3 := Lib.hid (Rf3.out.later hb)
          clear hb
          go_wp2_with fail
          refine (sameC_any uu ub nu nb Au Ab cu cb w22 HLu.out HLb.out (by omega) Ru.out Rb.out false (by rw [rightCB_true HPu.out.right, Bool.true_and]; exact (same_leq HRa.out HRb.out HPu.out false HAB.out))).mono ?_
          rintro e w23 ⟨rfl, hb⟩
          have HB23 := Lib.hid (HB22.out.trans (hb.mono HB22.out.size))
          have Ra := Lib.hid (Ra.out.later hb)
          have Rb := Lib.hid (Rb.out.later hb)
          have Rc := Lib.hid (Rc.out.later hb)
          have Ru := Lib.hid (Ru.out.later hb)
          have Rd2 := Lib.hid (Rd2.out.later hb)
          have Rd3 := Lib.hid (Rd3.out.later hb)
          have Rd4 := Lib.hid (Rd4.out.later hb)
          have Re1 := Lib.hid (Re1.out.later hb)
          have Re2 := Lib.hid (Re2.out.later hb)
          have Rm := Lib.hid (Rm.out.later hb)
          have Re3 := Lib.hid (Re3.out.later hb)
          have Re4 := Lib.hid (Re4.out.later hb)
          have Rf1 := Lib.hid (Rf1.out.later hb)
          have Rf2 := Lib.hid (Rf2.out.later hb)
          have Rf3 := Lib.hid (Rf3.out.later hb)
          clear hb
          go_wp2
          go_ret
          exact ⟨rfl, HB23.out⟩
    · have HAC : Hid (InC ua uc false) := ⟨fun h => (Bool.noConfusion h), fun h => absurd h hac⟩
      clear hac
      by_cases hab : ∀ d n, Cen d → hasC ua d n = true → hasC ub d n = true
      · have HAB : Hid (InC ua ub true) := ⟨fun _ => hab, fun _ => rfl⟩
        clear hab
        go_wp2_with fail
        refine (leqC_iff ua uc na nc Aa Ac ca cc w19 HLa.out HLc.out (by omega) (by omega) Ra.out Rc.out HRa.out HRc.out false (HAC.out)).mono ?_
        rintro e w20 ⟨rfl, hb⟩
        have HB20 := Lib.hid (HB19.out.trans (hb.mono HB19.out.size))
        have Ra := Lib.hid (Ra.out.later hb)
        have Rb := Lib.hid (Rb.out.later hb)
        have Rc := Lib.hid (Rc.out.later hb)
        have Ru := Lib.hid (Ru.out.later hb)
        have Rd2 := Lib.hid (Rd2.out.later hb)
        have Rd3 := Lib.hid (Rd3.out.later hb)
        have Rd4 := Lib.hid (Rd4.out.later hb)
        have Re1 := Lib.hid (Re1.out.later hb)
        have Re2 := Lib.hid (Re2.out.later hb)
        have Rm := Lib.hid (Rm.out.later hb)
        have Re3 := Lib.hid (Re3.out.later hb)
        have Re4 := Lib.hid (Re4.out.later hb)
        have Rf1 := Lib.hid (Rf1.out.later hb)
        have Rf2 := Lib.hid (Rf2.out.later hb)
        have Rf3 := Lib.hid (Rf3.out.later hb)
        clear hb
        go_wp2_with fail
        refine (leqC_iff ua ub na nb Aa Ab ca cb w20 HLa.out HLb.out (by omega) (by omega) Ra.out Rb.out HRa.out HRb.out true (HAB.out)).mono ?_
        rintro e w21 ⟨rfl, hb⟩
        have HB21 := Lib.hid (HB20.out.trans (hb.mono HB20.out.size))
        have Ra := Lib.hid (Ra.out.later hb)
        have Rb := Lib.hid (Rb.out.later hb)
        have Rc := Lib.hid (Rc.out.later hb)
        have Ru := Lib.hid (Ru.out.later hb)
        have Rd2 := Lib.hid (Rd2.out.later hb)
        have Rd3 := Lib.hid (Rd3.out.later hb)
        have Rd4 := Lib.hid (Rd4.out.later hb)
        have Re1 := Lib.hid (Re1.out.later hb)
        have Re2 := Lib.hid (Re2.out.later hb)
        have Rm := Lib.hid (Rm.out.later hb)
        have Re3 := Lib.hid (Re3.out.later hb)
        have Re4 := Lib.hid (Re4.out.later hb)
        have Rf1 := Lib.hid (Rf1.out.later hb)
        have Rf2 := Lib.hid (Rf2.out.later hb)
        have Rf3 := Lib.hid (Rf3.out.later hb)
        clear hb
        go_wp2_with fail
        refine (sameC_any uu ub nu nb Au Ab cu cb w21 HLu.out HLb.out (by omega) Ru.out Rb.out true (by rw [rightCB_true HPu.out.right, Bool.true_and]; exact (same_leq HRa.out HRb.out HPu.out true HAB.out))).mono ?_
        rintro e w22 ⟨rfl, hb⟩
        have HB22 := Lib.hid (HB21.out.trans (hb.mono HB21.out.size))
        have Ra := Lib.hid (Ra.out.later hb)
        have Rb := Lib.hid (Rb.out.later hb)
        have Rc := Lib.hid (Rc.out.later hb)
        have Ru := Lib.hid (Ru.out.later hb)
        have Rd2 := Lib.hid (Rd2.out.later hb)
        have Rd3 := Lib.hid (Rd3.out.later hb)
        have Rd4 := Lib.hid (Rd4.out.later hb)
        have Re1 := Lib.hid (Re1.out.later hb)
        have Re2 := Lib.hid (Re2.out.later hb)
        have Rm := Lib.hid (Rm.out.later hb)
        have Re3 := Lib.hid (Re3.out.later hb)
        have Re4 := Lib.hid (Re4.out.later hb)
        have Rf1 := Lib.hid (Rf1.out.later hb)
        have Rf2 := Lib.hid (Rf2.out.later hb)
        have Rf3 := Lib.hid (Rf3.out.later hb)
        clear hb
        go_wp2
        go_ret
        exact ⟨rfl, HB22.out⟩
      · have HAB : Hid (InC ua ub false) := ⟨fun h => (Bool.noConfusion h), fun h => absurd h hab⟩
        clear hab
        go_wp2_with fail
        refine (leqC_iff ua uc na nc Aa Ac ca cc w19 HLa.out HLc.out (by omega) (by omega) Ra.out Rc.out HRa.out HRc.out false (HAC.out)).mono ?_
        rintro e w20 ⟨rfl, hb⟩
        have HB20 := Lib.hid (HB19.out.trans (hb.mono HB19.out.size))
        have Ra := Lib.hid (Ra.out.later hb)
        have Rb := Lib.hid (Rb.out.later hb)
        have Rc := Lib.hid (Rc.out.later hb)
        have Ru := Lib.hid (Ru.out.later hb)
        have Rd2 := Lib.hid (Rd2.out.later hb)
        have Rd3 := Lib.hid (Rd3.out.later hb)
        have Rd4 := Lib.hid (Rd4.out.later hb)
        have Re1 := Lib.hid (Re1.out.later hb)
        have Re2 := Lib.hid (Re2.out.later hb)
        have Rm := Lib.hid (Rm.out.later hb)
        have Re3 := Lib.hid (Re3.out.later hb)
        have Re4 := Lib.hid (Re4.out.later hb)
        have Rf1 := Lib.hid (Rf1.out.later hb)
        have Rf2 := Lib.hid (Rf2.out.later hb)
        have Rf3 := Lib.hid (Rf3.out.later hb)
        clear hb
        go_wp2_with fail
        refine (leqC_iff ua ub na nb Aa Ab ca cb w20 HLa.out HLb.out (by omega) (by omega) Ra.out Rb.out HRa.out HRb.out false (HAB.out)).mono ?_
        rintro e w21 ⟨rfl, hb⟩
        have HB21 := Lib.hid (HB20.out.trans (hb.mono HB20.out.size))
        have Ra := Lib.hid (Ra.out.later hb)
        have Rb := Lib.hid (Rb.out.later hb)
        have Rc := Lib.hid (Rc.out.later hb)
        have Ru := Lib.hid (Ru.out.later hb)
        have Rd2 := Lib.hid (Rd2.out.later hb)
        have Rd3 := Lib.hid (Rd3.out.later hb)
        have Rd4 := Lib.hid (Rd4.out.later hb)
        have Re1 := Lib.hid (Re1.out.later hb)
        have Re2 := Lib.hid (Re2.out.later hb)
        have Rm := Lib.hid (Rm.out.later hb)
        have Re3 := Lib.hid (Re3.out.later hb)
        have Re4 := Lib.hid (Re4.out.later hb)
        have Rf1 := Lib.hid (Rf1.out.later hb)
        have Rf2 := Lib.hid (Rf2.out.later hb)
        have Rf3 := Lib.hid (Rf3.out.later hb)
        clear hb
        go_wp2_with fail
        refine (sameC_any uu ub nu nb Au Ab cu cb w21 HLu.out HLb.out (by omega) Ru.out Rb.out false (by rw [rightCB_true HPu.out.right, Bool.true_and]; exact (same_leq HRa.out HRb.out HPu.out false HAB.out))).mono ?_
        rintro e w22 ⟨rfl, hb⟩
        have HB22 := Lib.hid (HB21.out.trans (hb.mono HB21.out.size))
        have Ra := Lib.hid (Ra.out.later hb)
        have Rb := Lib.hid (Rb.out.later hb)
        have Rc := Lib.hid (Rc.out.later hb)
        have Ru := Lib.hid (Ru.out.later hb)
        have Rd2 := Lib.hid (Rd2.out.later hb)
        have Rd3 := Lib.hid (Rd3.out.later hb)
        have Rd4 := Lib.hid (Rd4.out.later hb)
        have Re1 := Lib.hid (Re1.out.later hb)
        have Re2 := Lib.hid (Re2.out.later hb)
        have Rm := Lib.hid (Rm.out.later hb)
        have Re3 := Lib.hid (Re3.out.later hb)
        have Re4 := Lib.hid (Re4.out.later hb)
        have Rf1 := Lib.hid (Rf1.out.later hb)
        have Rf2 := Lib.hid (Rf2.out.later hb)
        have Rf3 := Lib.hid (Rf3.out.later hb)
        clear hb
        go_wp2
        go_ret
        exact ⟨rfl, HB22.out⟩
set_option maxRecDepth 100000 in
theorem lifted (os : Os) (started : os.Started) (H : Type) (enc : TypeId × Value → H) :
    ReturnsInHanded {} Try.checked os 9 .any (Rows.contextAlgebraSpec.pre6 enc Try.prog Try.f9 Rows.contextAlgebraRow.domain false) (Rows.contextAlgebraSpec.post enc Try.prog Try.f9 false true false false) := by
  refine returnsInHanded_of_change (C := Try.checked) own started (by kernel_rfl) Try.func9
    (ChangeSpec.witness6 (enc := enc) (C := Try.checked) false ⟨#[], #[.slice none 0 0, .slice none 0 0, .slice none 0 0], []⟩ 8 (by kernel_rfl) (by kernel_rfl) (by kernel_rfl) (by kernel_rfl)) ?_
  intro W base args ds gs before hval0 hW _ _
  have hval : ∀ (j : Nat) t v, Try.f9.params[j]? = some t → args[j]? = some v → Value.okWide Try.prog W .any base t v := hval0
  have hW' := hW
  obtain ⟨p, q, hA0, hV, rfl, hfz, hnd⟩ := hW
  have hA : DataW.TrodAll enc Try.prog W 0 (fun _ => true) true Try.f9.params.toList args.toList ds p := hA0
  rw [Try.params9] at hA hval
  obtain ⟨v0, v1, v2, d0, d1, d2, p0, p1, p2, rfl, rfl, rfl, h0, h1, h2⟩ := trodAll_three hA
  obtain ⟨rfl, rfl⟩ := trodVars_none hV
  obtain ⟨a0, len0, cap0, rfl⟩ := okWide_slice Try.underlying23 (hval 0 23 v0 rfl rfl)
  obtain ⟨fuel0, hf0⟩ := h0
  obtain ⟨l0, rfl, hr0, _⟩ := Cx.ctx_of_trod hf0
  obtain ⟨a1, len1, cap1, rfl⟩ := okWide_slice Try.underlying23 (hval 1 23 v1 rfl rfl)
  obtain ⟨fuel1, hf1⟩ := h1
  obtain ⟨l1, rfl, hr1, _⟩ := Cx.ctx_of_trod hf1
  obtain ⟨a2, len2, cap2, rfl⟩ := okWide_slice Try.underlying23 (hval 2 23 v2 rfl rfl)
  obtain ⟨fuel2, hf2⟩ := h2
  obtain ⟨l2, rfl, hr2, _⟩ := Cx.ctx_of_trod hf2
  refine (walk_any l0 a0 cap0 l1 a1 cap1 l2 a2 cap2 W hr0 hr1 hr2).mono fun e W' ⟨he, hb⟩ => ?_
  subst he
  exact ⟨_, rfl, law_post hW' (by kernel_rfl) rfl rfl rfl hb⟩
theorem proved : Rows.ContextAlgebraSaid :=
  OpenClaim.holds_of_wide 9 Try.f9 rfl rfl rfl rfl rfl rfl rfl ⟨rfl, rfl, rfl, rfl, rfl⟩ rfl rfl rfl rfl rfl (by kernel_rfl) Try.func9 (by kernel_rfl)
    (of_decide_eq_true (by kernel_rfl)) (by unfold Func.isWrapper; first | (rw [if_pos (by decide +kernel)]; kernel_rfl) | (rw [if_neg (by decide +kernel)]; exact ⟨rfl, rfl⟩))
    (fun os started H enc _ => lifted os started H enc)
#print axioms proved
end Go.Proofs.Ytfkkjgebemnhnaa.lawContextAlgebra
