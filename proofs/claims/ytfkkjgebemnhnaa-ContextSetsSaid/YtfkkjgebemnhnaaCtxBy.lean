/- Sets of dots, the document's: two put together. -/
import Derived.Test.YtfkkjgebemnhnaaCtxRef1
import Derived.Test.YtfkkjgebemnhnaaCtx5
import Derived.Test.YtfkkjgebemnhnaaSpanBy
namespace Go.Proofs.Ytfkkjgebemnhnaa
open Go.ChangeShapes Go.WideShapes Go.ChangeAt Go.RowKit
namespace Cx
open Sp Rw
theorem spsC_append (a b : List S3) : spsC (a ++ b) = spsC a ++ spsC b := by simp [spsC]
theorem spsC_one (l : List S3) : ∀ u ∈ spsC l, u.oneCell' = true := by
  intro u hu
  obtain ⟨s, _, hu⟩ := List.mem_flatMap.1 hu
  exact spC_one s u hu
theorem appsC {w : World} {base n m c c' : Nat} {A A' : Option Addr} {xs ys : List S3} (ho : Own w base 46 3 A n c (spsC xs)) (hr : Rd w w.heap.size 3 A' m c' (spsC ys)) (hn : n + m ≤ 1000000) (hb : base ≤ w.heap.size) :
    ∃ A2 c2 w2, (Builtin.append_ #[23, 23] 23 #[.slice A n c, .slice A' m c']).run Try.prog w = .ok (.slice A2 (n + m) c2) w2 ∧ Own w2 base 46 3 A2 (n + m) c2 (spsC (xs ++ ys)) ∧ Below base w w2 := by
  obtain ⟨i0, hi0, hz0, hz1, hz2⟩ := info_of infoS
  obtain ⟨v', w', h1, h2, h3, h4⟩ := run_app (P := Try.prog) w base 23 23 46 i0 _ 3 24 Try.underlying23 hi0 hz0 hz1 hz2 rfl (by omega) ho.row hr hn (by omega) hb
  rw [← spsC_append] at h2
  obtain ⟨A2, c2, rfl, h5⟩ := Own.of_row h2 (spsC_one _)
  exact ⟨A2, c2, w', h1, h5, (Below.refl base w).grown h3 hb (fun k hk => (ho.row.lt k hk).1)⟩
/-- the first d centers', put together -/
theorem pre_congr {q r : Nat → List (Int × Int)} : ∀ d : Nat, (∀ j, j < d → q j = r j) → pre q d = pre r d
  | 0, _ => rfl
  | d + 1, h => by simp only [pre]; rw [pre_congr d (fun j hj => h j (by omega)), h d (by omega)]
theorem has_le_len {a b l : List (Int × Int)} {f : Bool → Bool → Bool} {l' : List (Int × Int)} (h1 : RightF 1 l) (h2 : ∀ n, hasB l n = f (hasB a n) (hasB b n)) (h : Put f a b l') : l = l' := ext h1 h.right fun n => by rw [h2, h.has]
set_option maxRecDepth 100000 in
set_option maxHeartbeats 2000000 in
theorem refbyC_any (f : Bool → Bool → Bool) (how : Int) (hhow : HowIs how f) (a b u : List S3) (n m q : Nat) (A B : Option Addr) (c d : Nat) (w : World) (hla : a.length = n) (hlb : b.length = m) (hlu : u.length = q) (hn : n ≤ 1000) (hm : m ≤ 1000) (hra : Rd w w.heap.size 3 A n c (spsC a)) (hrb : Rd w w.heap.size 3 B m d (spsC b)) (ha : RightC a) (hb : RightC b) (hu : PutC f a b u) (huq : q ≤ 800000) :
    Calls Try.prog 35 #[.slice A n c, .slice B m d, .int .i64 how] w fun e w' => ∃ A' c', e = .returned (.slice A' q c') ∧ Rd w' w'.heap.size 3 A' q c' (spsC u) ∧ Below w.heap.size w w' := by
  have HUP : Hid (pre (fun d : Nat => part u d) 4 = u) := by
    unfold Hid
    rw [pre_four]
    refine ext_part (rise_glue _) hu.right.rise fun d hd => ?_
    rw [part_glue _ hd]
    have e : ((d.toNat : Nat) : Int) = d := by have := hd.1; omega
    rw [e]
  have HUB : Hid (∀ d : Nat, d < 4 → ∀ l, RightF 1 l → (∀ n, hasB l n = f (hasB (part a d) n) (hasB (part b d) n)) → l = part u d) := fun d hd l h1 h2 =>
    ext h1 (hu.right.part d (by unfold Cen; omega)) fun n => by rw [h2 n]; exact (hu.has d n (by unfold Cen; omega)).symm
  have HUL : Hid (∀ d : Nat, d ≤ 4 → (pre (fun d : Nat => part u d) d).length ≤ q) := by
    have h4 : (pre (fun d : Nat => part u d) 4).length = q := by rw [HUP.out, hlu]
    intro d hd
    have hmono : ∀ i j : Nat, i ≤ j → (pre (fun d : Nat => part u d) i).length ≤ (pre (fun d : Nat => part u d) j).length := by
      intro i j hij
      induction j with
      | zero => obtain rfl : i = 0 := by omega
                exact Nat.le_refl _
      | succ j ih =>
        rcases (by omega : i ≤ j ∨ i = j + 1) with h | rfl
        · have := ih h
          simp only [pre, List.length_append]
          omega
        · exact Nat.le_refl _
    have := hmono d 4 hd
    omega
  have HPA := fun (dc : Int) W (h : Below w.heap.size w W) => Lib.hid (part_any a n A c dc W hla (by omega) ((hra.below h).more h.size))
  have HRB := Lib.hid hrb
  have HLA := Lib.hid hla
  have HLB := Lib.hid hlb
  have HOA := Lib.hid ha
  have HOB := Lib.hid hb
  have HLU := Lib.hid hlu
  have HHOW := Lib.hid hhow
  clear hra hrb hla hlb ha hb hu hlu hhow
  go_enter Try.func35, Try.ntmps35
  go_wp2
  go_loopw [7, 9] (fun v i wr => ∃ (d m : Nat) (A' : Option Addr) (c' : Nat), d ≤ 4 ∧ v = .slice A' m c' ∧ i = .int .i64 d ∧ Hid ((pre (fun d : Nat => part u d) d).length = m) ∧ Hid (Own wr w.heap.size 46 3 A' m c' (spsC (pre (fun d : Nat => part u d) d))) ∧ Hid (Below w.heap.size w wr)) (fun _ i _ => 4 - (intOf i).toNat)
  case atStart => exact ⟨0, 0, none, 0, by omega, rfl, rfl, rfl, ⟨World.ownsRow_nil _ _ _ _, by simp [pre, spsC]⟩, Below.refl _ _⟩
  case round =>
    obtain ⟨k, m1, A', c', hk, rfl, rfl, HM, HO, HB⟩ := hrel
    by_cases hk4 : k < 4
    · have HC1 := HPA k wr HB.out
      have HKA : Hid ((part a k).length ≤ 1000) := Nat.le_trans (part_len _ _) (by rw [HLA.out]; exact hn)
      have HKB : Hid ((part b k).length ≤ 1000) := Nat.le_trans (part_len _ _) (by rw [HLB.out]; exact hm)
      go_wp2_with fail
      refine HC1.out.mono ?_
      rintro e w1 ⟨A1, q1, c1, rfl, HL1, ho1, hb1⟩
      have HB1 := Lib.hid (HB.out.trans (hb1.mono HB.out.size))
      have HO1 := Lib.hid (own_later HO.out hb1)
      have HR1 := Lib.hid ho1.rd
      clear hb1 ho1
      have HC2 := Lib.hid (part_any b m B d k w1 HLB.out (by omega) ((HRB.out.below HB1.out).more HB1.out.size))
      go_wp2_with fail
      refine HC2.out.mono ?_
      rintro e w2 ⟨A2, q2, c2, rfl, HL2, ho2, hb2⟩
      have HB2 := Lib.hid (HB1.out.trans (hb2.mono HB1.out.size))
      have HO2 := Lib.hid (own_later HO1.out hb2)
      have HR2 := Lib.hid (HR1.out.later hb2)
      have HS2 := Lib.hid ho2.rd
      clear hb2 ho2
      have HC3 := Lib.hid (refby_any f how HHOW.out (part a k) (part b k) q1 q2 A1 A2 c1 c2 w2 HL1.out HL2.out (by have := HL1.out; have := HKA.out; omega) (by have := HL2.out; have := HKB.out; omega) HR2.out HS2.out (HOA.out.part k (by unfold Cen; omega)) (HOB.out.part k (by unfold Cen; omega)))
      have HC3' : Hid (Calls Try.prog 60 #[.slice A1 q1 c1, .slice A2 q2 c2, .int .i64 how] w2 fun e w' => ∃ A' q' c', e = .returned (.slice A' q' c') ∧ Hid ((part u k).length = q') ∧ Hid (Rd w' w'.heap.size 2 A' q' c' (runsC (part u k))) ∧ Below w2.heap.size w2 w') := by
        refine HC3.out.mono ?_
        rintro e w' ⟨l, A', c', rfl, h1, h2, ho, hb⟩
        have := HUB.out k hk4 l h1 h2
        subst this
        exact ⟨A', _, c', rfl, rfl, ho.rd, hb⟩
      clear HC1 HC2 HC3
      go_wp2_with fail
      refine HC3'.out.mono ?_
      rintro e w3 ⟨A3, q3, c3, rfl, HL3, HR3, hb3⟩
      have HB3 := Lib.hid (HB2.out.trans (hb3.mono HB2.out.size))
      have HO3 := Lib.hid (own_later HO2.out hb3)
      clear hb3
      have HQ4 : Hid (m1 + q3 ≤ 800000) := by
        have := HUL.out (k + 1) (by omega)
        simp only [pre, List.length_append, Cx.spans_len] at this
        have e1 := HM.out
        have e2 := HL3.out
        unfold Hid
        omega
      have HC4 := Lib.hid (spans_any (part u k) q3 A3 c3 k w3 HL3.out (by have := HQ4.out; omega) HR3.out)
      go_wp2_with fail
      refine HC4.out.mono ?_
      rintro e w4 ⟨A4, c4, rfl, ho4, hb4⟩
      have hO4 := own_later HO3.out hb4
      have hB4 := HB3.out.trans (hb4.mono HB3.out.size)
      obtain ⟨A5, c5, w5, hrun, ho5, hb5⟩ := appsC hO4 ho4.rd (by have := HQ4.out; omega) hB4.size
      have Hrun := Lib.hid hrun
      have HO5 := Lib.hid ho5
      have HB5 := Lib.hid (hB4.trans hb5)
      have HM5 : Hid ((pre (fun d : Nat => part u d) (k + 1)).length = m1 + q3) := by
        simp only [pre, List.length_append, Cx.spans_len, Hid]
        rw [HM.out, HL3.out]
      clear hb4 ho4 hO4 hB4 hrun ho5 hb5
      go_wp2_with (at_builtin; refine Lib.wpList_append_run _ rfl _ _ _ _ rfl _ _ rfl rfl _ _ Hrun.out ?_)
      go_roundw
      case rel => exact ⟨k + 1, m1 + q3, A5, c5, by omega, rfl, by go_num, HM5.out, HO5.out, HB5.out⟩
      case measure => simp [intOf]; omega
    · obtain rfl : k = 4 := by omega
      have HE : Hid (m1 = q) := by unfold Hid; rw [← HM.out, HUP.out, HLU.out]
      rw [HUP.out, HE.out] at HO
      rw [HE.out]
      go_wp2
      go_ret
      exact ⟨_, _, rfl, HO.out.rd, HB.out⟩
theorem refunionC_any (a b u : List S3) (n m q : Nat) (A B : Option Addr) (c d : Nat) (w : World) (hla : a.length = n) (hlb : b.length = m) (hlu : u.length = q) (hn : n ≤ 1000) (hm : m ≤ 1000) (hra : Rd w w.heap.size 3 A n c (spsC a)) (hrb : Rd w w.heap.size 3 B m d (spsC b)) (ha : RightC a) (hb : RightC b) (hu : PutC uniF a b u) (huq : q ≤ 800000) :
    Calls Try.prog 36 #[.slice A n c, .slice B m d] w fun e w' => ∃ A' c', e = .returned (.slice A' q c') ∧ Rd w' w'.heap.size 3 A' q c' (spsC u) ∧ Below w.heap.size w w' := by
  have HC := Lib.hid (refbyC_any uniF 0 (.inl ⟨rfl, rfl⟩) a b u n m q A B c d w hla hlb hlu hn hm hra hrb ha hb hu huq)
  clear hla hlb hlu hra hrb ha hb hu
  go_enter Try.func36, Try.ntmps36
  go_wp2_with (go_at_call 35; refine HC.out.mono ?_; rintro e w1 ⟨A1, c1, rfl, h1, h2⟩)
  go_ret
  exact ⟨_, _, rfl, h1, h2⟩
end Cx
end Go.Proofs.Ytfkkjgebemnhnaa
