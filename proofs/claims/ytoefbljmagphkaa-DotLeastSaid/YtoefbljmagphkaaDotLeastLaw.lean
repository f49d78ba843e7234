/- DotLeast answers true for all dots, and leaves them as they were. No condition. -/
import Derived.Test.YtoefbljmagphkaaDotLeast
namespace Go.Proofs.Ytoefbljmagphkaa.lawDotLeast
open Go.ChangeShapes Go.WideShapes Go.ChangeAt Go.RowKit Dt
def isR (e : Int × Int) : Bool := rightB e.1 e.2
def isD (d e : Int × Int) : Bool := rightB e.1 e.2 && decide (e = d)
theorem any_snoc {f : Int × Int → Bool} {l : List (Int × Int)} {k : Nat} (h : k < l.length) : (l.take (k + 1)).any f = ((l.take k).any f || f l[k]) := by
  rw [List.take_succ_eq_append_getElem h, List.any_append]; simp
/-- what the law's loop comes to -/
theorem ends (l : List (Int × Int)) : l.any isR = (least l).isSome ∧ l.any (isD (lD (least l))) = (least l).isSome ∧ ((least l).isSome = false → lD (least l) = (0, 0)) := by
  have h := least_spec l
  cases hl : least l with
  | none =>
    rw [hl] at h
    refine ⟨?_, ?_, fun _ => rfl⟩
    · simp only [Option.isSome_none, List.any_eq_false, isR]
      intro e he; rw [h e he]; simp
    · simp only [Option.isSome_none, List.any_eq_false, isD]
      intro e he; rw [h e he]; simp
  | some d =>
    rw [hl] at h
    refine ⟨?_, ?_, fun h => by cases h⟩
    · simp only [Option.isSome_some, List.any_eq_true, isR]
      exact ⟨d, h.mem, h.right⟩
    · simp only [Option.isSome_some, List.any_eq_true, isD, lD, Option.getD_some]
      exact ⟨d, h.mem, by rw [h.right]; simp⟩
theorem right_mem (l : List (Int × Int)) (e : Int × Int) (he : e ∈ l) (hr : rightB e.1 e.2 = true) : (least l).isSome = true ∧ lessB e.1 e.2 (lD (least l)).1 (lD (least l)).2 = false := by
  have h := least_spec l
  cases hl : least l with
  | none => rw [hl] at h; rw [h e he] at hr; cases hr
  | some d =>
    rw [hl] at h
    refine ⟨rfl, ?_⟩
    have := h.le e he hr
    unfold lessB lD
    simp only [Option.getD_some]
    simpa using this
set_option maxRecDepth 100000 in
set_option maxHeartbeats 1000000 in
theorem walk_any (l : List (Int × Int)) (A : Option Addr) (c : Nat) (w : World) (hr : Rd w w.heap.size 2 A l.length c (l.flatMap dotC)) :
    Calls Try.prog 7 #[.slice A l.length c] w fun e w' => e = .returned (.bool true) ∧ Below w.heap.size w w' := by
  obtain ⟨n, hn⟩ : ∃ n, n = l.length := ⟨_, rfl⟩
  rw [← hn] at hr ⊢
  have HR := Lib.hid hr
  have HN := Lib.hid hn
  clear hr hn
  by_cases h2 : n ≤ 200
  · have f1 : decide ((200 : Int) < n) = false := by simp; omega
    have hen := ends l
    have hrm := right_mem l
    have HL := fun (W : World) (h : Rd W W.heap.size 2 A n c (l.flatMap dotC)) => Lib.hid (least_any l n A c W HN.out.symm (by omega) h)
    obtain ⟨s, hs⟩ : ∃ s, s = (least l).isSome := ⟨_, rfl⟩
    obtain ⟨d, hd⟩ : ∃ d, d = lD (least l) := ⟨_, rfl⟩
    rw [← hs, ← hd] at hen hrm HL
    obtain ⟨x, y⟩ := d
    have HEN := Lib.hid hen
    have HRM := Lib.hid hrm
    clear hen hrm hs hd
    cases s with
    | true =>
      go_enter Try.func7, Try.ntmps7
      go_wp2_with (first
        | (go_at_call 8; refine (awake_any w).mono ?_; rintro e w1 ⟨rfl, hb1⟩; have HB1 := Lib.hid hb1; have HR1 := Lib.hid (Rd.later HR.out hb1); clear hb1)
        | (go_at_call 14; refine (HL w1 HR1.out).out.mono ?_; rintro e w2 ⟨rfl, hb2⟩; have HB2 := Lib.hid (HB1.out.trans (hb2.mono HB1.out.size)); clear hb2))
      obtain ⟨g, hg⟩ : ∃ g, g = w2.heap.size := ⟨_, rfl⟩
      have HK : Hid (Kept [(⟨g, 0, none⟩, .int .i64 x), (⟨g, 1, none⟩, .int .i64 y)] w (w2.alloc (.cells #[.int .i64 x, .int .i64 y] 23))) := by
        rw [hg]; exact (((Kept.nil_of HB2.out).alloc _).cons_of (by go_simp)).cons_of (by go_simp)
      rw [← hg]
      clear hg
      go_loopw [5, 6, 23] (fun sm th i wr => ∃ k : Nat, k ≤ n ∧ i = .int .i64 k ∧ sm = .bool ((l.take k).any isR) ∧ th = .bool ((l.take k).any (isD (x, y))) ∧ Hid (Kept [(⟨g, 0, none⟩, .int .i64 x), (⟨g, 1, none⟩, .int .i64 y)] w wr)) (fun _ _ i _ => n - (intOf i).toNat)
      case atStart => exact ⟨0, by omega, rfl, rfl, rfl, HK⟩
      case round =>
        clear HK
        obtain ⟨k, hk, rfl, rfl, rfl, HK⟩ := hrel
        by_cases hlt : k < n
        · have hkl : k < l.length := by rw [← HN.out]; exact hlt
          have hS := any_snoc (f := isR) hkl
          have hT := any_snoc (f := isD (x, y)) hkl
          obtain ⟨b, o, rfl, hbl, hc⟩ := HR.out.at_ (by omega)
          obtain ⟨q0, q1⟩ := cells_at l k hkl
          have hmem : l[k] ∈ l := List.getElem_mem hkl
          obtain ⟨e, he⟩ : ∃ e, e = l[k] := ⟨_, rfl⟩
          rw [← he] at q0 q1 hS hT hmem
          obtain ⟨p, q⟩ := e
          have HM := Lib.hid (HRM.out (p, q) hmem)
          have Q0 := Lib.hid (hc _ _ q0)
          have Q1 := Lib.hid (hc _ _ q1)
          have q0 := (HK.out.below.cell (p := ⟨b, o + k * 2, none⟩) hbl).trans Q0.out
          have q1 := (HK.out.below.cell (p := ⟨b, o + k * 2 + 1, none⟩) hbl).trans Q1.out
          clear he hc hmem
          obtain ⟨S, hS0⟩ : ∃ S, S = (l.take k).any isR := ⟨_, rfl⟩
          obtain ⟨T, hT0⟩ : ∃ S, S = (l.take k).any (isD (x, y)) := ⟨_, rfl⟩
          rw [← hS0] at hS ⊢
          rw [← hT0] at hT ⊢
          clear hS0 hT0
          cases hrb : rightB p q with
          | false =>
            have hS' : Hid ((l.take (k + 1)).any isR = S) := by unfold Hid; rw [hS]; unfold isR; rw [hrb]; simp
            have hT' : Hid ((l.take (k + 1)).any (isD (x, y)) = T) := by unfold Hid; rw [hT]; unfold isD; rw [hrb]; simp
            have HRT := fun W => Lib.hid (refright_any p q W)
            rw [hrb] at HRT
            clear hrb hS hT
            go_wp2_with (go_at_call 10; refine (calls_kept (HRT _).out HK).mono ?_; rintro e w3 ⟨rfl, HK3⟩)
            go_roundw
            case rel => exact ⟨k + 1, by omega, by go_num, by rw [hS'.out], by rw [hT'.out], HK3⟩
            case measure => simp [intOf]; omega
          | true =>
            have hle := (HM.out hrb).2
            have hS' : Hid ((l.take (k + 1)).any isR = true) := by unfold Hid; rw [hS]; unfold isR; rw [hrb]; simp
            have hT' : Hid ((l.take (k + 1)).any (isD (x, y)) = (T || decide ((p, q) = (x, y)))) := by unfold Hid; rw [hT]; unfold isD; rw [hrb]; simp
            have HRT := fun W => Lib.hid (refright_any p q W)
            rw [hrb] at HRT
            have HLS := fun W => Lib.hid (less_any p q x y W)
            rw [hle] at HLS
            clear hrb hS hT hle
            go_wp2_with (go_at_call 10; refine (calls_kept (HRT _).out HK).mono ?_; rintro e w3 ⟨rfl, HK3⟩)
            have k0 := HK3.out.c0; have k1 := HK3.out.c1
            have q0 := (HK3.out.below.cell (p := ⟨b, o + k * 2, none⟩) hbl).trans Q0.out
            have q1 := (HK3.out.below.cell (p := ⟨b, o + k * 2 + 1, none⟩) hbl).trans Q1.out
            cases T with
            | true =>
              go_quiet (fail)
              go_wp2
              have HK4 := Lib.hid (HK3.out.drewN nq)
              have k0 := HK4.out.c0; have k1 := HK4.out.c1
              have q0 := (HK4.out.below.cell (p := ⟨b, o + k * 2, none⟩) hbl).trans Q0.out
              have q1 := (HK4.out.below.cell (p := ⟨b, o + k * 2 + 1, none⟩) hbl).trans Q1.out
              go_region_held3 (fun W => W.cell? ⟨g, 0, none⟩ = some (.int .i64 x) ∧ W.cell? ⟨g, 1, none⟩ = some (.int .i64 y) ∧ W.cell? ⟨b, o + k * 2, none⟩ = some (.int .i64 p) ∧ W.cell? ⟨b, o + k * 2 + 1, none⟩ = some (.int .i64 q)) (go_keep)
                (first
                  | (go_at_call 11; refine (calls_kept (HLS _).out HK4.drew).mono ?_; rintro e w5 ⟨rfl, HK5⟩; have k0 := HK5.out.c0; have k1 := HK5.out.c1; have q0 := (HK5.out.below.cell (p := ⟨b, o + k * 2, none⟩) hbl).trans Q0.out; have q1 := (HK5.out.below.cell (p := ⟨b, o + k * 2 + 1, none⟩) hbl).trans Q1.out))
              go_wp2
              go_roundw
              case rel => exact ⟨k + 1, by omega, by go_num, by rw [hS'.out], by rw [hT'.out]; simp, HK5⟩
              case measure => simp [intOf]; omega
            | false =>
              by_cases hpx : p = x
              · subst hpx
                by_cases hqy : q = y
                · subst hqy
                  go_quiet (fail)
                  go_wp2
                  have HK4 := Lib.hid (HK3.out.drewN nq)
                  have k0 := HK4.out.c0; have k1 := HK4.out.c1
                  have q0 := (HK4.out.below.cell (p := ⟨b, o + k * 2, none⟩) hbl).trans Q0.out
                  have q1 := (HK4.out.below.cell (p := ⟨b, o + k * 2 + 1, none⟩) hbl).trans Q1.out
                  go_region_held3 (fun W => W.cell? ⟨g, 0, none⟩ = some (.int .i64 p) ∧ W.cell? ⟨g, 1, none⟩ = some (.int .i64 q) ∧ W.cell? ⟨b, o + k * 2, none⟩ = some (.int .i64 p) ∧ W.cell? ⟨b, o + k * 2 + 1, none⟩ = some (.int .i64 q)) (go_keep)
                    (first
                      | (go_at_call 11; refine (calls_kept (HLS _).out HK4.drew).mono ?_; rintro e w5 ⟨rfl, HK5⟩; have k0 := HK5.out.c0; have k1 := HK5.out.c1; have q0 := (HK5.out.below.cell (p := ⟨b, o + k * 2, none⟩) hbl).trans Q0.out; have q1 := (HK5.out.below.cell (p := ⟨b, o + k * 2 + 1, none⟩) hbl).trans Q1.out))
                  go_wp2
                  go_roundw
                  case rel => exact ⟨k + 1, by omega, by go_num, by rw [hS'.out], by rw [hT'.out]; simp, HK5⟩
                  case measure => simp [intOf]; omega
                · have f3 : (q == y) = false := by simp only [beq_eq_false_iff_ne]; exact hqy
                  have hT'' : Hid (((l.take (k + 1)).any (isD (p, y))) = false) := by unfold Hid; rw [hT'.out]; simp [hqy]
                  clear hqy hT'
                  go_quiet (fail)
                  go_wp2
                  have HK4 := Lib.hid (HK3.out.drewN nq)
                  have k0 := HK4.out.c0; have k1 := HK4.out.c1
                  have q0 := (HK4.out.below.cell (p := ⟨b, o + k * 2, none⟩) hbl).trans Q0.out
                  have q1 := (HK4.out.below.cell (p := ⟨b, o + k * 2 + 1, none⟩) hbl).trans Q1.out
                  go_region_held3 (fun W => W.cell? ⟨g, 0, none⟩ = some (.int .i64 p) ∧ W.cell? ⟨g, 1, none⟩ = some (.int .i64 y) ∧ W.cell? ⟨b, o + k * 2, none⟩ = some (.int .i64 p) ∧ W.cell? ⟨b, o + k * 2 + 1, none⟩ = some (.int .i64 q)) (go_keep)
                    (first
                      | (go_at_call 11; refine (calls_kept (HLS _).out HK4.drew).mono ?_; rintro e w5 ⟨rfl, HK5⟩; have k0 := HK5.out.c0; have k1 := HK5.out.c1; have q0 := (HK5.out.below.cell (p := ⟨b, o + k * 2, none⟩) hbl).trans Q0.out; have q1 := (HK5.out.below.cell (p := ⟨b, o + k * 2 + 1, none⟩) hbl).trans Q1.out))
                  go_wp2
                  go_roundw
                  case rel => exact ⟨k + 1, by omega, by go_num, by rw [hS'.out], by rw [hT''.out], HK5⟩
                  case measure => simp [intOf]; omega
              · have f3 : (p == x) = false := by simp only [beq_eq_false_iff_ne]; exact hpx
                have hT'' : Hid (((l.take (k + 1)).any (isD (x, y))) = false) := by unfold Hid; rw [hT'.out]; simp [hpx]
                clear hpx hT'
                go_quiet (fail)
                go_wp2
                have HK4 := Lib.hid (HK3.out.drewN nq)
                have k0 := HK4.out.c0; have k1 := HK4.out.c1
                have q0 := (HK4.out.below.cell (p := ⟨b, o + k * 2, none⟩) hbl).trans Q0.out
                have q1 := (HK4.out.below.cell (p := ⟨b, o + k * 2 + 1, none⟩) hbl).trans Q1.out
                go_region_held3 (fun W => W.cell? ⟨g, 0, none⟩ = some (.int .i64 x) ∧ W.cell? ⟨g, 1, none⟩ = some (.int .i64 y) ∧ W.cell? ⟨b, o + k * 2, none⟩ = some (.int .i64 p) ∧ W.cell? ⟨b, o + k * 2 + 1, none⟩ = some (.int .i64 q)) (go_keep)
                  (first
                    | (go_at_call 11; refine (calls_kept (HLS _).out HK4.drew).mono ?_; rintro e w5 ⟨rfl, HK5⟩; have k0 := HK5.out.c0; have k1 := HK5.out.c1; have q0 := (HK5.out.below.cell (p := ⟨b, o + k * 2, none⟩) hbl).trans Q0.out; have q1 := (HK5.out.below.cell (p := ⟨b, o + k * 2 + 1, none⟩) hbl).trans Q1.out))
                go_wp2
                go_roundw
                case rel => exact ⟨k + 1, by omega, by go_num, by rw [hS'.out], by rw [hT''.out], HK5⟩
                case measure => simp [intOf]; omega
        · have hkn : l.take k = l := List.take_of_length_le (by rw [← HN.out]; omega)
          obtain ⟨e1, e2, e3⟩ := HEN.out
          rw [hkn, e1, e2]
          clear e1 e2 hkn
          have k0 := HK.out.c0; have k1 := HK.out.c1
          clear e3
          go_wp2
          go_ret
          exact ⟨rfl, HK.out.below⟩
    | false =>
      go_enter Try.func7, Try.ntmps7
      go_wp2_with (first
        | (go_at_call 8; refine (awake_any w).mono ?_; rintro e w1 ⟨rfl, hb1⟩; have HB1 := Lib.hid hb1; have HR1 := Lib.hid (Rd.later HR.out hb1); clear hb1)
        | (go_at_call 14; refine (HL w1 HR1.out).out.mono ?_; rintro e w2 ⟨rfl, hb2⟩; have HB2 := Lib.hid (HB1.out.trans (hb2.mono HB1.out.size)); clear hb2))
      obtain ⟨g, hg⟩ : ∃ g, g = w2.heap.size := ⟨_, rfl⟩
      have HK : Hid (Kept [(⟨g, 0, none⟩, .int .i64 x), (⟨g, 1, none⟩, .int .i64 y)] w (w2.alloc (.cells #[.int .i64 x, .int .i64 y] 23))) := by
        rw [hg]; exact (((Kept.nil_of HB2.out).alloc _).cons_of (by go_simp)).cons_of (by go_simp)
      rw [← hg]
      clear hg
      go_loopw [5, 6, 23] (fun sm th i wr => ∃ k : Nat, k ≤ n ∧ i = .int .i64 k ∧ sm = .bool ((l.take k).any isR) ∧ th = .bool ((l.take k).any (isD (x, y))) ∧ Hid (Kept [(⟨g, 0, none⟩, .int .i64 x), (⟨g, 1, none⟩, .int .i64 y)] w wr)) (fun _ _ i _ => n - (intOf i).toNat)
      case atStart => exact ⟨0, by omega, rfl, rfl, rfl, HK⟩
      case round =>
        clear HK
        obtain ⟨k, hk, rfl, rfl, rfl, HK⟩ := hrel
        by_cases hlt : k < n
        · have hkl : k < l.length := by rw [← HN.out]; exact hlt
          have hS := any_snoc (f := isR) hkl
          have hT := any_snoc (f := isD (x, y)) hkl
          obtain ⟨b, o, rfl, hbl, hc⟩ := HR.out.at_ (by omega)
          obtain ⟨q0, q1⟩ := cells_at l k hkl
          have hmem : l[k] ∈ l := List.getElem_mem hkl
          obtain ⟨e, he⟩ : ∃ e, e = l[k] := ⟨_, rfl⟩
          rw [← he] at q0 q1 hS hT hmem
          obtain ⟨p, q⟩ := e
          have HM := Lib.hid (HRM.out (p, q) hmem)
          have Q0 := Lib.hid (hc _ _ q0)
          have Q1 := Lib.hid (hc _ _ q1)
          have q0 := (HK.out.below.cell (p := ⟨b, o + k * 2, none⟩) hbl).trans Q0.out
          have q1 := (HK.out.below.cell (p := ⟨b, o + k * 2 + 1, none⟩) hbl).trans Q1.out
          clear he hc hmem
          obtain ⟨S, hS0⟩ : ∃ S, S = (l.take k).any isR := ⟨_, rfl⟩
          obtain ⟨T, hT0⟩ : ∃ S, S = (l.take k).any (isD (x, y)) := ⟨_, rfl⟩
          rw [← hS0] at hS ⊢
          rw [← hT0] at hT ⊢
          clear hS0 hT0
          cases hrb : rightB p q with
          | false =>
            have hS' : Hid ((l.take (k + 1)).any isR = S) := by unfold Hid; rw [hS]; unfold isR; rw [hrb]; simp
            have hT' : Hid ((l.take (k + 1)).any (isD (x, y)) = T) := by unfold Hid; rw [hT]; unfold isD; rw [hrb]; simp
            have HRT := fun W => Lib.hid (refright_any p q W)
            rw [hrb] at HRT
            clear hrb hS hT
            go_wp2_with (go_at_call 10; refine (calls_kept (HRT _).out HK).mono ?_; rintro e w3 ⟨rfl, HK3⟩)
            go_roundw
            case rel => exact ⟨k + 1, by omega, by go_num, by rw [hS'.out], by rw [hT'.out], HK3⟩
            case measure => simp [intOf]; omega
          | true =>
            exact absurd (HM.out hrb).1 (by simp)
        · have hkn : l.take k = l := List.take_of_length_le (by rw [← HN.out]; omega)
          obtain ⟨e1, e2, e3⟩ := HEN.out
          rw [hkn, e1, e2]
          clear e1 e2 hkn
          have k0 := HK.out.c0; have k1 := HK.out.c1
          obtain ⟨rfl, rfl⟩ := Prod.mk.inj (e3 (by simp))
          clear e3
          go_wp2
          go_ret
          exact ⟨rfl, HK.out.below⟩
  · have f1 : decide ((200 : Int) < n) = true := by simp; omega
    go_enter Try.func7, Try.ntmps7
    go_wp2_with (first
      | (go_at_call 8; refine (awake_any w).mono ?_; rintro e w1 ⟨rfl, hb1⟩)
      | (go_at_call 8; refine (awake_any w1).mono ?_; rintro e w2 ⟨rfl, hb2⟩))
    go_ret
    exact ⟨rfl, hb1.trans (hb2.mono hb1.size)⟩
set_option maxRecDepth 100000 in
theorem lifted (os : Os) (started : os.Started) (H : Type) (enc : TypeId × Value → H) :
    ReturnsInHanded {} Try.checked os 7 .any (Rows.dotLeastSpec.pre6 enc Try.prog Try.f7 Rows.dotLeastRow.domain false) (Rows.dotLeastSpec.post enc Try.prog Try.f7 false true false false) := by
  refine returnsInHanded_of_change (C := Try.checked) own started (by kernel_rfl) Try.func7
    (ChangeSpec.witness6 (enc := enc) (C := Try.checked) false ⟨#[], #[.slice none 0 0], []⟩ 8 (by kernel_rfl) (by kernel_rfl) (by kernel_rfl) (by kernel_rfl)) ?_
  intro W base args ds gs before hval0 hW _ _
  have hval : ∀ (j : Nat) t v, Try.f7.params[j]? = some t → args[j]? = some v → Value.okWide Try.prog W .any base t v := hval0
  have hW' := hW
  obtain ⟨p, q, hA0, hV, rfl, hfz, hnd⟩ := hW
  have hA : DataW.TrodAll enc Try.prog W 0 (fun _ => true) true Try.f7.params.toList args.toList ds p := hA0
  rw [Try.params7] at hA hval
  obtain ⟨v0, d0, rfl, rfl, h0⟩ := trodAll_one hA
  obtain ⟨rfl, rfl⟩ := trodVars_none hV
  obtain ⟨a0, len0, cap0, rfl⟩ := okWide_slice Try.underlying33 (hval 0 33 v0 rfl rfl)
  obtain ⟨fuel0, hf0⟩ := h0
  obtain ⟨l0, rfl, hr0, _⟩ := Dt.dots_of_trod hf0
  refine (walk_any l0 a0 cap0 W hr0).mono fun e W' ⟨he, hb⟩ => ?_
  subst he
  exact ⟨_, rfl, law_post hW' (by kernel_rfl) rfl rfl rfl hb⟩
theorem proved : Rows.DotLeastSaid :=
  OpenClaim.holds_of_wide 7 Try.f7 rfl rfl rfl rfl rfl rfl rfl ⟨rfl, rfl, rfl, rfl, rfl⟩ rfl rfl rfl rfl rfl (by kernel_rfl) Try.func7 (by kernel_rfl)
    (of_decide_eq_true (by kernel_rfl)) (by unfold Func.isWrapper; first | (rw [if_pos (by decide +kernel)]; kernel_rfl) | (rw [if_neg (by decide +kernel)]; exact ⟨rfl, rfl⟩))
    (fun os started H enc _ => lifted os started H enc)
#print axioms proved
end Go.Proofs.Ytoefbljmagphkaa.lawDotLeast
