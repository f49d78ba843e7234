/- The document's answers for layer 1, on: Keys. -/
import Derived.Test.YtolfockpiioncaaRef1
namespace Go.Proofs.Ytolfockpiioncaa
open Go.RowKit
theorem nodup_len {α : Type} [DecidableEq α] : ∀ (ks l : List α), ks.Nodup → (∀ k ∈ ks, k ∈ l) → ks.length ≤ l.length
  | [], _, _, _ => Nat.zero_le _
  | k :: ks, l, h, hm => by
    have h1 := List.nodup_cons.1 h
    have h2 := nodup_len ks (l.erase k) h1.2 (fun x hx =>
      (List.mem_erase_of_ne (fun e => h1.1 (by rw [← e]; exact hx))).2 (hm x (List.mem_cons_of_mem _ hx)))
    have h3 := List.length_erase_of_mem (hm k (by simp))
    have h4 : 0 < l.length := List.length_pos_of_mem (hm k (by simp))
    simp only [List.length_cons]
    omega
namespace Ref1
theorem valueOf_mem {h : List Act} {k : ByteArray} (hv : (valueOf h k).isSome = true) : ∃ (j : Nat) (hj : j < h.length), h[j].key = k := by
  unfold valueOf at hv
  split at hv
  · rename_i a ha
    have h1 := List.mem_of_find?_eq_some ha
    have h2 := List.find?_some ha
    obtain ⟨j, hj, e⟩ := List.getElem_of_mem (List.mem_reverse.1 h1)
    exact ⟨j, hj, by rw [e]; simpa using h2⟩
  · cases hv
theorem pw_nodup {ks : List ByteArray} (h : ks.Pairwise ltS) : ks.Nodup := by
  unfold List.Nodup
  exact h.imp (fun {a b} h (e : a = b) => tot_str.irr b (by rw [e] at h; exact h))
theorem Told.len {h : List Act} {ks : List ByteArray} (t : Told h ks) : ks.length ≤ h.length := by
  have := nodup_len ks (h.map Act.key) (pw_nodup t.1) (fun k hk => by
    obtain ⟨j, hj, e⟩ := valueOf_mem (t.2.1 k hk)
    exact List.mem_map.2 ⟨h[j], List.getElem_mem hj, e⟩)
  simpa using this
theorem Told.start (h : List Act) : Told h [] := ⟨List.Pairwise.nil, by simp, fun _ _ => .inr (by simp)⟩
theorem Best.start (h : List Act) (ks : List ByteArray) (b : ByteArray) : Best h ks 0 b false := ⟨(fun e => by cases e), (fun j _ hj => by omega)⟩
theorem Best.up {h : List Act} {ks : List ByteArray} {i : Nat} {best k : ByteArray} {sm : Bool} (hb : Best h ks i best sm) (hi : i < h.length) (hk : h[i].key = k) (hv : (valueOf h k).isSome = true) (ha : ∀ a ∈ ks, ltS a k) (hs : sm = false ∨ ltS k best) : Best h ks (i + 1) k true := by
  refine ⟨fun _ => ⟨hv, ha⟩, fun j hj hji hjv hja => ⟨rfl, ?_⟩⟩
  by_cases e : j = i
  · subst e; rw [hk]; exact tot_str.irr _
  · obtain ⟨h1, h2⟩ := hb.2 j hj (by omega) hjv hja
    rcases hs with hs | hs
    · rw [hs] at h1; cases h1
    · exact fun h3 => h2 (tot_str.tr _ _ _ h3 hs)
theorem Best.no {h : List Act} {ks : List ByteArray} {i : Nat} {best k : ByteArray} {sm : Bool} (hb : Best h ks i best sm) (hi : i < h.length) (hk : h[i].key = k) (hn : (valueOf h k).isSome = false ∨ (∃ a ∈ ks, ¬ ltS a k) ∨ (sm = true ∧ ¬ ltS k best)) : Best h ks (i + 1) best sm := by
  refine ⟨hb.1, fun j hj hji hjv hja => ?_⟩
  by_cases e : j = i
  · subst e
    rw [hk] at hjv hja ⊢
    rcases hn with hn | ⟨a, h1, h2⟩ | hn
    · rw [hn] at hjv; cases hjv
    · exact (h2 (hja a h1)).elim
    · exact hn
  · exact hb.2 j hj (by omega) hjv hja
theorem Told.step {h : List Act} {ks : List ByteArray} {best : ByteArray} (t : Told h ks) (hb : Best h ks h.length best true) : Told h (ks ++ [best]) := by
  obtain ⟨h1, h2⟩ := hb.1 rfl
  refine ⟨?_, ?_, ?_⟩
  · rw [List.pairwise_append]
    exact ⟨t.1, List.pairwise_singleton _ _, fun a ha b hb => by simp only [List.mem_singleton] at hb; subst hb; exact h2 a ha⟩
  · intro k hk
    rcases List.mem_append.1 hk with hk | hk
    · exact t.2.1 k hk
    · simp only [List.mem_singleton] at hk; subst hk; exact h1
  · intro k hk
    rcases t.2.2 k hk with h3 | h3
    · exact .inl (List.mem_append_left _ h3)
    · obtain ⟨j, hj, e⟩ := valueOf_mem hk
      have h4 := (hb.2 j hj hj (by rw [e]; exact hk) (by rw [e]; exact h3)).2
      rw [e] at h4
      rcases tot_str.tri best k with h5 | h5 | h5
      · right
        intro a ha
        rcases List.mem_append.1 ha with ha | ha
        · exact h3 a ha
        · simp only [List.mem_singleton] at ha; subst ha; exact h5
      · left; rw [← h5]; simp
      · exact (h4 h5).elim
theorem Told.done {h : List Act} {ks : List ByteArray} {best : ByteArray} (t : Told h ks) (hb : Best h ks h.length best false) : KeysIs h ks := by
  refine ⟨t.1, fun k => ⟨t.2.1 k, fun hk => ?_⟩⟩
  rcases t.2.2 k hk with h3 | h3
  · exact h3
  · obtain ⟨j, hj, e⟩ := valueOf_mem hk
    have := (hb.2 j hj hj (by rw [e]; exact hk) (by rw [e]; exact h3)).1
    cases this
theorem infoS : (Try.prog.info? 9).map (fun i => (i.zero, i.size, i.bytes)) = some (some (.string ByteArray.empty), 1, 16) := by kernel_rfl
/-- the keys, as an answer -/
def NewKeys (h : List Act) (w : World) (e : Ending) (w' : World) : Prop := ∃ ks, KeysIs h ks ∧ NewRow 9 1 (ks.map Value.string) ks.length w e w'
/-- append of one text that the call has just laid -/
theorem run_pushS (W : World) (base q : Nat) (hq : W.heap.size = q) (hb : base ≤ W.heap.size) (v : Value) (ks : List ByteArray) (hown : W.ownsRow base 9 1 v ks.length (ks.map Value.string)) (s : ByteArray) (hn : ks.length ≤ 1000) :
    ∃ v' w', (Builtin.append_ #[67, 67] 67 #[v, .slice (some ⟨q, 0, none⟩) 1 1]).run Try.prog (W.alloc (.cells #[.string s] 9)) = .ok v' w' ∧
      w'.ownsRow base 9 1 v' (ks ++ [s]).length ((ks ++ [s]).map Value.string) ∧ Below base W w' := by
  subst hq
  obtain ⟨i0, hi0, hz0, hz1, hz2⟩ := info_parts infoS
  obtain ⟨v', w', h1, h2, h3, h4⟩ := run_app (P := Try.prog) (W.alloc (.cells #[.string s] 9)) base 67 67 9 i0 _ 1 16 Try.underlying67 hi0 hz0 hz1 hz2 rfl (by omega)
    (hown.alloc _) (B := W.heap.size + 1) (A := some ⟨W.heap.size, 0, none⟩) (m := 1) (c := 1) (news := [.string s])
    ⟨rfl, by omega, by intro u hu; simp only [List.mem_cons, List.not_mem_nil, or_false] at hu; subst hu; rfl, fun _ => ⟨_, _, rfl, by omega, fun j u hu => by
      rw [Nat.zero_add, cell_of_row _ _ j _ _ (0, 0) (heap_alloc_new _ _)]
      simpa using hu⟩⟩ (by omega) (by omega) (by simp; omega)
  refine ⟨v', w', h1, by simpa using h2, ?_⟩
  exact ((Below.refl base W).alloc hb _).grown h3 (by simp; omega) (fun k hk => (hown.lt k hk).1)

set_option maxRecDepth 100000 in
set_option maxHeartbeats 2000000 in
theorem keys_any (h : List Act) (A : Option Addr) (c : Nat) (w : World) (hr : Rd w w.heap.size 3 A h.length c (flatA h)) (hn : h.length ≤ 1000) :
    Calls Try.prog 30 #[.slice A h.length c] w (NewKeys h w) := by
  have HR := Lib.hid hr
  clear hr
  go_enter Try.func30, Try.ntmps30
  go_wp2
  go_loopw [3] (fun v wr => ∃ ks, wr.ownsRow w.heap.size 9 1 v ks.length (ks.map Value.string) ∧ Below w.heap.size w wr ∧ Hid (Told h ks)) (fun v _ => match v with | .slice _ n _ => h.length + 1 - n | _ => 0)
  case atStart => exact ⟨[], World.ownsRow_nil _ _ _ _, Below.refl _ _, Told.start h⟩
  case round =>
    obtain ⟨ks, hown, hB, ht⟩ := hrel
    obtain ⟨A3, c3, rfl, hown3⟩ := Own.of_row hown (by intro u hu; obtain ⟨z, _, rfl⟩ := List.mem_map.1 hu; rfl)
    have hkl : ks.length ≤ h.length := Told.len ht
    by_cases hne : ks = []
    · have e0 : ((ks.length : Int) == 0) = true := by rw [hne]; rfl
      have HKS := Lib.hid hne
      clear hne hown
      obtain ⟨wo, rfl⟩ : ∃ wo : World, wo = wr := ⟨_, rfl⟩
      go_wp2
      go_loopw [4, 5, 12] (fun b5 s5 q wr => ∃ (i : Nat) (best : ByteArray) (sm : Bool), b5 = .string best ∧ s5 = .bool sm ∧ q = .int .i64 i ∧ i ≤ h.length ∧ Below wo.heap.size wo wr ∧ Hid (Best h ks i best sm)) (fun _ _ q _ => (h.length - intOf q).toNat)
      case atStart => exact ⟨0, _, false, rfl, rfl, rfl, Nat.zero_le _, Below.refl _ _, Best.start h ks _⟩
      case round =>
        obtain ⟨i, best, sm, rfl, rfl, rfl, hi, hB2, hbest⟩ := hrel
        by_cases hlt : i < h.length
        · obtain ⟨b, o, rfl, hb, hc⟩ := HR.out.at_ (by omega)
          have hBB : Below w.heap.size w wr := hB.trans (hB2.mono hB.size)
          obtain ⟨f0, _, _⟩ := flatA_at h i hlt
          obtain ⟨k, hk⟩ : ∃ k, k = h[i].key := ⟨_, rfl⟩
          rw [← hk] at f0
          have k0 : wr.cell? ⟨b, o + i * 3, none⟩ = some (.string k) := (hBB.cell (p := ⟨b, o + i * 3, none⟩) hb).trans (hc _ _ f0)
          have hi1 : (i : Int) < h.length := by omega
          have HV0 := value_any h k (some ⟨b, o, none⟩) c wr ((HR.out.below hBB).more hBB.size) (by omega)
          have HK := Lib.hid hk.symm
          have hbest' := Lib.hid hbest
          clear hc f0 hk hbest
          cases hv : valueOf h k with
          | none =>
            rw [hv] at HV0
            have HV := Lib.hid HV0
            have HU := Lib.hid (Best.no hbest'.out hlt HK.out (.inl (by rw [hv]; rfl)))
            clear HV0 hv hbest'
            unfold valV at HV
            dsimp only [Option.getD, Option.isSome] at HV
            go_wp2_with (go_at_call 25; refine HV.out.mono ?_; rintro e w5 ⟨rfl, hb5⟩)
            go_roundw
            case rel => exact ⟨i + 1, best, sm, rfl, rfl, by go_num, by omega, hB2.trans (hb5.mono hB2.size), HU.out⟩
            case measure => simp [intOf]; omega
          | some x =>
            rw [hv] at HV0
            have HV := Lib.hid HV0
            have HS := Lib.hid (show (valueOf h k).isSome = true by rw [hv]; rfl)
            clear HV0 hv
            unfold valV at HV
            dsimp only [Option.getD, Option.isSome] at HV
            have hall : ∀ a ∈ ks, ltS a k := by rw [HKS.out]; simp
            have HALL := Lib.hid hall
            clear hall
            cases sm
            · have HU := Lib.hid (Best.up hbest'.out hlt HK.out HS.out HALL.out (.inl rfl))
              clear hbest'
              go_wp2_with (go_at_call 25; refine HV.out.mono ?_; rintro e w5 ⟨rfl, hb5⟩)
              go_roundw
              case rel => exact ⟨i + 1, k, true, rfl, rfl, by go_num, by omega, hB2.trans (hb5.mono hB2.size), HU.out⟩
              case measure => simp [intOf]; omega
            · cases hl : Op.bytesLess k.toList best.toList
              · have HU := Lib.hid (Best.no hbest'.out hlt HK.out (.inr (.inr ⟨rfl, by unfold ltS; rw [hl]; exact Bool.noConfusion⟩)))
                clear hbest'
                go_wp2_with (go_at_call 25; refine HV.out.mono ?_; rintro e w5 ⟨rfl, hb5⟩)
                go_roundw
                case rel => exact ⟨i + 1, best, true, rfl, rfl, by go_num, by omega, hB2.trans (hb5.mono hB2.size), HU.out⟩
                case measure => simp [intOf]; omega
              · have HU := Lib.hid (Best.up hbest'.out hlt HK.out HS.out HALL.out (.inr hl))
                clear hbest'
                go_wp2_with (go_at_call 25; refine HV.out.mono ?_; rintro e w5 ⟨rfl, hb5⟩)
                go_roundw
                case rel => exact ⟨i + 1, k, true, rfl, rfl, by go_num, by omega, hB2.trans (hb5.mono hB2.size), HU.out⟩
                case measure => simp [intOf]; omega
        · obtain rfl : i = h.length := by omega
          cases sm
          · have HD := Lib.hid (Told.done ht hbest)
            clear hbest
            go_wp2
            go_ret
            exact ⟨ks, HD.out, A3, c3, rfl, ⟨(hown3.row.kept (row := none) ⟨hB2.os, hB2.tape, hB2.output, hB2.size, fun k hk _ => hB2.block k hk⟩ (by cases h : Value.ownBlock (.slice A3 ks.length c3) <;> simp)), hown3.one⟩, hB.trans (hB2.mono hB.size)⟩
          · have HD := Lib.hid (Told.step ht hbest)
            clear hbest
            obtain ⟨v2, w4, hrun, hacc2, hb4⟩ := run_pushS wr w.heap.size wr.heap.size rfl (Nat.le_trans hB.size hB2.size) (.slice A3 ks.length c3) ks (hown3.row.kept (row := none) ⟨hB2.os, hB2.tape, hB2.output, hB2.size, fun k hk _ => hB2.block k hk⟩ (by cases h : Value.ownBlock (.slice A3 ks.length c3) <;> simp)) best (by omega)
            have Hrun := Lib.hid hrun
            clear hrun
            go_wp2_with (at_builtin; refine Lib.wpList_append_run _ rfl _ _ _ _ rfl _ _ rfl rfl _ _ Hrun.out ?_)
            go_roundw
            case rel => exact ⟨ks ++ [best], hacc2, (hB.trans (hB2.mono hB.size)).trans hb4, HD.out⟩
            case measure =>
              have hl2 := Told.len HD.out
              obtain ⟨A5, c5, rfl, _⟩ := Own.of_row hacc2 (by intro u hu; obtain ⟨z, _, rfl⟩ := List.mem_map.1 hu; rfl)
              simp at hl2 ⊢
              omega
    · obtain ⟨g, rfl⟩ : ∃ g, A3 = some ⟨g, 0, none⟩ := by
        rcases hown3.row.2 with ⟨_, h0⟩ | ⟨g, _, _, hv, _⟩
        · exact absurd (List.eq_nil_of_length_eq_zero h0) hne
        · injection hv with hv; exact ⟨g, hv⟩
      obtain ⟨ks', last, hks⟩ : ∃ ks' last, ks = ks' ++ [last] := ⟨ks.dropLast, ks.getLast hne, (List.dropLast_concat_getLast hne).symm⟩
      obtain ⟨m, hm⟩ : ∃ m : Nat, m = ks'.length := ⟨_, rfl⟩
      have hml : ks.length = m + 1 := by rw [hks, hm]; simp
      have hlast : wr.cell? ⟨g, m, none⟩ = some (.string last) := by
        rw [hown3.row.cellAt m (by omega), hks, hm]; simp
      have hgw : g < wr.heap.size := (hown3.row.lt g rfl).2
      have e0 : ((ks.length : Int) == 0) = false := by simp; omega
      have hm1 : (ks.length : Int) - 1 = (m : Int) := by omega
      have hm2 : (m : Int) < ks.length := by omega
      have HLM := Lib.hid (show last ∈ ks by rw [hks]; simp)
      have HMAX := Lib.hid (show ∀ k, ltS last k → ∀ a ∈ ks, ltS a k by
        intro k hk a ha
        have h1 := ht.1
        rw [hks] at h1 ha
        rcases List.mem_append.1 ha with ha | ha
        · exact tot_str.tr _ _ _ ((List.pairwise_append.1 h1).2.2 a ha last (by simp)) hk
        · simp only [List.mem_singleton] at ha; subst ha; exact hk)
      clear hne hown hks hm hml
      obtain ⟨wo, rfl⟩ : ∃ wo : World, wo = wr := ⟨_, rfl⟩
      go_wp2
      go_loopw [4, 5, 12] (fun b5 s5 q wr => ∃ (i : Nat) (best : ByteArray) (sm : Bool), b5 = .string best ∧ s5 = .bool sm ∧ q = .int .i64 i ∧ i ≤ h.length ∧ Below wo.heap.size wo wr ∧ Hid (Best h ks i best sm)) (fun _ _ q _ => (h.length - intOf q).toNat)
      case atStart => exact ⟨0, _, false, rfl, rfl, rfl, Nat.zero_le _, Below.refl _ _, Best.start h ks _⟩
      case round =>
        obtain ⟨i, best, sm, rfl, rfl, rfl, hi, hB2, hbest⟩ := hrel
        by_cases hlt : i < h.length
        · obtain ⟨b, o, rfl, hb, hc⟩ := HR.out.at_ (by omega)
          have hBB : Below w.heap.size w wr := hB.trans (hB2.mono hB.size)
          obtain ⟨f0, _, _⟩ := flatA_at h i hlt
          obtain ⟨k, hk⟩ : ∃ k, k = h[i].key := ⟨_, rfl⟩
          rw [← hk] at f0
          have k0 : wr.cell? ⟨b, o + i * 3, none⟩ = some (.string k) := (hBB.cell (p := ⟨b, o + i * 3, none⟩) hb).trans (hc _ _ f0)
          have hi1 : (i : Int) < h.length := by omega
          have HV0 := value_any h k (some ⟨b, o, none⟩) c wr ((HR.out.below hBB).more hBB.size) (by omega)
          have HK := Lib.hid hk.symm
          have hbest' := Lib.hid hbest
          clear hc f0 hk hbest
          cases hv : valueOf h k with
          | none =>
            rw [hv] at HV0
            have HV := Lib.hid HV0
            have HU := Lib.hid (Best.no hbest'.out hlt HK.out (.inl (by rw [hv]; rfl)))
            clear HV0 hv hbest'
            unfold valV at HV
            dsimp only [Option.getD, Option.isSome] at HV
            go_wp2_with (go_at_call 25; refine HV.out.mono ?_; rintro e w5 ⟨rfl, hb5⟩)
            go_roundw
            case rel => exact ⟨i + 1, best, sm, rfl, rfl, by go_num, by omega, hB2.trans (hb5.mono hB2.size), HU.out⟩
            case measure => simp [intOf]; omega
          | some x =>
            rw [hv] at HV0
            have HV := Lib.hid HV0
            have HS := Lib.hid (show (valueOf h k).isSome = true by rw [hv]; rfl)
            clear HV0 hv
            unfold valV at HV
            dsimp only [Option.getD, Option.isSome] at HV
            have k1 : wr.cell? ⟨g, m, none⟩ = some (.string last) := (hB2.cell (p := ⟨g, m, none⟩) hgw).trans hlast
            have hgw2 : g < wr.heap.size := Nat.lt_of_lt_of_le hgw hB2.size
            cases hl1 : Op.bytesLess k.toList last.toList
            · cases hl2 : (k.toList == last.toList)
              · have hgt : ltS last k := by
                  rcases tot_str.tri last k with h3 | h3 | h3
                  · exact h3
                  · rw [h3] at hl2; simp at hl2
                  · unfold ltS at h3; rw [hl1] at h3; cases h3
                have HALL := Lib.hid (HMAX.out k hgt)
                have hl3 : (!k.toList == last.toList) = true := by simp [hl2]
                clear hgt
                cases sm
                · have HU := Lib.hid (Best.up hbest'.out hlt HK.out HS.out HALL.out (.inl rfl))
                  clear hbest'
                  go_wp2_with (go_at_call 25; refine HV.out.mono ?_; rintro e w5 ⟨rfl, hb5⟩; (have k5 : w5.cell? ⟨g, m, none⟩ = some (.string last) := (hb5.cell (p := ⟨g, m, none⟩) hgw2).trans k1))
                  go_roundw
                  case rel => exact ⟨i + 1, k, true, rfl, rfl, by go_num, by omega, hB2.trans (hb5.mono hB2.size), HU.out⟩
                  case measure => simp [intOf]; omega
                · cases hl : Op.bytesLess k.toList best.toList
                  · have HU := Lib.hid (Best.no hbest'.out hlt HK.out (.inr (.inr ⟨rfl, by unfold ltS; rw [hl]; exact Bool.noConfusion⟩)))
                    clear hbest'
                    go_wp2_with (go_at_call 25; refine HV.out.mono ?_; rintro e w5 ⟨rfl, hb5⟩; (have k5 : w5.cell? ⟨g, m, none⟩ = some (.string last) := (hb5.cell (p := ⟨g, m, none⟩) hgw2).trans k1))
                    go_roundw
                    case rel => exact ⟨i + 1, best, true, rfl, rfl, by go_num, by omega, hB2.trans (hb5.mono hB2.size), HU.out⟩
                    case measure => simp [intOf]; omega
                  · have HU := Lib.hid (Best.up hbest'.out hlt HK.out HS.out HALL.out (.inr hl))
                    clear hbest'
                    go_wp2_with (go_at_call 25; refine HV.out.mono ?_; rintro e w5 ⟨rfl, hb5⟩; (have k5 : w5.cell? ⟨g, m, none⟩ = some (.string last) := (hb5.cell (p := ⟨g, m, none⟩) hgw2).trans k1))
                    go_roundw
                    case rel => exact ⟨i + 1, k, true, rfl, rfl, by go_num, by omega, hB2.trans (hb5.mono hB2.size), HU.out⟩
                    case measure => simp [intOf]; omega
              · have hl3 : (!k.toList == last.toList) = false := by simp [hl2]
                have HU := Lib.hid (Best.no hbest'.out hlt HK.out (.inr (.inl ⟨last, HLM.out, by unfold ltS; have e : k = last := bytes_ext (by simpa using hl2); rw [e, bytesLess_irr]; exact Bool.noConfusion⟩)))
                clear hbest'
                go_wp2_with (go_at_call 25; refine HV.out.mono ?_; rintro e w5 ⟨rfl, hb5⟩; (have k5 : w5.cell? ⟨g, m, none⟩ = some (.string last) := (hb5.cell (p := ⟨g, m, none⟩) hgw2).trans k1))
                go_roundw
                case rel => exact ⟨i + 1, best, sm, rfl, rfl, by go_num, by omega, hB2.trans (hb5.mono hB2.size), HU.out⟩
                case measure => simp [intOf]; omega
            · have HU := Lib.hid (Best.no hbest'.out hlt HK.out (.inr (.inl ⟨last, HLM.out, tot_str.asym hl1⟩)))
              clear hbest'
              go_wp2_with (go_at_call 25; refine HV.out.mono ?_; rintro e w5 ⟨rfl, hb5⟩; (have k5 : w5.cell? ⟨g, m, none⟩ = some (.string last) := (hb5.cell (p := ⟨g, m, none⟩) hgw2).trans k1))
              go_roundw
              case rel => exact ⟨i + 1, best, sm, rfl, rfl, by go_num, by omega, hB2.trans (hb5.mono hB2.size), HU.out⟩
              case measure => simp [intOf]; omega
        · obtain rfl : i = h.length := by omega
          cases sm
          · have HD := Lib.hid (Told.done ht hbest)
            clear hbest
            go_wp2
            go_ret
            exact ⟨ks, HD.out, (some ⟨g, 0, none⟩), c3, rfl, ⟨(hown3.row.kept (row := none) ⟨hB2.os, hB2.tape, hB2.output, hB2.size, fun k hk _ => hB2.block k hk⟩ (by cases h : Value.ownBlock (.slice (some ⟨g, 0, none⟩) ks.length c3) <;> simp)), hown3.one⟩, hB.trans (hB2.mono hB.size)⟩
          · have HD := Lib.hid (Told.step ht hbest)
            clear hbest
            obtain ⟨v2, w4, hrun, hacc2, hb4⟩ := run_pushS wr w.heap.size wr.heap.size rfl (Nat.le_trans hB.size hB2.size) (.slice (some ⟨g, 0, none⟩) ks.length c3) ks (hown3.row.kept (row := none) ⟨hB2.os, hB2.tape, hB2.output, hB2.size, fun k hk _ => hB2.block k hk⟩ (by cases h : Value.ownBlock (.slice (some ⟨g, 0, none⟩) ks.length c3) <;> simp)) best (by omega)
            have Hrun := Lib.hid hrun
            clear hrun
            go_wp2_with (at_builtin; refine Lib.wpList_append_run _ rfl _ _ _ _ rfl _ _ rfl rfl _ _ Hrun.out ?_)
            go_roundw
            case rel => exact ⟨ks ++ [best], hacc2, (hB.trans (hB2.mono hB.size)).trans hb4, HD.out⟩
            case measure =>
              have hl2 := Told.len HD.out
              obtain ⟨A5, c5, rfl, _⟩ := Own.of_row hacc2 (by intro u hu; obtain ⟨z, _, rfl⟩ := List.mem_map.1 hu; rfl)
              simp at hl2 ⊢
              omega
end Ref1
end Go.Proofs.Ytolfockpiioncaa
