/- CodecBack answers true for whatever items, and leaves them as they were. No condition. -/
import Derived.Test.YtgjojcigcbenmaaCodecBack1
namespace Go.Proofs.Ytgjojcigcbenmaa.lawCodecBack
open Go.ChangeShapes Go.WideShapes Go.ChangeAt Go.RowKit Codec
theorem end_yes {a : Nat} {g : Option Nat} {bs : List UInt8} {w : World} (h : OutAt w a g bs false) :
    Calls Try.prog 14 #[.pointer (some ⟨a, 0, none⟩)] w fun e w' => ∃ A c, e = .returned (.tuple #[.slice A bs.length c, .int .i64 0]) ∧ Rd w' w'.heap.size 1 A bs.length c (u8s bs) ∧ Below w.heap.size w w' :=
  (end_any a g bs false w h).mono fun e w' ⟨hb, he⟩ => by
    obtain ⟨A, c, h1, h2⟩ := end_ok he
    exact ⟨A, c, h1, h2.rd, hb⟩
theorem must {f : Bool} (h : f = false → False) : f = true := by
  cases f with
  | true => rfl
  | false => exact (h rfl).elim
/-- a new Out that has taken few items -/
theorem put_new {w w1 w4 : World} {l : List Itm} (hB : Below w.heap.size w w1) (hs : (itemsB l).length ≤ 60000) (ht : Took w1.heap.size none [] false (itemsB l) (w1.alloc (.cells #[.slice none 0 0, .bool false] 27)) w4) :
    ∃ g, Hid (OutAt w4 w1.heap.size g (itemsB l) false) ∧ Hid (Below w.heap.size w w4) := by
  obtain ⟨g, ho, h2, _⟩ := ht
  have e1 : outB [] false (itemsB l) = itemsB l := by unfold outB; rw [if_neg (by simp; omega)]; rfl
  have e2 : outL [] false (itemsB l) = false := by unfold outL; simp; omega
  rw [e1, e2] at ho
  exact ⟨g, ho, (hB.alloc hB.size _).trans (h2.below hB.size (by simp) (by have := hB.size; simp; omega))⟩
set_option maxRecDepth 100000 in
set_option maxHeartbeats 2000000 in
theorem back_law (l : List Itm) (A : Option Addr) (c : Nat) (w : World) (hr : Rd w w.heap.size 3 A l.length c (itemC l)) (hl : l.length ≤ maxLen) :
    Calls Try.prog 5 #[.slice A l.length c] w fun e w' => e = .returned (.bool true) ∧ Below w.heap.size w w' := by
  have HR := Lib.hid hr
  clear hr
  have HF1 := fun W (hW : Below w.heap.size w W) => Lib.hid (few_at l A c 50000 50000 rfl (by omega) W (HR.out.below hW) hl)
  have HHF1 := Lib.hid HF1
  clear HF1
  have HLn := Lib.hid hl
  unfold maxLen at hl
  go_enter Try.func5, Try.ntmps5
  go_wp2_with (first
    | (go_at_call 10; first
        | ((with_reducible refine (awake_any w).mono ?_); rintro e w1 ⟨rfl, hb1⟩)
        | ((with_reducible refine (awake_any w1).mono ?_); rintro e w2 ⟨rfl, hb2⟩))
    | (go_at_call 11; (with_reducible refine (HHF1.out w1 hb1).out.mono ?_); rintro e w' ⟨f1, rfl, rfl, hf1⟩; have HQ1 := Lib.hid hf1; clear hf1; cases f1))
  · go_ret
    exact ⟨rfl, hb1.trans (hb2.mono hb1.size)⟩
  · have hq1 := HQ1.out trivial
    have hpl : (itemsB l).length ≤ 60000 := by have := itemsB_len l; omega
    clear HQ1
    go_loop [17] (fun q => ∃ k : Nat, q = .int .i64 k ∧ k ≤ l.length ∧ Hid (∀ j (h : j < l.length), j < k → l[j].n ≠ -9223372036854775808)) (fun q => (l.length - intOf q).toNat)
    case atStart => exact ⟨0, rfl, Nat.zero_le _, fun j h h0 => by omega⟩
    case round =>
      obtain ⟨k, rfl, hk, hno⟩ := hrel
      by_cases hlt : k < l.length
      · obtain ⟨b, o, rfl, hbw, hcl⟩ := HR.out.at_ (by omega)
        have kN : w1.cell? ⟨b, o + k * 3 + 1, none⟩ = some (.int .i64 l[k].n) := (hb1.cell (p := ⟨b, o + (k * 3 + 1), none⟩) hbw).trans (hcl _ _ (flat_get Itm.cells 3 (fun _ => rfl) l k hlt 1 (by omega)))
        have hki : (k : Int) < l.length := by omega
        obtain ⟨N, hN⟩ : ∃ N, N = l[k].n := ⟨_, rfl⟩
        rw [← hN] at kN
        have HN := Lib.hid hN
        clear hcl hN
        by_cases hmin : N = -9223372036854775808
        · have hm1 : (N == -9223372036854775808) = true := by simpa using hmin
          clear hmin
          go_wp2
          go_ret
          exact ⟨rfl, hb1⟩
        · have hm1 : (N == -9223372036854775808) = false := by simpa using hmin
          have HM := Lib.hid hmin
          clear hmin
          go_wp2
          go_round
          case rel => exact ⟨k + 1, by go_num, by omega, fun j h hj => by
            rcases Nat.lt_or_ge j k with h1 | h1
            · exact hno.out j h h1
            · obtain rfl : j = k := by omega
              rw [← HN.out]; exact HM.out⟩
          case measure => simp [intOf]; omega
      · have hnm : Hid (NoMin l) := by
          intro i hi
          obtain ⟨j, hj, rfl⟩ := List.getElem_of_mem hi
          exact hno.out j hj (by omega)
        clear hno
        go_wp2_with fail
        refine (put_items w1.heap.size none [] false l A c _ (out_new w1) (B := w.heap.size) hb1.size (by simp) (by have := hb1.size; simp; omega) (HR.out.below (hb1.alloc hb1.size _)) HLn.out).mono ?_
        rintro e w4 ⟨rfl, ht4⟩
        obtain ⟨g4, HO4, HB4⟩ := put_new hb1 hpl ht4
        clear ht4
        go_wp2_with fail
        refine (end_yes HO4.out).mono ?_
        rintro e w5 ⟨A5, c5, rfl, hr5, hb5⟩
        have HB5 := Lib.hid (HB4.out.trans (hb5.mono HB4.out.size))
        have HR5 := Lib.hid hr5
        clear hr5 hb5
        have HBK := Lib.hid (back_any l (itemsB l) A5 c5 A c w5 (by omega) HR5.out ((HR.out.below HB5.out).more HB5.out.size) HLn.out)
        go_wp2_with (go_at_call 24; refine HBK.out.mono ?_; rintro e w6 ⟨f, rfl, hb6, _, hf2⟩; (have hft := must fun h => hf2 h hnm.out rfl); subst hft)
        go_ret
        exact ⟨rfl, HB5.out.trans (hb6.mono HB5.out.size)⟩
set_option maxRecDepth 100000 in
theorem lifted (os : Os) (started : os.Started) (H : Type) (enc : TypeId × Value → H) :
    ReturnsInHanded {} Try.checked os 5 .any (Rows.codecBackSpec.pre6 enc Try.prog Try.f5 Rows.codecBackRow.domain false) (Rows.codecBackSpec.post enc Try.prog Try.f5 false true false false) := by
  refine returnsInHanded_of_change (C := Try.checked) own started (by kernel_rfl) Try.func5
    (ChangeSpec.witness6 (enc := enc) (C := Try.checked) false ⟨#[], #[.slice none 0 0], []⟩ 8 (by kernel_rfl) (by kernel_rfl) (by kernel_rfl) (by kernel_rfl)) ?_
  intro W base args ds gs before hval0 hW _ _
  have hval : ∀ (j : Nat) t v, Try.f5.params[j]? = some t → args[j]? = some v → Value.okWide Try.prog W .any base t v := hval0
  have hW' := hW
  obtain ⟨p, q, hA0, hV, rfl, hfz, hnd⟩ := hW
  have hA : DataW.TrodAll enc Try.prog W 0 (fun _ => true) true Try.f5.params.toList args.toList ds p := hA0
  rw [Try.params5] at hA hval
  obtain ⟨v0, d0, rfl, rfl, h0⟩ := trodAll_one hA
  obtain ⟨rfl, rfl⟩ := trodVars_none hV
  obtain ⟨a0, len, cap, rfl⟩ := okWide_slice Try.underlying22 (hval 0 22 v0 rfl rfl)
  obtain ⟨fuel, hf⟩ := h0
  obtain ⟨l, rfl, hrd, hlen⟩ := items_of_trod hf
  refine (back_law l a0 cap W hrd hlen).mono fun e W' ⟨he, hb⟩ => ?_
  subst he
  exact ⟨_, rfl, law_post hW' (by kernel_rfl) rfl rfl rfl hb⟩
theorem proved : Rows.CodecBackSaid :=
  OpenClaim.holds_of_wide 5 Try.f5 rfl rfl rfl rfl rfl rfl rfl ⟨rfl, rfl, rfl, rfl, rfl⟩ rfl rfl rfl rfl rfl (by kernel_rfl) Try.func5 (by kernel_rfl)
    (of_decide_eq_true (by kernel_rfl)) (by unfold Func.isWrapper; first | (rw [if_pos (by decide +kernel)]; kernel_rfl) | (rw [if_neg (by decide +kernel)]; exact ⟨rfl, rfl⟩))
    (fun os started H enc _ => lifted os started H enc)
#print axioms proved
end Go.Proofs.Ytgjojcigcbenmaa.lawCodecBack
