/- CodecCut answers true for whatever items, wherever they are cut, and leaves them as they were. No condition. -/
import Derived.Test.YtgjojcigcbenmaaCodecBack
namespace Go.Proofs.Ytgjojcigcbenmaa.lawCodecCut
open Go.ChangeShapes Go.WideShapes Go.ChangeAt Go.RowKit Codec lawCodecBack
theorem wf_u16 {n : Int} (h : (Lit.int .u16 n).wf = true) : 0 ≤ n ∧ n ≤ 65535 := by
  have e1 : IntKind.u16.min = 0 := by decide
  have e2 : IntKind.u16.max = 65535 := by decide
  simp [Lit.wf, e1, e2] at h
  exact h
theorem mustnot {f : Bool} (h : f = true → False) : f = false := by
  cases f with
  | false => rfl
  | true => exact (h rfl).elim
theorem no_cut {p : List UInt8} {l : List Itm} {j : Nat} (hp : p = itemsB l) (hj : j < p.length) (h : p.take j = itemsB l) : False := by
  rw [← hp] at h
  have := congrArg List.length h
  rw [List.length_take] at this
  omega
theorem itemsB_pos {l : List Itm} (h : 0 < l.length) : 0 < (itemsB l).length := by
  cases l with
  | nil => simp at h
  | cons i l =>
    have e1 : itemsB (i :: l) = itemB i ++ itemsB l := rfl
    have h1 : 1 ≤ (itemB i).length := by
      unfold itemB
      split
      · unfold textB; rw [List.length_append]; have := numB_pos (i.s.data.toList.length : Int); omega
      · exact numB_pos _
    rw [e1, List.length_append]; omega
set_option maxRecDepth 100000 in
set_option maxHeartbeats 2000000 in
theorem cut_law (l : List Itm) (n : Int) (A : Option Addr) (c : Nat) (w : World) (hn0 : 0 ≤ n) (hn1 : n ≤ 65535) (hr : Rd w w.heap.size 3 A l.length c (itemC l)) (hl : l.length ≤ maxLen) :
    Calls Try.prog 6 #[.slice A l.length c, .int .u16 n] w fun e w' => e = .returned (.bool true) ∧ Below w.heap.size w w' := by
  have HR := Lib.hid hr
  clear hr
  have HF1 := fun W (hW : Below w.heap.size w W) => Lib.hid (few_at l A c 50000 50000 rfl (by omega) W (HR.out.below hW) hl)
  have HHF1 := Lib.hid HF1
  clear HF1
  have HLn := Lib.hid hl
  unfold maxLen at hl
  by_cases h0 : l.length = 0
  · have f0 : ((l.length : Int) == 0) = true := by rw [beq_iff_eq]; omega
    clear h0
    go_enter Try.func6, Try.ntmps6
    go_wp2_with (first
      | (go_at_call 10; first
          | ((with_reducible refine (awake_any w).mono ?_); rintro e w1 ⟨rfl, hb1⟩)
          | ((with_reducible refine (awake_any w1).mono ?_); rintro e w2 ⟨rfl, hb2⟩))
      | (go_at_call 11; (with_reducible refine (HHF1.out w1 hb1).out.mono ?_); rintro e w' ⟨f1, rfl, rfl, hf1⟩; clear hf1; cases f1))
    all_goals
      go_ret
      exact ⟨rfl, hb1.trans (hb2.mono hb1.size)⟩
  · have f0 : ((l.length : Int) == 0) = false := by rw [beq_eq_false_iff_ne]; omega
    have hpos := itemsB_pos (l := l) (by omega)
    obtain ⟨p, hp⟩ : ∃ p, p = itemsB l := ⟨_, rfl⟩
    rw [← hp] at hpos
    have HP := Lib.hid hp
    obtain ⟨j, hj⟩ : ∃ j : Nat, n % p.length = (j : Int) := ⟨(n % p.length).toNat, by have := Int.emod_nonneg n (b := (p.length : Int)) (by omega); omega⟩
    have hjl : j < p.length := by have := Int.emod_lt_of_pos n (b := (p.length : Int)) (by omega); omega
    have hpi : (0 : Int) < p.length := by omega
    have htm : n.tmod p.length = (j : Int) := by rw [Int.tmod_eq_emod_of_nonneg hn0]; exact hj
    have hpz : ((p.length : Int) == 0) = false := by rw [beq_eq_false_iff_ne]; omega
    clear h0 hp
    go_enter Try.func6, Try.ntmps6
    go_wp2_with (first
      | (go_at_call 10; first
          | ((with_reducible refine (awake_any w).mono ?_); rintro e w1 ⟨rfl, hb1⟩)
          | ((with_reducible refine (awake_any w1).mono ?_); rintro e w2 ⟨rfl, hb2⟩))
      | (go_at_call 11; (with_reducible refine (HHF1.out w1 hb1).out.mono ?_); rintro e w' ⟨f1, rfl, rfl, hf1⟩; have HQ1 := Lib.hid hf1; clear hf1; cases f1))
    · go_ret
      exact ⟨rfl, hb1.trans (hb2.mono hb1.size)⟩
    · have hq1 := HQ1.out trivial
      have hpl : (itemsB l).length ≤ 60000 := by have := itemsB_len l; omega
      clear HQ1
      refine (put_items w1.heap.size none [] false l A c _ (out_new w1) (B := w.heap.size) hb1.size (by simp) (by have := hb1.size; simp; omega) (HR.out.below (hb1.alloc hb1.size _)) HLn.out).mono ?_
      rintro e w4 ⟨rfl, ht4⟩
      obtain ⟨g4, HO4, HB4⟩ := put_new hb1 hpl ht4
      rw [← HP.out] at HO4
      have hpl2 : p.length ≤ 60000 := by rw [HP.out]; exact hpl
      clear ht4
      go_wp2_with fail
      refine (end_yes HO4.out).mono ?_
      rintro e w5 ⟨A5, c5, rfl, hr5, hb5⟩
      have HB5 := Lib.hid (HB4.out.trans (hb5.mono HB4.out.size))
      have hto := hr5.to_ (j := j) (by omega)
      rw [Nat.mul_one, ← u8s_take] at hto
      have hjt : (p.take j).length = j := by rw [List.length_take]; omega
      have hcut := fun W => run_cut_to (P := Try.prog) 25 5 1 Try.underlying25 (Classical.choose_spec info_parts8).1 (Classical.choose_spec info_parts8).2.2.1 A5 p.length c5 j (by have := hr5.cap; omega) W
      have hbk := back_any l (p.take j) A5 c5 A c w5 (by omega) (by rw [hjt]; exact hto) ((HR.out.below HB5.out).more HB5.out.size) HLn.out
      rw [hjt] at hbk
      have HBK := Lib.hid hbk
      have HJT := Lib.hid hjt
      clear hr5 hb5 hto hbk hjt
      go_wp2_with (go_at_call 24; refine HBK.out.mono ?_; rintro e w6 ⟨f, rfl, hb6, hf1, _⟩; (have hff := mustnot fun h => no_cut HP.out hjl (hf1 h)); subst hff)
      go_ret
      exact ⟨rfl, HB5.out.trans (hb6.mono HB5.out.size)⟩
set_option maxRecDepth 100000 in
theorem lifted (os : Os) (started : os.Started) (H : Type) (enc : TypeId × Value → H) :
    ReturnsInHanded {} Try.checked os 6 .any (Rows.codecCutSpec.pre6 enc Try.prog Try.f6 Rows.codecCutRow.domain false) (Rows.codecCutSpec.post enc Try.prog Try.f6 false true false false) := by
  refine returnsInHanded_of_change (C := Try.checked) own started (by kernel_rfl) Try.func6
    (ChangeSpec.witness6 (enc := enc) (C := Try.checked) false ⟨#[], #[.slice none 0 0, .int .u16 0], []⟩ 8 (by kernel_rfl) (by kernel_rfl) (by kernel_rfl) (by kernel_rfl)) ?_
  intro W base args ds gs before hval0 hW _ _
  have hval : ∀ (j : Nat) t v, Try.f6.params[j]? = some t → args[j]? = some v → Value.okWide Try.prog W .any base t v := hval0
  have hW' := hW
  obtain ⟨p, q, hA0, hV, rfl, hfz, hnd⟩ := hW
  have hA : DataW.TrodAll enc Try.prog W 0 (fun _ => true) true Try.f6.params.toList args.toList ds p := hA0
  rw [Try.params6] at hA hval
  obtain ⟨v0, v1, d0, d1, p0, p1, rfl, rfl, rfl, h0, h1⟩ := trodAll_two hA
  obtain ⟨rfl, rfl⟩ := trodVars_none hV
  obtain ⟨a0, len, cap, rfl⟩ := okWide_slice Try.underlying22 (hval 0 22 v0 rfl rfl)
  obtain ⟨n, rfl, rfl, rfl, w1⟩ := open_int Try.underlying54 (hval 1 54 v1 rfl rfl) h1
  obtain ⟨hn0, hn1⟩ := wf_u16 w1
  obtain ⟨fuel, hf⟩ := h0
  obtain ⟨l, rfl, hrd, hlen⟩ := items_of_trod hf
  refine (cut_law l n a0 cap W hn0 hn1 hrd hlen).mono fun e W' ⟨he, hb⟩ => ?_
  subst he
  exact ⟨_, rfl, law_post hW' (by kernel_rfl) rfl rfl rfl hb⟩
theorem proved : Rows.CodecCutSaid :=
  OpenClaim.holds_of_wide 6 Try.f6 rfl rfl rfl rfl rfl rfl rfl ⟨rfl, rfl, rfl, rfl, rfl⟩ rfl rfl rfl rfl rfl (by kernel_rfl) Try.func6 (by kernel_rfl)
    (of_decide_eq_true (by kernel_rfl)) (by unfold Func.isWrapper; first | (rw [if_pos (by decide +kernel)]; kernel_rfl) | (rw [if_neg (by decide +kernel)]; exact ⟨rfl, rfl⟩))
    (fun os started H enc _ => lifted os started H enc)
#print axioms proved
end Go.Proofs.Ytgjojcigcbenmaa.lawCodecCut
