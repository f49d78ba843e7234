/- CodecUnlike answers true for every two numbers, and leaves them as they were. No condition. -/
import Derived.Test.YtgjojcigcbenmaaCodecArgs
import Derived.Deep.QuietTactic
import Derived.BigQuiet
namespace Go.Proofs.Ytgjojcigcbenmaa.lawCodecUnlike
open Go.ChangeShapes Go.WideShapes Go.ChangeAt Go.RowKit Codec
theorem unlike_eq {a b : Int} {n : Nat} (hn : n = min (numB a).length (numB b).length) : ((strOf ((numB a).take n)).toList == (strOf ((numB b).take n)).toList) = (a == b) := by
  rw [ByteArray.toList_eq, ByteArray.toList_eq, strOf_list, strOf_list]
  by_cases h : a = b
  · subst h; simp
  · have h1 : (a == b) = false := by simpa using h
    rw [h1]
    simp only [beq_eq_false_iff_ne, ne_eq]
    intro e
    apply h
    rcases Nat.le_total (numB a).length (numB b).length with hl | hl
    · have hn' : n = (numB a).length := by omega
      rw [hn', List.take_length] at e
      have h2 : numB a ++ (numB b).drop (numB a).length = numB b ++ [] := by rw [List.append_nil]; conv => rhs; rw [← List.take_append_drop (numB a).length (numB b), ← e]
      exact (numB_prefix h2).1
    · have hn' : n = (numB b).length := by omega
      rw [hn', List.take_length] at e
      have h2 : numB a ++ [] = numB b ++ (numB a).drop (numB b).length := by rw [List.append_nil]; conv => lhs; rw [← List.take_append_drop (numB b).length (numB a), e]
      exact (numB_prefix h2).1
theorem out_two (w : World) : OutAt ((w.alloc (.cells #[.slice none 0 0, .bool false] 27)).alloc (.cells #[.slice none 0 0, .bool false] 27)) (w.heap.size + 1) none [] false := by
  have h := out_new (w.alloc (.cells #[.slice none 0 0, .bool false] 27))
  simpa using h
theorem outB_one (v : Int) (h1 : -9223372036854775808 ≤ v) (h2 : v ≤ 9223372036854775807) : outB [] false (numB v) = numB v ∧ outL [] false (numB v) = false := by
  have h := numB_ten h1 h2
  constructor
  · unfold outB; rw [if_neg (by simp; omega)]; simp
  · unfold outL; simp; omega
section
variable {w w1 w2 : World} {a b : Int} {g1 g2 : Option Nat} {p q : List UInt8}
abbrev two (w : World) : World := (w.alloc (.cells #[.slice none 0 0, .bool false] 27)).alloc (.cells #[.slice none 0 0, .bool false] 27)
theorem after1 (hp : p = numB a) (h1 : -9223372036854775808 ≤ a) (h2 : a ≤ 9223372036854775807) (ho : OutAt w1 w.heap.size g1 (outB [] false (numB a)) (outL [] false (numB a))) (ht : Two w.heap.size none (two w) w1) (hf : Fresh none g1 (two w)) :
    Hid (OutAt w1 w.heap.size g1 p false) ∧ Hid (OutAt w1 (w.heap.size + 1) none [] false) ∧ Hid ((∀ k, g1 = some k → w.heap.size + 2 ≤ k) ∧ Below w.heap.size w w1 ∧ w.heap.size + 2 ≤ w1.heap.size) := by
  subst hp
  obtain ⟨e1, e2⟩ := outB_one a h1 h2
  rw [e1, e2] at ho
  have hs : w.heap.size + 2 ≤ w1.heap.size := by have := ht.size; simpa using this
  refine ⟨ho, (out_two w).keep fun k hk => ?_, fun k hk => ?_, ?_, hs⟩
  · rcases hk with rfl | hk
    · exact ht.block _ (by simp) (by omega) (by simp)
    · cases hk
  · rcases hf with h | h | ⟨k', h, h'⟩
    · rw [h] at hk; cases hk
    · rw [h] at hk; cases hk
    · rw [h] at hk; injection hk with hk; subst hk; simpa using h'
  · exact (((Below.refl _ _).alloc (Nat.le_refl _) (.cells #[.slice none 0 0, .bool false] 27)).alloc (by simp) (.cells #[.slice none 0 0, .bool false] 27)).trans (ht.below (Nat.le_refl _) (by simp) (by simp; omega))
theorem after2 (hq : q = numB b) (h1 : -9223372036854775808 ≤ b) (h2 : b ≤ 9223372036854775807) (h : Hid (OutAt w1 w.heap.size g1 p false)) (hg : Hid ((∀ k, g1 = some k → w.heap.size + 2 ≤ k) ∧ Below w.heap.size w w1 ∧ w.heap.size + 2 ≤ w1.heap.size))
    (ho : OutAt w2 (w.heap.size + 1) g2 (outB [] false (numB b)) (outL [] false (numB b))) (ht : Two (w.heap.size + 1) none w1 w2) :
    Hid (OutAt w2 w.heap.size g1 p false) ∧ Hid (OutAt w2 (w.heap.size + 1) g2 q false) ∧ Hid (Below w.heap.size w w2) := by
  subst hq
  obtain ⟨e1, e2⟩ := outB_one b h1 h2
  rw [e1, e2] at ho
  obtain ⟨h3, h4, h5⟩ := hg
  refine ⟨OutAt.keep h fun k hk => ?_, ho, h4.trans (ht.below (by omega) (by simp) (by omega))⟩
  rcases hk with rfl | hk
  · exact ht.block _ (by omega) (by omega) (by simp)
  · exact ht.block _ (OutAt.glt h hk) (by have := h3 k hk; omega) (by simp)
theorem after3 {w3 : World} {e : Ending} {x : Nat} {g : Option Nat} (hB : Hid (Below w.heap.size w w2)) (ho : Hid (OutAt w2 x g q false)) (he : EndIs p false w2 e w3) :
    ∃ A c, e = .returned (.tuple #[.slice A p.length c, .int .i64 0]) ∧ Hid (Rd w3 w3.heap.size 1 A p.length c (u8s p)) ∧ Hid (Below w.heap.size w w3) ∧ Hid (OutAt w3 x g q false) := by
  obtain ⟨hb, he⟩ := he
  obtain ⟨A, c, h1, h2⟩ := end_ok he
  exact ⟨A, c, h1, h2.rd, Below.trans hB (hb.mono (Below.size hB)), OutAt.below ho hb⟩
theorem after4 {w3 w4 : World} {e : Ending} {A : Option Addr} {c : Nat} (hB : Hid (Below w.heap.size w w3)) (hr : Hid (Rd w3 w3.heap.size 1 A p.length c (u8s p))) (he : EndIs q false w3 e w4) :
    ∃ A' c', e = .returned (.tuple #[.slice A' q.length c', .int .i64 0]) ∧ Hid (Rd w4 w4.heap.size 1 A p.length c (u8s p)) ∧ Hid (Rd w4 w4.heap.size 1 A' q.length c' (u8s q)) ∧ Hid (Below w.heap.size w w4) := by
  obtain ⟨hb, he⟩ := he
  obtain ⟨A', c', h1, h2⟩ := end_ok he
  exact ⟨A', c', h1, Rd.later hr hb, h2.rd, Below.trans hB (hb.mono (Below.size hB))⟩
theorem after5 {w4 w5 : World} {A A' : Option Addr} {c c' n : Nat} (hn : n = min p.length q.length) (hB : Hid (Below w.heap.size w w4)) (hr : Hid (Rd w4 w4.heap.size 1 A p.length c (u8s p))) (hr' : Hid (Rd w4 w4.heap.size 1 A' q.length c' (u8s q))) (hb : Below w4.heap.size w4 w5) :
    Hid (Below w.heap.size w w5) ∧
      (∀ W, (Instr.slice 25 (.slice A p.length c) none (some (.int .i64 (n : Nat))) none).run Try.prog W = .ok (.slice A n c) W) ∧
      (∀ W, (Instr.slice 25 (.slice A' q.length c') none (some (.int .i64 (n : Nat))) none).run Try.prog W = .ok (.slice A' n c') W) ∧
      (∀ k, (convert 25 9 (.slice A n c)).run Try.prog (w5.drewN k) = .ok (.string (strOf (p.take n))) (w5.drewN k)) ∧
      (∀ k, (convert 25 9 (.slice A' n c')).run Try.prog (w5.drewN k) = .ok (.string (strOf (q.take n))) (w5.drewN k)) := by
  have hp := Rd.later hr hb
  have hq := Rd.later hr' hb
  have h1 := hp.to_ (j := n) (by omega)
  have h2 := hq.to_ (j := n) (by omega)
  rw [Nat.mul_one, ← u8s_take] at h1 h2
  refine ⟨Below.trans hB (hb.mono (Below.size hB)), fun W => run_cut_to (P := Try.prog) 25 5 1 Try.underlying25 (Classical.choose_spec info_parts8).1 (Classical.choose_spec info_parts8).2.2.1 A p.length c n (by have := hp.cap; omega) W,
    fun W => run_cut_to (P := Try.prog) 25 5 1 Try.underlying25 (Classical.choose_spec info_parts8).1 (Classical.choose_spec info_parts8).2.2.1 A' q.length c' n (by have := hq.cap; omega) W,
    fun k => run_str (P := Try.prog) (w5.drewN k) 25 9 5 Try.underlying25 Try.underlying5 Try.underlying9 (h1.drewN k),
    fun k => run_str (P := Try.prog) (w5.drewN k) 25 9 5 Try.underlying25 Try.underlying5 Try.underlying9 (h2.drewN k)⟩
end
set_option maxRecDepth 100000 in
set_option maxHeartbeats 1000000 in
theorem unlike_any (a b : Int) (w : World) (ha1 : -9223372036854775808 ≤ a) (ha2 : a ≤ 9223372036854775807) (hb1 : -9223372036854775808 ≤ b) (hb2 : b ≤ 9223372036854775807) :
    Calls Try.prog 7 #[.int .i64 a, .int .i64 b] w fun e w' => e = .returned (.bool true) ∧ Below w.heap.size w w' := by
  have H1 := Lib.hid ((out_new w).below ((Below.refl _ _).alloc (Nat.le_refl _) (.cells #[.slice none 0 0, .bool false] 27)))
  obtain ⟨p, hp⟩ : ∃ p, p = numB a := ⟨_, rfl⟩
  obtain ⟨q, hq⟩ : ∃ q, q = numB b := ⟨_, rfl⟩
  have hp1 : 1 ≤ p.length := by rw [hp]; exact numB_pos a
  have hp10 : p.length ≤ 10 := by rw [hp]; exact numB_ten ha1 ha2
  have f1 : decide ((p.length : Int) < 1) = false := decide_eq_false (by omega)
  have f2 : decide ((10 : Int) < p.length) = false := by simp; omega
  have f3 : decide (10 < p.length) = false := by simp; omega
  have f4 : decide (p.length < 1) = false := decide_eq_false (by omega)
  have HP := Lib.hid hp
  have HQ := Lib.hid hq
  clear hp hq
  obtain ⟨n, hn⟩ : ∃ n, n = min p.length q.length := ⟨_, rfl⟩
  have HN := Lib.hid hn
  have hmin : min (p.length : Int) (q.length : Int) = (n : Int) := by rw [hn]; omega
  clear hn
  obtain ⟨t, ht⟩ : ∃ t, t = (a == b) := ⟨_, rfl⟩
  have hY : (a == b) = t := ht.symm
  have hX : ((strOf (p.take n)).toList == (strOf (q.take n)).toList) = t := by
    rw [ht, HP.out, HQ.out]
    exact unlike_eq (by rw [HN.out, HP.out, HQ.out])
  clear ht
  go_enter Try.func7, Try.ntmps7
  go_wp2_with (first
    | (go_at_call 25; first
        | ((with_reducible refine (num_any w.heap.size none [] false a _ H1.out ha1 ha2).mono ?_); rintro e w1 ⟨rfl, g1, ho1, ht1, hf1⟩; obtain ⟨HO1, HY, HG1⟩ := after1 HP.out ha1 ha2 ho1 ht1 hf1; clear ho1 ht1 hf1)
        | ((with_reducible refine (num_any (w.heap.size + 1) none [] false b _ HY.out hb1 hb2).mono ?_); rintro e w2 ⟨rfl, g2, ho2, ht2, hf2⟩; obtain ⟨HO2, HY2, HB2⟩ := after2 HQ.out hb1 hb2 HO1 HG1 ho2 ht2; clear ho2 ht2 hf2))
    | (go_at_call 14; first
        | ((with_reducible refine (end_any w.heap.size g1 p false w2 HO2.out).mono ?_); intro e w3 he3; obtain ⟨A3, c3, rfl, HR3, HB3, HY3⟩ := after3 HB2 HY2 he3; clear he3)
        | ((with_reducible refine (end_any (w.heap.size + 1) g2 q false w3 HY3.out).mono ?_); intro e w4 he4; obtain ⟨A4, c4, rfl, HR4, HQ4, HB4⟩ := after4 HB3 HR3 he4; clear he4))
    | (go_at_call 10; refine (awake_any w4).mono ?_; rintro e w5 ⟨rfl, hb5⟩; obtain ⟨HB5, hcut1, hcut2, hs1, hs2⟩ := after5 HN.out HB4 HR4 HQ4 hb5; clear hb5))
  go_quiet (fail)
  go_wp2
  go_ret
  exact ⟨rfl, bel_drewN HB5.out _⟩
set_option maxRecDepth 100000 in
theorem lifted (os : Os) (started : os.Started) (H : Type) (enc : TypeId × Value → H) :
    ReturnsInHanded {} Try.checked os 7 .any (Rows.codecUnlikeSpec.pre6 enc Try.prog Try.f7 Rows.codecUnlikeRow.domain false) (Rows.codecUnlikeSpec.post enc Try.prog Try.f7 false true false false) := by
  refine returnsInHanded_of_change (C := Try.checked) own started (by kernel_rfl) Try.func7
    (ChangeSpec.witness6 (enc := enc) (C := Try.checked) false ⟨#[], #[.int .i64 0, .int .i64 0], []⟩ 8 (by kernel_rfl) (by kernel_rfl) (by kernel_rfl) (by kernel_rfl)) ?_
  intro W base args ds gs before hval0 hW _ _
  have hval : ∀ (j : Nat) t v, Try.f7.params[j]? = some t → args[j]? = some v → Value.okWide Try.prog W .any base t v := hval0
  have hW' := hW
  obtain ⟨p, q, hA0, hV, rfl, hfz, hnd⟩ := hW
  have hA : DataW.TrodAll enc Try.prog W 0 (fun _ => true) true Try.f7.params.toList args.toList ds p := hA0
  rw [Try.params7] at hA hval
  obtain ⟨v0, v1, d0, d1, p0, p1, rfl, rfl, rfl, h0, h1⟩ := trodAll_two hA
  obtain ⟨rfl, rfl⟩ := trodVars_none hV
  obtain ⟨a, rfl, rfl, rfl, w0⟩ := open_int Try.underlying2 (hval 0 2 v0 rfl rfl) h0
  obtain ⟨b, rfl, rfl, rfl, w1⟩ := open_int Try.underlying2 (hval 1 2 v1 rfl rfl) h1
  obtain ⟨ha1, ha2⟩ := wf_i64 w0
  obtain ⟨hb1, hb2⟩ := wf_i64 w1
  refine (unlike_any a b W ha1 ha2 hb1 hb2).mono fun e W' ⟨he, hb⟩ => ?_
  subst he
  exact ⟨_, rfl, law_post hW' (by kernel_rfl) rfl rfl rfl hb⟩
theorem proved : Rows.CodecUnlikeSaid :=
  OpenClaim.holds_of_wide 7 Try.f7 rfl rfl rfl rfl rfl rfl rfl ⟨rfl, rfl, rfl, rfl, rfl⟩ rfl rfl rfl rfl rfl (by kernel_rfl) Try.func7 (by kernel_rfl)
    (of_decide_eq_true (by kernel_rfl)) (by unfold Func.isWrapper; first | (rw [if_pos (by decide +kernel)]; kernel_rfl) | (rw [if_neg (by decide +kernel)]; exact ⟨rfl, rfl⟩))
    (fun os started H enc _ => lifted os started H enc)
#print axioms proved
end Go.Proofs.Ytgjojcigcbenmaa.lawCodecUnlike
