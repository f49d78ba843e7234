/- CodecPuts answers true for whatever items, and leaves them as they were. No condition. -/
import Derived.Test.YtgjojcigcbenmaaCodecItems
namespace Go.Proofs.Ytgjojcigcbenmaa.lawCodecPuts
open Go.ChangeShapes Go.WideShapes Go.ChangeAt Go.RowKit Codec
/-- an Out, and the row of the document's bytes beside it -/
structure PS (w : World) (a : Nat) (g : Option Nat) (bs : List UInt8) (long : Bool) (v : Value) (acc : List UInt8) (W : World) : Prop where
  out : OutAt W a g bs long
  row : W.ownsRow 0 5 1 v acc.length (u8s acc)
  ra : ∀ b, v.ownBlock = some b → b ≠ a ∧ some b ≠ g ∧ w.heap.size ≤ b
  below : Below w.heap.size w W
  ga : ∀ k, g = some k → w.heap.size ≤ k
  aw : w.heap.size ≤ a
section
variable {w W W' : World} {a : Nat} {g : Option Nat} {bs bs' acc s : List UInt8} {long long' : Bool} {v v' : Value}
theorem PS.later (h : PS w a g bs long v acc W) (hb : Below W.heap.size W W') : PS w a g bs long v acc W' :=
  ⟨h.out.below hb, ownsRow_later h.row hb, h.ra, h.below.trans (hb.mono h.below.size), h.ga, h.aw⟩
theorem PS.put (h : PS w a g bs long v acc W) (ht : Took a g bs long s W W') (e1 : outB bs long s = bs') (e2 : outL bs long s = long') : ∃ g', PS w a g' bs' long' v acc W' := by
  obtain ⟨g', ho, h2, hf⟩ := ht
  rw [e1, e2] at ho
  have hg' : ∀ k, g' = some k → (g = some k ∨ W.heap.size ≤ k) := by
    intro k hk
    rcases hf with h | h | ⟨q, h, hq⟩
    · rw [h] at hk; cases hk
    · exact .inl (h.symm.trans hk)
    · rw [h] at hk; injection hk with hk; exact .inr (by omega)
  refine ⟨g', ho, ownsRow_two h.row h2 fun b hb => ⟨(h.ra b hb).1, (h.ra b hb).2.1⟩, fun b hb => ⟨(h.ra b hb).1, ?_, (h.ra b hb).2.2⟩, h.below.trans (h2.below h.aw h.ga h.below.size), fun k hk => ?_, h.aw⟩
  · intro e
    rcases hg' b e.symm with h3 | h3
    · exact (h.ra b hb).2.1 h3.symm
    · have := (ownBlock_lt h.row hb).2; omega
  · rcases hg' k hk with h3 | h3
    · exact h.ga k h3
    · have := h.below.size; omega
theorem PS.app {acc' : List UInt8} (h : PS w a g bs long v acc W) (hg : W.grownBy W' v.ownBlock) (hr : W'.ownsRow 0 5 1 v' acc'.length (u8s acc')) (hat : v'.ownBlock = v.ownBlock ∨ v'.ownBlock = some W.heap.size) : PS w a g bs long v' acc' W' := by
  refine ⟨h.out.keep fun k hk => ?_, hr, fun b hb => ?_, h.below.grown hg h.below.size fun k hk => (h.ra k hk).2.2, h.ga, h.aw⟩
  · rcases hk with rfl | hk
    · exact hg.block _ h.out.lt (fun e => (h.ra k e.symm).1 rfl)
    · exact hg.block _ (h.out.glt hk) (fun e => (h.ra k e.symm).2.1 hk.symm)
  · rcases hat with h1 | h1
    · exact h.ra b (h1.symm.trans hb)
    · rw [h1] at hb
      injection hb with hb
      have h2 := h.out.lt
      have h3 := h.below.size
      refine ⟨by omega, fun e => ?_, by omega⟩
      have := h.out.glt e.symm; omega
theorem PS.row_rd (h : PS w a g bs long v acc W) : ∃ A c, v = .slice A acc.length c ∧ Rd W W.heap.size 1 A acc.length c (u8s acc) := by
  obtain ⟨A, c, e, ho⟩ := Own.of_row h.row (u8s_one _)
  exact ⟨A, c, e, ho.rd⟩
end
theorem end_yes {a : Nat} {g : Option Nat} {bs : List UInt8} {w : World} (h : OutAt w a g bs false) :
    Calls Try.prog 14 #[.pointer (some ⟨a, 0, none⟩)] w fun e w' => ∃ A c, e = .returned (.tuple #[.slice A bs.length c, .int .i64 0]) ∧ Rd w' w'.heap.size 1 A bs.length c (u8s bs) ∧ Below w.heap.size w w' :=
  (end_any a g bs false w h).mono fun e w' ⟨hb, he⟩ => by
    obtain ⟨A, c, h1, h2⟩ := end_ok he
    exact ⟨A, c, h1, h2.rd, hb⟩
theorem end_no {a : Nat} {g : Option Nat} {bs : List UInt8} {w : World} (h : OutAt w a g bs true) :
    Calls Try.prog 14 #[.pointer (some ⟨a, 0, none⟩)] w fun e w' => e = .returned (.tuple #[.slice none 0 0, .int .i64 3]) ∧ Below w.heap.size w w' :=
  (end_any a g bs true w h).mono fun e w' ⟨hb, he⟩ => by
    rcases he with ⟨_, he⟩ | ⟨h, _⟩
    · exact ⟨he, hb⟩
    · cases h
theorem run_rows2 (W : World) (v : Value) (acc bs t : List UInt8) (ht : t = acc ++ bs) (hown : W.ownsRow 0 5 1 v acc.length (u8s acc)) {A : Option Addr} {c B : Nat} (hr : Rd W B 1 A bs.length c (u8s bs)) (h6 : acc.length + bs.length ≤ 1000000) :
    ∃ A' c' w', (Builtin.append_ #[25, 25] 25 #[v, .slice A bs.length c]).run Try.prog W = .ok (.slice A' t.length c') w' ∧ w'.ownsRow 0 5 1 (.slice A' t.length c') t.length (u8s t) ∧ W.grownBy w' v.ownBlock ∧
      ((Value.slice A' t.length c').ownBlock = v.ownBlock ∨ (Value.slice A' t.length c').ownBlock = some W.heap.size) := by
  subst ht
  obtain ⟨i0, hi0, hz0, hz1, hz2⟩ := info_parts8
  obtain ⟨v', w', h1, h2, h3, h4⟩ := run_app (P := Try.prog) W 0 25 25 5 i0 _ 1 1 Try.underlying25 hi0 hz0 hz1 hz2 rfl (by omega) hown hr (by omega) (by omega) (Nat.zero_le _)
  rw [← u8s_append, ← List.length_append] at h2
  obtain ⟨A', c', rfl, _⟩ := Own.of_row h2 (u8s_one _)
  exact ⟨A', c', w', h1, h2, h3, h4⟩
theorem strs {W : World} {A : Option Addr} {c : Nat} {bs : List UInt8} (h : Rd W W.heap.size 1 A bs.length c (u8s bs)) : (convert 25 9 (.slice A bs.length c)).run Try.prog W = .ok (.string (strOf bs)) W :=
  run_str (P := Try.prog) W 25 9 5 Try.underlying25 Try.underlying5 Try.underlying9 h
theorem PS.rd {w W : World} {a : Nat} {g : Option Nat} {bs acc : List UInt8} {long : Bool} {A : Option Addr} {c : Nat} (h : PS w a g bs long (.slice A acc.length c) acc W) : Rd W W.heap.size 1 A acc.length c (u8s acc) := by
  obtain ⟨A', c', e, hr⟩ := h.row_rd
  injection e with e1 e2 e3
  subst e1; subst e3
  exact hr
/-- a new Out, then the document's bytes -/
theorem ps_start {w w1 w3 : World} {A : Option Addr} {c : Nat} {p : List UInt8} (hB : Below w.heap.size w w1)
    (ho : Own w3 (w1.alloc (.cells #[.slice none 0 0, .bool false] 27)).heap.size 5 1 A p.length c (u8s p)) (hb : Below (w1.alloc (.cells #[.slice none 0 0, .bool false] 27)).heap.size (w1.alloc (.cells #[.slice none 0 0, .bool false] 27)) w3) :
    PS w w1.heap.size none [] false (.slice A p.length c) p w3 := by
  refine ⟨(out_new w1).below hb, (ho.mono (Nat.zero_le _)).row, fun b hb' => ?_, (hB.alloc hB.size _).trans (hb.mono (by have := hB.size; simp; omega)), (fun k hk => by cases hk), hB.size⟩
  have h1 := (ownBlock_lt ho.row hb').1
  have := hB.size
  simp only [World.size_alloc] at h1
  exact ⟨by omega, by simp, by omega⟩
set_option maxRecDepth 100000 in
set_option maxHeartbeats 4000000 in
theorem puts_any (l more : List Itm) (A : Option Addr) (c : Nat) (A2 : Option Addr) (c2 : Nat) (w : World) (hr : Rd w w.heap.size 3 A l.length c (itemC l)) (hr2 : Rd w w.heap.size 3 A2 more.length c2 (itemC more)) (hl : l.length ≤ maxLen) (hl2 : more.length ≤ maxLen) :
    Calls Try.prog 3 #[.slice A l.length c, .slice A2 more.length c2] w fun e w' => e = .returned (.bool true) ∧ Below w.heap.size w w' := by
  have HR := Lib.hid hr
  have HR2 := Lib.hid hr2
  clear hr hr2
  have HF1 := fun W (hW : Below w.heap.size w W) => Lib.hid (few_at l A c 100000 100000 rfl (by omega) W (HR.out.below hW) hl)
  have HF2 := fun W (hW : Below w.heap.size w W) => Lib.hid (few_at more A2 c2 100000 100000 rfl (by omega) W (HR2.out.below hW) hl2)
  have HHF1 := Lib.hid HF1
  have HHF2 := Lib.hid HF2
  clear HF1 HF2
  obtain ⟨p, hp⟩ : ∃ p, p = itemsB l := ⟨_, rfl⟩
  obtain ⟨r, hr⟩ : ∃ r, r = itemsB more := ⟨_, rfl⟩
  obtain ⟨t, ht⟩ : ∃ t, t = p ++ r := ⟨_, rfl⟩
  have htl : t.length = p.length + r.length := by rw [ht, List.length_append]
  have HP := Lib.hid hp
  have HRR := Lib.hid hr
  have HT := Lib.hid ht
  have HTL := Lib.hid htl
  clear hp hr ht htl
  have hcase : (60000 < p.length ∧ 60000 < t.length) ∨ (p.length ≤ 60000 ∧ 60000 < t.length) ∨ (p.length ≤ 60000 ∧ t.length ≤ 60000) := by have := HTL.out; omega
  rcases hcase with ⟨q1, q2⟩ | ⟨q1, q2⟩ | ⟨q1, q2⟩
  · have E1 : Hid (outB [] false p = [] ∧ outL [] false p = true) := ⟨by unfold outB; rw [if_pos (by simp; omega)], by unfold outL; simp; omega⟩
    have E2 : Hid (outB [] true r = [] ∧ outL [] true r = true) := ⟨by simp [outB], by simp [outL]⟩
    have d1 : decide ((60000 : Int) < p.length) = true := by simp; omega
    have d2 : decide ((60000 : Int) < t.length) = true := by simp; omega
    have d3 : decide (60000 < p.length) = true := by simp; omega
    have d4 : decide (60000 < t.length) = true := by simp; omega
    go_enter Try.func3, Try.ntmps3
    go_wp2_with (first
      | (go_at_call 10; first
          | ((with_reducible refine (awake_any w).mono ?_); rintro e w1 ⟨rfl, hb1⟩)
          | ((with_reducible refine (awake_any w1).mono ?_); rintro e w2 ⟨rfl, hb2⟩))
      | (go_at_call 11; first
          | ((with_reducible refine (HHF1.out w1 hb1).out.mono ?_); rintro e w' ⟨f1, rfl, rfl, hf1⟩; have HQ1 := Lib.hid hf1; clear hf1; cases f1)
          | ((with_reducible refine (HHF2.out w1 hb1).out.mono ?_); rintro e w' ⟨f2, rfl, rfl, hf2⟩; have HQ2 := Lib.hid hf2; clear hf2; cases f2)))
    · go_ret
      exact ⟨rfl, hb1.trans (hb2.mono hb1.size)⟩
    · go_ret
      exact ⟨rfl, hb1.trans (hb2.mono hb1.size)⟩
    · have hq1 := HQ1.out trivial
      have hq2 := HQ2.out trivial
      have hpl : p.length ≤ 102000 := by rw [HP.out]; have := itemsB_len l; omega
      have hrl : r.length ≤ 102000 := by rw [HRR.out]; have := itemsB_len more; omega
      clear HQ1 HQ2
      have hB2 := hb1.alloc hb1.size (.cells #[.slice none 0 0, .bool false] 27)
      have hbr := refbytes_any l A c (w1.alloc (.cells #[.slice none 0 0, .bool false] 27)) ((HR.out.below hB2).more hB2.size) hq1.1 hq1.2
      rw [← HP.out] at hbr
      refine hbr.mono ?_
      rintro e w3 ⟨A3, c3, rfl, ho3, hb3⟩
      have PS3 := Lib.hid (ps_start hb1 ho3 hb3)
      clear hbr hB2 ho3 hb3 hb1
      go_wp2_with fail
      refine (put_items w1.heap.size none [] false l A c w3 PS3.out.out (B := w.heap.size) PS3.out.aw PS3.out.ga PS3.out.below.size (HR.out.below PS3.out.below) hl).mono ?_
      rintro e w4 ⟨rfl, ht4⟩
      rw [← HP.out] at ht4
      obtain ⟨g4, ps4⟩ := PS3.out.put ht4 E1.out.1 E1.out.2
      have PS4 := Lib.hid ps4
      clear ht4 ps4
      go_wp2_with fail
      refine (end_no PS4.out.out).mono ?_
      rintro e w5 ⟨rfl, hb5⟩
      have PS5 := Lib.hid (PS4.out.later hb5)
      clear hb5
      have hbr := refbytes_any more A2 c2 w5 ((HR2.out.below PS5.out.below).more PS5.out.below.size) hq2.1 hq2.2
      rw [← HRR.out] at hbr
      have HBR := Lib.hid hbr
      clear hbr
      go_wp2_with (first
        | (go_at_call 12; refine HBR.out.mono ?_; rintro e w6 ⟨A6, c6, rfl, ho6, hb6⟩; have PS6 := Lib.hid (PS5.out.later hb6); obtain ⟨A7, c7, w7, hrun, hown7, hg7, hat7⟩ := run_rows2 w6 _ p r t HT.out PS6.out.row ho6.rd (by omega); have Hrun := Lib.hid hrun; have PS7 := Lib.hid (PS6.out.app hg7 hown7 hat7); clear hrun hown7 hg7 hat7 ho6 hb6)
        | (at_builtin; refine Lib.wpList_append_run _ rfl _ _ _ _ rfl _ _ rfl rfl _ _ Hrun.out ?_))
      refine (put_items w1.heap.size g4 [] true more A2 c2 w7 PS7.out.out (B := w.heap.size) PS7.out.aw PS7.out.ga PS7.out.below.size (HR2.out.below PS7.out.below) hl2).mono ?_
      rintro e w8 ⟨rfl, ht8⟩
      rw [← HRR.out] at ht8
      obtain ⟨g8, ps8⟩ := PS7.out.put ht8 E2.out.1 E2.out.2
      have PS8 := Lib.hid ps8
      clear ht8 ps8
      go_wp2_with fail
      refine (end_no PS8.out.out).mono ?_
      rintro e w9 ⟨rfl, hb9⟩
      have PS9 := Lib.hid (PS8.out.later hb9)
      clear hb9
      go_wp2
      go_ret
      exact ⟨rfl, PS9.out.below⟩
  · have E1 : Hid (outB [] false p = p ∧ outL [] false p = false) := ⟨by unfold outB; rw [if_neg (by simp; omega)]; rfl, by unfold outL; simp; omega⟩
    have E2 : Hid (outB p false r = [] ∧ outL p false r = true) := ⟨by unfold outB; rw [if_pos (by have := HTL.out; simp; omega)], by unfold outL; have := HTL.out; simp; omega⟩
    have d1 : decide ((60000 : Int) < p.length) = false := by simp; omega
    have d2 : decide ((60000 : Int) < t.length) = true := by simp; omega
    have d3 : decide (60000 < p.length) = false := by simp; omega
    have d4 : decide (60000 < t.length) = true := by simp; omega
    go_enter Try.func3, Try.ntmps3
    go_wp2_with (first
      | (go_at_call 10; first
          | ((with_reducible refine (awake_any w).mono ?_); rintro e w1 ⟨rfl, hb1⟩)
          | ((with_reducible refine (awake_any w1).mono ?_); rintro e w2 ⟨rfl, hb2⟩))
      | (go_at_call 11; first
          | ((with_reducible refine (HHF1.out w1 hb1).out.mono ?_); rintro e w' ⟨f1, rfl, rfl, hf1⟩; have HQ1 := Lib.hid hf1; clear hf1; cases f1)
          | ((with_reducible refine (HHF2.out w1 hb1).out.mono ?_); rintro e w' ⟨f2, rfl, rfl, hf2⟩; have HQ2 := Lib.hid hf2; clear hf2; cases f2)))
    · go_ret
      exact ⟨rfl, hb1.trans (hb2.mono hb1.size)⟩
    · go_ret
      exact ⟨rfl, hb1.trans (hb2.mono hb1.size)⟩
    · have hq1 := HQ1.out trivial
      have hq2 := HQ2.out trivial
      have hpl : p.length ≤ 102000 := by rw [HP.out]; have := itemsB_len l; omega
      have hrl : r.length ≤ 102000 := by rw [HRR.out]; have := itemsB_len more; omega
      clear HQ1 HQ2
      have hB2 := hb1.alloc hb1.size (.cells #[.slice none 0 0, .bool false] 27)
      have hbr := refbytes_any l A c (w1.alloc (.cells #[.slice none 0 0, .bool false] 27)) ((HR.out.below hB2).more hB2.size) hq1.1 hq1.2
      rw [← HP.out] at hbr
      refine hbr.mono ?_
      rintro e w3 ⟨A3, c3, rfl, ho3, hb3⟩
      have PS3 := Lib.hid (ps_start hb1 ho3 hb3)
      clear hbr hB2 ho3 hb3 hb1
      go_wp2_with fail
      refine (put_items w1.heap.size none [] false l A c w3 PS3.out.out (B := w.heap.size) PS3.out.aw PS3.out.ga PS3.out.below.size (HR.out.below PS3.out.below) hl).mono ?_
      rintro e w4 ⟨rfl, ht4⟩
      rw [← HP.out] at ht4
      obtain ⟨g4, ps4⟩ := PS3.out.put ht4 E1.out.1 E1.out.2
      have PS4 := Lib.hid ps4
      clear ht4 ps4
      go_wp2_with fail
      refine (end_yes PS4.out.out).mono ?_
      rintro e w5 ⟨A5, c5, rfl, hr5, hb5⟩
      have PS5 := Lib.hid (PS4.out.later hb5)
      have hs5 := strs hr5
      have hs5' := strs PS5.out.rd
      clear hb5 hr5
      have hbr := refbytes_any more A2 c2 w5 ((HR2.out.below PS5.out.below).more PS5.out.below.size) hq2.1 hq2.2
      rw [← HRR.out] at hbr
      have HBR := Lib.hid hbr
      clear hbr
      go_wp2_with (first
        | (go_at_call 12; refine HBR.out.mono ?_; rintro e w6 ⟨A6, c6, rfl, ho6, hb6⟩; have PS6 := Lib.hid (PS5.out.later hb6); obtain ⟨A7, c7, w7, hrun, hown7, hg7, hat7⟩ := run_rows2 w6 _ p r t HT.out PS6.out.row ho6.rd (by omega); have Hrun := Lib.hid hrun; have PS7 := Lib.hid (PS6.out.app hg7 hown7 hat7); clear hrun hown7 hg7 hat7 ho6 hb6)
        | (at_builtin; refine Lib.wpList_append_run _ rfl _ _ _ _ rfl _ _ rfl rfl _ _ Hrun.out ?_))
      refine (put_items w1.heap.size g4 p false more A2 c2 w7 PS7.out.out (B := w.heap.size) PS7.out.aw PS7.out.ga PS7.out.below.size (HR2.out.below PS7.out.below) hl2).mono ?_
      rintro e w8 ⟨rfl, ht8⟩
      rw [← HRR.out] at ht8
      obtain ⟨g8, ps8⟩ := PS7.out.put ht8 E2.out.1 E2.out.2
      have PS8 := Lib.hid ps8
      clear ht8 ps8
      go_wp2_with fail
      refine (end_no PS8.out.out).mono ?_
      rintro e w9 ⟨rfl, hb9⟩
      have PS9 := Lib.hid (PS8.out.later hb9)
      clear hb9
      go_wp2
      go_ret
      exact ⟨rfl, PS9.out.below⟩
  · have E1 : Hid (outB [] false p = p ∧ outL [] false p = false) := ⟨by unfold outB; rw [if_neg (by simp; omega)]; rfl, by unfold outL; simp; omega⟩
    have E2 : Hid (outB p false r = t ∧ outL p false r = false) := ⟨by unfold outB; rw [if_neg (by have := HTL.out; simp; omega), HT.out], by unfold outL; have := HTL.out; simp; omega⟩
    have d1 : decide ((60000 : Int) < p.length) = false := by simp; omega
    have d2 : decide ((60000 : Int) < t.length) = false := by simp; omega
    have d3 : decide (60000 < p.length) = false := by simp; omega
    have d4 : decide (60000 < t.length) = false := by simp; omega
    go_enter Try.func3, Try.ntmps3
    go_wp2_with (first
      | (go_at_call 10; first
          | ((with_reducible refine (awake_any w).mono ?_); rintro e w1 ⟨rfl, hb1⟩)
          | ((with_reducible refine (awake_any w1).mono ?_); rintro e w2 ⟨rfl, hb2⟩))
      | (go_at_call 11; first
          | ((with_reducible refine (HHF1.out w1 hb1).out.mono ?_); rintro e w' ⟨f1, rfl, rfl, hf1⟩; have HQ1 := Lib.hid hf1; clear hf1; cases f1)
          | ((with_reducible refine (HHF2.out w1 hb1).out.mono ?_); rintro e w' ⟨f2, rfl, rfl, hf2⟩; have HQ2 := Lib.hid hf2; clear hf2; cases f2)))
    · go_ret
      exact ⟨rfl, hb1.trans (hb2.mono hb1.size)⟩
    · go_ret
      exact ⟨rfl, hb1.trans (hb2.mono hb1.size)⟩
    · have hq1 := HQ1.out trivial
      have hq2 := HQ2.out trivial
      have hpl : p.length ≤ 102000 := by rw [HP.out]; have := itemsB_len l; omega
      have hrl : r.length ≤ 102000 := by rw [HRR.out]; have := itemsB_len more; omega
      clear HQ1 HQ2
      have hB2 := hb1.alloc hb1.size (.cells #[.slice none 0 0, .bool false] 27)
      have hbr := refbytes_any l A c (w1.alloc (.cells #[.slice none 0 0, .bool false] 27)) ((HR.out.below hB2).more hB2.size) hq1.1 hq1.2
      rw [← HP.out] at hbr
      refine hbr.mono ?_
      rintro e w3 ⟨A3, c3, rfl, ho3, hb3⟩
      have PS3 := Lib.hid (ps_start hb1 ho3 hb3)
      clear hbr hB2 ho3 hb3 hb1
      go_wp2_with fail
      refine (put_items w1.heap.size none [] false l A c w3 PS3.out.out (B := w.heap.size) PS3.out.aw PS3.out.ga PS3.out.below.size (HR.out.below PS3.out.below) hl).mono ?_
      rintro e w4 ⟨rfl, ht4⟩
      rw [← HP.out] at ht4
      obtain ⟨g4, ps4⟩ := PS3.out.put ht4 E1.out.1 E1.out.2
      have PS4 := Lib.hid ps4
      clear ht4 ps4
      go_wp2_with fail
      refine (end_yes PS4.out.out).mono ?_
      rintro e w5 ⟨A5, c5, rfl, hr5, hb5⟩
      have PS5 := Lib.hid (PS4.out.later hb5)
      have hs5 := strs hr5
      have hs5' := strs PS5.out.rd
      clear hb5 hr5
      have hbr := refbytes_any more A2 c2 w5 ((HR2.out.below PS5.out.below).more PS5.out.below.size) hq2.1 hq2.2
      rw [← HRR.out] at hbr
      have HBR := Lib.hid hbr
      clear hbr
      go_wp2_with (first
        | (go_at_call 12; refine HBR.out.mono ?_; rintro e w6 ⟨A6, c6, rfl, ho6, hb6⟩; have PS6 := Lib.hid (PS5.out.later hb6); obtain ⟨A7, c7, w7, hrun, hown7, hg7, hat7⟩ := run_rows2 w6 _ p r t HT.out PS6.out.row ho6.rd (by omega); have Hrun := Lib.hid hrun; have PS7 := Lib.hid (PS6.out.app hg7 hown7 hat7); clear hrun hown7 hg7 hat7 ho6 hb6)
        | (at_builtin; refine Lib.wpList_append_run _ rfl _ _ _ _ rfl _ _ rfl rfl _ _ Hrun.out ?_))
      refine (put_items w1.heap.size g4 p false more A2 c2 w7 PS7.out.out (B := w.heap.size) PS7.out.aw PS7.out.ga PS7.out.below.size (HR2.out.below PS7.out.below) hl2).mono ?_
      rintro e w8 ⟨rfl, ht8⟩
      rw [← HRR.out] at ht8
      obtain ⟨g8, ps8⟩ := PS7.out.put ht8 E2.out.1 E2.out.2
      have PS8 := Lib.hid ps8
      clear ht8 ps8
      go_wp2_with fail
      refine (end_yes PS8.out.out).mono ?_
      rintro e w9 ⟨A9, c9, rfl, hr9, hb9⟩
      have PS9 := Lib.hid (PS8.out.later hb9)
      have hs9 := strs hr9
      have hs9' := strs PS9.out.rd
      clear hb9 hr9
      go_wp2
      go_ret
      exact ⟨rfl, PS9.out.below⟩
set_option maxRecDepth 100000 in
theorem lifted (os : Os) (started : os.Started) (H : Type) (enc : TypeId × Value → H) :
    ReturnsInHanded {} Try.checked os 3 .any (Rows.codecPutsSpec.pre6 enc Try.prog Try.f3 Rows.codecPutsRow.domain false) (Rows.codecPutsSpec.post enc Try.prog Try.f3 false true false false) := by
  refine returnsInHanded_of_change (C := Try.checked) own started (by kernel_rfl) Try.func3
    (ChangeSpec.witness6 (enc := enc) (C := Try.checked) false ⟨#[], #[.slice none 0 0, .slice none 0 0], []⟩ 8 (by kernel_rfl) (by kernel_rfl) (by kernel_rfl) (by kernel_rfl)) ?_
  intro W base args ds gs before hval0 hW _ _
  have hval : ∀ (j : Nat) t v, Try.f3.params[j]? = some t → args[j]? = some v → Value.okWide Try.prog W .any base t v := hval0
  have hW' := hW
  obtain ⟨p, q, hA0, hV, rfl, hfz, hnd⟩ := hW
  have hA : DataW.TrodAll enc Try.prog W 0 (fun _ => true) true Try.f3.params.toList args.toList ds p := hA0
  rw [Try.params3] at hA hval
  obtain ⟨v0, v1, d0, d1, p0, p1, rfl, rfl, rfl, h0, h1⟩ := trodAll_two hA
  obtain ⟨rfl, rfl⟩ := trodVars_none hV
  obtain ⟨a0, len, cap, rfl⟩ := okWide_slice Try.underlying22 (hval 0 22 v0 rfl rfl)
  obtain ⟨a1, len1, cap1, rfl⟩ := okWide_slice Try.underlying22 (hval 1 22 v1 rfl rfl)
  obtain ⟨fuel, hf⟩ := h0
  obtain ⟨fuel1, hf1⟩ := h1
  obtain ⟨l, rfl, hrd, hlen⟩ := items_of_trod hf
  obtain ⟨more, rfl, hrl, hlen1⟩ := items_of_trod hf1
  refine (puts_any l more a0 cap a1 cap1 W hrd hrl hlen hlen1).mono fun e W' ⟨he, hb⟩ => ?_
  subst he
  exact ⟨_, rfl, law_post hW' (by kernel_rfl) rfl rfl rfl hb⟩
theorem proved : Rows.CodecPutsSaid :=
  OpenClaim.holds_of_wide 3 Try.f3 rfl rfl rfl rfl rfl rfl rfl ⟨rfl, rfl, rfl, rfl, rfl⟩ rfl rfl rfl rfl rfl (by kernel_rfl) Try.func3 (by kernel_rfl)
    (of_decide_eq_true (by kernel_rfl)) (by unfold Func.isWrapper; first | (rw [if_pos (by decide +kernel)]; kernel_rfl) | (rw [if_neg (by decide +kernel)]; exact ⟨rfl, rfl⟩))
    (fun os started H enc _ => lifted os started H enc)
#print axioms proved
end Go.Proofs.Ytgjojcigcbenmaa.lawCodecPuts
