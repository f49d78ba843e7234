/- Sets of dots, the program's: united, met, taken from one another, compared. -/
import Derived.Test.YtfkkjgebemnhnaaCtx4
namespace Go.Proofs.Ytfkkjgebemnhnaa
open Go.ChangeShapes Go.WideShapes Go.ChangeAt Go.RowKit
namespace Cx
open Sp Rw
/-- a slice that reads as what two sets of dots make -/
def PutIsC (f : Bool → Bool → Bool) (a b : List S3) (n m : Nat) (w : World) (e : Ending) (w' : World) : Prop :=
  ∃ u q A' c', e = .returned (.slice A' q c') ∧ Hid (u.length = q) ∧ Hid (PutC f a b u) ∧ q ≤ 4 * (n + m) ∧ Hid (Rd w' w'.heap.size 3 A' q c' (spsC u)) ∧ Below w.heap.size w w'
/-- a function that puts two sets of numbers together -/
def PutsBy (f : Bool → Bool → Bool) (F : FuncId) : Prop :=
  ∀ (a b : List (Int × Int)) (n m : Nat) (A B : Option Addr) (c d : Nat) (w : World), a.length = n → b.length = m → n ≤ 100000 → m ≤ 100000 → Rd w w.heap.size 2 A n c (runsC a) → Rd w w.heap.size 2 B m d (runsC b) → RightF 1 a → RightF 1 b → Calls Try.prog F #[.slice A n c, .slice B m d] w (JoinIs f a b w)
theorem put_pre {f : Bool → Bool → Bool} {a b : List S3} {r : Nat → List (Int × Int)} (h : ∀ d : Nat, d < 4 → Put f (part a d) (part b d) (r d)) : PutC f a b (pre r 4) := by
  rw [pre_four]
  refine PutC.of fun d hd => ?_
  have e : ((d.toNat : Nat) : Int) = d := by have := hd.1; omega
  have h1 := h d.toNat (by have := hd.1; have := hd.2; omega)
  rw [e] at h1
  exact ⟨h1.right, h1.has⟩
theorem box4c (w : World) (s : Nat → SV) : Cells4 (w.alloc (.cells #[.slice (s 0).A (s 0).n (s 0).c, .slice (s 1).A (s 1).n (s 1).c, .slice (s 2).A (s 2).n (s 2).c, .slice (s 3).A (s 3).n (s 3).c] 60)) w.heap.size (fun j => .slice (s j).A (s j).n (s j).c) :=
  Cells4.new w _ _ _ _ _ _ rfl
set_option maxRecDepth 100000 in
set_option maxHeartbeats 2000000 in
theorem join_bad (F : FuncId) (a b : List S3) (n m : Nat) (A B : Option Addr) (c d : Nat) (w : World) (hla : a.length = n) (hlb : b.length = m) (hn : n ≤ 100000) (hm : m ≤ 100000) (hra : Rd w w.heap.size 3 A n c (spsC a)) (hrb : Rd w w.heap.size 3 B m d (spsC b)) (hab : (rightCB a && rightCB b) = false) :
    Calls Try.prog 55 #[.slice A n c, .slice B m d, .func (.func F) #[] #[]] w fun e w' => e = .returned (.slice none 0 0) ∧ Below w.heap.size w w' := by
  obtain ⟨x, hx⟩ : ∃ x, x = rightCB a := ⟨_, rfl⟩
  obtain ⟨y, hy⟩ : ∃ y, y = rightCB b := ⟨_, rfl⟩
  rw [← hx, ← hy] at hab
  have HC1 := Lib.hid (split_any a n A c w hla hn hra x hx.symm)
  have HC2 := fun W (h : Below w.heap.size w W) => Lib.hid (split_any b m B d W hlb hm ((hrb.below h).more h.size) y hy.symm)
  clear hla hlb hra hrb hx hy
  have hxy : (!x || !y) = true := by cases x <;> cases y <;> simp_all
  cases x with
  | false =>
    go_enter Try.func55, Try.ntmps55
    go_wp2_with fail
    refine HC1.out.mono ?_
    rintro e w1 ⟨s, rfl, HS, hb1⟩
    have hb1' := hb1.alloc hb1.size (.cells #[.slice (s 0).A (s 0).n (s 0).c, .slice (s 1).A (s 1).n (s 1).c, .slice (s 2).A (s 2).n (s 2).c, .slice (s 3).A (s 3).n (s 3).c] 60)
    go_wp2_with fail
    refine (HC2 _ hb1').out.mono ?_
    rintro e w2 ⟨t, rfl, HT, hb2⟩
    have hb2' := (hb1'.trans (hb2.mono hb1'.size)).alloc (hb1'.trans (hb2.mono hb1'.size)).size (.cells #[.slice (t 0).A (t 0).n (t 0).c, .slice (t 1).A (t 1).n (t 1).c, .slice (t 2).A (t 2).n (t 2).c, .slice (t 3).A (t 3).n (t 3).c] 60)
    go_wp2
    go_ret
    exact ⟨rfl, hb2'⟩
  | true =>
    cases y with
    | true => cases hab
    | false =>
      go_enter Try.func55, Try.ntmps55
      go_wp2_with fail
      refine HC1.out.mono ?_
      rintro e w1 ⟨s, rfl, HS, hb1⟩
      have hb1' := hb1.alloc hb1.size (.cells #[.slice (s 0).A (s 0).n (s 0).c, .slice (s 1).A (s 1).n (s 1).c, .slice (s 2).A (s 2).n (s 2).c, .slice (s 3).A (s 3).n (s 3).c] 60)
      go_wp2_with fail
      refine (HC2 _ hb1').out.mono ?_
      rintro e w2 ⟨t, rfl, HT, hb2⟩
      have hb2' := (hb1'.trans (hb2.mono hb1'.size)).alloc (hb1'.trans (hb2.mono hb1'.size)).size (.cells #[.slice (t 0).A (t 0).n (t 0).c, .slice (t 1).A (t 1).n (t 1).c, .slice (t 2).A (t 2).n (t 2).c, .slice (t 3).A (t 3).n (t 3).c] 60)
      go_wp2
      go_ret
      exact ⟨rfl, hb2'⟩
set_option maxRecDepth 100000 in
set_option maxHeartbeats 2000000 in
theorem joinC_any (f : Bool → Bool → Bool) (F : FuncId) (hF : PutsBy f F) (eF : ∀ args W, (callFunc F args).run Try.prog W = .ok (.enter F args) W) (a b : List S3) (n m : Nat) (A B : Option Addr) (c d : Nat) (w : World) (hla : a.length = n) (hlb : b.length = m) (hn : n ≤ 50000) (hm : m ≤ 50000) (hra : Rd w w.heap.size 3 A n c (spsC a)) (hrb : Rd w w.heap.size 3 B m d (spsC b)) (ha : RightC a) (hb : RightC b) :
    Calls Try.prog 55 #[.slice A n c, .slice B m d, .func (.func F) #[] #[]] w (PutIsC f a b n m w) := by
  have HC1 := Lib.hid (split_any a n A c w hla (by omega) hra true (rightCB_true ha))
  have HC2 := fun W (h : Below w.heap.size w W) => Lib.hid (split_any b m B d W hlb (by omega) ((hrb.below h).more h.size) true (rightCB_true hb))
  have HLA := Lib.hid hla
  have HLB := Lib.hid hlb
  have HRA := Lib.hid ha
  have HRB := Lib.hid hb
  have HF := Lib.hid hF
  clear hla hlb hra hrb ha hb hF
  go_enter Try.func55, Try.ntmps55
  go_wp2_with fail
  refine HC1.out.mono ?_
  rintro e w1 ⟨s, rfl, HS, hb1⟩
  obtain ⟨p, hp⟩ : ∃ p, p = w1.heap.size := ⟨_, rfl⟩
  obtain ⟨W1, hW1⟩ : ∃ W, W = w1.alloc (.cells #[.slice (s 0).A (s 0).n (s 0).c, .slice (s 1).A (s 1).n (s 1).c, .slice (s 2).A (s 2).n (s 2).c, .slice (s 3).A (s 3).n (s 3).c] 60) := ⟨_, rfl⟩
  have hpw : w.heap.size ≤ p := by rw [hp]; exact hb1.size
  have hb1a : Below w1.heap.size w1 W1 := by rw [hW1]; exact (Below.refl _ _).alloc (Nat.le_refl _) _
  have HB1 := Lib.hid (hb1.trans (hb1a.mono hb1.size))
  have HP1 : Hid (Cells4 W1 p (fun j => .slice (s j).A (s j).n (s j).c)) := by rw [hW1, hp]; exact box4c w1 s
  have HS1 : Hid (∀ d : Nat, d < 4 → SvIs W1 (s d) (part a d)) := fun d hd => (HS.out d hd).later hb1a
  have HW1 := Lib.hid hW1
  have HHp := Lib.hid hp
  clear hb1 hb1a HS hW1 hp
  go_wp2_with fail
  rw [← HHp.out, ← HW1.out]
  refine (HC2 W1 HB1.out).out.mono ?_
  rintro e w2 ⟨t, rfl, HT, hb2⟩
  obtain ⟨p2, hp2⟩ : ∃ p, p = w2.heap.size := ⟨_, rfl⟩
  obtain ⟨W2, hW2⟩ : ∃ W, W = (w2.alloc (.cells #[.slice (t 0).A (t 0).n (t 0).c, .slice (t 1).A (t 1).n (t 1).c, .slice (t 2).A (t 2).n (t 2).c, .slice (t 3).A (t 3).n (t 3).c] 60)).alloc (.cells #[.slice none 0 0, .slice none 0 0, .slice none 0 0, .slice none 0 0] 60) := ⟨_, rfl⟩
  have hb2a : Below w2.heap.size w2 (w2.alloc (.cells #[.slice (t 0).A (t 0).n (t 0).c, .slice (t 1).A (t 1).n (t 1).c, .slice (t 2).A (t 2).n (t 2).c, .slice (t 3).A (t 3).n (t 3).c] 60)) := (Below.refl _ _).alloc (Nat.le_refl _) _
  have hb2b : Below w2.heap.size w2 W2 := by rw [hW2]; exact hb2a.alloc hb2a.size _
  have hb2c := hb2.trans (hb2b.mono hb2.size)
  have HB2 := Lib.hid (HB1.out.trans (hb2c.mono HB1.out.size))
  have HP2 : Hid (Cells4 W2 p (fun j => .slice (s j).A (s j).n (s j).c)) := HP1.out.later hb2c
  have HQ2 : Hid (Cells4 W2 p2 (fun j => .slice (t j).A (t j).n (t j).c)) := by
    rw [hW2, hp2]
    exact (box4c w2 t).later ((Below.refl _ _).alloc (Nat.le_refl _) _)
  have HR2 : Hid (Cells4 W2 (p2 + 1) (fun _ => .slice none 0 0)) := by
    have := Cells4.new (w2.alloc (.cells #[.slice (t 0).A (t 0).n (t 0).c, .slice (t 1).A (t 1).n (t 1).c, .slice (t 2).A (t 2).n (t 2).c, .slice (t 3).A (t 3).n (t 3).c] 60)) (fun _ => .slice none 0 0) (.slice none 0 0) (.slice none 0 0) (.slice none 0 0) (.slice none 0 0) 60 rfl
    rw [hW2, hp2]
    unfold Hid
    simpa using this
  have HS2 : Hid (∀ d : Nat, d < 4 → (part a d).length = (s d).n ∧ Rd W2 p2 2 (s d).A (s d).n (s d).c (runsC (part a d))) := fun d hd => ⟨(HS1.out d hd).1, by rw [hp2]; exact (((HS1.out d hd).2.later hb2).below hb2b)⟩
  have HT2 : Hid (∀ d : Nat, d < 4 → (part b d).length = (t d).n ∧ Rd W2 p2 2 (t d).A (t d).n (t d).c (runsC (part b d))) := fun d hd => ⟨(HT.out d hd).1, by rw [hp2]; exact ((HT.out d hd).2.below hb2b)⟩
  have hpp : p < p2 := by rw [hp2]; exact Nat.lt_of_lt_of_le HP1.out.free.1 hb2.size
  have HW2 := Lib.hid hW2
  have HHp2 := Lib.hid hp2
  clear hb2 hb2a hb2b hb2c HT HS1 HP1 hW2 hp2
  go_wp2
  rw [← HHp2.out, ← HW2.out]
  clear HC1 HC2 HB1 HW1 HHp HW2 HHp2
  go_loopw [29] (fun i wr => ∃ (d : Nat) (u : Nat → SV) (r : Nat → List (Int × Int)), d ≤ 4 ∧ i = .int .i64 d ∧ Hid (Cells4 wr (p2 + 1) (fun j => .slice (u j).A (u j).n (u j).c)) ∧ Hid (∀ j : Nat, j < d → (r j).length = (u j).n ∧ Rb wr (p2 + 2) 2 (u j).A (u j).n (u j).c (runsC (r j)) ∧ Put f (part a j) (part b j) (r j)) ∧ Hid (Below (p2 + 1) W2 wr)) (fun i _ => 4 - (intOf i).toNat)
  case atStart => exact ⟨0, fun _ => sv0, fun _ => [], by omega, rfl, HR2.out, fun j hj => by omega, Below.refl _ _⟩
  case round =>
    obtain ⟨d, u, r, hd, rfl, HU, HR, HBL⟩ := hrel
    clear HR2
    by_cases hd4 : d < 4
    · have hps : p2 + 1 < wr.heap.size := HU.out.free.1
      obtain ⟨sA, sn, sc, hs⟩ : ∃ sA sn sc, s d = ⟨sA, sn, sc⟩ := ⟨_, _, _, rfl⟩
      obtain ⟨tA, tn, tc, ht⟩ : ∃ tA tn tc, t d = ⟨tA, tn, tc⟩ := ⟨_, _, _, rfl⟩
      have k0 := (HBL.out.cell (p := ⟨p, d, none⟩) (by show p < p2 + 1; omega)).trans (HP2.out.cell d hd4)
      have k1 := (HBL.out.cell (p := ⟨p2, d, none⟩) (by show p2 < p2 + 1; omega)).trans (HQ2.out.cell d hd4)
      have k2 := HU.out.cell d hd4
      have hsd := HS2.out d hd4
      have htd := HT2.out d hd4
      rw [hs] at k0 hsd
      rw [ht] at k1 htd
      dsimp only at k0 k1 hsd htd
      have hbd := HBL.out.trans ((Below.refl wr.heap.size wr).drew.mono (by omega))
      have HCF : Hid (Calls Try.prog F #[.slice sA sn sc, .slice tA tn tc] wr.drew fun e w' => ∃ l A q c, e = .returned (.slice A q c) ∧ Hid (l.length = q ∧ Rb w' (p2 + 2) 2 A q c (runsC l) ∧ Put f (part a d) (part b d) l) ∧ Below wr.heap.size wr w') := by
        refine (HF.out (part a d) (part b d) sn tn sA tA sc tc wr.drew hsd.1 htd.1 (by have := part_len a d; have := HLA.out; have := hsd.1; omega) (by have := part_len b d; have := HLB.out; have := htd.1; omega)
          (((hsd.2.below (hbd.mono (by omega))).more (by show p2 ≤ wr.heap.size; omega))) (((htd.2.below (hbd.mono (by omega))).more (by show p2 ≤ wr.heap.size; omega)))
          (HRA.out.part d (by unfold Cen; omega)) (HRB.out.part d (by unfold Cen; omega))).mono ?_
        rintro e w' ⟨l, A', c', rfl, hp, ho, hb⟩
        exact ⟨l, A', l.length, c', rfl, ⟨rfl, (ho.rb).mono (by show p2 + 2 ≤ wr.heap.size; omega), hp⟩, ((Below.refl _ _).drew).trans hb⟩
      have hne1 : p ≠ p2 + 1 := by omega
      have hne2 : ¬ (p2 + 1 = p) := by omega
      have hdi : (d : Int) < 4 := by omega
      clear hsd htd hbd
      go_wp2
      go_region_held3 (fun W => W.cell? ⟨p, d, none⟩ = some (.slice sA sn sc) ∧ W.cell? ⟨p2, d, none⟩ = some (.slice tA tn tc)) (go_keep)
        (first
          | (refine HCF.out.mono ?_; rintro e w3 ⟨l, A3, q3, c3, rfl, HL3, hb3⟩
             have HU3 := Lib.hid (HU.out.later hb3)
             have HB3 := Lib.hid hb3
             have i0 : w3.cell? ⟨p, d, none⟩ = some (.slice sA sn sc) := (hb3.cell (p := ⟨p, d, none⟩) (by show p < wr.heap.size; omega)).trans k0
             have i1 : w3.cell? ⟨p2, d, none⟩ = some (.slice tA tn tc) := (hb3.cell (p := ⟨p2, d, none⟩) (by show p2 < wr.heap.size; omega)).trans k1
             have i2 : w3.cell? ⟨p2 + 1, d, none⟩ = _ := HU3.out.cell d hd4
             have i3 : w3.frozen? ⟨p2 + 1, d, none⟩ = false := HU3.out.free.2 d
             clear hb3 k0 k1 k2))
      all_goals
        have HC4 : Hid (Cells4 (w3.setCell ⟨p2 + 1, d, none⟩ (.slice A3 q3 c3)) (p2 + 1) (fun j => .slice (upd u d ⟨A3, q3, c3⟩ j).A (upd u d ⟨A3, q3, c3⟩ j).n (upd u d ⟨A3, q3, c3⟩ j).c)) := by
          refine (HU3.out.set hd4 _).congr fun j hj => ?_
          by_cases he : j = d
          · subst he; rw [upd_same, upd_same]
          · rw [upd_other _ _ he, upd_other _ _ he]
        have HR4 : Hid (∀ j : Nat, j < d + 1 → (upd r d l j).length = (upd u d ⟨A3, q3, c3⟩ j).n ∧ Rb (w3.setCell ⟨p2 + 1, d, none⟩ (.slice A3 q3 c3)) (p2 + 2) 2 (upd u d ⟨A3, q3, c3⟩ j).A (upd u d ⟨A3, q3, c3⟩ j).n (upd u d ⟨A3, q3, c3⟩ j).c (runsC (upd r d l j)) ∧ Put f (part a j) (part b j) (upd r d l j)) := fun j hj => by
          by_cases he : j = d
          · subst he
            rw [upd_same, upd_same]
            exact ⟨HL3.out.1, rb_set HL3.out.2.1 (a := ⟨p2 + 1, j, none⟩) (by show p2 + 1 < p2 + 2; omega) _, HL3.out.2.2⟩
          · rw [upd_other _ _ he, upd_other _ _ he]
            obtain ⟨x1, x2, x3⟩ := HR.out j (by omega)
            exact ⟨x1, rb_set (x2.later HB3.out) (a := ⟨p2 + 1, d, none⟩) (by show p2 + 1 < p2 + 2; omega) _, x3⟩
        have HB4 : Hid (Below (p2 + 1) W2 (w3.setCell ⟨p2 + 1, d, none⟩ (.slice A3 q3 c3))) := (HBL.out.trans (HB3.out.mono (by omega))).setCell (p := ⟨p2 + 1, d, none⟩) (Nat.le_refl _) _
        clear i0 i1 i2 i3
        go_wp2
        go_roundw
        case rel => exact ⟨d + 1, upd u d ⟨A3, q3, c3⟩, upd r d l, by omega, by go_num, HC4.out, HR4.out, HB4.out⟩
        case measure => simp [intOf]; omega
    · obtain rfl : d = 4 := by omega
      have HC := Lib.hid (context_any u r wr (fun j hj => ⟨(HR.out j hj).1, (HR.out j hj).2.1.rd⟩) (fun j hj => by have := (HR.out j hj).2.2.len; have := part_len a j; have := part_len b j; have := HLA.out; have := HLB.out; omega))
      have k0 := HU.out.cell 0 (by omega); have k1 := HU.out.cell 1 (by omega); have k2 := HU.out.cell 2 (by omega); have k3 := HU.out.cell 3 (by omega)
      have HPC : Hid (PutC f a b (pre r 4)) := put_pre fun j hj => (HR.out j hj).2.2
      have HLN : Hid ((pre r 4).length ≤ 4 * (n + m)) := pre_len (M := n + m) (fun j hj => by have := (HR.out j hj).2.2.len; have := part_len a j; have := part_len b j; have := HLA.out; have := HLB.out; omega) 4 (by omega)
      have HB5 : Hid (Below w.heap.size w wr) := HB2.out.trans (HBL.out.mono (by omega))
      clear HR HBL HP2 HQ2 HS2 HT2
      go_wp2_with (go_at_call 50; refine HC.out.mono ?_; rintro e w3 ⟨A3, c3, rfl, ho3, hb3⟩)
      go_ret
      exact ⟨pre r 4, (pre r 4).length, A3, c3, rfl, rfl, HPC.out, HLN.out, ho3.rd, HB5.out.trans (hb3.mono HB5.out.size)⟩
theorem unionC_any (a b : List S3) (n m : Nat) (A B : Option Addr) (c d : Nat) (w : World) (hla : a.length = n) (hlb : b.length = m) (hn : n ≤ 50000) (hm : m ≤ 50000) (hra : Rd w w.heap.size 3 A n c (spsC a)) (hrb : Rd w w.heap.size 3 B m d (spsC b)) (ha : RightC a) (hb : RightC b) :
    Calls Try.prog 29 #[.slice A n c, .slice B m d] w (PutIsC uniF a b n m w) := by
  have HC := Lib.hid (joinC_any uniF 56 (fun a b n m A B c d w h1 h2 h3 h4 h5 h6 h7 h8 => union_any a b n m A B c d w h1 h2 h3 h4 h5 h6 h7 h8) (enters_fn Try.func56 (by kernel_rfl) rfl) a b n m A B c d w hla hlb hn hm hra hrb ha hb)
  clear hla hlb hra hrb ha hb
  go_enter Try.func29, Try.ntmps29
  go_wp2_with (go_at_call 55; refine HC.out.mono ?_; rintro e w1 ⟨u, q, A1, c1, rfl, h1, h2, h3, h4, h5⟩)
  go_ret
  exact ⟨u, q, _, _, rfl, h1, h2, h3, h4, h5⟩
theorem meetC_any (a b : List S3) (n m : Nat) (A B : Option Addr) (c d : Nat) (w : World) (hla : a.length = n) (hlb : b.length = m) (hn : n ≤ 50000) (hm : m ≤ 50000) (hra : Rd w w.heap.size 3 A n c (spsC a)) (hrb : Rd w w.heap.size 3 B m d (spsC b)) (ha : RightC a) (hb : RightC b) :
    Calls Try.prog 30 #[.slice A n c, .slice B m d] w (PutIsC metF a b n m w) := by
  have HC := Lib.hid (joinC_any metF 57 (fun a b n m A B c d w h1 h2 h3 h4 h5 h6 h7 h8 => meet_any a b n m A B c d w h1 h2 h3 h4 h5 h6 h7 h8) (enters_fn Try.func57 (by kernel_rfl) rfl) a b n m A B c d w hla hlb hn hm hra hrb ha hb)
  clear hla hlb hra hrb ha hb
  go_enter Try.func30, Try.ntmps30
  go_wp2_with (go_at_call 55; refine HC.out.mono ?_; rintro e w1 ⟨u, q, A1, c1, rfl, h1, h2, h3, h4, h5⟩)
  go_ret
  exact ⟨u, q, _, _, rfl, h1, h2, h3, h4, h5⟩
theorem minusC_any (a b : List S3) (n m : Nat) (A B : Option Addr) (c d : Nat) (w : World) (hla : a.length = n) (hlb : b.length = m) (hn : n ≤ 50000) (hm : m ≤ 50000) (hra : Rd w w.heap.size 3 A n c (spsC a)) (hrb : Rd w w.heap.size 3 B m d (spsC b)) (ha : RightC a) (hb : RightC b) :
    Calls Try.prog 31 #[.slice A n c, .slice B m d] w (PutIsC minF a b n m w) := by
  have HC := Lib.hid (joinC_any minF 58 (fun a b n m A B c d w h1 h2 h3 h4 h5 h6 h7 h8 => minus_any a b n m A B c d w h1 h2 h3 h4 h5 h6 h7 h8) (enters_fn Try.func58 (by kernel_rfl) rfl) a b n m A B c d w hla hlb hn hm hra hrb ha hb)
  clear hla hlb hra hrb ha hb
  go_enter Try.func31, Try.ntmps31
  go_wp2_with (go_at_call 55; refine HC.out.mono ?_; rintro e w1 ⟨u, q, A1, c1, rfl, h1, h2, h3, h4, h5⟩)
  go_ret
  exact ⟨u, q, _, _, rfl, h1, h2, h3, h4, h5⟩
theorem unionC_bad (a b : List S3) (n m : Nat) (A B : Option Addr) (c d : Nat) (w : World) (hla : a.length = n) (hlb : b.length = m) (hn : n ≤ 50000) (hm : m ≤ 50000) (hra : Rd w w.heap.size 3 A n c (spsC a)) (hrb : Rd w w.heap.size 3 B m d (spsC b)) (hab : (rightCB a && rightCB b) = false) :
    Calls Try.prog 29 #[.slice A n c, .slice B m d] w fun e w' => e = .returned (.slice none 0 0) ∧ Below w.heap.size w w' := by
  have HC := Lib.hid (join_bad 56 a b n m A B c d w hla hlb (by omega) (by omega) hra hrb hab)
  clear hla hlb hra hrb hab
  go_enter Try.func29, Try.ntmps29
  go_wp2_with (go_at_call 55; refine HC.out.mono ?_; rintro e w1 ⟨rfl, h5⟩)
  go_ret
  exact ⟨rfl, h5⟩
theorem meetC_bad (a b : List S3) (n m : Nat) (A B : Option Addr) (c d : Nat) (w : World) (hla : a.length = n) (hlb : b.length = m) (hn : n ≤ 50000) (hm : m ≤ 50000) (hra : Rd w w.heap.size 3 A n c (spsC a)) (hrb : Rd w w.heap.size 3 B m d (spsC b)) (hab : (rightCB a && rightCB b) = false) :
    Calls Try.prog 30 #[.slice A n c, .slice B m d] w fun e w' => e = .returned (.slice none 0 0) ∧ Below w.heap.size w w' := by
  have HC := Lib.hid (join_bad 57 a b n m A B c d w hla hlb (by omega) (by omega) hra hrb hab)
  clear hla hlb hra hrb hab
  go_enter Try.func30, Try.ntmps30
  go_wp2_with (go_at_call 55; refine HC.out.mono ?_; rintro e w1 ⟨rfl, h5⟩)
  go_ret
  exact ⟨rfl, h5⟩
theorem minusC_bad (a b : List S3) (n m : Nat) (A B : Option Addr) (c d : Nat) (w : World) (hla : a.length = n) (hlb : b.length = m) (hn : n ≤ 50000) (hm : m ≤ 50000) (hra : Rd w w.heap.size 3 A n c (spsC a)) (hrb : Rd w w.heap.size 3 B m d (spsC b)) (hab : (rightCB a && rightCB b) = false) :
    Calls Try.prog 31 #[.slice A n c, .slice B m d] w fun e w' => e = .returned (.slice none 0 0) ∧ Below w.heap.size w w' := by
  have HC := Lib.hid (join_bad 58 a b n m A B c d w hla hlb (by omega) (by omega) hra hrb hab)
  clear hla hlb hra hrb hab
  go_enter Try.func31, Try.ntmps31
  go_wp2_with (go_at_call 55; refine HC.out.mono ?_; rintro e w1 ⟨rfl, h5⟩)
  go_ret
  exact ⟨rfl, h5⟩
set_option maxHeartbeats 400000 in
theorem leqC_any (a b : List S3) (n m : Nat) (A B : Option Addr) (c d : Nat) (w : World) (hla : a.length = n) (hlb : b.length = m) (hn : n ≤ 50000) (hm : m ≤ 50000) (hra : Rd w w.heap.size 3 A n c (spsC a)) (hrb : Rd w w.heap.size 3 B m d (spsC b)) (ha : RightC a) (hb : RightC b) :
    Calls Try.prog 33 #[.slice A n c, .slice B m d] w fun e w' => ∃ l, PutC minF a b l ∧ e = .returned (.bool (decide (l = []))) ∧ Below w.heap.size w w' := by
  have HT1 := Lib.hid (rightC_any a n A c w hla (by omega) hra true (rightCB_true ha))
  have HT2 := fun W (h : Below w.heap.size w W) => Lib.hid (rightC_any b m B d W hlb (by omega) ((hrb.below h).more h.size) true (rightCB_true hb))
  have HM := fun W (h : Below w.heap.size w W) => Lib.hid (minusC_any a b n m A B c d W hla hlb hn hm ((hra.below h).more h.size) ((hrb.below h).more h.size) ha hb)
  clear hra hrb hla hlb ha hb
  go_enter Try.func33, Try.ntmps33
  go_wp2_with fail
  refine HT1.out.mono ?_
  rintro e w1 ⟨rfl, hb1⟩
  go_wp2_with fail
  refine (HT2 w1 hb1).out.mono ?_
  rintro e w2 ⟨rfl, hb2⟩
  have hb12 := hb1.trans (hb2.mono hb1.size)
  go_wp2_with fail
  refine (HM w2 hb12).out.mono ?_
  rintro e w3 ⟨l, q, A3, c3, rfl, HL3, HP, hq, HR, hb3⟩
  have HB := Lib.hid (hb12.trans (hb3.mono hb12.size))
  obtain ⟨z, hz⟩ : ∃ z, z = decide (l = []) := ⟨_, rfl⟩
  have hz2 : ((q : Int) == 0) = z := by
    rw [hz, ← HL3.out]
    cases l with
    | nil => rfl
    | cons r l => simp; omega
  have HZ := Lib.hid hz
  clear hb1 hb2 hb3 hb12 hz
  go_wp2
  go_ret
  exact ⟨l, HP.out, ret_bool HZ.out, HB.out⟩
theorem leqC_bad (a b : List S3) (n m : Nat) (A B : Option Addr) (c d : Nat) (w : World) (hla : a.length = n) (hlb : b.length = m) (hn : n ≤ 50000) (hm : m ≤ 50000) (hra : Rd w w.heap.size 3 A n c (spsC a)) (hrb : Rd w w.heap.size 3 B m d (spsC b)) (hab : (rightCB a && rightCB b) = false) :
    Calls Try.prog 33 #[.slice A n c, .slice B m d] w fun e w' => e = .returned (.bool false) ∧ Below w.heap.size w w' := by
  obtain ⟨x, hx⟩ : ∃ x, x = rightCB a := ⟨_, rfl⟩
  obtain ⟨y, hy⟩ : ∃ y, y = rightCB b := ⟨_, rfl⟩
  rw [← hx, ← hy] at hab
  have HT1 := Lib.hid (rightC_any a n A c w hla (by omega) hra x hx.symm)
  have HT2 := fun W (h : Below w.heap.size w W) => Lib.hid (rightC_any b m B d W hlb (by omega) ((hrb.below h).more h.size) y hy.symm)
  clear hra hrb hla hlb hx hy
  cases x with
  | false =>
    go_enter Try.func33, Try.ntmps33
    go_wp2_with fail
    refine HT1.out.mono ?_
    rintro e w1 ⟨rfl, hb1⟩
    go_wp2
    go_ret
    exact ⟨rfl, hb1⟩
  | true =>
    rw [Bool.true_and] at hab
    subst hab
    go_enter Try.func33, Try.ntmps33
    go_wp2_with fail
    refine HT1.out.mono ?_
    rintro e w1 ⟨rfl, hb1⟩
    go_wp2_with fail
    refine (HT2 w1 hb1).out.mono ?_
    rintro e w2 ⟨rfl, hb2⟩
    go_wp2
    go_ret
    exact ⟨rfl, hb1.trans (hb2.mono hb1.size)⟩
end Cx
end Go.Proofs.Ytfkkjgebemnhnaa
