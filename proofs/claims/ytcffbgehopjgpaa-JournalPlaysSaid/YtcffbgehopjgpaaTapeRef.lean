/- Layer 17: the document's tape, by value. -/
import Derived.Test.YtcffbgehopjgpaaTapeMem
import Derived.BigQuiet
namespace Go.Proofs.Ytcffbgehopjgpaa
open Go.ChangeShapes Go.WideShapes Go.ChangeAt Go.RowKit
namespace Tpe
open By
set_option maxRecDepth 100000
set_option maxHeartbeats 1000000
def docV (s : S) (A : Option Addr) (n c : Nat) : Value := .agg #[.int .i64 s.cap, .slice A n c, .int .i64 s.sf, .int .i64 s.fu, .bool s.lo]
/-- what the document's call answers: the tape s', its bytes told by a slice of which 'ok' holds -/
def DocIs (ok : Nat → Prop) (s' : S) (w w' : World) (v : Value) : Prop := ∃ A n c, v = docV s' A n c ∧ s'.bs.length = n ∧ Rk w' ok A n c s'.bs ∧ Below w.heap.size w w'
theorem own_set {w : World} {base n c : Nat} {A : Option Addr} {xs : List Value} (h : Own w base 5 1 A n c xs) {g j : Nat} (hg : g < base) (u : Value) : Own (w.setCell ⟨g, j, none⟩ u) base 5 1 A n c xs := h.set_below (a := ⟨g, j, none⟩) hg u
theorem done_any (cap fu fu' : Int) (A : Option Addr) (n c : Nat) (sf : Nat) (l : Bool) (w : World) (h : (fu = 0 ∧ fu' = 0 ∧ l = true) ∨ (fu ≠ 0 ∧ fu' = less fu ∧ l = false)) (hr : -1 ≤ fu ∧ fu ≤ 9223372036854775807) :
    Calls Try.prog 42 #[.agg #[.int .i64 cap, .slice A n c, .int .i64 sf, .int .i64 fu, .bool false]] w fun e w' => e = .returned (.agg #[.int .i64 cap, .slice A n c, .int .i64 sf, .int .i64 fu', .bool l]) ∧ Below w.heap.size w w' := by
  rcases h with ⟨rfl, rfl, rfl⟩ | ⟨h1, rfl, rfl⟩
  · go_enter Try.func42, Try.ntmps42
    go_wp2
    refine bodyPost_ret (v := .agg #[.int .i64 cap, .slice A n c, .int .i64 sf, .int .i64 0, .bool true]) (by simp [results, Try.results42, go_sem]) rfl ⟨rfl, ((Below.refl _ _).alloc (Nat.le_refl _) _).alloc (by simp) _⟩
  · by_cases h2 : 0 < fu
    · have h3 : (fu == 0) = false := by simp; omega
      have h4 : decide (0 < fu) = true := decide_eq_true h2
      have h5 : less fu = fu - 1 := by unfold less; rw [if_pos h2]
      rw [h5]
      go_enter Try.func42, Try.ntmps42
      go_wp2
      refine bodyPost_ret (v := .agg #[.int .i64 cap, .slice A n c, .int .i64 sf, .int .i64 (fu - 1), .bool false]) (by simp [results, Try.results42, go_sem]) rfl ⟨rfl, ((Below.refl _ _).alloc (Nat.le_refl _) _).alloc (by simp) _⟩
    · obtain rfl : fu = -1 := by omega
      have h5 : less (-1) = -1 := by unfold less; simp
      rw [h5]
      go_enter Try.func42, Try.ntmps42
      go_wp2
      refine bodyPost_ret (v := .agg #[.int .i64 cap, .slice A n c, .int .i64 sf, .int .i64 (-1), .bool false]) (by simp [results, Try.results42, go_sem]) rfl ⟨rfl, ((Below.refl _ _).alloc (Nat.le_refl _) _).alloc (by simp) _⟩
theorem refnew_any (cap : Int) (w : World) (ok : Nat → Prop) :
    Calls Try.prog 11 #[.int .i64 cap] w fun e w' => ∃ v, e = .returned v ∧ DocIs ok ⟨cap, [], 0, -1, false⟩ w w' v := by
  go_enter Try.func11, Try.ntmps11
  go_wp2
  refine bodyPost_ret (v := .agg #[.int .i64 cap, .slice none 0 0, .int .i64 0, .int .i64 (-1), .bool false]) (by simp [results, Try.results11, go_sem]) rfl ⟨_, rfl, none, 0, 0, rfl, rfl, Rk.nil, (Below.refl _ _).alloc (Nat.le_refl _) _⟩
/-- the two boxes that a call lays -/
theorem boxes_any (cap fu : Int) (A : Option Addr) (n c sf : Nat) (w : World) : ∃ (p r : Nat) (W : World), Hid (p = w.heap.size) ∧ Hid (r = p + 1) ∧ Hid (W = (w.alloc (.cells #[.int .i64 cap, .slice A n c, .int .i64 sf, .int .i64 fu, .bool false] 33)).alloc (.cells #[.int .i64 0, .slice none 0 0, .int .i64 0, .int .i64 0, .bool false] 33)) ∧
    Hid (Kept [(⟨p, 0, none⟩, .int .i64 cap), (⟨p, 1, none⟩, .slice A n c), (⟨p, 2, none⟩, .int .i64 sf), (⟨p, 3, none⟩, .int .i64 fu), (⟨p, 4, none⟩, .bool false), (⟨r, 0, none⟩, .int .i64 0), (⟨r, 1, none⟩, .slice none 0 0), (⟨r, 2, none⟩, .int .i64 0), (⟨r, 3, none⟩, .int .i64 0), (⟨r, 4, none⟩, .bool false)] w W) ∧ Hid (Free r W) := by
  refine ⟨_, _, _, rfl, rfl, rfl, ?_, ⟨by simp, fun j => by go_simp⟩⟩
  refine ((((((((((Kept.nil_of (((Below.refl w.heap.size w).alloc (Nat.le_refl _) _).alloc (by simp) _)).cons_of ?_).cons_of ?_).cons_of ?_).cons_of ?_).cons_of ?_).cons_of ?_).cons_of ?_).cons_of ?_).cons_of ?_).cons_of ?_ <;> go_simp
/-- the five stores into the box of what is answered -/
theorem st5 {W W9 : World} {r : Nat} {a0 a1 a2 a3 a4 b0 b1 b2 b3 b4 : Value} (h : W9 = ((((W.setCell ⟨r, 0, none⟩ a0).setCell ⟨r, 1, none⟩ a1).setCell ⟨r, 2, none⟩ a2).setCell ⟨r, 3, none⟩ a3).setCell ⟨r, 4, none⟩ a4) (z0 : W.cell? ⟨r, 0, none⟩ = some b0) (z1 : W.cell? ⟨r, 1, none⟩ = some b1) (z2 : W.cell? ⟨r, 2, none⟩ = some b2) (z3 : W.cell? ⟨r, 3, none⟩ = some b3) (z4 : W.cell? ⟨r, 4, none⟩ = some b4) :
    W9.cell? ⟨r, 0, none⟩ = some a0 ∧ W9.cell? ⟨r, 1, none⟩ = some a1 ∧ W9.cell? ⟨r, 2, none⟩ = some a2 ∧ W9.cell? ⟨r, 3, none⟩ = some a3 ∧ W9.cell? ⟨r, 4, none⟩ = some a4 := by
  subst h
  refine ⟨?_, ?_, ?_, ?_, ?_⟩ <;> go_simp
theorem own5 {W W9 : World} {r base n c : Nat} {A : Option Addr} {xs : List Value} {a0 a1 a2 a3 a4 : Value} (h : W9 = ((((W.setCell ⟨r, 0, none⟩ a0).setCell ⟨r, 1, none⟩ a1).setCell ⟨r, 2, none⟩ a2).setCell ⟨r, 3, none⟩ a3).setCell ⟨r, 4, none⟩ a4) (ho : Own W base 5 1 A n c xs) (hr : r < base) : Own W9 base 5 1 A n c xs := by
  rw [h]
  exact own_set (own_set (own_set (own_set (own_set ho hr _) hr _) hr _) hr _) hr _
theorem bel5 {w W W9 : World} {r : Nat} {a0 a1 a2 a3 a4 : Value} (h : W9 = ((((W.setCell ⟨r, 0, none⟩ a0).setCell ⟨r, 1, none⟩ a1).setCell ⟨r, 2, none⟩ a2).setCell ⟨r, 3, none⟩ a3).setCell ⟨r, 4, none⟩ a4) (hb : Below w.heap.size w W) (hr : w.heap.size ≤ r) : Below w.heap.size w W9 := by
  rw [h]
  exact ((((hb.setCell (p := ⟨r, 0, none⟩) hr _).setCell (p := ⟨r, 1, none⟩) hr _).setCell (p := ⟨r, 2, none⟩) hr _).setCell (p := ⟨r, 3, none⟩) hr _).setCell (p := ⟨r, 4, none⟩) hr _
/-- the box of what 'done' answered -/
theorem box5 (cap fu : Int) (A : Option Addr) (n c sf : Nat) (l : Bool) (w : World) : ∃ (q : Nat) (W : World), Hid (q = w.heap.size) ∧ Hid (W = w.alloc (.cells #[.int .i64 cap, .slice A n c, .int .i64 sf, .int .i64 fu, .bool l] 33)) ∧ Hid (Below w.heap.size w W) ∧ Hid (W.heap.size = q + 1) ∧ Hid (Free q W) ∧
    Hid (W.cell? ⟨q, 0, none⟩ = some (.int .i64 cap) ∧ W.cell? ⟨q, 1, none⟩ = some (.slice A n c) ∧ W.cell? ⟨q, 2, none⟩ = some (.int .i64 sf) ∧ W.cell? ⟨q, 3, none⟩ = some (.int .i64 fu) ∧ W.cell? ⟨q, 4, none⟩ = some (.bool l)) := by
  refine ⟨_, _, rfl, rfl, (Below.refl _ _).alloc (Nat.le_refl _) _, by unfold Hid; simp, ⟨by simp, fun j => by go_simp⟩, ?_⟩
  refine ⟨?_, ?_, ?_, ?_, ?_⟩ <;> go_simp
section
variable {w : World} {ok : Nat → Prop} {A Ab : Option Addr} {n c nb cb : Nat} {b : List UInt8} {s : S}
theorem refapp_any (hok : ∀ x, w.heap.size ≤ x → ok x) (h : Rk w ok A n c s.bs) (hcap : 0 ≤ s.cap ∧ s.cap ≤ 1048576) (hr : -1 ≤ s.fu ∧ s.fu ≤ 9223372036854775807) (hn : n ≤ 70000) (hb : Rd w w.heap.size 1 Ab nb cb (u8s b)) (hnb : nb ≤ 70000) :
    Calls Try.prog 34 #[docV s A n c, .slice Ab nb cb] w fun e w' => ∃ v, e = .returned (.tuple #[v, .int .i64 (app s b).2]) ∧ DocIs ok (app s b).1 w w' v := by
  obtain ⟨cap, bs, sf, fu, lz⟩ := s
  have hl := h.len
  have hlb := len8 hb
  unfold docV
  dsimp only at h hcap hr hl ⊢
  have HR := Lib.hid h
  have HL := Lib.hid hl
  have HB := Lib.hid hb
  cases lz with
  | true =>
    clear h hl hb hlb
    go_enter Try.func34, Try.ntmps34
    go_wp2
    refine bodyPost_ret (v := .tuple #[.agg #[.int .i64 cap, .slice A n c, .int .i64 sf, .int .i64 fu, .bool true], .int .i64 9]) (by simp [results, Try.results34, go_sem]) rfl ⟨_, rfl, A, n, c, rfl, HL.out, HR.out.later (((Below.refl w.heap.size w).alloc (Nat.le_refl _) _).alloc (by simp) _), ((Below.refl w.heap.size w).alloc (Nat.le_refl _) _).alloc (by simp) _⟩
  | false =>
    by_cases hf : cap - (n : Int) < nb
    · have e1 : app ⟨cap, bs, sf, fu, false⟩ b = (⟨cap, bs, sf, fu, false⟩, 4) := by unfold app; dsimp only; rw [hl, hlb]; simp [hf]
      have h1 : decide (cap - (n : Int) < (nb : Int)) = true := decide_eq_true hf
      rw [e1]
      clear h hl hb hlb e1
      go_enter Try.func34, Try.ntmps34
      go_wp2
      refine bodyPost_ret (v := .tuple #[.agg #[.int .i64 cap, .slice A n c, .int .i64 sf, .int .i64 fu, .bool false], .int .i64 4]) (by simp [results, Try.results34, go_sem]) rfl ⟨_, rfl, A, n, c, rfl, HL.out, HR.out.later (((Below.refl w.heap.size w).alloc (Nat.le_refl _) _).alloc (by simp) _), ((Below.refl w.heap.size w).alloc (Nat.le_refl _) _).alloc (by simp) _⟩
    · have h1 : decide (cap - (n : Int) < (nb : Int)) = false := decide_eq_false hf
      obtain ⟨fu', l, hd⟩ : ∃ (fu' : Int) (l : Bool), (fu = 0 ∧ fu' = 0 ∧ l = true) ∨ (fu ≠ 0 ∧ fu' = less fu ∧ l = false) := by
        by_cases h0 : fu = 0
        · exact ⟨_, _, .inl ⟨h0, rfl, rfl⟩⟩
        · exact ⟨_, _, .inr ⟨h0, rfl, rfl⟩⟩
      have e1 : app ⟨cap, bs, sf, fu, false⟩ b = (⟨cap, bs ++ b, sf, fu', l⟩, if l then 9 else 0) := by
        unfold app
        dsimp only
        rw [hl, hlb]
        rcases hd with ⟨h0, h2, h3⟩ | ⟨h0, h2, h3⟩ <;> (subst h2; subst h3; simp [hf, h0])
      have HD := Lib.hid (done_any cap fu fu' A n c sf l)
      have HDD := Lib.hid hd
      have HR9 := Lib.hid hr
      have hlen : (bs ++ b).length = n + nb := by rw [List.length_append, hl, hlb]
      rw [e1]
      obtain ⟨p, r, W, HP, HRR, HW, HK, HFR⟩ := boxes_any cap fu A n c sf w
      have k0 := HK.out.c0
      have k1 := HK.out.c1
      have k2 := HK.out.c2
      have k3 := HK.out.c3
      have k4 := HK.out.c4
      clear h hl hb hlb e1 hd hr
      go_enter Try.func34, Try.ntmps34
      go_wp2_with fail
      rw [← HW.out]
      try rw [← HP.out]
      try rw [← HRR.out]
      refine (HD.out W HDD.out HR9.out).mono ?_
      rintro e v1 ⟨rfl, hb9⟩
      have HK1 := Lib.hid (HK.out.later hb9)
      have HF1 := Lib.hid (HFR.out.later hb9)
      have HB1 : Hid (Below w.heap.size w v1) := HK1.out.below
      have hrp : r = p + 1 := HRR.out
      have hpw : p = w.heap.size := HP.out
      have hrv : r < v1.heap.size := HF1.out.1
      have hpv : p < v1.heap.size := by omega
      clear hrp hpw k0 k1 k2 k3 k4 hb9 HK HFR HD HDD HR9
      have k0 := HK1.out.c0
      have k1 := HK1.out.c1
      have k2 := HK1.out.c2
      have k3 := HK1.out.c3
      have k4 := HK1.out.c4
      obtain ⟨q, V, HQ, HV, HBV, HSV, HFQ, HCQ⟩ := box5 cap fu' A n c sf l v1
      have hbV := HBV.out
      have hRV := HR.out.later (HB1.out.trans (hbV.mono HB1.out.size))
      have hBV2 := HB.out.later (HB1.out.trans (hbV.mono HB1.out.size))
      obtain ⟨A1, c1, w2, hrun1, ho1, hb1⟩ := run_new8 V hRV.rd (Nat.le_refl _) (by omega)
      obtain ⟨A2, c2, w3, hrun2, ho2, hb2⟩ := run_app8 w2 V.heap.size hb1.size (.slice A1 n c1) bs (by rw [HL.out]; exact ho1.row) ((hBV2.below hb1).more hb1.size) (by have := HL.out; omega)
      rw [hlen] at hrun2 ho2
      have hb3 := hb1.trans hb2
      have hrV : r < V.heap.size := Nat.lt_of_lt_of_le hrv HBV.out.size
      have z0 := ((hb3).cell (p := ⟨r, 0, none⟩) hrV).trans ((HBV.out.cell (p := ⟨r, 0, none⟩) hrv).trans (HK1.out.c5))
      have m0 : w3.frozen? ⟨r, 0, none⟩ = false := ((hb3).frozen (p := ⟨r, 0, none⟩) hrV).trans ((HBV.out.frozen (p := ⟨r, 0, none⟩) hrv).trans (HF1.out.2 0))
      have z1 := ((hb3).cell (p := ⟨r, 1, none⟩) hrV).trans ((HBV.out.cell (p := ⟨r, 1, none⟩) hrv).trans (HK1.out.c6))
      have m1 : w3.frozen? ⟨r, 1, none⟩ = false := ((hb3).frozen (p := ⟨r, 1, none⟩) hrV).trans ((HBV.out.frozen (p := ⟨r, 1, none⟩) hrv).trans (HF1.out.2 1))
      have z2 := ((hb3).cell (p := ⟨r, 2, none⟩) hrV).trans ((HBV.out.cell (p := ⟨r, 2, none⟩) hrv).trans (HK1.out.c7))
      have m2 : w3.frozen? ⟨r, 2, none⟩ = false := ((hb3).frozen (p := ⟨r, 2, none⟩) hrV).trans ((HBV.out.frozen (p := ⟨r, 2, none⟩) hrv).trans (HF1.out.2 2))
      have z3 := ((hb3).cell (p := ⟨r, 3, none⟩) hrV).trans ((HBV.out.cell (p := ⟨r, 3, none⟩) hrv).trans (HK1.out.t8.c0))
      have m3 : w3.frozen? ⟨r, 3, none⟩ = false := ((hb3).frozen (p := ⟨r, 3, none⟩) hrV).trans ((HBV.out.frozen (p := ⟨r, 3, none⟩) hrv).trans (HF1.out.2 3))
      have z4 := ((hb3).cell (p := ⟨r, 4, none⟩) hrV).trans ((HBV.out.cell (p := ⟨r, 4, none⟩) hrv).trans (HK1.out.t8.c1))
      have m4 : w3.frozen? ⟨r, 4, none⟩ = false := ((hb3).frozen (p := ⟨r, 4, none⟩) hrV).trans ((HBV.out.frozen (p := ⟨r, 4, none⟩) hrv).trans (HF1.out.2 4))
      have hqV : q < V.heap.size := by have := HSV.out; omega
      have y0 := ((hb3).cell (p := ⟨q, 0, none⟩) hqV).trans HCQ.out.1
      have y1 := ((hb3).cell (p := ⟨q, 1, none⟩) hqV).trans HCQ.out.2.1
      have y2 := ((hb3).cell (p := ⟨q, 2, none⟩) hqV).trans HCQ.out.2.2.1
      have y3 := ((hb3).cell (p := ⟨q, 3, none⟩) hqV).trans HCQ.out.2.2.2.1
      have y4 := ((hb3).cell (p := ⟨q, 4, none⟩) hqV).trans HCQ.out.2.2.2.2
      have hfq : ∀ j, w3.frozen? ⟨q, j, none⟩ = false := fun j => ((hb3).frozen (p := ⟨q, j, none⟩) hqV).trans (HFQ.out.2 j)
      have m1q := hfq 1
      obtain ⟨w4, hw4⟩ : ∃ W, W = w3.setCell ⟨q, 1, none⟩ (.slice A2 (n + nb) c2) := ⟨_, rfl⟩
      have hqr : q ≠ r := by have := HQ.out; omega
      have hwq : w.heap.size ≤ q := by have h1 := HQ.out; have h2 := HB1.out.size; omega
      have hwr : w.heap.size ≤ r := by have h1 := HRR.out; have h2 := HP.out; omega
      have HOW : Hid (Own w4 V.heap.size 5 1 A2 (n + nb) c2 (u8s (bs ++ b))) := by
        unfold Hid
        rw [hw4]
        exact own_set ho2 hqV _
      have HBW : Hid (Below w.heap.size w w4) := by
        unfold Hid
        rw [hw4]
        exact ((HB1.out.trans (hbV.mono HB1.out.size)).trans (hb3.mono (HB1.out.trans (hbV.mono HB1.out.size)).size)).setCell (p := ⟨q, 1, none⟩) hwq _
      have HVS : Hid (w.heap.size ≤ V.heap.size) := (HB1.out.trans (hbV.mono HB1.out.size)).size
      have hx0 : w4.cell? ⟨r, 0, none⟩ = some (.int .i64 0) := by rw [hw4]; go_simp
      have hx1 : w4.cell? ⟨r, 1, none⟩ = some (.slice none 0 0) := by rw [hw4]; go_simp
      have hx2 : w4.cell? ⟨r, 2, none⟩ = some (.int .i64 0) := by rw [hw4]; go_simp
      have hx3 : w4.cell? ⟨r, 3, none⟩ = some (.int .i64 0) := by rw [hw4]; go_simp
      have hx4 : w4.cell? ⟨r, 4, none⟩ = some (.bool false) := by rw [hw4]; go_simp
      have HX := Lib.hid (And.intro hx0 (And.intro hx1 (And.intro hx2 (And.intro hx3 hx4))))
      have Hrun1 := Lib.hid hrun1
      have Hrun2 := Lib.hid hrun2
      rw [HSV.out, HQ.out, HV.out] at Hrun1
      have HW4 := Lib.hid hw4
      have hrq : r < q := by have := HQ.out; omega
      clear hbV hRV hBV2 hrun1 hrun2 ho1 ho2 hb1 hb2 hb3 hw4 hfq hx0 hx1 hx2 hx3 hx4
      have hq0 := HQ.out
      subst hq0
      cases l <;> (
        go_wp2_with (at_builtin; first | refine Lib.wpList_append_run _ rfl _ _ _ _ rfl (.slice A1 n c1) (.slice Ab nb cb) rfl rfl _ _ Hrun2.out ?_ | refine Lib.wpList_append_run _ rfl _ _ _ _ rfl _ _ rfl rfl _ _ Hrun1.out ?_)
        first
          | (obtain ⟨w9, hw9⟩ : ∃ W9, W9 = ((((w4.setCell ⟨r, 0, none⟩ (.int .i64 cap)).setCell ⟨r, 1, none⟩ (.slice A2 (n + nb) c2)).setCell ⟨r, 2, none⟩ (.int .i64 sf)).setCell ⟨r, 3, none⟩ (.int .i64 fu')).setCell ⟨r, 4, none⟩ (.bool false) := ⟨_, rfl⟩
             have hl5 := st5 hw9 HX.out.1 HX.out.2.1 HX.out.2.2.1 HX.out.2.2.2.1 HX.out.2.2.2.2
             obtain ⟨l0, l1, l2, l3, l4⟩ := hl5
             have ho9 := own5 hw9 HOW.out hrV
             have hb9 := bel5 hw9 HBW.out hwr
             rw [HW4.out] at hw9
             rw [← hw9]
             clear hw9
             exact bodyPost_ret (v := .tuple #[.agg #[.int .i64 cap, .slice A2 (n + nb) c2, .int .i64 sf, (.int .i64 fu'), (.bool false)], .int .i64 0]) (by simp [results, Try.results34, go_sem, l0, l1, l2, l3, l4]) rfl ⟨_, rfl, _, _, _, rfl, hlen, Rk.of_own ho9 (fun x hx => hok x (Nat.le_trans HVS.out hx)), hb9⟩)
          | (obtain ⟨w9, hw9⟩ : ∃ W9, W9 = ((((w4.setCell ⟨r, 0, none⟩ (.int .i64 cap)).setCell ⟨r, 1, none⟩ (.slice A2 (n + nb) c2)).setCell ⟨r, 2, none⟩ (.int .i64 sf)).setCell ⟨r, 3, none⟩ (.int .i64 fu')).setCell ⟨r, 4, none⟩ (.bool true) := ⟨_, rfl⟩
             have hl5 := st5 hw9 HX.out.1 HX.out.2.1 HX.out.2.2.1 HX.out.2.2.2.1 HX.out.2.2.2.2
             obtain ⟨l0, l1, l2, l3, l4⟩ := hl5
             have ho9 := own5 hw9 HOW.out hrV
             have hb9 := bel5 hw9 HBW.out hwr
             rw [HW4.out] at hw9
             rw [← hw9]
             clear hw9
             exact bodyPost_ret (v := .tuple #[.agg #[.int .i64 cap, .slice A2 (n + nb) c2, .int .i64 sf, (.int .i64 fu'), (.bool true)], .int .i64 9]) (by simp [results, Try.results34, go_sem, l0, l1, l2, l3, l4]) rfl ⟨_, rfl, _, _, _, rfl, hlen, Rk.of_own ho9 (fun x hx => hok x (Nat.le_trans HVS.out hx)), hb9⟩)
)
end
section
variable {w : World} {ok : Nat → Prop} {A Ab : Option Addr} {n c nb cb : Nat} {b : List UInt8} {s : S}
theorem refsync_any (h : Rk w ok A n c s.bs) (hr : -1 ≤ s.fu ∧ s.fu ≤ 9223372036854775807) (_ : n ≤ 70000) :
    Calls Try.prog 35 #[docV s A n c] w fun e w' => ∃ v, e = .returned (.tuple #[v, .int .i64 (syn s).2]) ∧ DocIs ok (syn s).1 w w' v := by
  obtain ⟨cap, bs, sf, fu, lz⟩ := s
  have hl := h.len
  unfold docV
  dsimp only at h hl hr ⊢
  have HR := Lib.hid h
  have HL := Lib.hid hl
  cases lz with
  | true =>
    clear h hl
    go_enter Try.func35, Try.ntmps35
    go_wp2
    refine bodyPost_ret (v := .tuple #[.agg #[.int .i64 cap, .slice A n c, .int .i64 sf, .int .i64 fu, .bool true], .int .i64 9]) (by simp [results, Try.results35, go_sem]) rfl ⟨_, rfl, A, n, c, rfl, HL.out, HR.out.later (((Below.refl w.heap.size w).alloc (Nat.le_refl _) _).alloc (by simp) _), ((Below.refl w.heap.size w).alloc (Nat.le_refl _) _).alloc (by simp) _⟩
  | false =>
    by_cases h0 : fu = 0
    · subst h0
      have HD := Lib.hid (done_any cap 0 0 A n c sf true)
      have HDD := Lib.hid (show ((0 : Int) = 0 ∧ (0 : Int) = 0 ∧ true = true) ∨ ((0 : Int) ≠ 0 ∧ (0 : Int) = less 0 ∧ true = false) from .inl ⟨rfl, rfl, rfl⟩)
      have HR9 := Lib.hid hr
      obtain ⟨p, r, W, HP, HRR, HW, HK, HFR⟩ := boxes_any cap 0 A n c sf w
      have k0 := HK.out.c0
      have k1 := HK.out.c1
      have k2 := HK.out.c2
      have k3 := HK.out.c3
      have k4 := HK.out.c4
      clear h hl hr
      go_enter Try.func35, Try.ntmps35
      go_wp2_with fail
      rw [← HW.out]
      try rw [← HP.out]
      try rw [← HRR.out]
      refine (HD.out W HDD.out HR9.out).mono ?_
      rintro e v1 ⟨rfl, hb9⟩
      have HK1 := Lib.hid (HK.out.later hb9)
      have HF1 := Lib.hid (HFR.out.later hb9)
      have HB1 : Hid (Below w.heap.size w v1) := HK1.out.below
      have hrp : r = p + 1 := HRR.out
      have hpw : p = w.heap.size := HP.out
      have hrv : r < v1.heap.size := HF1.out.1
      have hpv : p < v1.heap.size := by omega
      clear hrp hpw k0 k1 k2 k3 k4 hb9 HK HFR HD HDD HR9
      have k0 := HK1.out.c0
      have k1 := HK1.out.c1
      have k2 := HK1.out.c2
      have k3 := HK1.out.c3
      have k4 := HK1.out.c4
      obtain ⟨q, V, HQ, HV, HBV, HSV, HFQ, HCQ⟩ := box5 cap 0 A n c sf true v1
      have hrV : r < V.heap.size := Nat.lt_of_lt_of_le hrv HBV.out.size
      have z0 := HK1.out.c5
      have m0 := HF1.out.2 0
      have z1 := HK1.out.c6
      have m1 := HF1.out.2 1
      have z2 := HK1.out.c7
      have m2 := HF1.out.2 2
      have z3 := HK1.out.t8.c0
      have m3 := HF1.out.2 3
      have z4 := HK1.out.t8.c1
      have m4 := HF1.out.2 4
      have hwr : w.heap.size ≤ r := by have h1 := HRR.out; have h2 := HP.out; omega
      have hq0 := HQ.out
      subst hq0
      go_wp2_with fail
      obtain ⟨u9, hu9⟩ : ∃ W9, W9 = ((((v1.setCell ⟨r, 0, none⟩ (.int .i64 cap)).setCell ⟨r, 1, none⟩ (.slice A n c)).setCell ⟨r, 2, none⟩ (.int .i64 sf)).setCell ⟨r, 3, none⟩ (.int .i64 0)).setCell ⟨r, 4, none⟩ (.bool true) := ⟨_, rfl⟩
      obtain ⟨l0, l1, l2, l3, l4⟩ := st5 hu9 z0 z1 z2 z3 z4
      have hbu := bel5 hu9 HB1.out hwr
      have hru : r < u9.heap.size := World.block_lt_of_cell? u9 _ l0
      obtain ⟨w9, hw9⟩ : ∃ W9, W9 = u9.alloc (.cells #[.int .i64 cap, .slice A n c, .int .i64 sf, .int .i64 0, .bool true] 33) := ⟨_, rfl⟩
      have hbx : Below u9.heap.size u9 w9 := by rw [hw9]; exact (Below.refl _ _).alloc (Nat.le_refl _) _
      have l0 := (hbx.cell (p := ⟨r, 0, none⟩) hru).trans l0
      have l1 := (hbx.cell (p := ⟨r, 1, none⟩) hru).trans l1
      have l2 := (hbx.cell (p := ⟨r, 2, none⟩) hru).trans l2
      have l3 := (hbx.cell (p := ⟨r, 3, none⟩) hru).trans l3
      have l4 := (hbx.cell (p := ⟨r, 4, none⟩) hru).trans l4
      have hb9 := hbu.trans (hbx.mono hbu.size)
      clear hbx hru hbu
      rw [hu9] at hw9
      rw [← hw9]
      clear hw9 hu9
      exact bodyPost_ret (v := .tuple #[.agg #[.int .i64 cap, .slice A n c, .int .i64 sf, .int .i64 0, .bool true], .int .i64 9]) (by simp [results, Try.results35, go_sem, l0, l1, l2, l3, l4]) rfl ⟨_, rfl, _, _, _, rfl, HL.out, HR.out.later hb9, hb9⟩
    · have HD := Lib.hid (done_any cap fu (less fu) A n c sf false)
      have HDD := Lib.hid (show (fu = 0 ∧ less fu = 0 ∧ false = true) ∨ (fu ≠ 0 ∧ less fu = less fu ∧ false = false) from .inr ⟨h0, rfl, rfl⟩)
      have HR9 := Lib.hid hr
      have e1 : syn ⟨cap, bs, sf, fu, false⟩ = (⟨cap, bs, n, less fu, false⟩, 0) := by unfold syn; dsimp only; rw [hl]; simp [h0]
      rw [e1]
      obtain ⟨fu', hfu⟩ : ∃ x, x = less fu := ⟨_, rfl⟩
      rw [← hfu] at HD HDD ⊢
      obtain ⟨p, r, W, HP, HRR, HW, HK, HFR⟩ := boxes_any cap fu A n c sf w
      have k0 := HK.out.c0
      have k1 := HK.out.c1
      have k2 := HK.out.c2
      have k3 := HK.out.c3
      have k4 := HK.out.c4
      clear h hl hr h0 e1 hfu
      go_enter Try.func35, Try.ntmps35
      go_wp2_with fail
      rw [← HW.out]
      try rw [← HP.out]
      try rw [← HRR.out]
      refine (HD.out W HDD.out HR9.out).mono ?_
      rintro e v1 ⟨rfl, hb9⟩
      have HK1 := Lib.hid (HK.out.later hb9)
      have HF1 := Lib.hid (HFR.out.later hb9)
      have HB1 : Hid (Below w.heap.size w v1) := HK1.out.below
      have hrp : r = p + 1 := HRR.out
      have hpw : p = w.heap.size := HP.out
      have hrv : r < v1.heap.size := HF1.out.1
      have hpv : p < v1.heap.size := by omega
      clear hrp hpw k0 k1 k2 k3 k4 hb9 HK HFR HD HDD HR9
      have k0 := HK1.out.c0
      have k1 := HK1.out.c1
      have k2 := HK1.out.c2
      have k3 := HK1.out.c3
      have k4 := HK1.out.c4
      obtain ⟨q, V, HQ, HV, HBV, HSV, HFQ, HCQ⟩ := box5 cap fu' A n c n false v1
      have hrV : r < V.heap.size := Nat.lt_of_lt_of_le hrv HBV.out.size
      have z0 := HK1.out.c5
      have m0 := HF1.out.2 0
      have z1 := HK1.out.c6
      have m1 := HF1.out.2 1
      have z2 := HK1.out.c7
      have m2 := HF1.out.2 2
      have z3 := HK1.out.t8.c0
      have m3 := HF1.out.2 3
      have z4 := HK1.out.t8.c1
      have m4 := HF1.out.2 4
      have hwr : w.heap.size ≤ r := by have h1 := HRR.out; have h2 := HP.out; omega
      have hq0 := HQ.out
      subst hq0
      go_wp2_with fail
      obtain ⟨u9, hu9⟩ : ∃ W9, W9 = ((((v1.setCell ⟨r, 0, none⟩ (.int .i64 cap)).setCell ⟨r, 1, none⟩ (.slice A n c)).setCell ⟨r, 2, none⟩ (.int .i64 n)).setCell ⟨r, 3, none⟩ (.int .i64 fu')).setCell ⟨r, 4, none⟩ (.bool false) := ⟨_, rfl⟩
      obtain ⟨l0, l1, l2, l3, l4⟩ := st5 hu9 z0 z1 z2 z3 z4
      have hbu := bel5 hu9 HB1.out hwr
      have hru : r < u9.heap.size := World.block_lt_of_cell? u9 _ l0
      obtain ⟨w9, hw9⟩ : ∃ W9, W9 = u9.alloc (.cells #[.int .i64 cap, .slice A n c, .int .i64 n, .int .i64 fu', .bool false] 33) := ⟨_, rfl⟩
      have hbx : Below u9.heap.size u9 w9 := by rw [hw9]; exact (Below.refl _ _).alloc (Nat.le_refl _) _
      have l0 := (hbx.cell (p := ⟨r, 0, none⟩) hru).trans l0
      have l1 := (hbx.cell (p := ⟨r, 1, none⟩) hru).trans l1
      have l2 := (hbx.cell (p := ⟨r, 2, none⟩) hru).trans l2
      have l3 := (hbx.cell (p := ⟨r, 3, none⟩) hru).trans l3
      have l4 := (hbx.cell (p := ⟨r, 4, none⟩) hru).trans l4
      have hb9 := hbu.trans (hbx.mono hbu.size)
      clear hbx hru hbu
      rw [hu9] at hw9
      rw [← hw9]
      clear hw9 hu9
      exact bodyPost_ret (v := .tuple #[.agg #[.int .i64 cap, .slice A n c, .int .i64 n, .int .i64 fu', .bool false], .int .i64 0]) (by simp [results, Try.results35, go_sem, l0, l1, l2, l3, l4]) rfl ⟨_, rfl, _, _, _, rfl, HL.out, HR.out.later hb9, hb9⟩
theorem refarm_any (k : Int) (h : Rk w ok A n c s.bs) :
    Calls Try.prog 18 #[docV s A n c, .int .i64 k] w fun e w' => ∃ v, e = .returned (.tuple #[v, .int .i64 (arm s k).2]) ∧ DocIs ok (arm s k).1 w w' v := by
  obtain ⟨cap, bs, sf, fu, lz⟩ := s
  have hl := h.len
  unfold docV
  dsimp only at h hl ⊢
  have HR := Lib.hid h
  have HL := Lib.hid hl
  cases lz with
  | true =>
    clear h hl
    go_enter Try.func18, Try.ntmps18
    go_wp2
    refine bodyPost_ret (v := .tuple #[.agg #[.int .i64 cap, .slice A n c, .int .i64 sf, .int .i64 fu, .bool true], .int .i64 9]) (by simp [results, Try.results18, go_sem]) rfl ⟨_, rfl, A, n, c, rfl, HL.out, HR.out.later (((Below.refl w.heap.size w).alloc (Nat.le_refl _) _).alloc (by simp) _), ((Below.refl w.heap.size w).alloc (Nat.le_refl _) _).alloc (by simp) _⟩
  | false =>
    by_cases hf : k < 0
    · have e1 : arm ⟨cap, bs, sf, fu, false⟩ k = (⟨cap, bs, sf, fu, false⟩, 1) := by unfold arm; simp [hf]
      have h1 : decide (k < 0) = true := decide_eq_true hf
      rw [e1]
      clear h hl e1
      go_enter Try.func18, Try.ntmps18
      go_wp2
      refine bodyPost_ret (v := .tuple #[.agg #[.int .i64 cap, .slice A n c, .int .i64 sf, .int .i64 fu, .bool false], .int .i64 1]) (by simp [results, Try.results18, go_sem]) rfl ⟨_, rfl, A, n, c, rfl, HL.out, HR.out.later (((Below.refl w.heap.size w).alloc (Nat.le_refl _) _).alloc (by simp) _), ((Below.refl w.heap.size w).alloc (Nat.le_refl _) _).alloc (by simp) _⟩
    · have e1 : arm ⟨cap, bs, sf, fu, false⟩ k = (⟨cap, bs, sf, k, false⟩, 0) := by unfold arm; simp [hf]
      have h1 : decide (k < 0) = false := decide_eq_false hf
      rw [e1]
      clear h hl e1
      go_enter Try.func18, Try.ntmps18
      go_wp2
      refine bodyPost_ret (v := .tuple #[.agg #[.int .i64 cap, .slice A n c, .int .i64 sf, .int .i64 k, .bool false], .int .i64 0]) (by simp [results, Try.results18, go_sem]) rfl ⟨_, rfl, A, n, c, rfl, HL.out, HR.out.later (((Below.refl w.heap.size w).alloc (Nat.le_refl _) _).alloc (by simp) _), ((Below.refl w.heap.size w).alloc (Nat.le_refl _) _).alloc (by simp) _⟩
theorem refreplace_any (hok : ∀ x, w.heap.size ≤ x → ok x) (h : Rk w ok A n c s.bs) (hr : -1 ≤ s.fu ∧ s.fu ≤ 9223372036854775807) (hcap : 0 ≤ s.cap ∧ s.cap ≤ 1048576) (hb : Rd w w.heap.size 1 Ab nb cb (u8s b)) (hnb : nb ≤ 70000) :
    Calls Try.prog 23 #[docV s A n c, .slice Ab nb cb] w fun e w' => ∃ v, e = .returned (.tuple #[v, .int .i64 (rep s b).2]) ∧ DocIs ok (rep s b).1 w w' v := by
  obtain ⟨cap, bs, sf, fu, lz⟩ := s
  have hl := h.len
  unfold docV
  dsimp only at h hl hr hcap ⊢
  have HR := Lib.hid h
  have HL := Lib.hid hl
  have hlb := len8 hb
  have HB := Lib.hid hb
  cases lz with
  | true =>
    clear h hl hb hlb
    go_enter Try.func23, Try.ntmps23
    go_wp2
    refine bodyPost_ret (v := .tuple #[.agg #[.int .i64 cap, .slice A n c, .int .i64 sf, .int .i64 fu, .bool true], .int .i64 9]) (by simp [results, Try.results23, go_sem]) rfl ⟨_, rfl, A, n, c, rfl, HL.out, HR.out.later (((Below.refl w.heap.size w).alloc (Nat.le_refl _) _).alloc (by simp) _), ((Below.refl w.heap.size w).alloc (Nat.le_refl _) _).alloc (by simp) _⟩
  | false =>
    by_cases hf : cap < nb
    · have e1 : rep ⟨cap, bs, sf, fu, false⟩ b = (⟨cap, bs, sf, fu, false⟩, 4) := by unfold rep; dsimp only; rw [hlb]; simp [hf]
      have h1 : decide (cap < (nb : Int)) = true := decide_eq_true hf
      rw [e1]
      clear h hl hb hlb e1
      go_enter Try.func23, Try.ntmps23
      go_wp2
      refine bodyPost_ret (v := .tuple #[.agg #[.int .i64 cap, .slice A n c, .int .i64 sf, .int .i64 fu, .bool false], .int .i64 4]) (by simp [results, Try.results23, go_sem]) rfl ⟨_, rfl, A, n, c, rfl, HL.out, HR.out.later (((Below.refl w.heap.size w).alloc (Nat.le_refl _) _).alloc (by simp) _), ((Below.refl w.heap.size w).alloc (Nat.le_refl _) _).alloc (by simp) _⟩
    have h1 : decide (cap < (nb : Int)) = false := decide_eq_false hf
    by_cases h0 : fu = 0
    · subst h0
      have e1 : rep ⟨cap, bs, sf, 0, false⟩ b = (⟨cap, bs, sf, 0, true⟩, 9) := by unfold rep; dsimp only; rw [hlb]; simp [hf]
      rw [e1]
      have HD := Lib.hid (done_any cap 0 0 A n c sf true)
      have HDD := Lib.hid (show ((0 : Int) = 0 ∧ (0 : Int) = 0 ∧ true = true) ∨ ((0 : Int) ≠ 0 ∧ (0 : Int) = less 0 ∧ true = false) from .inl ⟨rfl, rfl, rfl⟩)
      have HR9 := Lib.hid hr
      obtain ⟨p, r, W, HP, HRR, HW, HK, HFR⟩ := boxes_any cap 0 A n c sf w
      have k0 := HK.out.c0
      have k1 := HK.out.c1
      have k2 := HK.out.c2
      have k3 := HK.out.c3
      have k4 := HK.out.c4
      clear h hl hr hb hlb e1
      go_enter Try.func23, Try.ntmps23
      go_wp2_with fail
      rw [← HW.out]
      try rw [← HP.out]
      try rw [← HRR.out]
      refine (HD.out W HDD.out HR9.out).mono ?_
      rintro e v1 ⟨rfl, hb9⟩
      have HK1 := Lib.hid (HK.out.later hb9)
      have HF1 := Lib.hid (HFR.out.later hb9)
      have HB1 : Hid (Below w.heap.size w v1) := HK1.out.below
      have hrp : r = p + 1 := HRR.out
      have hpw : p = w.heap.size := HP.out
      have hrv : r < v1.heap.size := HF1.out.1
      have hpv : p < v1.heap.size := by omega
      clear hrp hpw k0 k1 k2 k3 k4 hb9 HK HFR HD HDD HR9
      have k0 := HK1.out.c0
      have k1 := HK1.out.c1
      have k2 := HK1.out.c2
      have k3 := HK1.out.c3
      have k4 := HK1.out.c4
      obtain ⟨q, V, HQ, HV, HBV, HSV, HFQ, HCQ⟩ := box5 cap 0 A n c sf true v1
      have hrV : r < V.heap.size := Nat.lt_of_lt_of_le hrv HBV.out.size
      have z0 := HK1.out.c5
      have m0 := HF1.out.2 0
      have z1 := HK1.out.c6
      have m1 := HF1.out.2 1
      have z2 := HK1.out.c7
      have m2 := HF1.out.2 2
      have z3 := HK1.out.t8.c0
      have m3 := HF1.out.2 3
      have z4 := HK1.out.t8.c1
      have m4 := HF1.out.2 4
      have hwr : w.heap.size ≤ r := by have h1 := HRR.out; have h2 := HP.out; omega
      have hq0 := HQ.out
      subst hq0
      go_wp2_with fail
      obtain ⟨u9, hu9⟩ : ∃ W9, W9 = ((((v1.setCell ⟨r, 0, none⟩ (.int .i64 cap)).setCell ⟨r, 1, none⟩ (.slice A n c)).setCell ⟨r, 2, none⟩ (.int .i64 sf)).setCell ⟨r, 3, none⟩ (.int .i64 0)).setCell ⟨r, 4, none⟩ (.bool true) := ⟨_, rfl⟩
      obtain ⟨l0, l1, l2, l3, l4⟩ := st5 hu9 z0 z1 z2 z3 z4
      have hbu := bel5 hu9 HB1.out hwr
      have hru : r < u9.heap.size := World.block_lt_of_cell? u9 _ l0
      obtain ⟨w9, hw9⟩ : ∃ W9, W9 = u9.alloc (.cells #[.int .i64 cap, .slice A n c, .int .i64 sf, .int .i64 0, .bool true] 33) := ⟨_, rfl⟩
      have hbx : Below u9.heap.size u9 w9 := by rw [hw9]; exact (Below.refl _ _).alloc (Nat.le_refl _) _
      have l0 := (hbx.cell (p := ⟨r, 0, none⟩) hru).trans l0
      have l1 := (hbx.cell (p := ⟨r, 1, none⟩) hru).trans l1
      have l2 := (hbx.cell (p := ⟨r, 2, none⟩) hru).trans l2
      have l3 := (hbx.cell (p := ⟨r, 3, none⟩) hru).trans l3
      have l4 := (hbx.cell (p := ⟨r, 4, none⟩) hru).trans l4
      have hb9 := hbu.trans (hbx.mono hbu.size)
      clear hbx hru hbu
      rw [hu9] at hw9
      rw [← hw9]
      clear hw9 hu9
      exact bodyPost_ret (v := .tuple #[.agg #[.int .i64 cap, .slice A n c, .int .i64 sf, .int .i64 0, .bool true], .int .i64 9]) (by simp [results, Try.results23, go_sem, l0, l1, l2, l3, l4]) rfl ⟨_, rfl, _, _, _, rfl, HL.out, HR.out.later hb9, hb9⟩
    · have HD := Lib.hid (done_any cap fu (less fu) A n c sf false)
      have HDD := Lib.hid (show (fu = 0 ∧ less fu = 0 ∧ false = true) ∨ (fu ≠ 0 ∧ less fu = less fu ∧ false = false) from .inr ⟨h0, rfl, rfl⟩)
      have HR9 := Lib.hid hr
      have e1 : rep ⟨cap, bs, sf, fu, false⟩ b = (⟨cap, b, nb, less fu, false⟩, 0) := by unfold rep; dsimp only; rw [hlb]; simp [h0, hf]
      rw [e1]
      obtain ⟨fu', hfu⟩ : ∃ x, x = less fu := ⟨_, rfl⟩
      rw [← hfu] at HD HDD ⊢
      have hlen := hlb
      obtain ⟨p, r, W, HP, HRR, HW, HK, HFR⟩ := boxes_any cap fu A n c sf w
      have k0 := HK.out.c0
      have k1 := HK.out.c1
      have k2 := HK.out.c2
      have k3 := HK.out.c3
      have k4 := HK.out.c4
      clear h hl hr h0 e1 hfu hb hlb
      go_enter Try.func23, Try.ntmps23
      go_wp2_with fail
      rw [← HW.out]
      try rw [← HP.out]
      try rw [← HRR.out]
      refine (HD.out W HDD.out HR9.out).mono ?_
      rintro e v1 ⟨rfl, hb9⟩
      have HK1 := Lib.hid (HK.out.later hb9)
      have HF1 := Lib.hid (HFR.out.later hb9)
      have HB1 : Hid (Below w.heap.size w v1) := HK1.out.below
      have hrp : r = p + 1 := HRR.out
      have hpw : p = w.heap.size := HP.out
      have hrv : r < v1.heap.size := HF1.out.1
      have hpv : p < v1.heap.size := by omega
      clear hrp hpw k0 k1 k2 k3 k4 hb9 HK HFR HD HDD HR9
      have k0 := HK1.out.c0
      have k1 := HK1.out.c1
      have k2 := HK1.out.c2
      have k3 := HK1.out.c3
      have k4 := HK1.out.c4
      obtain ⟨q, V, HQ, HV, HBV, HSV, HFQ, HCQ⟩ := box5 cap fu' A n c sf false v1
      have hbV := HBV.out
      have hBV2 := HB.out.later (HB1.out.trans (hbV.mono HB1.out.size))
      obtain ⟨A1, c1, w3, hrun1, ho1, hb1⟩ := run_new8 V hBV2 (Nat.le_refl _) (by omega)
      have hrV : r < V.heap.size := Nat.lt_of_lt_of_le hrv HBV.out.size
      have z0 := ((hb1).cell (p := ⟨r, 0, none⟩) hrV).trans ((HBV.out.cell (p := ⟨r, 0, none⟩) hrv).trans (HK1.out.c5))
      have m0 : w3.frozen? ⟨r, 0, none⟩ = false := ((hb1).frozen (p := ⟨r, 0, none⟩) hrV).trans ((HBV.out.frozen (p := ⟨r, 0, none⟩) hrv).trans (HF1.out.2 0))
      have z1 := ((hb1).cell (p := ⟨r, 1, none⟩) hrV).trans ((HBV.out.cell (p := ⟨r, 1, none⟩) hrv).trans (HK1.out.c6))
      have m1 : w3.frozen? ⟨r, 1, none⟩ = false := ((hb1).frozen (p := ⟨r, 1, none⟩) hrV).trans ((HBV.out.frozen (p := ⟨r, 1, none⟩) hrv).trans (HF1.out.2 1))
      have z2 := ((hb1).cell (p := ⟨r, 2, none⟩) hrV).trans ((HBV.out.cell (p := ⟨r, 2, none⟩) hrv).trans (HK1.out.c7))
      have m2 : w3.frozen? ⟨r, 2, none⟩ = false := ((hb1).frozen (p := ⟨r, 2, none⟩) hrV).trans ((HBV.out.frozen (p := ⟨r, 2, none⟩) hrv).trans (HF1.out.2 2))
      have z3 := ((hb1).cell (p := ⟨r, 3, none⟩) hrV).trans ((HBV.out.cell (p := ⟨r, 3, none⟩) hrv).trans (HK1.out.t8.c0))
      have m3 : w3.frozen? ⟨r, 3, none⟩ = false := ((hb1).frozen (p := ⟨r, 3, none⟩) hrV).trans ((HBV.out.frozen (p := ⟨r, 3, none⟩) hrv).trans (HF1.out.2 3))
      have z4 := ((hb1).cell (p := ⟨r, 4, none⟩) hrV).trans ((HBV.out.cell (p := ⟨r, 4, none⟩) hrv).trans (HK1.out.t8.c1))
      have m4 : w3.frozen? ⟨r, 4, none⟩ = false := ((hb1).frozen (p := ⟨r, 4, none⟩) hrV).trans ((HBV.out.frozen (p := ⟨r, 4, none⟩) hrv).trans (HF1.out.2 4))
      have hqV : q < V.heap.size := by have := HSV.out; omega
      have y0 := ((hb1).cell (p := ⟨q, 0, none⟩) hqV).trans HCQ.out.1
      have y1 := ((hb1).cell (p := ⟨q, 1, none⟩) hqV).trans HCQ.out.2.1
      have y2 := ((hb1).cell (p := ⟨q, 2, none⟩) hqV).trans HCQ.out.2.2.1
      have y3 := ((hb1).cell (p := ⟨q, 3, none⟩) hqV).trans HCQ.out.2.2.2.1
      have y4 := ((hb1).cell (p := ⟨q, 4, none⟩) hqV).trans HCQ.out.2.2.2.2
      have hfq : ∀ j, w3.frozen? ⟨q, j, none⟩ = false := fun j => ((hb1).frozen (p := ⟨q, j, none⟩) hqV).trans (HFQ.out.2 j)
      have m1q := hfq 1
      have m2q := hfq 2
      obtain ⟨w4, hw4⟩ : ∃ W, W = (w3.setCell ⟨q, 1, none⟩ (.slice A1 nb c1)).setCell ⟨q, 2, none⟩ (.int .i64 nb) := ⟨_, rfl⟩
      have hqr : q ≠ r := by have := HQ.out; omega
      have hwq : w.heap.size ≤ q := by have h1 := HQ.out; have h2 := HB1.out.size; omega
      have hwr : w.heap.size ≤ r := by have h1 := HRR.out; have h2 := HP.out; omega
      have HOW : Hid (Own w4 V.heap.size 5 1 A1 nb c1 (u8s b)) := by
        unfold Hid
        rw [hw4]
        exact own_set (own_set ho1 hqV _) hqV _
      have HBW : Hid (Below w.heap.size w w4) := by
        unfold Hid
        rw [hw4]
        exact (((HB1.out.trans (hbV.mono HB1.out.size)).trans (hb1.mono (HB1.out.trans (hbV.mono HB1.out.size)).size)).setCell (p := ⟨q, 1, none⟩) hwq _).setCell (p := ⟨q, 2, none⟩) hwq _
      have HVS : Hid (w.heap.size ≤ V.heap.size) := (HB1.out.trans (hbV.mono HB1.out.size)).size
      have hx0 : w4.cell? ⟨r, 0, none⟩ = some (.int .i64 0) := by rw [hw4]; go_simp
      have hx1 : w4.cell? ⟨r, 1, none⟩ = some (.slice none 0 0) := by rw [hw4]; go_simp
      have hx2 : w4.cell? ⟨r, 2, none⟩ = some (.int .i64 0) := by rw [hw4]; go_simp
      have hx3 : w4.cell? ⟨r, 3, none⟩ = some (.int .i64 0) := by rw [hw4]; go_simp
      have hx4 : w4.cell? ⟨r, 4, none⟩ = some (.bool false) := by rw [hw4]; go_simp
      have HX := Lib.hid (And.intro hx0 (And.intro hx1 (And.intro hx2 (And.intro hx3 hx4))))
      have Hrun1 := Lib.hid hrun1
      rw [HSV.out, HQ.out, HV.out] at Hrun1
      have HW4 := Lib.hid hw4
      have hrq : r < q := by have := HQ.out; omega
      clear hbV hBV2 hrun1 ho1 hb1 hw4 hfq hx0 hx1 hx2 hx3 hx4
      have hq0 := HQ.out
      subst hq0
      go_wp2_with (at_builtin; refine Lib.wpList_append_run _ rfl _ _ _ _ rfl _ _ rfl rfl _ _ Hrun1.out ?_)
      obtain ⟨w9, hw9⟩ : ∃ W9, W9 = ((((w4.setCell ⟨r, 0, none⟩ (.int .i64 cap)).setCell ⟨r, 1, none⟩ (.slice A1 nb c1)).setCell ⟨r, 2, none⟩ (.int .i64 nb)).setCell ⟨r, 3, none⟩ (.int .i64 fu')).setCell ⟨r, 4, none⟩ (.bool false) := ⟨_, rfl⟩
      have hl5 := st5 hw9 HX.out.1 HX.out.2.1 HX.out.2.2.1 HX.out.2.2.2.1 HX.out.2.2.2.2
      obtain ⟨l0, l1, l2, l3, l4⟩ := hl5
      have ho9 := own5 hw9 HOW.out hrV
      have hb9 := bel5 hw9 HBW.out hwr
      rw [HW4.out] at hw9
      rw [← hw9]
      clear hw9
      exact bodyPost_ret (v := .tuple #[.agg #[.int .i64 cap, .slice A1 nb c1, .int .i64 nb, .int .i64 fu', .bool false], .int .i64 0]) (by simp [results, Try.results23, go_sem, l0, l1, l2, l3, l4]) rfl ⟨_, rfl, _, _, _, rfl, hlen, Rk.of_own ho9 (fun x hx => hok x (Nat.le_trans HVS.out hx)), hb9⟩
end
end Tpe
end Go.Proofs.Ytcffbgehopjgpaa
