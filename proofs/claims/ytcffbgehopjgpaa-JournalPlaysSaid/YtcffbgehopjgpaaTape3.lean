/- Layer 17: package tape: Restart. -/
import Derived.Test.YtcffbgehopjgpaaTape2
import Derived.Deep.DeepCutAuto
import Derived.RegionTactic
namespace Go.Proofs.Ytcffbgehopjgpaa
open Go.ChangeShapes Go.WideShapes Go.ChangeAt Go.RowKit
namespace Tpe
open By
set_option maxRecDepth 100000
set_option maxHeartbeats 1000000
theorem modulo_to (k m : Int) (q : Nat) (w : World) (hm : 1 ≤ m ∧ m ≤ 1000000) (hk : -9223372036854775808 ≤ k ∧ k ≤ 9223372036854775807) (hq : k % m = q) :
    Calls Try.prog 37 #[.int .i64 k, .int .i64 m] w fun e w' => e = .returned (.int .i64 q) ∧ w = w' := by
  obtain ⟨m', rfl⟩ := Int.eq_ofNat_of_zero_le (show 0 ≤ m by omega)
  exact modulo_any k m' q w (by omega) hk hq
theorem byte_of {y : Int} (h : 0 ≤ y ∧ y ≤ 255) : ∃ b : UInt8, (b.toNat : Int) = y := ⟨UInt8.ofNat y.toNat, by rw [UInt8.toNat_ofNat']; omega⟩
/-- three cells of the tape's box are written anew, its bytes lie in a row of their own -/
theorem TpAt.made {w W : World} {lo g n c : Nat} {s : S} {A : Option Addr} {fb : Bool} {ah : Int} (h : TpAt w lo g s A n c fb ah) (cap : Int) {bs : List UInt8} {k : Nat}
    (hc : W.cell? ⟨g, 0, none⟩ = some (.int .i64 cap)) (h1 : W.cell? ⟨g, 1, none⟩ = some (.slice A k c)) (h2 : W.cell? ⟨g, 2, none⟩ = some (.int .i64 k)) (h3 : W.cell? ⟨g, 3, none⟩ = some (.bool false)) (h4 : W.cell? ⟨g, 4, none⟩ = some (.int .i64 0)) (h5 : W.cell? ⟨g, 5, none⟩ = some (.bool false))
    (hf : ∀ j, W.frozen? ⟨g, j, none⟩ = false) (hs : w.heap.size ≤ W.heap.size) (ho : W.ownsRow lo 5 1 (.slice A k c) k (u8s bs)) : TpAt W lo g ⟨cap, bs, k, -1, false⟩ A k c false 0 :=
  ⟨hc, h1, h2, h3, h4, h5, hf, ⟨h.lo_.1, Nat.lt_of_lt_of_le h.lo_.2 hs⟩, ho, (by have := h.ne; cases A <;> exact this), by have := ho.1; rw [u8s_length] at this; dsimp only; omega, .inr ⟨rfl, rfl, rfl⟩⟩
/-- the tape's box while it is written: its six cells -/
structure Mid (v : World) (g : Nat) (ob : Option Nat) (x0 x1 x2 x3 x4 x5 : Value) (wx : World) : Prop where
  two : Two g ob v wx
  c0 : wx.cell? ⟨g, 0, none⟩ = some x0
  c1 : wx.cell? ⟨g, 1, none⟩ = some x1
  c2 : wx.cell? ⟨g, 2, none⟩ = some x2
  c3 : wx.cell? ⟨g, 3, none⟩ = some x3
  c4 : wx.cell? ⟨g, 4, none⟩ = some x4
  c5 : wx.cell? ⟨g, 5, none⟩ = some x5
  free : ∀ j, wx.frozen? ⟨g, j, none⟩ = false
section
variable {w : World} {lo g n c : Nat} {s : S} {A : Option Addr} {fb : Bool} {ah : Int}
/-- Restart: none of those that wait stays -/
theorem restart_none (k y : Int) (h : TpAt w lo g s A n c fb ah) (hsf : s.sf ≤ n) (hn : n ≤ 70000) (hk : -9223372036854775808 ≤ k ∧ k ≤ 9223372036854775807) (h0 : stay s k = 0) (b : UInt8) :
    Calls Try.prog 19 #[.pointer (some ⟨g, 0, none⟩), .int .i64 k, .int .u8 y] w fun e w' => e = .returned (.tuple #[]) ∧ Did w lo g (Value.slice A n c).ownBlock (rst s k b) w' := by
  have hq := stay_eq s k
  rw [h0] at hq
  have hrs : rst s k b = ⟨s.cap, s.bs.take s.sf, s.sf, -1, false⟩ := by unfold rst left; rw [h0]; simp
  rw [hrs]
  have hm : ((s.bs.length - s.sf + 1 : Nat) : Int) = (n : Int) - s.sf + 1 := by have := h.len; omega
  rw [hm] at hq
  obtain ⟨hot, hob⟩ := own_take h.own hsf
  have HOT := Lib.hid hot
  have HOB := Lib.hid hob
  obtain ⟨p, hp⟩ : ∃ p, p = s.sf := ⟨_, rfl⟩
  rw [← hp] at hsf HOT HOB hq ⊢
  have HH := Lib.hid h
  have k0 := h.c0
  have k1 := h.c1
  have k2 := h.c2
  have k3 := h.c3
  have k4 := h.c4
  have k5 := h.c5
  have hfr := h.free
  have m1 := hfr 1
  have m2 := hfr 2
  have m3 := hfr 3
  have m4 := hfr 4
  have m5 := hfr 5
  have HF := Lib.hid hfr
  have hgl := h.lo_.2
  have hcap := h.rd.cap
  rw [← hp] at k2
  have HP := Lib.hid hp
  have HM : Hid (∀ (v : World), Calls Try.prog 37 #[.int .i64 k, .int .i64 ((n : Int) - p + 1)] v fun e w' => e = .returned (.int .i64 0) ∧ w' = v) := fun v => (modulo_to k _ 0 v (by omega) hk hq).mono fun _ _ h => ⟨h.1, h.2.symm⟩
  have hct := cut_to A n c p (by omega)
  have hpz : (p : Int) + 0 = (p : Int) := by omega
  clear h hfr hp hrs hm hot hob h0 hq
  go_enter Try.func19, Try.ntmps19
  go_wp2_with fail
  go_big_quiet ((go_at_call 37; exact Calls.quiet_of_same (HM.out _)))
  obtain ⟨v, hv⟩ : ∃ v, v = w.drewN nq := ⟨_, rfl⟩
  have hvw : Below w.heap.size w v := by rw [hv]; exact bel_drewN (Below.refl _ _) _
  rw [← hv]
  have HB := Lib.hid hvw
  have H2 := Lib.hid (HH.out.later hvw)
  have hfr := (HH.out.later hvw).free
  have k0 := (HH.out.later hvw).c0
  have k1 := (HH.out.later hvw).c1
  have k2 := (HH.out.later hvw).c2
  have k3 := (HH.out.later hvw).c3
  have k4 := (HH.out.later hvw).c4
  have k5 := (HH.out.later hvw).c5
  have m1 := hfr 1
  have hgv : g < v.heap.size := Nat.lt_of_lt_of_le hgl hvw.size
  rw [← HP.out] at k2
  have HF := Lib.hid hfr
  clear hvw hv hfr
  go_wp2_with fail
  go_cut [] (fun wx => Hid (Mid v g none (.int .i64 s.cap) (.slice A p c) (.int .i64 p) (.bool fb) (.int .i64 ah) (.bool s.lo) wx))
  case first =>
    go_region
    all_goals (
      go_wp2_with fail
      go_meet
      have ht : Two g none v (v.drew.setCell ⟨g, 1, none⟩ (.slice A p c)) := (Two.of_below (bel_drewN (Below.refl _ _) 1)).setCell 1 _
      refine ⟨ht, ?_, ?_, ?_, ?_, ?_, ?_, fun j => ?_⟩
      all_goals first | (have := HF.out j; go_simp; done) | (go_simp; done))
  case rest =>
    obtain ⟨u, hu⟩ : ∃ W, W = wc := ⟨_, rfl⟩
    subst hu
    have HC := hcut
    clear hcut k0 k1 k2 k3 k4 k5 m1 m2 m3 m4 m5 HF hct
    have k0 := HC.out.c0
    have k1 := HC.out.c1
    have k2 := HC.out.c2
    have k3 := HC.out.c3
    have k4 := HC.out.c4
    have k5 := HC.out.c5
    have m2 := HC.out.free 2
    have m3 := HC.out.free 3
    have m4 := HC.out.free 4
    have m5 := HC.out.free 5
    go_wp2_with fail
    have ht : Two g none u ((((u.setCell ⟨g, 2, none⟩ (.int .i64 p)).setCell ⟨g, 3, none⟩ (.bool false)).setCell ⟨g, 4, none⟩ (.int .i64 0)).setCell ⟨g, 5, none⟩ (.bool false)) := ((((Two.refl g none u).setCell 2 _).setCell 3 _).setCell 4 _).setCell 5 _
    obtain ⟨W, hW⟩ : ∃ W, W = (((u.setCell ⟨g, 2, none⟩ (.int .i64 p)).setCell ⟨g, 3, none⟩ (.bool false)).setCell ⟨g, 4, none⟩ (.int .i64 0)).setCell ⟨g, 5, none⟩ (.bool false) := ⟨_, rfl⟩
    have htw : Two g none w W := by rw [hW]; exact ((Two.of_below HB.out).trans (Fresh.refl _ _) HC.out.two).trans (Fresh.refl _ _) ht
    have hown : W.ownsRow lo 5 1 (.slice A p c) p (u8s (s.bs.take p)) := ownsRow_two HOT.out htw fun b hb => ⟨fun e => HH.out.ne (by rw [← HOB.out, hb, e]), by simp⟩
    have y0 : W.cell? ⟨g, 0, none⟩ = some (.int .i64 s.cap) := by rw [hW]; go_simp
    have y1 : W.cell? ⟨g, 1, none⟩ = some (.slice A p c) := by rw [hW]; go_simp
    have y2 : W.cell? ⟨g, 2, none⟩ = some (.int .i64 p) := by rw [hW]; go_simp
    have y3 : W.cell? ⟨g, 3, none⟩ = some (.bool false) := by rw [hW]; go_simp
    have y4 : W.cell? ⟨g, 4, none⟩ = some (.int .i64 0) := by rw [hW]; go_simp
    have y5 : W.cell? ⟨g, 5, none⟩ = some (.bool false) := by rw [hW]; go_simp
    have yf : ∀ j, W.frozen? ⟨g, j, none⟩ = false := fun j => by have := HC.out.free j; rw [hW]; go_simp
    have hd := HH.out.made s.cap y0 y1 y2 y3 y4 y5 yf htw.size hown
    rw [← hW]
    (try simp only [Exit.inBlock, Exit.then])
    refine bodyPost_end (v := .tuple #[]) (by simp [results, Try.results19, go_sem]) rfl ⟨rfl, _, ⟨_, _, _, _, _, hd, rfl⟩, htw.none_, .inr (.inl HOB.out)⟩
/-- Restart: some of those that wait stay, the last one turned -/
theorem restart_some (k : Int) (h : TpAt w lo g s A n c fb ah) (hsf : s.sf ≤ n) (hn : n ≤ 70000) (hk : -9223372036854775808 ≤ k ∧ k ≤ 9223372036854775807) (h0 : stay s k ≠ 0) (b : UInt8) :
    Calls Try.prog 19 #[.pointer (some ⟨g, 0, none⟩), .int .i64 k, .int .u8 b.toNat] w fun e w' => e = .returned (.tuple #[]) ∧ Did w lo g (Value.slice A n c).ownBlock (rst s k b) w' := by
  have hq := stay_eq s k
  have hqn := stay_le s k
  have hrs : rst s k b = ⟨s.cap, turn (s.bs.take (s.sf + stay s k)) b, s.sf + stay s k, -1, false⟩ := by unfold rst left; rw [if_neg h0]
  rw [hrs]
  have hlen := h.len
  have hm : ((s.bs.length - s.sf + 1 : Nat) : Int) = (n : Int) - s.sf + 1 := by omega
  rw [hm] at hq
  obtain ⟨p, hp⟩ : ∃ p, p = s.sf := ⟨_, rfl⟩
  obtain ⟨q, hqq⟩ : ∃ q, q = stay s k := ⟨_, rfl⟩
  rw [← hqq] at h0 hq hqn ⊢
  rw [← hp] at hsf hq hqn ⊢
  obtain ⟨r, hr⟩ : ∃ r, r = p + q := ⟨_, rfl⟩
  rw [← hr]
  have hrn : r ≤ n := by omega
  obtain ⟨e, he⟩ : ∃ e, e + 1 = r := ⟨r - 1, by omega⟩
  obtain ⟨hot, hob⟩ := own_take h.own hrn
  obtain ⟨bk, hA, hbl, hbs, hbf, hbc⟩ := row_place (Own.mk hot (u8s_one _)) (by omega)
  subst hA
  have hel : e < (s.bs.take r).length := by rw [List.length_take]; omega
  have hcx := hbc e _ (u8s_get _ e hel)
  obtain ⟨a, ha⟩ : ∃ a, a = (s.bs.take r)[e] := ⟨_, rfl⟩
  rw [← ha] at hcx
  have hxz := xor8 a b
  have htl : u8s (turn (s.bs.take r) b) = (u8s (s.bs.take r)).set e (.int .u8 (((a ^^^ b).toNat : Nat) : Int)) := by
    unfold turn u8s
    have h8 : (s.bs.take r).length - 1 = e := by rw [List.length_take]; omega
    rw [h8, List.getElem?_eq_getElem hel, ← ha, Option.getD_some, List.map_set]
  obtain ⟨x, hx⟩ : ∃ x, x = a.toNat := ⟨_, rfl⟩
  obtain ⟨yb, hyb⟩ : ∃ y, y = b.toNat := ⟨_, rfl⟩
  obtain ⟨z, hz⟩ : ∃ z, z = (a ^^^ b).toNat := ⟨_, rfl⟩
  have hxb : x < 256 := by rw [hx]; exact a.toNat_lt
  have hyb9 : yb < 256 := by rw [hyb]; exact b.toNat_lt
  rw [← hx] at hcx hxz
  rw [← hyb] at hxz ⊢
  rw [← hz] at hxz htl
  have hne : bk ≠ g := fun e => h.ne (by rw [← e]; rfl)
  have HOT := Lib.hid hot
  have HTL := Lib.hid htl
  have HH := Lib.hid h
  have k0 := h.c0
  have k1 := h.c1
  have k2 := h.c2
  have k3 := h.c3
  have k4 := h.c4
  have k5 := h.c5
  have hgl := h.lo_.2
  have hcap := h.rd.cap
  rw [← hp] at k2
  have HP := Lib.hid hp
  have HM : Hid (∀ (v : World), Calls Try.prog 37 #[.int .i64 k, .int .i64 ((n : Int) - p + 1)] v fun e w' => e = .returned (.int .i64 q) ∧ w' = v) := fun v => (modulo_to k _ q v (by omega) hk hq).mono fun _ _ h => ⟨h.1, h.2.symm⟩
  have hct := cut_to (some ⟨bk, 0, none⟩) n c r (by omega)
  have hpz : (p : Int) + (q : Int) = (r : Int) := by omega
  have hqz : 0 < q := by omega
  have hre : (r : Int) - 1 = (e : Int) := by omega
  have her : e < r := by omega
  have HBF : Hid (∀ j, w.frozen? ⟨bk, j, none⟩ = false) := hbf
  clear h hp hrs hm hot hob h0 hq hqq hr he hbf hbc hx hyb hz ha htl hel hlen
  go_enter Try.func19, Try.ntmps19
  go_wp2_with fail
  go_big_quiet ((go_at_call 37; exact Calls.quiet_of_same (HM.out _)))
  obtain ⟨v, hv⟩ : ∃ v, v = w.drewN nq := ⟨_, rfl⟩
  have hvw : Below w.heap.size w v := by rw [hv]; exact bel_drewN (Below.refl _ _) _
  rw [← hv]
  have HB := Lib.hid hvw
  have hfr := (HH.out.later hvw).free
  have k0 := (HH.out.later hvw).c0
  have k1 := (HH.out.later hvw).c1
  have k2 := (HH.out.later hvw).c2
  have k3 := (HH.out.later hvw).c3
  have k4 := (HH.out.later hvw).c4
  have k5 := (HH.out.later hvw).c5
  have m1 := hfr 1
  have hgv : g < v.heap.size := Nat.lt_of_lt_of_le hgl hvw.size
  rw [← HP.out] at k2
  have HF := Lib.hid hfr
  clear hvw hv hfr
  go_wp2_with fail
  go_cut [] (fun wx => Hid (Mid v g none (.int .i64 s.cap) (.slice (some ⟨bk, 0, none⟩) r c) (.int .i64 p) (.bool fb) (.int .i64 ah) (.bool s.lo) wx))
  case first =>
    go_region
    all_goals (
      go_wp2_with fail
      go_meet
      have ht : Two g none v (v.drew.setCell ⟨g, 1, none⟩ (.slice (some ⟨bk, 0, none⟩) r c)) := (Two.of_below (bel_drewN (Below.refl _ _) 1)).setCell 1 _
      refine ⟨ht, ?_, ?_, ?_, ?_, ?_, ?_, fun j => ?_⟩
      all_goals first | (have := HF.out j; go_simp; done) | (go_simp; done))
  case rest =>
    obtain ⟨u, hu⟩ : ∃ W, W = wc := ⟨_, rfl⟩
    subst hu
    have HC := hcut
    have htu : Two g none w u := (Two.of_below HB.out).trans (Fresh.refl _ _) HC.out.two
    have hcu : u.cell? ⟨bk, e, none⟩ = some (.int .u8 x) := (htu.cell (p := ⟨bk, e, none⟩) hbs hne (by simp)).trans hcx
    have hfu : u.frozen? ⟨bk, e, none⟩ = false := (htu.frozen (p := ⟨bk, e, none⟩) hbs hne (by simp)).trans (HBF.out e)
    have HOU : Hid (u.ownsRow lo 5 1 (.slice (some ⟨bk, 0, none⟩) r c) r (u8s (s.bs.take r))) := ownsRow_two HOT.out htu fun b hb => by
      injection hb with hb
      subst hb
      exact ⟨hne, by simp⟩
    have HTU := Lib.hid htu
    have hgu : g < u.heap.size := Nat.lt_of_lt_of_le hgl htu.size
    have hbu : bk < u.heap.size := Nat.lt_of_lt_of_le hbs htu.size
    clear hcut k0 k1 k2 k3 k4 k5 m1 HF hct htu hcx hgv
    have k0 := HC.out.c0
    have k1 := HC.out.c1
    have k2 := HC.out.c2
    have k3 := HC.out.c3
    have k4 := HC.out.c4
    have k5 := HC.out.c5
    have HF := Lib.hid HC.out.free
    go_wp2_with fail
    go_cut [] (fun wx => Hid (Mid u g (some bk) (.int .i64 s.cap) (.slice (some ⟨bk, 0, none⟩) r c) (.int .i64 p) (.bool fb) (.int .i64 ah) (.bool s.lo) wx ∧ wx.ownsRow lo 5 1 (.slice (some ⟨bk, 0, none⟩) r c) r ((u8s (s.bs.take r)).set e (.int .u8 z))))
    case first =>
      go_region
      all_goals (
        go_wp2_with fail
        go_meet
        have ht : Two g (some bk) u (u.drew.setCell ⟨bk, e, none⟩ (.int .u8 z)) := Two.of_grown (gb_set (gb_drew (gb_refl u (some bk))) e _)
        refine ⟨⟨ht, ?_, ?_, ?_, ?_, ?_, ?_, fun j => ?_⟩, row_set (ownsRow_later HOU.out (bel_drewN (Below.refl _ _) 1)) e _⟩
        all_goals first | (have := HF.out j; go_simp; done) | (go_simp; done))
    case rest =>
      obtain ⟨v2, hv2⟩ : ∃ W, W = wc := ⟨_, rfl⟩
      subst hv2
      have HD := Lib.hid hcut.out.1
      have HO2 := Lib.hid hcut.out.2
      clear hcut k0 k1 k2 k3 k4 k5 hcu hfu HF
      have k0 := HD.out.c0
      have k1 := HD.out.c1
      have k2 := HD.out.c2
      have k3 := HD.out.c3
      have k4 := HD.out.c4
      have k5 := HD.out.c5
      have m2 := HD.out.free 2
      have m3 := HD.out.free 3
      have m4 := HD.out.free 4
      have m5 := HD.out.free 5
      go_wp2_with fail
      have ht : Two g none v2 ((((v2.setCell ⟨g, 2, none⟩ (.int .i64 r)).setCell ⟨g, 3, none⟩ (.bool false)).setCell ⟨g, 4, none⟩ (.int .i64 0)).setCell ⟨g, 5, none⟩ (.bool false)) := ((((Two.refl g none v2).setCell 2 _).setCell 3 _).setCell 4 _).setCell 5 _
      obtain ⟨W, hW⟩ : ∃ W, W = (((v2.setCell ⟨g, 2, none⟩ (.int .i64 r)).setCell ⟨g, 3, none⟩ (.bool false)).setCell ⟨g, 4, none⟩ (.int .i64 0)).setCell ⟨g, 5, none⟩ (.bool false) := ⟨_, rfl⟩
      have ht2 : Two g none v2 W := by rw [hW]; exact ht
      have htw : Two g (some bk) w W := (HTU.out.none_.trans (Fresh.refl _ _) HD.out.two).trans (Fresh.refl _ _) ht2.none_
      have hown : W.ownsRow lo 5 1 (.slice (some ⟨bk, 0, none⟩) r c) r (u8s (turn (s.bs.take r) b)) := by
        rw [HTL.out]
        refine ownsRow_two HO2.out ht2 fun b hb => ?_
        injection hb with hb
        subst hb
        exact ⟨hne, by simp⟩
      have y0 : W.cell? ⟨g, 0, none⟩ = some (.int .i64 s.cap) := by rw [hW]; go_simp
      have y1 : W.cell? ⟨g, 1, none⟩ = some (.slice (some ⟨bk, 0, none⟩) r c) := by rw [hW]; go_simp
      have y2 : W.cell? ⟨g, 2, none⟩ = some (.int .i64 r) := by rw [hW]; go_simp
      have y3 : W.cell? ⟨g, 3, none⟩ = some (.bool false) := by rw [hW]; go_simp
      have y4 : W.cell? ⟨g, 4, none⟩ = some (.int .i64 0) := by rw [hW]; go_simp
      have y5 : W.cell? ⟨g, 5, none⟩ = some (.bool false) := by rw [hW]; go_simp
      have yf : ∀ j, W.frozen? ⟨g, j, none⟩ = false := fun j => by have := HD.out.free j; rw [hW]; go_simp
      have hd := HH.out.made s.cap y0 y1 y2 y3 y4 y5 yf htw.size hown
      rw [← hW]
      (try simp only [Exit.inBlock, Exit.then])
      refine bodyPost_end (v := .tuple #[]) (by simp [results, Try.results19, go_sem]) rfl ⟨rfl, _, ⟨_, _, _, _, _, hd, rfl⟩, htw, .inr (.inl rfl)⟩
/-- Restart -/
theorem restart_any (k : Int) (h : TpAt w lo g s A n c fb ah) (hsf : s.sf ≤ n) (hn : n ≤ 70000) (hk : -9223372036854775808 ≤ k ∧ k ≤ 9223372036854775807) (b : UInt8) :
    Calls Try.prog 19 #[.pointer (some ⟨g, 0, none⟩), .int .i64 k, .int .u8 b.toNat] w fun e w' => e = .returned (.tuple #[]) ∧ Did w lo g (Value.slice A n c).ownBlock (rst s k b) w' := by
  by_cases h0 : stay s k = 0
  · exact restart_none k _ h hsf hn hk h0 b
  · exact restart_some k h hsf hn hk h0 b
end
end Tpe
end Go.Proofs.Ytcffbgehopjgpaa
