/- Layer 18: a journal on a new tape; a program that does nothing answers wrongly. -/
import Derived.Test.YtcffbgehopjgpaaJournal3
import Derived.Lib.SlBytesConst
namespace Go.Proofs.Ytcffbgehopjgpaa
open Go.ChangeShapes Go.WideShapes Go.ChangeAt Go.RowKit
namespace Jrn
open By Tpe Frm
set_option maxRecDepth 100000
set_option maxHeartbeats 2000000
/-- a journal on a new tape -/
structure NewJ (w w' : World) (p g : Nat) (ob : Option Nat) (s : S) (N : Int) : Prop where
  tp : Tp w' w.heap.size g ob s
  jn : JnAt w' p g N
  ne : p ≠ g
  neo : some p ≠ ob
  low : w.heap.size ≤ p
  below : Below w.heap.size w w'
theorem NewJ.later {w w' w2 : World} {p g : Nat} {ob : Option Nat} {s : S} {N : Int} (h : NewJ w w' p g ob s N) (hb : Below w'.heap.size w' w2) : NewJ w w2 p g ob s N :=
  ⟨h.tp.later hb, h.jn.later hb, h.ne, h.neo, h.low, h.below.trans (hb.mono h.below.size)⟩
/-- what befell it -/
theorem NewJ.did {w w' w2 : World} {p g : Nat} {ob : Option Nat} {s s' : S} {N N' : Int} (h : NewJ w w' p g ob s N) (hd : DidJ w' w.heap.size p g ob s' N' w2) : ∃ ob', NewJ w w2 p g ob' s' N' := by
  have hb := hd.below h.tp.lo_.1 (fun b hb => (h.tp.obl b hb).1) h.low h.below.size
  obtain ⟨ob', w1, hT, hj, _, _, _, hp⟩ := hd
  exact ⟨ob', hT, hj, h.ne, hp, h.low, h.below.trans hb⟩
theorem NewJ.didT {w w' w2 : World} {p g : Nat} {ob : Option Nat} {s s' : S} {N : Int} (h : NewJ w w' p g ob s N) (hd : Did w' w.heap.size g ob s' w2) : ∃ ob', NewJ w w2 p g ob' s' N :=
  h.did (DidJ.of_did hd h.jn h.ne h.neo)
theorem opn_new {cap : Int} {b : Rec} (hb : b.length ≤ 60000) (hc : (b.length : Int) + 8 ≤ cap) : opn (newS cap) b [] 0 = (fit cap [b] (-1), 0) := by
  have h1 : ¬ (60000 < b.length) := by omega
  have hk : kept [] b = [b] := by unfold kept; rw [if_pos rfl]
  have hfl : (frms [b]).length = b.length + 8 := by rw [frms_cons, frms_nil, List.append_nil, frm_len]
  have h2 : ¬ (cap < ((frms [b]).length : Int)) := by rw [hfl]; omega
  unfold opn
  rw [if_neg h1, hk]
  unfold rep newS fit less
  simp [h2]
theorem open_any (cap : Int) (b : Rec) (nb : Nat) (Ab : Option Addr) (cb : Nat) (w : World) (hcap : 0 ≤ cap ∧ cap ≤ 1048576) (hb : Rd w w.heap.size 1 Ab nb cb (u8s b)) (hnb : nb ≤ 60000) (hc : (nb : Int) + 8 ≤ cap) :
    Calls Try.prog 25 #[.int .i64 cap, .slice Ab nb cb] w fun e w' => ∃ p g ob, e = .returned (.tuple #[.pointer (some ⟨p, 0, none⟩), .pointer (some ⟨g, 0, none⟩), .bool true]) ∧ NewJ w w' p g ob (fit cap [b] (-1)) 0 := by
  have hlb := len8 hb
  have ho := opn_new (cap := cap) (b := b) (by omega) (by omega)
  have HB0 := Lib.hid hb
  have HO := Lib.hid ho
  clear hb ho
  go_enter Try.func25, Try.ntmps25
  go_wp2_with fail
  refine (new_any cap w hcap).mono ?_
  rintro e v1 ⟨g, rfl, hT, hb1⟩
  have HB1 := Lib.hid hb1
  have HRB := Lib.hid (HB0.out.later hb1)
  have HP := Lib.hid (popen_any (l := []) (k := 0) hT hb1.size (by unfold newS; exact hcap) (by unfold newS; dsimp only; omega) rfl (by unfold newS; simp) HRB.out hnb ⟨⟨Nat.le_refl _, by simp [frms], by simp⟩, by unfold newS; intro h; have := h.1.1; simp at this⟩ _ _ HO.out)
  have hg1 := hT.lo_
  clear hT hb1
  go_wp2_with fail
  refine HP.out.mono ?_
  rintro e v2 ⟨-, h⟩
  obtain ⟨p, x, r, A1, A2, n1, n2, c1, c2, ob, hl, rfl, h⟩ := h rfl
  have hkp : kept [] b = [b] := by unfold kept; rw [if_pos rfl]
  rw [hkp] at hl
  injection hl with e1 e2
  subst e1; subst e2
  obtain rfl : n2 = 0 := h.rdL.len.symm
  have hN : NewJ w v2 p g ob (fit cap [b] (-1)) 0 := ⟨h.tp, h.jn, h.ne, h.neo, Nat.le_trans HB1.out.size h.low, HB1.out.trans (h.two.below hg1.1 (fun b hb => by cases hb) HB1.out.size)⟩
  have HN := Lib.hid hN
  have hs1 := str8 h.rd
  have hs2 := str8 (HB0.out.below hN.below)
  clear h hN
  go_wp2_with fail
  go_ret3
  exact ⟨p, g, ob, rfl, HN.out⟩
theorem awake_any (w : World) : Calls Try.prog 7 #[] w fun e w' => e = .returned (.bool true) ∧ Below w.heap.size w w' := by
  have kc := fun (w : World) (C : Array Value) (n c : Nat) => Lib.run_convert_bytes_const (P := Try.prog) w 23 5 C n c Try.underlying23 Try.underlying5
  obtain ⟨V0, hV0⟩ : ∃ V, V = w.alloc (.cells #[.int .u8 98, .int .u8 97, .int .u8 115, .int .u8 101] 5 (4, 5)) := ⟨_, rfl⟩
  have hr : Rd V0 V0.heap.size 1 (some ⟨w.heap.size, 0, none⟩) 4 4 (u8s [98, 97, 115, 101]) := by
    rw [hV0]
    exact rd_mark w #[.int .u8 98, .int .u8 97, .int .u8 115, .int .u8 101] _ _ 4 rfl (by simp [Value.oneCell'])
  have hb0 : Below w.heap.size w V0 := by rw [hV0]; exact (Below.refl _ _).alloc (Nat.le_refl _) _
  obtain ⟨q0, hq0⟩ : ∃ q, q = w.heap.size := ⟨_, rfl⟩
  have HOP := Lib.hid (open_any 100 [98, 97, 115, 101] 4 (some ⟨w.heap.size, 0, none⟩) 4 V0 (by omega) hr (by omega) (by omega))
  have HB0 := Lib.hid hb0
  have HV0 := Lib.hid hV0
  clear hr hb0 hV0 hq0
  go_enter Try.func7, Try.ntmps7
  go_wp2_with fail
  rw [← HV0.out]
  refine HOP.out.mono ?_
  rintro e v1 ⟨p, g, ob, rfl, hN⟩
  obtain ⟨V, hV⟩ : ∃ V, V = v1.alloc (.cells #[.int .u8 97] 5 (1, 2)) := ⟨_, rfl⟩
  obtain ⟨q, hq⟩ : ∃ q, q = v1.heap.size := ⟨_, rfl⟩
  have hbV : Below v1.heap.size v1 V := by rw [hV]; exact (Below.refl _ _).alloc (Nat.le_refl _) _
  have hrd : Rd V V.heap.size 1 (some ⟨q, 0, none⟩) 1 1 (u8s [97]) := by
    rw [hV, hq]
    exact rd_mark v1 #[.int .u8 97] _ _ 1 rfl (by simp [Value.oneCell'])
  have HN := Lib.hid (hN.later hbV)
  have HV := Lib.hid hV
  have HQ := Lib.hid hq
  have hwr : wrt (fit 100 [[98, 97, 115, 101]] (-1)) [97] = (fit 100 [[98, 97, 115, 101], [97]] (-1), 0) := wrt_ok (by simp [frms_cons, frms_nil, frm_len]) (by simp) (.inr rfl)
  have HW := Lib.hid (write_any (N := 0) HN.out.tp HN.out.below.size (by unfold fit; dsimp only; omega) (by unfold fit; dsimp only; omega) (by unfold fit; simp [frms_cons, frms_nil, frm_len]) HN.out.jn HN.out.ne HN.out.neo hrd (by omega) (by omega))
  rw [hwr] at HW
  clear hN hbV hrd hV hq HOP hwr
  go_wp2_with fail
  rw [← HV.out]
  try rw [← HQ.out]
  refine HW.out.mono ?_
  rintro e v2 ⟨rfl, hd⟩
  obtain ⟨ob2, hN2⟩ := HN.out.did hd
  have HN2 := Lib.hid hN2
  obtain ⟨A2, n2, c2, fb2, ah2, hT2, _⟩ := hN2.tp
  have hn2 : n2 = 21 := by have := hT2.len; unfold fit at this; simp [frms_cons, frms_nil, frm_len] at this; exact this.symm
  subst hn2
  have HT2 := Lib.hid hT2
  clear hd hN2 hT2 HW
  go_wp2_with fail
  refine (jlen_any HN2.out.jn).mono ?_
  rintro e v3 ⟨rfl, rfl⟩
  go_wp2_with fail
  refine (len_any HT2.out).mono ?_
  rintro e v3 ⟨rfl, rfl⟩
  have HSF := Lib.hid (safe_any HT2.out)
  have hsf : ((fit 100 [[98, 97, 115, 101], [97]] (-1)).sf : Int) = 21 := by unfold fit; simp [frms_cons, frms_nil, frm_len]
  rw [hsf] at HSF
  clear hsf
  go_wp2_with fail
  refine HSF.out.mono ?_
  rintro e v3 ⟨rfl, rfl⟩
  go_wp2_with fail
  go_ret
  exact ⟨by first | rfl | simp, HB0.out.trans (HN2.out.below.mono HB0.out.size)⟩
end Jrn
end Go.Proofs.Ytcffbgehopjgpaa
