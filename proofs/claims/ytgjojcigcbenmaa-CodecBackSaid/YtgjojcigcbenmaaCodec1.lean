/- Package codec: numbers with and without a sign, their bytes by sevens; a copy of bytes. And the document's own bytes of a number. -/
import Derived.Test.YtgjojcigcbenmaaBytes
import Derived.WalkKit
namespace Go.Proofs.Ytgjojcigcbenmaa
open Go.RowKit
namespace Codec
theorem info8 : (Try.prog.info? 5).map (fun i => (i.zero, i.size, i.bytes)) = some (some (.int .u8 0), 1, 1) := by kernel_rfl
theorem info_parts8 : ∃ i, Try.prog.info? 5 = some i ∧ i.zero = some (.int .u8 0) ∧ i.size = 1 ∧ i.bytes = 1 := by
  have h := info8
  cases hi : Try.prog.info? 5 with
  | none => rw [hi] at h; cases h
  | some i =>
    rw [hi] at h
    simp only [Option.map_some, Option.some.injEq, Prod.mk.injEq] at h
    exact ⟨i, rfl, h.1, h.2.1, h.2.2⟩

theorem fold_any (v : Int) (w : World) (h1 : -9223372036854775808 ≤ v) (h2 : v ≤ 9223372036854775807) :
    Calls Try.prog 36 #[.int .i64 v] w fun e w' => e = .returned (.int .u64 (foldN v)) ∧ w = w' := by
  by_cases hv : v < 0
  · have e1 : IntKind.i64.wrap (v + 1) = v + 1 := IntWalk.i64_in _ (by omega)
    have e2 : IntKind.i64.wrap (-(v + 1)) = -(v + 1) := IntWalk.i64_in _ (by omega)
    have e3 : IntKind.u64.wrap (-(v + 1)) = -(v + 1) := IntWalk.u64_in _ (by omega)
    have e4 : IntKind.u64.wrap (-(v + 1) * 2) = -(v + 1) * 2 := IntWalk.u64_in _ (by omega)
    have e5 : IntKind.u64.wrap (-(v + 1) * 2 + 1) = ((foldN v : Nat) : Int) := by
      rw [IntWalk.u64_in _ (by omega)]
      unfold foldN; rw [if_pos hv]; omega
    go_enter Try.func36, Try.ntmps36
    go_wp2
    go_ret
    exact ⟨rfl, rfl⟩
  · have e3 : IntKind.u64.wrap v = v := IntWalk.u64_in _ (by omega)
    have e5 : IntKind.u64.wrap (v * 2) = ((foldN v : Nat) : Int) := by
      rw [IntWalk.u64_in _ (by omega)]
      unfold foldN; rw [if_neg hv]; omega
    go_enter Try.func36, Try.ntmps36
    go_wp2
    go_ret
    exact ⟨rfl, rfl⟩
theorem unfold_any (u : Nat) (w : World) (h : u < 18446744073709551616) :
    Calls Try.prog 33 #[.int .u64 u] w fun e w' => e = .returned (.int .i64 (unfoldN u)) ∧ w = w' := by
  by_cases hu : u % 2 = 1
  · have hv : unfoldN u = -((u : Int) / 2) - 1 := by unfold unfoldN; rw [if_pos hu]; omega
    rw [hv]
    go_enter Try.func33, Try.ntmps33
    go_wp2
    go_ret
    exact ⟨rfl, rfl⟩
  · have hv : unfoldN u = (u : Int) / 2 := by unfold unfoldN; rw [if_neg hu]; omega
    rw [hv]
    go_enter Try.func33, Try.ntmps33
    go_wp2
    go_ret
    exact ⟨rfl, rfl⟩
/-- append of one byte that the call has just laid -/
theorem run_push8 (W : World) (base q : Nat) (hq : W.heap.size = q) (hb : base ≤ W.heap.size) (v : Value) (acc : List UInt8) (hown : W.ownsRow base 5 1 v acc.length (u8s acc)) (b : UInt8) (x : Int) (hx : x = b.toNat) (hn : acc.length ≤ 1000) :
    ∃ v' w', (Builtin.append_ #[25, 25] 25 #[v, .slice (some ⟨q, 0, none⟩) 1 1]).run Try.prog (W.alloc (.cells #[.int .u8 x] 5)) = .ok v' w' ∧
      w'.ownsRow base 5 1 v' (acc ++ [b]).length (u8s (acc ++ [b])) ∧ Below base W w' := by
  subst hq; subst hx
  obtain ⟨i0, hi0, hz0, hz1, hz2⟩ := info_parts8
  obtain ⟨v', w', h1, h2, h3, h4⟩ := run_app (P := Try.prog) (W.alloc (.cells #[.int .u8 b.toNat] 5)) base 25 25 5 i0 _ 1 1 Try.underlying25 hi0 hz0 hz1 hz2 rfl (by omega)
    (hown.alloc _) (B := W.heap.size + 1) (A := some ⟨W.heap.size, 0, none⟩) (m := 1) (c := 1) (news := [.int .u8 b.toNat])
    ⟨rfl, by omega, by intro u hu; simp only [List.mem_cons, List.not_mem_nil, or_false] at hu; rcases hu with rfl; rfl, fun _ => ⟨_, _, rfl, by omega, fun j u hu => by
      rw [Nat.zero_add, cell_of_row _ _ j _ _ (0, 0) (heap_alloc_new _ _)]
      simpa using hu⟩⟩ (by omega) (by omega) (by simp; omega)
  refine ⟨v', w', h1, ?_, ?_⟩
  · rw [u8s_append]
    simpa [u8s] using h2
  · exact ((Below.refl base W).alloc hb _).grown h3 (by simp; omega) (fun k hk => (hown.lt k hk).1)
set_option maxRecDepth 100000 in
set_option maxHeartbeats 400000 in
theorem sevens_any (u : Nat) (w : World) (h : u < 18446744073709551616) :
    Calls Try.prog 35 #[.int .u64 u] w fun e w' => e = .returned (.string (strOf (sev u))) ∧ Below w.heap.size w w' := by
  have h10 := sev_ten h
  go_enter Try.func35, Try.ntmps35
  go_wp2
  go_loopw [0, 3] (fun x v wr => ∃ (k : Nat) (pre : List UInt8), x = .int .u64 k ∧ k ≤ u ∧ wr.ownsRow w.heap.size 5 1 v pre.length (u8s pre) ∧ Below w.heap.size w wr ∧ Hid (pre ++ sev k = sev u)) (fun x _ _ => (intOf x).toNat)
  case atStart => exact ⟨u, [], rfl, Nat.le_refl _, World.ownsRow_nil _ _ _ _, Below.refl _ _, rfl⟩
  case round =>
    obtain ⟨k, pre, rfl, hk, hown, hB, hpre⟩ := hrel
    by_cases hge : 128 ≤ k
    · obtain ⟨b, hb⟩ : ∃ b, b = UInt8.ofNat (k % 128 + 128) := ⟨_, rfl⟩
      have hpre2 : Hid ((pre ++ [b]) ++ sev (k / 128) = sev u) := by
        unfold Hid at *
        rw [← hpre, sev_ge hge, hb]; simp
      have hx : Hid (bits BinOp.or IntKind.u8 ((k : Int) % 256) 128 = (b.toNat : Int)) := by
        unfold Hid
        rw [hb]
        have h1 := u8_or_nat (k % 256) 128 (by omega) (by omega)
        have h2 : ((k % 256 : Nat) : Int) = (k : Int) % 256 := by omega
        rw [h2] at h1
        rw [show (128 : Int) = ((128 : Nat) : Int) from rfl, h1, UInt8.toNat_ofNat']
        have h3 : k % 256 ||| 128 = k % 128 + 128 := by
          have h4 : k % 256 = k % 128 ∨ k % 256 = k % 128 + 128 := by omega
          have h5 : k % 128 ||| 128 = k % 128 + 128 := by
            rw [Nat.or_comm, nat_join 7 128 (k % 128) (by decide) (by omega)]; omega
          rcases h4 with h4 | h4
          · rw [h4, h5]
          · rw [h4, ← h5, Nat.or_assoc, Nat.or_self]
        rw [h3]; omega
      have hlen : pre.length ≤ 1000 := by
        have h1 := congrArg List.length hpre
        have h2 := sev_pos k
        rw [List.length_append] at h1; omega
      clear hb
      obtain ⟨v2, w4, hrun, hown2, hb4⟩ := run_push8 wr w.heap.size wr.heap.size rfl hB.size _ pre hown b _ hx.out hlen
      have Hrun := Lib.hid hrun
      clear hrun
      go_wp2_with (at_builtin; refine Lib.wpList_append_run _ rfl _ _ _ _ rfl _ _ rfl rfl _ _ Hrun.out ?_)
      go_roundw
      case rel => exact ⟨k / 128, pre ++ [b], by go_num, by omega, hown2, hB.trans hb4, hpre2⟩
      case measure => simp [intOf]; omega
    · obtain ⟨b, hb⟩ : ∃ b, b = UInt8.ofNat k := ⟨_, rfl⟩
      have hpre2 : Hid (sev u = pre ++ [b]) := by
        unfold Hid at *
        rw [← hpre, sev_lt (by omega), hb]
      have hx : Hid ((k : Int) = (b.toNat : Int)) := by
        unfold Hid
        rw [hb, UInt8.toNat_ofNat']; omega
      have hlen : pre.length ≤ 1000 := by
        have h1 := congrArg List.length hpre2
        rw [List.length_append] at h1; omega
      clear hb
      obtain ⟨v2, w4, hrun, hown2, hb4⟩ := run_push8 wr w.heap.size wr.heap.size rfl hB.size _ pre hown b _ hx.out hlen
      obtain ⟨acc2, hacc2⟩ : ∃ acc2, acc2 = pre ++ [b] := ⟨_, rfl⟩
      rw [← hacc2] at hown2
      have hl2 : Hid ((pre ++ [b]).length = acc2.length) := by rw [hacc2]; rfl
      have HA := Lib.hid hacc2
      clear hacc2
      have Hrun := Lib.hid hrun
      clear hrun
      obtain ⟨A2, c2, rfl, ho2⟩ := Own.of_row hown2 (u8s_one _)
      have hs2 := run_str (P := Try.prog) w4 25 9 5 Try.underlying25 Try.underlying5 Try.underlying9 ho2.rd
      clear hown2
      go_wp2_with (at_builtin; refine Lib.wpList_append_run _ rfl _ _ _ _ rfl _ _ rfl rfl _ _ Hrun.out ?_)
      go_ret
      have he : sev u = acc2 := hpre2.out.trans HA.out.symm
      refine ⟨?_, hB.trans hb4⟩
      rw [he]
      rfl
end Codec
end Go.Proofs.Ytgjojcigcbenmaa
