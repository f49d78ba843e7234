/- Flags: checked, the program. -/
import Derived.Test.YtnlojpolfkjkoaaGreatG120
namespace Go.Proofs.YtnlojpolfkjkoaaGreat
open Go.ChangeShapes Go.WideShapes Go.ChangeAt Go.RowKit
namespace Cs
open Tr Cx Sp Rw Classical
set_option maxRecDepth 100000 in
set_option maxHeartbeats 4000000 in
theorem fcheck_any (t : T) (Ae Ak : Option Addr) (ne nk ce ck : Nat) (a n : Int) (w : World) (z : Bool) (hz : checkB t a n = z) (hl : LenT reachBytes t) (hn : nodes t ≤ 1000) (hr : RdT w w.heap.size t ⟨Ae, ne, ce⟩ ⟨Ak, nk, ck⟩) :
  Calls Tryz.prog 24 #[.agg #[.slice Ae ne ce, .slice Ak nk ck], .agg #[.int .i64 a, .int .i64 n]] w fun e w' => e = .returned (.int .i64 (if z = true then 0 else 1)) ∧ Below w.heap.size w w' := by
 obtain ⟨W, p, q, HW, HP, HQ, HKc⟩ := boxTD w Ae Ak ne nk ce ck a n; have HD := Lib.hid (fdots_any t Ae Ak ne nk ce ck a n W hl hn (RdT.more HKc.out.below.size _ (RdT.below hr HKc.out.below))); have HZ := Lib.hid hz; clear hl hn hr hz; have c0 := HKc.out.c0; have c1 := HKc.out.c1; have c2 := HKc.out.c2; have c3 := HKc.out.c3
 obtain ⟨x, hx⟩ : ∃ x : Int, (if z = true then 0 else 1) = x := ⟨_, rfl⟩
 rw [hx]; have HX := Lib.hid hx; clear hx; go_enter Tryz.func24, Tryz.ntmps24; go_wp2_with fail; rw [← HP.out, ← HW.out]
 try rw [← HQ.out]
 refine HD.out.mono ?_; rintro e v1 ⟨v, z1, k, c, A, rfl, hv, hz, hb9⟩; have HKc := Lib.hid (HKc.out.later hb9)
 obtain rfl : z1 = x := by
  rw [← HX.out, ← HZ.out]
  cases h : checkB t a n with
  | false => rw [(hz.out.2 h).1]; rfl
  | true => rw [(hz.out.1 h).1]; rfl
 clear hb9 hv hz HD c0 c1 c2 c3; go_wp2_with fail; go_ret; exact ⟨rfl, HKc.out.below⟩
end Cs
end Go.Proofs.YtnlojpolfkjkoaaGreat
