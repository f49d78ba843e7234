/- Layer 17: an act befalls a tape, and the document's. -/
import Derived.Test.YtccihdgdhlcghaaTapeActs
import Derived.Test.YtccihdgdhlcghaaTape3
import Derived.Test.YtccihdgdhlcghaaTapeRef2
namespace Go.Proofs.Ytccihdgdhlcghaa
open Go.ChangeShapes Go.WideShapes Go.ChangeAt Go.RowKit
namespace Tpe
open By
set_option maxRecDepth 100000
set_option maxHeartbeats 1000000
theorem Did.from_ {w V w' : World} {lo g : Nat} {ob : Option Nat} {s : S} (hb : Below w.heap.size w V) (h : Did V lo g ob s w') : Did w lo g ob s w' := by
  obtain ⟨ob', h1, h2, h3⟩ := h
  refine ⟨ob', h1, (Two.of_below hb).trans (Fresh.refl _ _) h2, ?_⟩
  rcases h3 with h | h | ⟨k, h, hk⟩
  · exact .inl h
  · exact .inr (.inl h)
  · exact .inr (.inr ⟨k, h, Nat.le_trans hb.size hk⟩)
/-- an act befalls a tape -/
theorem act_any {w : World} {lo g n c : Nat} {s : S} {A : Option Addr} {fb : Bool} {ah : Int} (x : Ac) (h : TpAt w lo g s A n c fb ah) (hs : Ok s 20000) (hlo : lo ≤ w.heap.size) (hx : Rk w (fun b => b ≠ g) x.A x.n x.c x.b) (hxn : AcN x) (hx3 : x.n ≤ 300) :
    Calls Try.prog 14 #[.pointer (some ⟨g, 0, none⟩), acV x] w fun e w' => e = .returned (.int .i64 (act s x.kd x.b x.m x.y).2) ∧ Did w lo g (Value.slice A n c).ownBlock (act s x.kd x.b x.m x.y).1 w' := by
  obtain ⟨kd, b, m, y, Ab, nb, cb⟩ := x
  obtain ⟨⟨hk0, hk1⟩, hm⟩ := hxn
  dsimp only at hx hk0 hk1 hm hx3
  unfold acV
  dsimp only
  obtain ⟨V, hV⟩ : ∃ V, V = w.alloc (.cells #[.int .u8 kd, .slice Ab nb cb, .int .i64 m, .int .u8 y.toNat] 37) := ⟨_, rfl⟩
  have hbV : Below w.heap.size w V := by rw [hV]; exact (Below.refl _ _).alloc (Nat.le_refl _) _
  have HT2 := Lib.hid (h.later hbV)
  have HX2 := Lib.hid (hx.later hbV)
  have hlo2 : lo ≤ V.heap.size := Nat.le_trans hlo hbV.size
  have HB := Lib.hid hbV
  have HV := Lib.hid hV
  have hlen := h.len
  have hcap := hs.cap
  have hr : s.fu ≤ 9223372036854775807 := hs.fu.2
  have hn : n ≤ 20000 := by have := hs.len; omega
  have hsf : s.sf ≤ n := by have := hs.sf; omega
  have hnb : nb ≤ 300 := hx3
  clear h hx hbV hV hs hlo hlen
  by_cases k0 : kd = 0
  · obtain rfl : kd = 0 := by omega
    have e1 : act s 0 b m y = app s b := by unfold act; simp
    rw [e1]
    clear e1
    go_enter Try.func14, Try.ntmps14
    go_wp2_with fail
    rw [← HV.out]
    refine (append_any HT2.out hlo2 hcap hr hn HX2.out.rd hnb).mono ?_
    rintro e w2 ⟨rfl, hd⟩
    have HD := Lib.hid (Did.from_ HB.out hd)
    clear hd
    go_wp2_with fail
    go_ret
    exact ⟨rfl, HD.out⟩
  by_cases k1 : kd = 1
  · have f0 : (kd == 0) = false := by simp; omega
    obtain rfl : kd = 1 := by omega
    have e1 : act s 1 b m y = syn s := by unfold act; simp
    rw [e1]
    clear e1
    go_enter Try.func14, Try.ntmps14
    go_wp2_with fail
    rw [← HV.out]
    refine (sync_any HT2.out hr).mono ?_
    rintro e w2 ⟨rfl, hd⟩
    have HD := Lib.hid (Did.from_ HB.out hd)
    clear hd
    go_wp2_with fail
    go_ret
    exact ⟨rfl, HD.out⟩
  by_cases k2 : kd = 2
  · have f0 : (kd == 0) = false := by simp; omega
    have f1 : (kd == 1) = false := by simp; omega
    obtain rfl : kd = 2 := by omega
    have e1 : act s 2 b m y = rep s b := by unfold act; simp
    rw [e1]
    clear e1
    go_enter Try.func14, Try.ntmps14
    go_wp2_with fail
    rw [← HV.out]
    refine (replace_any HT2.out hlo2 hcap hr HX2.out hnb).mono ?_
    rintro e w2 ⟨rfl, hd⟩
    have HD := Lib.hid (Did.from_ HB.out hd)
    clear hd
    go_wp2_with fail
    go_ret
    exact ⟨rfl, HD.out⟩
  by_cases k3 : kd = 3
  · have f0 : (kd == 0) = false := by simp; omega
    have f1 : (kd == 1) = false := by simp; omega
    have f2 : (kd == 2) = false := by simp; omega
    obtain rfl : kd = 3 := by omega
    have e1 : act s 3 b m y = arm s m := by unfold act; simp
    rw [e1]
    clear e1
    go_enter Try.func14, Try.ntmps14
    go_wp2_with fail
    rw [← HV.out]
    refine (fuse_any m HT2.out hm).mono ?_
    rintro e w2 ⟨rfl, hd⟩
    have HD := Lib.hid (Did.from_ HB.out hd)
    clear hd
    go_wp2_with fail
    go_ret
    exact ⟨rfl, HD.out⟩
  have f0 : (kd == 0) = false := by simp; omega
  have f1 : (kd == 1) = false := by simp; omega
  have f2 : (kd == 2) = false := by simp; omega
  have f3 : (kd == 3) = false := by simp; omega
  have e1 : act s kd b m y = (rst s m y, 0) := by unfold act; rw [if_neg (by omega), if_neg (by omega), if_neg (by omega), if_neg (by omega)]
  rw [e1]
  clear e1
  go_enter Try.func14, Try.ntmps14
  go_wp2_with fail
  rw [← HV.out]
  refine (restart_any m HT2.out hsf hn hm y).mono ?_
  rintro e w2 ⟨rfl, hd⟩
  have HD := Lib.hid (Did.from_ HB.out hd)
  clear hd
  go_wp2_with fail
  go_ret
  exact ⟨rfl, HD.out⟩
theorem two5 {W W9 : World} {r n c : Nat} {ok : Nat → Prop} {A : Option Addr} {bs : List UInt8} {a0 a1 a2 a3 a4 : Value} (h : W9 = ((((W.setCell ⟨r, 0, none⟩ a0).setCell ⟨r, 1, none⟩ a1).setCell ⟨r, 2, none⟩ a2).setCell ⟨r, 3, none⟩ a3).setCell ⟨r, 4, none⟩ a4) (hr : Rk W (fun b => ok b ∧ b ≠ r) A n c bs) : Rk W9 ok A n c bs := by
  have ht : Two r none W W9 := by rw [h]; exact (((((Two.refl r none W).setCell 0 _).setCell 1 _).setCell 2 _).setCell 3 _).setCell 4 _
  exact (hr.two ht fun b hb _ => ⟨hb.2, by simp⟩).mono fun b hb _ => hb.1
/-- likewise, by the document -/
theorem model_any {w : World} {ok : Nat → Prop} {n c : Nat} {s : S} {A : Option Addr} (x : Ac) (hok : ∀ x, w.heap.size ≤ x → ok x) (h : Rk w ok A n c s.bs) (hs : Ok s 20000) (hx : Rd w w.heap.size 1 x.A x.n x.c (u8s x.b)) (hxn : AcN x) (hx3 : x.n ≤ 300) :
    Calls Try.prog 13 #[docV s A n c, acV x] w fun e w' => ∃ v, e = .returned (.tuple #[v, .int .i64 (act s x.kd x.b x.m x.y).2]) ∧ DocIs ok (act s x.kd x.b x.m x.y).1 w w' v := by
  obtain ⟨kd, b, m, y, Ab, nb, cb⟩ := x
  obtain ⟨⟨hk0, hk1⟩, hm⟩ := hxn
  dsimp only at hx hk0 hk1 hm hx3
  unfold acV
  dsimp only
  obtain ⟨V, hV⟩ : ∃ V, V = ((w.alloc (.cells #[.int .i64 s.cap, .slice A n c, .int .i64 s.sf, .int .i64 s.fu, .bool s.lo] 31)).alloc (.cells #[.int .u8 kd, .slice Ab nb cb, .int .i64 m, .int .u8 y.toNat] 37)).alloc (.cells #[.int .i64 0, .slice none 0 0, .int .i64 0, .int .i64 0, .bool false] 31) := ⟨_, rfl⟩
  have hbV : Below w.heap.size w V := by rw [hV]; exact (((Below.refl _ _).alloc (Nat.le_refl _) _).alloc (by simp) _).alloc (by simp; omega) _
  have hsz : V.heap.size = w.heap.size + 1 + 1 + 1 := by rw [hV]; simp
  have hVs : w.heap.size + 1 + 1 < V.heap.size := by omega
  have z0 : V.cell? ⟨w.heap.size + 1 + 1, 0, none⟩ = some (.int .i64 0) := by rw [hV]; go_simp
  have z1 : V.cell? ⟨w.heap.size + 1 + 1, 1, none⟩ = some (.slice none 0 0) := by rw [hV]; go_simp
  have z2 : V.cell? ⟨w.heap.size + 1 + 1, 2, none⟩ = some (.int .i64 0) := by rw [hV]; go_simp
  have z3 : V.cell? ⟨w.heap.size + 1 + 1, 3, none⟩ = some (.int .i64 0) := by rw [hV]; go_simp
  have z4 : V.cell? ⟨w.heap.size + 1 + 1, 4, none⟩ = some (.bool false) := by rw [hV]; go_simp
  have HF : Hid (∀ j, V.frozen? ⟨w.heap.size + 1 + 1, j, none⟩ = false) := fun j => by rw [hV]; go_simp
  have HR2 : Hid (Rk V (fun b => ok b ∧ b ≠ w.heap.size + 1 + 1) A n c s.bs) := (h.mono fun b hb hl => ⟨hb, by omega⟩).later hbV
  have HX2 := Lib.hid (hx.later hbV)
  have hok2 : ∀ b, V.heap.size ≤ b → ok b ∧ b ≠ w.heap.size + 1 + 1 := fun b hb => ⟨hok b (by omega), by omega⟩
  have HB := Lib.hid hbV
  have HV := Lib.hid hV
  have hlen := h.len
  have hcap := hs.cap
  have hr := hs.fu
  have hn : n ≤ 20000 := by have := hs.len; omega
  have hsf : s.sf ≤ n := by have := hs.sf; omega
  have hnb : nb ≤ 300 := hx3
  clear h hx hbV hV hs hlen hsz
  by_cases k0 : kd = 0
  · obtain rfl : kd = 0 := by omega
    have e1 : act s 0 b m y = app s b := by unfold act; simp
    rw [e1]
    clear e1
    have HC := Lib.hid (refapp_any (ok := fun b => ok b ∧ b ≠ w.heap.size + 1 + 1) hok2 HR2.out hcap hr hn HX2.out hnb)
    unfold docV at HC ⊢
    go_enter Try.func13, Try.ntmps13
    go_wp2_with fail
    rw [← HV.out]
    refine (HC.out).mono ?_
    rintro e w2 ⟨v, rfl, hd⟩
    obtain ⟨A2, n2, c2, rfl, hl2, hr2, hb2⟩ := hd
    have q0 := (hb2.cell (p := ⟨w.heap.size + 1 + 1, 0, none⟩) hVs).trans z0
    have p0 : w2.frozen? ⟨w.heap.size + 1 + 1, 0, none⟩ = false := (hb2.frozen (p := ⟨w.heap.size + 1 + 1, 0, none⟩) hVs).trans (HF.out 0)
    have q1 := (hb2.cell (p := ⟨w.heap.size + 1 + 1, 1, none⟩) hVs).trans z1
    have p1 : w2.frozen? ⟨w.heap.size + 1 + 1, 1, none⟩ = false := (hb2.frozen (p := ⟨w.heap.size + 1 + 1, 1, none⟩) hVs).trans (HF.out 1)
    have q2 := (hb2.cell (p := ⟨w.heap.size + 1 + 1, 2, none⟩) hVs).trans z2
    have p2 : w2.frozen? ⟨w.heap.size + 1 + 1, 2, none⟩ = false := (hb2.frozen (p := ⟨w.heap.size + 1 + 1, 2, none⟩) hVs).trans (HF.out 2)
    have q3 := (hb2.cell (p := ⟨w.heap.size + 1 + 1, 3, none⟩) hVs).trans z3
    have p3 : w2.frozen? ⟨w.heap.size + 1 + 1, 3, none⟩ = false := (hb2.frozen (p := ⟨w.heap.size + 1 + 1, 3, none⟩) hVs).trans (HF.out 3)
    have q4 := (hb2.cell (p := ⟨w.heap.size + 1 + 1, 4, none⟩) hVs).trans z4
    have p4 : w2.frozen? ⟨w.heap.size + 1 + 1, 4, none⟩ = false := (hb2.frozen (p := ⟨w.heap.size + 1 + 1, 4, none⟩) hVs).trans (HF.out 4)
    have HL2 := Lib.hid hl2
    have HR3 := Lib.hid hr2
    have HB2 := Lib.hid (HB.out.trans (hb2.mono HB.out.size))
    have hwr : w.heap.size ≤ w.heap.size + 1 + 1 := by omega
    clear hl2 hr2 hb2 z0 z1 z2 z3 z4 HC
    unfold docV
    go_wp2_with fail
    obtain ⟨w9, hw9⟩ : ∃ W9, W9 = ((((w2.setCell ⟨w.heap.size + 1 + 1, 0, none⟩ (.int .i64 (app s b).1.cap)).setCell ⟨w.heap.size + 1 + 1, 1, none⟩ (.slice A2 n2 c2)).setCell ⟨w.heap.size + 1 + 1, 2, none⟩ (.int .i64 (app s b).1.sf)).setCell ⟨w.heap.size + 1 + 1, 3, none⟩ (.int .i64 (app s b).1.fu)).setCell ⟨w.heap.size + 1 + 1, 4, none⟩ (.bool (app s b).1.lo) := ⟨_, rfl⟩
    obtain ⟨l0, l1, l2, l3, l4⟩ := st5 hw9 q0 q1 q2 q3 q4
    have hb9 := bel5 hw9 HB2.out hwr
    have hr9 : Rk w9 ok A2 n2 c2 (app s b).1.bs := two5 hw9 HR3.out
    rw [← hw9]
    clear hw9 q0 q1 q2 q3 q4 p0 p1 p2 p3 p4
    refine bodyPost_ret (v := .tuple #[.agg #[.int .i64 (app s b).1.cap, .slice A2 n2 c2, .int .i64 (app s b).1.sf, .int .i64 (app s b).1.fu, .bool (app s b).1.lo], .int .i64 (app s b).2]) (by simp [results, Try.results13, go_sem, l0, l1, l2, l3, l4]) rfl ⟨_, rfl, A2, n2, c2, rfl, HL2.out, hr9, hb9⟩
  by_cases k1 : kd = 1
  · have f0 : (kd == 0) = false := by simp; omega
    obtain rfl : kd = 1 := by omega
    have e1 : act s 1 b m y = syn s := by unfold act; simp
    rw [e1]
    clear e1
    have HC := Lib.hid (refsync_any HR2.out hr hn)
    unfold docV at HC ⊢
    go_enter Try.func13, Try.ntmps13
    go_wp2_with fail
    rw [← HV.out]
    refine (HC.out).mono ?_
    rintro e w2 ⟨v, rfl, hd⟩
    obtain ⟨A2, n2, c2, rfl, hl2, hr2, hb2⟩ := hd
    have q0 := (hb2.cell (p := ⟨w.heap.size + 1 + 1, 0, none⟩) hVs).trans z0
    have p0 : w2.frozen? ⟨w.heap.size + 1 + 1, 0, none⟩ = false := (hb2.frozen (p := ⟨w.heap.size + 1 + 1, 0, none⟩) hVs).trans (HF.out 0)
    have q1 := (hb2.cell (p := ⟨w.heap.size + 1 + 1, 1, none⟩) hVs).trans z1
    have p1 : w2.frozen? ⟨w.heap.size + 1 + 1, 1, none⟩ = false := (hb2.frozen (p := ⟨w.heap.size + 1 + 1, 1, none⟩) hVs).trans (HF.out 1)
    have q2 := (hb2.cell (p := ⟨w.heap.size + 1 + 1, 2, none⟩) hVs).trans z2
    have p2 : w2.frozen? ⟨w.heap.size + 1 + 1, 2, none⟩ = false := (hb2.frozen (p := ⟨w.heap.size + 1 + 1, 2, none⟩) hVs).trans (HF.out 2)
    have q3 := (hb2.cell (p := ⟨w.heap.size + 1 + 1, 3, none⟩) hVs).trans z3
    have p3 : w2.frozen? ⟨w.heap.size + 1 + 1, 3, none⟩ = false := (hb2.frozen (p := ⟨w.heap.size + 1 + 1, 3, none⟩) hVs).trans (HF.out 3)
    have q4 := (hb2.cell (p := ⟨w.heap.size + 1 + 1, 4, none⟩) hVs).trans z4
    have p4 : w2.frozen? ⟨w.heap.size + 1 + 1, 4, none⟩ = false := (hb2.frozen (p := ⟨w.heap.size + 1 + 1, 4, none⟩) hVs).trans (HF.out 4)
    have HL2 := Lib.hid hl2
    have HR3 := Lib.hid hr2
    have HB2 := Lib.hid (HB.out.trans (hb2.mono HB.out.size))
    have hwr : w.heap.size ≤ w.heap.size + 1 + 1 := by omega
    clear hl2 hr2 hb2 z0 z1 z2 z3 z4 HC
    unfold docV
    go_wp2_with fail
    obtain ⟨w9, hw9⟩ : ∃ W9, W9 = ((((w2.setCell ⟨w.heap.size + 1 + 1, 0, none⟩ (.int .i64 (syn s).1.cap)).setCell ⟨w.heap.size + 1 + 1, 1, none⟩ (.slice A2 n2 c2)).setCell ⟨w.heap.size + 1 + 1, 2, none⟩ (.int .i64 (syn s).1.sf)).setCell ⟨w.heap.size + 1 + 1, 3, none⟩ (.int .i64 (syn s).1.fu)).setCell ⟨w.heap.size + 1 + 1, 4, none⟩ (.bool (syn s).1.lo) := ⟨_, rfl⟩
    obtain ⟨l0, l1, l2, l3, l4⟩ := st5 hw9 q0 q1 q2 q3 q4
    have hb9 := bel5 hw9 HB2.out hwr
    have hr9 : Rk w9 ok A2 n2 c2 (syn s).1.bs := two5 hw9 HR3.out
    rw [← hw9]
    clear hw9 q0 q1 q2 q3 q4 p0 p1 p2 p3 p4
    refine bodyPost_ret (v := .tuple #[.agg #[.int .i64 (syn s).1.cap, .slice A2 n2 c2, .int .i64 (syn s).1.sf, .int .i64 (syn s).1.fu, .bool (syn s).1.lo], .int .i64 (syn s).2]) (by simp [results, Try.results13, go_sem, l0, l1, l2, l3, l4]) rfl ⟨_, rfl, A2, n2, c2, rfl, HL2.out, hr9, hb9⟩
  by_cases k2 : kd = 2
  · have f0 : (kd == 0) = false := by simp; omega
    have f1 : (kd == 1) = false := by simp; omega
    obtain rfl : kd = 2 := by omega
    have e1 : act s 2 b m y = rep s b := by unfold act; simp
    rw [e1]
    clear e1
    have HC := Lib.hid (refreplace_any (ok := fun b => ok b ∧ b ≠ w.heap.size + 1 + 1) hok2 HR2.out hr hcap HX2.out hnb)
    unfold docV at HC ⊢
    go_enter Try.func13, Try.ntmps13
    go_wp2_with fail
    rw [← HV.out]
    refine (HC.out).mono ?_
    rintro e w2 ⟨v, rfl, hd⟩
    obtain ⟨A2, n2, c2, rfl, hl2, hr2, hb2⟩ := hd
    have q0 := (hb2.cell (p := ⟨w.heap.size + 1 + 1, 0, none⟩) hVs).trans z0
    have p0 : w2.frozen? ⟨w.heap.size + 1 + 1, 0, none⟩ = false := (hb2.frozen (p := ⟨w.heap.size + 1 + 1, 0, none⟩) hVs).trans (HF.out 0)
    have q1 := (hb2.cell (p := ⟨w.heap.size + 1 + 1, 1, none⟩) hVs).trans z1
    have p1 : w2.frozen? ⟨w.heap.size + 1 + 1, 1, none⟩ = false := (hb2.frozen (p := ⟨w.heap.size + 1 + 1, 1, none⟩) hVs).trans (HF.out 1)
    have q2 := (hb2.cell (p := ⟨w.heap.size + 1 + 1, 2, none⟩) hVs).trans z2
    have p2 : w2.frozen? ⟨w.heap.size + 1 + 1, 2, none⟩ = false := (hb2.frozen (p := ⟨w.heap.size + 1 + 1, 2, none⟩) hVs).trans (HF.out 2)
    have q3 := (hb2.cell (p := ⟨w.heap.size + 1 + 1, 3, none⟩) hVs).trans z3
    have p3 : w2.frozen? ⟨w.heap.size + 1 + 1, 3, none⟩ = false := (hb2.frozen (p := ⟨w.heap.size + 1 + 1, 3, none⟩) hVs).trans (HF.out 3)
    have q4 := (hb2.cell (p := ⟨w.heap.size + 1 + 1, 4, none⟩) hVs).trans z4
    have p4 : w2.frozen? ⟨w.heap.size + 1 + 1, 4, none⟩ = false := (hb2.frozen (p := ⟨w.heap.size + 1 + 1, 4, none⟩) hVs).trans (HF.out 4)
    have HL2 := Lib.hid hl2
    have HR3 := Lib.hid hr2
    have HB2 := Lib.hid (HB.out.trans (hb2.mono HB.out.size))
    have hwr : w.heap.size ≤ w.heap.size + 1 + 1 := by omega
    clear hl2 hr2 hb2 z0 z1 z2 z3 z4 HC
    unfold docV
    go_wp2_with fail
    obtain ⟨w9, hw9⟩ : ∃ W9, W9 = ((((w2.setCell ⟨w.heap.size + 1 + 1, 0, none⟩ (.int .i64 (rep s b).1.cap)).setCell ⟨w.heap.size + 1 + 1, 1, none⟩ (.slice A2 n2 c2)).setCell ⟨w.heap.size + 1 + 1, 2, none⟩ (.int .i64 (rep s b).1.sf)).setCell ⟨w.heap.size + 1 + 1, 3, none⟩ (.int .i64 (rep s b).1.fu)).setCell ⟨w.heap.size + 1 + 1, 4, none⟩ (.bool (rep s b).1.lo) := ⟨_, rfl⟩
    obtain ⟨l0, l1, l2, l3, l4⟩ := st5 hw9 q0 q1 q2 q3 q4
    have hb9 := bel5 hw9 HB2.out hwr
    have hr9 : Rk w9 ok A2 n2 c2 (rep s b).1.bs := two5 hw9 HR3.out
    rw [← hw9]
    clear hw9 q0 q1 q2 q3 q4 p0 p1 p2 p3 p4
    refine bodyPost_ret (v := .tuple #[.agg #[.int .i64 (rep s b).1.cap, .slice A2 n2 c2, .int .i64 (rep s b).1.sf, .int .i64 (rep s b).1.fu, .bool (rep s b).1.lo], .int .i64 (rep s b).2]) (by simp [results, Try.results13, go_sem, l0, l1, l2, l3, l4]) rfl ⟨_, rfl, A2, n2, c2, rfl, HL2.out, hr9, hb9⟩
  by_cases k3 : kd = 3
  · have f0 : (kd == 0) = false := by simp; omega
    have f1 : (kd == 1) = false := by simp; omega
    have f2 : (kd == 2) = false := by simp; omega
    obtain rfl : kd = 3 := by omega
    have e1 : act s 3 b m y = arm s m := by unfold act; simp
    rw [e1]
    clear e1
    have HC := Lib.hid (refarm_any m HR2.out)
    unfold docV at HC ⊢
    go_enter Try.func13, Try.ntmps13
    go_wp2_with fail
    rw [← HV.out]
    refine (HC.out).mono ?_
    rintro e w2 ⟨v, rfl, hd⟩
    obtain ⟨A2, n2, c2, rfl, hl2, hr2, hb2⟩ := hd
    have q0 := (hb2.cell (p := ⟨w.heap.size + 1 + 1, 0, none⟩) hVs).trans z0
    have p0 : w2.frozen? ⟨w.heap.size + 1 + 1, 0, none⟩ = false := (hb2.frozen (p := ⟨w.heap.size + 1 + 1, 0, none⟩) hVs).trans (HF.out 0)
    have q1 := (hb2.cell (p := ⟨w.heap.size + 1 + 1, 1, none⟩) hVs).trans z1
    have p1 : w2.frozen? ⟨w.heap.size + 1 + 1, 1, none⟩ = false := (hb2.frozen (p := ⟨w.heap.size + 1 + 1, 1, none⟩) hVs).trans (HF.out 1)
    have q2 := (hb2.cell (p := ⟨w.heap.size + 1 + 1, 2, none⟩) hVs).trans z2
    have p2 : w2.frozen? ⟨w.heap.size + 1 + 1, 2, none⟩ = false := (hb2.frozen (p := ⟨w.heap.size + 1 + 1, 2, none⟩) hVs).trans (HF.out 2)
    have q3 := (hb2.cell (p := ⟨w.heap.size + 1 + 1, 3, none⟩) hVs).trans z3
    have p3 : w2.frozen? ⟨w.heap.size + 1 + 1, 3, none⟩ = false := (hb2.frozen (p := ⟨w.heap.size + 1 + 1, 3, none⟩) hVs).trans (HF.out 3)
    have q4 := (hb2.cell (p := ⟨w.heap.size + 1 + 1, 4, none⟩) hVs).trans z4
    have p4 : w2.frozen? ⟨w.heap.size + 1 + 1, 4, none⟩ = false := (hb2.frozen (p := ⟨w.heap.size + 1 + 1, 4, none⟩) hVs).trans (HF.out 4)
    have HL2 := Lib.hid hl2
    have HR3 := Lib.hid hr2
    have HB2 := Lib.hid (HB.out.trans (hb2.mono HB.out.size))
    have hwr : w.heap.size ≤ w.heap.size + 1 + 1 := by omega
    clear hl2 hr2 hb2 z0 z1 z2 z3 z4 HC
    unfold docV
    go_wp2_with fail
    obtain ⟨w9, hw9⟩ : ∃ W9, W9 = ((((w2.setCell ⟨w.heap.size + 1 + 1, 0, none⟩ (.int .i64 (arm s m).1.cap)).setCell ⟨w.heap.size + 1 + 1, 1, none⟩ (.slice A2 n2 c2)).setCell ⟨w.heap.size + 1 + 1, 2, none⟩ (.int .i64 (arm s m).1.sf)).setCell ⟨w.heap.size + 1 + 1, 3, none⟩ (.int .i64 (arm s m).1.fu)).setCell ⟨w.heap.size + 1 + 1, 4, none⟩ (.bool (arm s m).1.lo) := ⟨_, rfl⟩
    obtain ⟨l0, l1, l2, l3, l4⟩ := st5 hw9 q0 q1 q2 q3 q4
    have hb9 := bel5 hw9 HB2.out hwr
    have hr9 : Rk w9 ok A2 n2 c2 (arm s m).1.bs := two5 hw9 HR3.out
    rw [← hw9]
    clear hw9 q0 q1 q2 q3 q4 p0 p1 p2 p3 p4
    refine bodyPost_ret (v := .tuple #[.agg #[.int .i64 (arm s m).1.cap, .slice A2 n2 c2, .int .i64 (arm s m).1.sf, .int .i64 (arm s m).1.fu, .bool (arm s m).1.lo], .int .i64 (arm s m).2]) (by simp [results, Try.results13, go_sem, l0, l1, l2, l3, l4]) rfl ⟨_, rfl, A2, n2, c2, rfl, HL2.out, hr9, hb9⟩
  have f0 : (kd == 0) = false := by simp; omega
  have f1 : (kd == 1) = false := by simp; omega
  have f2 : (kd == 2) = false := by simp; omega
  have f3 : (kd == 3) = false := by simp; omega
  have e1 : act s kd b m y = (rst s m y, 0) := by unfold act; rw [if_neg (by omega), if_neg (by omega), if_neg (by omega), if_neg (by omega)]
  rw [e1]
  clear e1
  have HC := Lib.hid (refrestart_any m hok2 HR2.out hsf hn y)
  unfold docV at HC ⊢
  go_enter Try.func13, Try.ntmps13
  go_wp2_with fail
  rw [← HV.out]
  refine (HC.out).mono ?_
  rintro e w2 ⟨v, rfl, hd⟩
  obtain ⟨A2, n2, c2, rfl, hl2, hr2, hb2⟩ := hd
  have q0 := (hb2.cell (p := ⟨w.heap.size + 1 + 1, 0, none⟩) hVs).trans z0
  have p0 : w2.frozen? ⟨w.heap.size + 1 + 1, 0, none⟩ = false := (hb2.frozen (p := ⟨w.heap.size + 1 + 1, 0, none⟩) hVs).trans (HF.out 0)
  have q1 := (hb2.cell (p := ⟨w.heap.size + 1 + 1, 1, none⟩) hVs).trans z1
  have p1 : w2.frozen? ⟨w.heap.size + 1 + 1, 1, none⟩ = false := (hb2.frozen (p := ⟨w.heap.size + 1 + 1, 1, none⟩) hVs).trans (HF.out 1)
  have q2 := (hb2.cell (p := ⟨w.heap.size + 1 + 1, 2, none⟩) hVs).trans z2
  have p2 : w2.frozen? ⟨w.heap.size + 1 + 1, 2, none⟩ = false := (hb2.frozen (p := ⟨w.heap.size + 1 + 1, 2, none⟩) hVs).trans (HF.out 2)
  have q3 := (hb2.cell (p := ⟨w.heap.size + 1 + 1, 3, none⟩) hVs).trans z3
  have p3 : w2.frozen? ⟨w.heap.size + 1 + 1, 3, none⟩ = false := (hb2.frozen (p := ⟨w.heap.size + 1 + 1, 3, none⟩) hVs).trans (HF.out 3)
  have q4 := (hb2.cell (p := ⟨w.heap.size + 1 + 1, 4, none⟩) hVs).trans z4
  have p4 : w2.frozen? ⟨w.heap.size + 1 + 1, 4, none⟩ = false := (hb2.frozen (p := ⟨w.heap.size + 1 + 1, 4, none⟩) hVs).trans (HF.out 4)
  have HL2 := Lib.hid hl2
  have HR3 := Lib.hid hr2
  have HB2 := Lib.hid (HB.out.trans (hb2.mono HB.out.size))
  have hwr : w.heap.size ≤ w.heap.size + 1 + 1 := by omega
  clear hl2 hr2 hb2 z0 z1 z2 z3 z4 HC
  unfold docV
  go_wp2_with fail
  obtain ⟨w9, hw9⟩ : ∃ W9, W9 = ((((w2.setCell ⟨w.heap.size + 1 + 1, 0, none⟩ (.int .i64 (rst s m y).cap)).setCell ⟨w.heap.size + 1 + 1, 1, none⟩ (.slice A2 n2 c2)).setCell ⟨w.heap.size + 1 + 1, 2, none⟩ (.int .i64 (rst s m y).sf)).setCell ⟨w.heap.size + 1 + 1, 3, none⟩ (.int .i64 (rst s m y).fu)).setCell ⟨w.heap.size + 1 + 1, 4, none⟩ (.bool (rst s m y).lo) := ⟨_, rfl⟩
  obtain ⟨l0, l1, l2, l3, l4⟩ := st5 hw9 q0 q1 q2 q3 q4
  have hb9 := bel5 hw9 HB2.out hwr
  have hr9 : Rk w9 ok A2 n2 c2 (rst s m y).bs := two5 hw9 HR3.out
  rw [← hw9]
  clear hw9 q0 q1 q2 q3 q4 p0 p1 p2 p3 p4
  refine bodyPost_ret (v := .tuple #[.agg #[.int .i64 (rst s m y).cap, .slice A2 n2 c2, .int .i64 (rst s m y).sf, .int .i64 (rst s m y).fu, .bool (rst s m y).lo], .int .i64 0]) (by simp [results, Try.results13, go_sem, l0, l1, l2, l3, l4]) rfl ⟨_, rfl, A2, n2, c2, rfl, HL2.out, hr9, hb9⟩
end Tpe
end Go.Proofs.Ytccihdgdhlcghaa
