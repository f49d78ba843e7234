/- Texts of the lower layers, and of layer 9, put together. -/
import Derived.Test.YtcbclefemcmhpaaGreatG10
import Derived.Test.YtcbclefemcmhpaaGreatTreeUnder
import Derived.Test.YtcbclefemcmhpaaGreatG00
import Derived.Test.YtcbclefemcmhpaaGreatG20
import Derived.Test.YtcbclefemcmhpaaGreatSpanOf
import Derived.Test.YtcbclefemcmhpaaGreatTreeRight
import Derived.Test.YtcbclefemcmhpaaGreatTreeLeaves
import Derived.Laws.IdiomArrays
import Derived.Deep.Strs
namespace Go.Proofs.YtcbclefemcmhpaaGreat
open Go.ChangeShapes Go.WideShapes Go.ChangeAt Go.RowKit
namespace Tr
open Sp Rw
/-- no entry -/
def zeroE : E := ⟨0, 0, ⟨#[]⟩, 0⟩
def bestE (r : Option E) : E := match r with | none => zeroE | some e => e
def bestK (r : Option ByteArray) : ByteArray := match r with | none => ⟨#[]⟩ | some k => k
section
variable {α : Type} {lt : α → α → Prop} {ab : α → Prop} {m : List α} {x b : α} {r : Option α}
theorem least_skip (h : ¬ ab x) (hr : LeastOf lt m ab r) : LeastOf lt (m ++ [x]) ab r := by
  cases r with
  | none =>
    intro y hy
    rcases List.mem_append.1 hy with hy | hy
    · exact hr y hy
    · rw [List.mem_singleton.1 hy]; exact h
  | some b =>
    refine ⟨List.mem_append_left _ hr.1, hr.2.1, fun y hy ha => ?_⟩
    rcases List.mem_append.1 hy with hy | hy
    · exact hr.2.2 y hy ha
    · rw [List.mem_singleton.1 hy] at ha; exact absurd ha h
theorem least_new (irr : ∀ a, ¬ lt a a) (h : ab x) (hr : LeastOf lt m ab none) : LeastOf lt (m ++ [x]) ab (some x) := by
  refine ⟨List.mem_append_right _ List.mem_cons_self, h, fun y hy ha => ?_⟩
  rcases List.mem_append.1 hy with hy | hy
  · exact absurd ha (hr y hy)
  · rw [List.mem_singleton.1 hy]; exact irr x
theorem least_less (irr : ∀ a, ¬ lt a a) (tr : ∀ a b c, lt a b → lt b c → lt a c) (h : ab x) (hl : lt x b) (hr : LeastOf lt m ab (some b)) : LeastOf lt (m ++ [x]) ab (some x) := by
  refine ⟨List.mem_append_right _ List.mem_cons_self, h, fun y hy ha => ?_⟩
  rcases List.mem_append.1 hy with hy | hy
  · exact fun hyx => hr.2.2 y hy ha (tr _ _ _ hyx hl)
  · rw [List.mem_singleton.1 hy]; exact irr x
theorem least_not (hl : ¬ lt x b) (hr : LeastOf lt m ab (some b)) : LeastOf lt (m ++ [x]) ab (some b) := by
  refine ⟨List.mem_append_left _ hr.1, hr.2.1, fun y hy ha => ?_⟩
  rcases List.mem_append.1 hy with hy | hy
  · exact hr.2.2 y hy ha
  · rw [List.mem_singleton.1 hy]; exact hl
end
theorem rootE_succ {ls : List Lf} {k : Nat} (h : k < ls.length) : rootE (ls.take (k + 1)) = rootE (ls.take k) ++ rootE [ls[k]] := by
  rw [List.take_succ_eq_append_getElem h]
  unfold rootE
  rw [List.filterMap_append]
theorem heads_succ {ls : List Lf} {k : Nat} (h : k < ls.length) : heads (ls.take (k + 1)) = heads (ls.take k) ++ heads [ls[k]] := by
  rw [List.take_succ_eq_append_getElem h]
  unfold heads
  rw [List.filterMap_append]
theorem kidAt_nth : ∀ {ks : List (ByteArray × T)}, ks.Pairwise (fun x y => ltS x.1 y.1) → ∀ (j : Nat) (h : j < ks.length), kidAt ks (ks[j]).1 = (ks[j]).2
  | k :: ks, hp, 0, _ => by
    show kidAt (k :: ks) k.1 = k.2
    unfold kidAt
    rw [if_pos rfl]
  | k :: ks, hp, j + 1, h => by
    rw [List.pairwise_cons] at hp
    have hj : j < ks.length := by simpa using h
    have hlt := hp.1 (ks[j]) (List.getElem_mem hj)
    show kidAt (k :: ks) (ks[j]).1 = (ks[j]).2
    unfold kidAt
    rw [if_neg (fun e => tot_str.irr (ks[j]).1 (by rw [e] at hlt; exact hlt))]
    exact kidAt_nth hp.2 j hj
/-- keys' heads may be -/
theorem heads_ok {d : Nat} {es : List E} {ks : List (ByteArray × T)} (h : RightT (d + 1) (.mk es ks)) {k : ByteArray} (hk : k ∈ heads (leaves (.mk es ks))) : 1 ≤ k.size := by
  obtain ⟨x, hx, rfl⟩ := List.mem_map.1 ((heads_leaves h k).1 hk)
  exact (h.2.2.2 x hx).1.1
theorem _root_.Go.Proofs.YtcbclefemcmhpaaGreat.Free.low {g B : Nat} {w w' : World} (h : Free g w) (hb : Below B w w') (hg : g < B) (hs : w.heap.size ≤ w'.heap.size) : Free g w' := ⟨Nat.lt_of_lt_of_le h.1 hs, fun j => (hb.frozen (p := ⟨g, j, none⟩) hg).trans (h.2 j)⟩
/-- an entry more -/
theorem push_ent (W : World) (base q : Nat) (hq : W.heap.size = q) {A : Option Addr} {n c : Nat} {l : List E} (h : Own W base 58 4 A n c (entsC l)) (hl : l.length = n) (hb : base ≤ W.heap.size) (e : E) (hn : n ≤ 800000) :
    ∃ A' c' w', (Builtin.append_ #[22, 22] 22 #[.slice A n c, .slice (some ⟨q, 0, none⟩) 1 1]).run Tryz.prog (W.alloc (.cells #[.int .i64 e.a, .int .i64 e.n, .string e.s, .int .i64 e.v] 58)) = .ok (.slice A' (n + 1) c') w' ∧ Own w' base 58 4 A' (n + 1) c' (entsC (l ++ [e])) ∧ Below base W w' := by
  subst hl
  obtain ⟨A', c', w', r1, r2, r3⟩ := Rw.push (f := entC) entC_len entC_one (t := 22) Tryz.underlying22 infoE rfl (by omega) (by omega) W base q hq hb (.slice A l.length c) l h.row e _ rfl (by omega)
  have e1 : (l ++ [e]).length = l.length + 1 := by simp
  rw [e1] at r1 r2
  exact ⟨A', c', w', r1, r2, r3⟩
/-- the key that was told last -/
def lastK (ks : List (ByteArray × T)) (j : Nat) : ByteArray := match j with | 0 => ⟨#[]⟩ | j + 1 => ((ks.map fun x => x.1)[j]?).getD ⟨#[]⟩
theorem str_cons {k : ByteArray} (h : 1 ≤ k.size) : ∃ a l, k.toList = a :: l := by
  rcases hk : k.toList with _ | ⟨a, l⟩
  · have h1 : k.toList.length = k.size := by rw [ByteArray.toList_eq]; simp
    rw [hk] at h1
    simp at h1
    omega
  · exact ⟨a, l, rfl⟩
theorem str_isEmpty {k : ByteArray} (h : 1 ≤ k.size) : k.toList.isEmpty = false := by
  obtain ⟨a, l, e⟩ := str_cons h
  rw [e]
  rfl
theorem nil_isEmpty : (⟨#[]⟩ : ByteArray).toList.isEmpty = true := by
  rw [ByteArray.toList_eq]
  rfl
theorem above_key {ks : List (ByteArray × T)} {j : Nat} {k : ByteArray} (h : 1 ≤ k.size) (hj : j ≤ ks.length) : Abv ltS (ks.map fun x => x.1) j k ↔ Op.bytesLess (lastK ks j).toList k.toList = true := by
  cases j with
  | zero =>
    obtain ⟨a, l, e⟩ := str_cons h
    refine ⟨fun _ => ?_, fun _ h0 _ => absurd h0 (by omega)⟩
    show Op.bytesLess (⟨#[]⟩ : ByteArray).toList k.toList = true
    rw [e, ByteArray.toList_eq]
    rfl
  | succ j =>
    have hl : j < (ks.map fun x => x.1).length := by rw [List.length_map]; omega
    have e : lastK ks (j + 1) = (ks.map fun x => x.1)[j] := by show ((ks.map fun x => x.1)[j]?).getD ⟨#[]⟩ = _; rw [List.getElem?_eq_getElem hl]; rfl
    rw [e]
    exact ⟨fun h1 => h1 (by omega) hl, fun h1 _ _ => h1⟩
def cntOf : Option Value → Nat | some (.slice _ n _) => n | _ => 0
end Tr
end Go.Proofs.YtcbclefemcmhpaaGreat
namespace Go.Proofs.YtcbclefemcmhpaaGreat
open Go.ChangeShapes Go.WideShapes Go.ChangeAt Go.RowKit
namespace Cx
open Sp Rw
/-- a dot's cells -/
def dotC (d : Int × Int) : List Value := [.int .i64 d.1, .int .i64 d.2]
theorem dotC_len (d : Int × Int) : (dotC d).length = 2 := rfl
theorem rd_dot {w : World} {B n c : Nat} {A : Option Addr} {l : List (Int × Int)} (h : Rd w B 2 A n c (l.flatMap dotC)) {m : Nat} (hm : m < n) :
    ∃ b o, A = some ⟨b, o, none⟩ ∧ b < B ∧ ∀ (i : Nat) (hi : i < l.length), w.cell? ⟨b, o + i * 2, none⟩ = some (.int .i64 l[i].1) ∧ w.cell? ⟨b, o + i * 2 + 1, none⟩ = some (.int .i64 l[i].2) := by
  obtain ⟨b, o, e, hb, hc⟩ := rd_elem dotC_len h hm
  exact ⟨b, o, e, hb, fun i hi => ⟨hc i hi 0 _ rfl, hc i hi 1 _ rfl⟩⟩
/-- a center's numbers among dots -/
def nums (l : List (Int × Int)) (d : Int) : List Int := (l.filter fun x => decide (x.1 = d)).map fun x => x.2
theorem nums_append (a b : List (Int × Int)) (d : Int) : nums (a ++ b) d = nums a d ++ nums b d := by simp [nums]
theorem nums_one (x : Int × Int) (d : Int) : nums [x] d = if x.1 = d then [x.2] else [] := by
  unfold nums
  by_cases h : x.1 = d <;> simp [h]
theorem nums_take {l : List (Int × Int)} {k : Nat} (hk : k < l.length) {x : Int × Int} (hx : x = l[k]) (d : Int) : nums (l.take (k + 1)) d = if x.1 = d then nums (l.take k) d ++ [x.2] else nums (l.take k) d := by
  rw [List.take_succ_eq_append_getElem hk, nums_append, ← hx, nums_one]
  split <;> simp
theorem nums_mem {l : List (Int × Int)} {d v : Int} : v ∈ nums l d ↔ (d, v) ∈ l := by
  unfold nums
  simp only [List.mem_map, List.mem_filter, decide_eq_true_eq]
  constructor
  · rintro ⟨s, ⟨hs, he⟩, rfl⟩
    subst he
    exact hs
  · intro h
    exact ⟨(d, v), ⟨h, rfl⟩, rfl⟩
theorem nums_len (l : List (Int × Int)) (d : Int) : (nums l d).length ≤ l.length := by
  unfold nums
  rw [List.length_map]
  exact List.length_filter_le _ _
/-- the context of these dots -/
structure OfC (l : List (Int × Int)) (u : List S3) : Prop where
  right : RightC u
  has : ∀ d n, Cen d → (hasC u d n = true ↔ (d, n) ∈ l)
theorem OfC.eq {l : List (Int × Int)} {u u' : List S3} (h : OfC l u) (h' : OfC l u') : u = u' := extC h.right h'.right fun d n hd => by
  have h1 := h.has d n hd
  have h2 := h'.has d n hd
  cases e1 : hasC u d n <;> cases e2 : hasC u' d n <;> simp_all
theorem of_pre {l : List (Int × Int)} {r : Nat → List (Int × Int)} (h : ∀ d : Nat, d < 4 → SetIs (nums l d) (r d)) : OfC l (pre r 4) := by
  have e : ∀ d, Cen d → ((d.toNat : Nat) : Int) = d ∧ d.toNat < 4 := fun d hd => ⟨by have := hd.1; omega, by have := hd.1; have := hd.2; omega⟩
  rw [pre_four]
  refine ⟨right_glue fun d hd => ?_, fun d n hd => ?_⟩
  · exact (h d.toNat (e d hd).2).1
  · unfold hasC
    rw [part_glue _ hd]
    have := (h d.toNat (e d hd).2).2 n
    rw [(e d hd).1] at this
    exact this.trans nums_mem
def goodD (l : List (Int × Int)) : Prop := ∀ x ∈ l, Dt.rightB x.1 x.2 = true
theorem good_num {x : Int × Int} (h : Dt.rightB x.1 x.2 = true) : (0 ≤ x.1 ∧ x.1 < 4) ∧ 1 ≤ x.2 ∧ x.2 ≤ 1099511627776 := by
  have := of_decide_eq_true (p := 0 ≤ x.1 ∧ x.1 < 4 ∧ 1 ≤ x.2 ∧ x.2 ≤ 1099511627776) h
  omega
theorem index_nums (s : Nat → SV) (k : Nat) (hk : k < 4) (W : World) : (Instr.index 106 (.agg #[.slice (s 0).A (s 0).n (s 0).c, .slice (s 1).A (s 1).n (s 1).c, .slice (s 2).A (s 2).n (s 2).c, .slice (s 3).A (s 3).n (s 3).c]) (.int .i64 k)).run Tryz.prog W = .ok (.slice (s k).A (s k).n (s k).c) W := by
  have infoN : (Tryz.prog.info? 105).map (fun i => (i.zero, i.size, i.bytes)) = some (some (.slice none 0 0), 1, 24) := by kernel_rfl
  obtain ⟨i0, hi0, _, hz1, _⟩ := info_of infoN
  have hs : ∀ W, (sizeOf 105).run Tryz.prog W = .ok 1 W := fun W => by simp [sizeOf, typeInfo, hi0, hz1]
  have ha : ∀ W, (isAgg 105).run Tryz.prog W = .ok false W := fun W => by simp [isAgg, run_underlying Tryz.underlying105]
  rcases (by omega : k = 0 ∨ k = 1 ∨ k = 2 ∨ k = 3) with rfl | rfl | rfl | rfl <;> simp [Instr.index, run_underlying Tryz.underlying106, asIntOf, go_sem, hs, ha]
theorem upd_nums {l : List (Int × Int)} {k d : Nat} (hk : k < l.length) {y : Int} (hx : ((d : Int), y) = l[k]) :
    upd (fun i => intsC (nums (l.take k) i)) d (intsC (nums (l.take k) d) ++ [.int .i64 y]) = fun i : Nat => intsC (nums (l.take (k + 1)) i) := by
  funext i
  rw [nums_take hk hx]
  by_cases h : i = d
  · subst h
    rw [upd_same, if_pos rfl, intsC_append]
    rfl
  · rw [upd_other _ _ h, if_neg (by intro e; exact h (Int.ofNat.inj e.symm))]
/-- what 'Of' answers -/
def OfIsC (l : List (Int × Int)) (n : Nat) (w : World) (e : Ending) (w' : World) : Prop :=
  (goodD l ∧ ∃ u q A c, e = .returned (.tuple #[.slice A q c, .int .i64 0]) ∧ Hid (u.length = q) ∧ Hid (OfC l u) ∧ q ≤ 4 * n ∧ Hid (Rd w' w'.heap.size 3 A q c (spsC u)) ∧ Below w.heap.size w w') ∨
  (¬ goodD l ∧ e = .returned (.tuple #[.slice none 0 0, .int .i64 1]) ∧ Below w.heap.size w w')
set_option maxRecDepth 100000 in
set_option maxHeartbeats 4000000 in
theorem ofC_any (l : List (Int × Int)) (n : Nat) (A : Option Addr) (c : Nat) (w : World) (hl : l.length = n) (hn : n ≤ 1000) (hr : Rd w w.heap.size 2 A n c (l.flatMap dotC)) :
    Calls Tryz.prog 61 #[.slice A n c] w (OfIsC l n w) := by
  obtain ⟨g, hg⟩ : ∃ g, g = w.heap.size := ⟨_, rfl⟩
  have HR := Lib.hid hr
  have HL := Lib.hid hl
  have HG := Lib.hid hg
  clear hr hl hg
  go_enter Tryz.func61, Tryz.ntmps61
  go_wp2
  rw [← HG.out]
  go_loopw [14] (fun i wr => ∃ (k : Nat) (s : Nat → SV), k ≤ n ∧ i = .int .i64 k ∧ Hid (goodD (l.take k)) ∧ Hid (Rows4 wr (g + 1) 2 1 g s (fun d => intsC (nums (l.take k) d))) ∧ Hid (∀ d : Nat, d < 4 → (nums (l.take k) d).length = (s d).n) ∧ Hid (Below w.heap.size w wr)) (fun i _ => n - (intOf i).toNat)
  case atStart =>
    rw [HG.out]
    refine ⟨0, fun _ => sv0, by omega, rfl, fun x hx => by simp at hx, Rows4.nil (by omega) (by simp) ⟨by simp, fun j => by go_simp⟩ (fun d hd => ?_), fun d _ => rfl, Dt.box_below _ _ _⟩
    rcases (by omega : d = 0 ∨ d = 1 ∨ d = 2 ∨ d = 3) with rfl | rfl | rfl | rfl <;> go_simp
  case round =>
    obtain ⟨k, s, hk, rfl, HGD, HS, HN, HBL⟩ := hrel
    by_cases hlt : k < n
    · have hkl : k < l.length := by rw [HL.out]; exact hlt
      obtain ⟨b1, o, rfl, hbl, hc⟩ := rd_dot HR.out hlt
      obtain ⟨q0, q1⟩ := hc k hkl
      obtain ⟨p, hp⟩ : ∃ p, p = l[k] := ⟨_, rfl⟩
      have HP : Hid (p = l[k]) := Lib.hid hp
      have hmem : p ∈ l := by rw [hp]; exact List.getElem_mem hkl
      have htk : l.take (k + 1) = l.take k ++ [p] := by rw [hp]; exact List.take_succ_eq_append_getElem hkl
      rw [← hp] at q0 q1
      obtain ⟨dc, y⟩ := p
      have q0 := (HBL.out.cell (p := ⟨b1, o + k * 2, none⟩) hbl).trans q0
      have q1 := (HBL.out.cell (p := ⟨b1, o + k * 2 + 1, none⟩) hbl).trans q1
      dsimp only at q0 q1
      obtain ⟨h, hh⟩ : ∃ h, h = wr.heap.size := ⟨_, rfl⟩
      obtain ⟨W, hW⟩ : ∃ W, W = wr.alloc (.cells #[.int .i64 dc, .int .i64 y] 48) := ⟨_, rfl⟩
      have hbel : Below wr.heap.size wr W := by rw [hW]; exact Dt.box_below _ _ _
      have HK : Hid (Kept [(⟨h, 0, none⟩, .int .i64 dc), (⟨h, 1, none⟩, .int .i64 y)] wr W) := by
        rw [hW, hh]
        exact (((Kept.nil wr).alloc _).cons_of (by go_simp)).cons_of (by go_simp)
      have HW := Lib.hid hW
      have HH := Lib.hid hh
      cases hrb : Dt.rightB dc y with
      | false =>
        have HRT : Hid (Calls Tryz.prog 84 #[.agg #[.int .i64 dc, .int .i64 y]] W fun e w' => e = .returned (.bool false) ∧ Below W.heap.size W w') := by have := Dt.right_any dc y W; rwa [hrb] at this
        have HBAD : Hid (¬ goodD l) := fun hg => by have := hg _ hmem; rw [hrb] at this; cases this
        have HB1 := Lib.hid (HBL.out.trans (hbel.mono HBL.out.size))
        clear hc hp hmem htk hW hh hbel hrb
        go_wp2_with fail
        rw [← HW.out]
        clear q0 q1
        refine HRT.out.mono ?_
        rintro e w2 ⟨rfl, hb2⟩
        go_wp2
        go_ret2
        exact .inr ⟨HBAD.out, rfl, HB1.out.trans (hb2.mono HB1.out.size)⟩
      | true =>
        have HRT : Hid (Calls Tryz.prog 84 #[.agg #[.int .i64 dc, .int .i64 y]] W fun e w' => e = .returned (.bool true) ∧ Below W.heap.size W w') := by have := Dt.right_any dc y W; rwa [hrb] at this
        have HGD2 : Hid (goodD (l.take (k + 1))) := fun x hx => by
          rw [htk] at hx
          rcases List.mem_append.1 hx with hx | hx
          · exact HGD.out x hx
          · rw [List.mem_singleton.1 hx]; exact hrb
        obtain ⟨⟨hd0, hd4⟩, _⟩ := good_num (x := (dc, y)) hrb
        dsimp only at hd0 hd4
        obtain ⟨d, rfl⟩ : ∃ d : Nat, dc = (d : Int) := ⟨dc.toNat, by omega⟩
        have hd4n : d < 4 := by omega
        have HBE := Lib.hid hbel
        have HHS := Lib.hid hh
        clear hc hp hmem htk hW hh hbel hrb HGD
        go_wp2_with fail
        rw [← HW.out, ← HH.out]
        clear q0 q1
        refine HRT.out.mono ?_
        rintro e W2 ⟨rfl, hb2⟩
        have HK2 := Lib.hid (HK.out.later hb2)
        have HS1 := (((HS.out.later HBE.out).later hb2)).later ((Below.refl W2.heap.size W2).drew)
        have hnk : (s d).n ≤ k := by rw [← HN.out d hd4n]; exact Nat.le_trans (nums_len _ _) (by rw [List.length_take]; exact Nat.min_le_left _ _)
        obtain ⟨A', c', w', r1, r2, r3, r4, r5⟩ := HS1.push Tryz.underlying105 infoI rfl (by omega) (by omega) hd4n W2.heap.size rfl [.int .i64 y] rfl (by intro u hu; simp at hu; rcases hu with rfl; rfl) (by omega)
        have hne : (s d).val.ownBlock ≠ some h := fun e => by have := (HS.out.lt hd4n e).2; have := HHS.out; omega
        have hlt2 : h < W2.drew.heap.size := by
          have h1 : h < W.heap.size := World.block_lt_of_cell? W _ HK.out.c0
          exact Nat.lt_of_lt_of_le h1 hb2.size
        have c0 := HK2.out.c0
        have c1 := HK2.out.c1
        have i0 : w'.cell? ⟨h, 0, none⟩ = some (.int .i64 d) := (r2 h hne hlt2 0).trans c0
        have i1 : w'.cell? ⟨h, 1, none⟩ = some (.int .i64 y) := (r2 h hne hlt2 1).trans c1
        have hl1 : g < W2.heap.size := HS1.free.1
        have hl2 : h < W2.heap.size := hlt2
        have hgh : g < h := by have := HS.out.free.1; have := HHS.out; omega
        have hgh2 : h ≠ g := by omega
        have hgh3 : ¬ (g = h) := by omega
        have ig : w'.cell? ⟨g, d, none⟩ = some (.slice (s d).A (s d).n (s d).c) := (r2 g (fun e => by have := (HS.out.lt hd4n e).1; omega) (HS1.free.1) d).trans (HS1.cell d hd4n)
        have cg : W2.cell? ⟨g, d, none⟩ = some (.slice (s d).A (s d).n (s d).c) := HS1.cell d hd4n
        have mg := r3.2 d
        have HN2 : Hid (∀ i : Nat, i < 4 → (nums (l.take (k + 1)) i).length = (upd s d ⟨A', (s d).n + 1, c'⟩ i).n) := fun i hi => by
          rw [nums_take hkl HP.out]
          by_cases he : i = d
          · subst he
            rw [upd_same, if_pos rfl, List.length_append, HN.out i hi]
            rfl
          · rw [upd_other _ _ he, if_neg (by intro e; exact he (Int.ofNat.inj e.symm)), HN.out i hi]
        have HS2 : Hid (Rows4 (w'.setCell ⟨g, d, none⟩ (.slice A' ((s d).n + 1) c')) (g + 1) 2 1 g (upd s d ⟨A', (s d).n + 1, c'⟩) (fun i => intsC (nums (l.take (k + 1)) i))) := by
          have := r5
          rw [upd_nums hkl HP.out] at this
          exact this
        have hb4 : Below (g + 1) wr w' := ((HBE.out.trans (hb2.mono HBE.out.size)).mono HS.out.high).trans (((Below.refl _ _).drew).trans r4)
        have HB4 : Hid (Below w.heap.size w (w'.setCell ⟨g, d, none⟩ (.slice A' ((s d).n + 1) c'))) := (HBL.out.trans (hb4.mono (by rw [HG.out]; omega))).setCell (p := ⟨g, d, none⟩) (by rw [HG.out]; exact Nat.le_refl _) _
        have Hrun := Lib.hid r1
        obtain ⟨sA, sn, sc, hs⟩ : ∃ sA sn sc, s d = ⟨sA, sn, sc⟩ := ⟨_, _, _, rfl⟩
        rw [hs] at Hrun cg ig HS2 HN2 HB4
        dsimp only at Hrun cg ig HS2 HN2 HB4
        clear r1 r2 r3 r4 r5 hb4 hne hlt2 HS1 hs HS HN HBL hb2 HK HK2 HBE HHS
        go_wp2
        refine wp_region_held_drew (S := fun W => W.cell? ⟨h, 0, none⟩ = some (.int .i64 d) ∧ W.cell? ⟨h, 1, none⟩ = some (.int .i64 y)) (by kernel_rfl) (by go_keep) (fun hHeld => ?_)
        refine Tk 0 21 ?_
        refine Tk 1 22 ?_
        refine Tk 2 23 ?_
        refine Tk 3 24 ?_
        refine Tk 4 25 ?_
        refine Tk 6 27 ?_
        refine Tk 7 28 ?_
        refine wpAnyH_ready (rs := [5, 8]) (by kernel_rfl) (by simp) ?_
        refine AllReadyH.cons (o := ⟨some 26, _, _, _, _, _⟩) rfl (fun K hK => ?_) (AllReadyH.cons (o := ⟨some 29, _, _, _, _, _⟩) rfl (fun K hK => ?_) AllReadyH.nil)
        · go_simp
          refine hK.out _ _ ?_ (fun hHeld2 => ?_)
          · exact hHeld
          clear hK K hHeld
          have hHeld := hHeld2
          clear hHeld2
          try simp only [Act.put, List.setIfInBounds_toArray, List.set_cons_zero, List.set_cons_succ]
          refine wpAnyH_ready (rs := [8]) (by kernel_rfl) (by simp) ?_
          refine AllReadyH.cons (o := ⟨some 29, _, _, _, _, _⟩) rfl (fun K hK => ?_) AllReadyH.nil
          go_simp
          refine hK.out _ _ ?_ (fun hHeld2 => ?_)
          · (try dsimp only); go_keep
          clear hK K hHeld
          have hHeld := hHeld2
          clear hHeld2
          try simp only [Act.put, List.setIfInBounds_toArray, List.set_cons_zero, List.set_cons_succ]
          refine wpAnyH_ready (rs := [9]) (by kernel_rfl) (by simp) ?_
          refine AllReadyH.cons (o := ⟨some 30, _, _, _, _, _⟩) rfl (fun K hK => ?_) AllReadyH.nil
          refine upon_append _ _ _ rfl rfl rfl Hrun.out ?_
          refine hK.out _ _ ?_ (fun hHeld2 => ?_)
          · exact ⟨i0, i1⟩
          clear hK K hHeld
          have hHeld := hHeld2
          clear hHeld2
          try simp only [Act.put, List.setIfInBounds_toArray, List.set_cons_zero, List.set_cons_succ]
          refine Tk 10 31 ?_
          refine wpAnyH_ready (rs := [11]) (by kernel_rfl) (by simp) ?_
          refine AllReadyH.cons (o := ⟨none, _, _, _, _, _⟩) rfl (fun K hK => ?_) AllReadyH.nil
          go_simp
          refine hK.out _ _ ?_ (fun hHeld2 => ?_)
          · (try dsimp only); go_keep
          clear hK K hHeld
          have hHeld := hHeld2
          clear hHeld2
          try simp only [Act.put, List.setIfInBounds_toArray, List.set_cons_zero, List.set_cons_succ]
          refine wpAnyH_done (by kernel_rfl) ?_ _
          clear Hrun c0 c1 i0 i1 cg ig mg hHeld
          go_wp2
          go_roundw
          case rel => exact ⟨k + 1, _, by omega, by go_num, HGD2.out, HS2.out, HN2.out, HB4.out⟩
          case measure => simp [intOf]; omega
        · go_simp
          refine hK.out _ _ ?_ (fun hHeld2 => ?_)
          · (try dsimp only); go_keep
          clear hK K hHeld
          have hHeld := hHeld2
          clear hHeld2
          try simp only [Act.put, List.setIfInBounds_toArray, List.set_cons_zero, List.set_cons_succ]
          refine wpAnyH_ready (rs := [5]) (by kernel_rfl) (by simp) ?_
          refine AllReadyH.cons (o := ⟨some 26, _, _, _, _, _⟩) rfl (fun K hK => ?_) AllReadyH.nil
          go_simp
          refine hK.out _ _ ?_ (fun hHeld2 => ?_)
          · exact hHeld
          clear hK K hHeld
          have hHeld := hHeld2
          clear hHeld2
          try simp only [Act.put, List.setIfInBounds_toArray, List.set_cons_zero, List.set_cons_succ]
          refine wpAnyH_ready (rs := [9]) (by kernel_rfl) (by simp) ?_
          refine AllReadyH.cons (o := ⟨some 30, _, _, _, _, _⟩) rfl (fun K hK => ?_) AllReadyH.nil
          refine upon_append _ _ _ rfl rfl rfl Hrun.out ?_
          refine hK.out _ _ ?_ (fun hHeld2 => ?_)
          · exact ⟨i0, i1⟩
          clear hK K hHeld
          have hHeld := hHeld2
          clear hHeld2
          try simp only [Act.put, List.setIfInBounds_toArray, List.set_cons_zero, List.set_cons_succ]
          refine Tk 10 31 ?_
          refine wpAnyH_ready (rs := [11]) (by kernel_rfl) (by simp) ?_
          refine AllReadyH.cons (o := ⟨none, _, _, _, _, _⟩) rfl (fun K hK => ?_) AllReadyH.nil
          go_simp
          refine hK.out _ _ ?_ (fun hHeld2 => ?_)
          · (try dsimp only); go_keep
          clear hK K hHeld
          have hHeld := hHeld2
          clear hHeld2
          try simp only [Act.put, List.setIfInBounds_toArray, List.set_cons_zero, List.set_cons_succ]
          refine wpAnyH_done (by kernel_rfl) ?_ _
          clear Hrun c0 c1 i0 i1 cg ig mg hHeld
          go_wp2
          go_roundw
          case rel => exact ⟨k + 1, _, by omega, by go_num, HGD2.out, HS2.out, HN2.out, HB4.out⟩
          case measure => simp [intOf]; omega
    · obtain rfl : k = n := by omega
      have hall : l.take k = l := List.take_of_length_le (by rw [HL.out]; omega)
      rw [hall] at HS HN HGD
      have p0 := HS.out.cell 0 (by omega); have p1 := HS.out.cell 1 (by omega); have p2 := HS.out.cell 2 (by omega); have p3 := HS.out.cell 3 (by omega)
      obtain ⟨W2, hW2⟩ : ∃ W, W = wr.alloc (.cells #[.slice none 0 0, .slice none 0 0, .slice none 0 0, .slice none 0 0] 109) := ⟨_, rfl⟩
      obtain ⟨p, hp⟩ : ∃ p, p = wr.heap.size := ⟨_, rfl⟩
      have hb2 : Below wr.heap.size wr W2 := by rw [hW2]; exact Dt.box_below _ _ _
      have HC2 : Hid (Cells4 W2 p (fun _ => .slice none 0 0)) := by rw [hW2, hp]; exact Cells4.new wr _ _ _ _ _ _ rfl
      have HSR : Hid (∀ d : Nat, d < 4 → (nums l d).length = (s d).n ∧ Rd W2 p 1 (s d).A (s d).n (s d).c (intsC (nums l d))) := fun d hd => ⟨HN.out d hd, by rw [hp]; exact (HS.out.rd hd).below hb2⟩
      have HB2 := Lib.hid (HBL.out.trans (hb2.mono HBL.out.size))
      have hgl : g < wr.heap.size := HS.out.free.1
      have HW2 := Lib.hid hW2
      have HPp := Lib.hid hp
      have hpw : w.heap.size ≤ p := by rw [hp]; exact HBL.out.size
      clear hall HR HS HN HBL hb2 hW2 hp
      go_wp2
      rw [← HPp.out, ← HW2.out]
      clear p0 p1 p2 p3 hgl
      go_loopw [34] (fun i wr => ∃ (d : Nat) (u : Nat → SV) (r : Nat → List (Int × Int)), d ≤ 4 ∧ i = .int .i64 d ∧ Hid (Cells4 wr p (fun j => .slice (u j).A (u j).n (u j).c)) ∧ Hid (∀ j : Nat, j < d → (r j).length = (u j).n ∧ Rb wr (p + 1) 2 (u j).A (u j).n (u j).c (runsC (r j)) ∧ SetIs (nums l j) (r j) ∧ (r j).length ≤ k) ∧ Hid (Below p W2 wr)) (fun i _ => 4 - (intOf i).toNat)
      case atStart => exact ⟨0, fun _ => sv0, fun _ => [], by omega, rfl, HC2.out, fun j hj => by omega, Below.refl _ _⟩
      case round =>
        clear HC2
        obtain ⟨d, u, r, hd, rfl, HU, HRR, HBL⟩ := hrel
        by_cases hd4 : d < 4
        · have hix := index_nums s d hd4
          have hdi : (d : Int) < 4 := by omega
          have hps : p < wr.heap.size := HU.out.free.1
          have hsd := HSR.out d hd4
          have HNL : Hid ((nums l d).length ≤ k) := by unfold Hid; have := nums_len l d; have := HL.out; omega
          have HCO : Hid (Calls Tryz.prog 85 #[.slice (s d).A (s d).n (s d).c] wr fun e w' => ∃ x A q c, e = .returned (.tuple #[.slice A q c, .int .i64 0]) ∧ Hid (x.length = q ∧ Rb w' (p + 1) 2 A q c (runsC x) ∧ SetIs (nums l d) x ∧ x.length ≤ k) ∧ Below wr.heap.size wr w') := by
            refine (of_any (nums l d) (s d).n (s d).A (s d).c wr hsd.1 (by have := HNL.out; have := hsd.1; omega) ((hsd.2.below HBL.out).more (by omega))).mono ?_
            rintro e w2 (⟨_, x, A, c, rfl, hs, hq, ho, hb⟩ | ⟨⟨x, hx, hx2⟩, _⟩)
            · exact ⟨x, A, x.length, c, rfl, ⟨rfl, ho.rb.mono (by omega), hs, by have := HNL.out; omega⟩, hb⟩
            · exfalso
              have := (good_num (HGD.out _ (nums_mem.1 hx))).2
              dsimp only at this
              omega
          clear hsd
          go_wp2_with (go_at_call 85; refine HCO.out.mono ?_; rintro e w3 ⟨x, A3, q3, c3, rfl, HX3, hb3⟩; have HU3 := HU.out.later hb3; have k0 := HU3.cell d hd4; have m0 := HU3.free.2 d)
          have HC4 : Hid (Cells4 (w3.setCell ⟨p, d, none⟩ (.slice A3 q3 c3)) p (fun j => .slice (upd u d ⟨A3, q3, c3⟩ j).A (upd u d ⟨A3, q3, c3⟩ j).n (upd u d ⟨A3, q3, c3⟩ j).c)) := by
            refine (HU3.set hd4 _).congr fun j hj => ?_
            by_cases he : j = d
            · subst he; rw [upd_same, upd_same]
            · rw [upd_other _ _ he, upd_other _ _ he]
          have HR4 : Hid (∀ j : Nat, j < d + 1 → (upd r d x j).length = (upd u d ⟨A3, q3, c3⟩ j).n ∧ Rb (w3.setCell ⟨p, d, none⟩ (.slice A3 q3 c3)) (p + 1) 2 (upd u d ⟨A3, q3, c3⟩ j).A (upd u d ⟨A3, q3, c3⟩ j).n (upd u d ⟨A3, q3, c3⟩ j).c (runsC (upd r d x j)) ∧ SetIs (nums l j) (upd r d x j) ∧ (upd r d x j).length ≤ k) := fun j hj => by
            by_cases he : j = d
            · subst he
              rw [upd_same, upd_same]
              exact ⟨HX3.out.1, rb_set HX3.out.2.1 (a := ⟨p, j, none⟩) (by show p < p + 1; omega) _, HX3.out.2.2⟩
            · rw [upd_other _ _ he, upd_other _ _ he]
              obtain ⟨x1, x2, x3⟩ := HRR.out j (by omega)
              exact ⟨x1, rb_set (x2.later hb3) (a := ⟨p, d, none⟩) (by show p < p + 1; omega) _, x3⟩
          have HB4 : Hid (Below p W2 (w3.setCell ⟨p, d, none⟩ (.slice A3 q3 c3))) := (HBL.out.trans (hb3.mono (by omega))).setCell (p := ⟨p, d, none⟩) (Nat.le_refl _) _
          clear k0 m0 HU3 hb3
          go_roundw
          case rel => exact ⟨d + 1, upd u d ⟨A3, q3, c3⟩, upd r d x, by omega, by go_num, HC4.out, HR4.out, HB4.out⟩
          case measure => simp [intOf]; omega
        · obtain rfl : d = 4 := by omega
          have HC := Lib.hid (context_any u r wr (fun j hj => ⟨(HRR.out j hj).1, (HRR.out j hj).2.1.rd⟩) (fun j hj => by have := (HRR.out j hj).2.2.2; omega))
          have k0 := HU.out.cell 0 (by omega); have k1 := HU.out.cell 1 (by omega); have k2 := HU.out.cell 2 (by omega); have k3 := HU.out.cell 3 (by omega)
          have HPC : Hid (OfC l (pre r 4)) := of_pre fun j hj => (HRR.out j hj).2.2.1
          have HLN : Hid ((pre r 4).length ≤ 4 * k) := pre_len (M := k) (fun j hj => (HRR.out j hj).2.2.2) 4 (by omega)
          have HB5 : Hid (Below w.heap.size w wr) := HB2.out.trans (HBL.out.mono (by omega))
          clear HRR HBL HSR
          go_wp2_with (go_at_call 86; refine HC.out.mono ?_; rintro e w3 ⟨A3, c3, rfl, ho3, hb3⟩)
          go_ret2
          exact .inl ⟨HGD.out, pre r 4, (pre r 4).length, A3, c3, rfl, rfl, HPC.out, HLN.out, ho3.rd, HB5.out.trans (hb3.mono HB5.out.size)⟩
end Cx
end Go.Proofs.YtcbclefemcmhpaaGreat
namespace Go.Proofs.YtcbclefemcmhpaaGreat
open Go.ChangeShapes Go.WideShapes Go.ChangeAt Go.RowKit
namespace Tr
open Sp Rw
/-- v is v', grown: only its own row and new memory are written -/
structure Gr (w w' : World) (v v' : Value) : Prop where
  gb : w.grownBy w' v.ownBlock
  own : v'.ownBlock = v.ownBlock ∨ ∃ k, v'.ownBlock = some k ∧ w.heap.size ≤ k
namespace Gr
variable {w w1 w2 : World} {v v1 v2 : Value}
theorem refl (w : World) (v : Value) : Gr w w v v := ⟨⟨rfl, rfl, rfl, Nat.le_refl _, fun _ _ _ => rfl⟩, .inl rfl⟩
theorem size (h : Gr w w1 v v1) : w.heap.size ≤ w1.heap.size := h.gb.size
theorem block (h : Gr w w1 v v1) {b : Nat} (hb : b < w.heap.size) (hv : v.ownBlock ≠ some b) : w1.heap[b]? = w.heap[b]? := h.gb.block b hb fun e => hv e.symm
theorem apart (h : Gr w w1 v v1) {b : Nat} (hb : b < w.heap.size) (hv : v.ownBlock ≠ some b) : v1.ownBlock ≠ some b := fun e => by
  rcases h.own with h1 | ⟨k, h1, h2⟩
  · exact hv (h1.symm.trans e)
  · rw [h1] at e
    injection e with e
    omega
theorem trans (h : Gr w w1 v v1) (h2 : Gr w1 w2 v1 v2) : Gr w w2 v v2 := by
  refine ⟨⟨h2.gb.os.trans h.gb.os, h2.gb.tape.trans h.gb.tape, h2.gb.output.trans h.gb.output, Nat.le_trans h.size h2.size, fun b hb hv => ?_⟩, ?_⟩
  · have hv' : v.ownBlock ≠ some b := fun e => hv e.symm
    exact (h2.block (Nat.lt_of_lt_of_le hb h.size) (h.apart hb hv')).trans (h.block hb hv')
  · rcases h2.own with h3 | ⟨k, h3, h4⟩
    · rcases h.own with h5 | ⟨k, h5, h6⟩
      · exact .inl (h3.trans h5)
      · exact .inr ⟨k, h3.trans h5, h6⟩
    · exact .inr ⟨k, h3, Nat.le_trans h.size h4⟩
theorem of_below (h : Below w.heap.size w w1) : Gr w w1 v v := ⟨⟨h.os, h.tape, h.output, h.size, fun b hb _ => h.block b hb⟩, .inl rfl⟩
theorem cell (h : Gr w w1 v v1) {p : Addr} (hb : p.block < w.heap.size) (hv : v.ownBlock ≠ some p.block) : w1.cell? p = w.cell? p := World.cell?_of_block (h.block hb hv)
theorem below (h : Gr w w1 v v1) {lo : Nat} (hlo : lo ≤ w.heap.size) (hv : ∀ k, v.ownBlock = some k → lo ≤ k) : Below lo w w1 := (Below.refl lo w).grown h.gb hlo fun k hk => hv k hk
end Gr
theorem infoD : (Tryz.prog.info? 48).map (fun i => (i.zero, i.size, i.bytes)) = some (some (.agg #[.int .i64 0, .int .i64 0]), 2, 16) := by kernel_rfl
theorem dotC_one (d : Int × Int) : ∀ u ∈ Cx.dotC d, u.oneCell' = true := by
  intro u hu
  simp [Cx.dotC] at hu
  rcases hu with rfl | rfl <;> rfl
/-- a dot more -/
theorem push_dot (W : World) (lo q : Nat) (hq : W.heap.size = q) {A : Option Addr} {n c : Nat} {l : List (Int × Int)} (h : Own W lo 48 2 A n c (l.flatMap Cx.dotC)) (hlo : lo ≤ W.heap.size) (x : Int × Int) (hn : n ≤ 800000) :
    ∃ A' c' w', (Builtin.append_ #[88, 88] 88 #[.slice A n c, .slice (some ⟨q, 0, none⟩) 1 1]).run Tryz.prog (W.alloc (.cells #[.int .i64 x.1, .int .i64 x.2] 48)) = .ok (.slice A' (n + 1) c') w' ∧ Own w' lo 48 2 A' (n + 1) c' ((l ++ [x]).flatMap Cx.dotC) ∧ Gr W w' (.slice A n c) (.slice A' (n + 1) c') := by
  subst hq
  have hal : Below W.heap.size W (W.alloc (.cells #[.int .i64 x.1, .int .i64 x.2] 48)) := Dt.box_below _ _ _
  obtain ⟨i0, hi0, hz0, hz1, hz2⟩ := info_of infoD
  have hr : Rd (W.alloc (.cells #[.int .i64 x.1, .int .i64 x.2] 48)) (W.heap.size + 1) 2 (some ⟨W.heap.size, 0, none⟩) 1 1 ([x].flatMap Cx.dotC) :=
    ⟨rfl, Nat.le_refl _, fun u hu => dotC_one x u (by simpa using hu), fun _ => ⟨_, _, rfl, by omega, fun j u hu => by
      rw [Nat.zero_add, cell_of_row _ _ j _ _ (0, 0) (heap_alloc_new _ _)]
      simpa [Cx.dotC] using hu⟩⟩
  obtain ⟨v', w', r1, r2, r3, r4⟩ := run_app (P := Tryz.prog) _ lo 88 88 48 i0 _ 2 16 Tryz.underlying88 hi0 hz0 hz1 hz2 rfl (by omega) (own_later h hal).row hr (by omega) (by omega) (by simp; omega)
  have e : l.flatMap Cx.dotC ++ [x].flatMap Cx.dotC = (l ++ [x]).flatMap Cx.dotC := by simp
  rw [e] at r2
  obtain ⟨A', c', rfl, ho⟩ := Own.of_row r2 (fun u hu => by
    obtain ⟨y, _, hu⟩ := List.mem_flatMap.1 hu
    exact dotC_one y u hu)
  refine ⟨A', c', w', r1, ho, (Gr.of_below hal).trans ⟨r3, ?_⟩⟩
  rcases r4 with r4 | r4
  · exact .inl r4
  · exact .inr ⟨_, r4, Nat.le_refl _⟩
/-- an entry's dot; the dots of leaves -/
def dotE (e : E) : Int × Int := (e.a, e.n)
def dl (t : T) : List (Int × Int) := (leaves t).map fun x => dotE x.2
def kidsD (ks : List (ByteArray × T)) (k : Nat) : List (Int × Int) := (ks.take k).flatMap fun kd => dl kd.2
theorem dl_len (t : T) : (dl t).length = (leaves t).length := by unfold dl; rw [List.length_map]
theorem kidsD_succ {ks : List (ByteArray × T)} {k : Nat} (h : k < ks.length) : kidsD ks (k + 1) = kidsD ks k ++ dl (ks[k]).2 := by
  unfold kidsD
  rw [List.take_succ_eq_append_getElem h, List.flatMap_append, List.flatMap_cons, List.flatMap_nil, List.append_nil]
theorem dl_mk (es : List E) (ks : List (ByteArray × T)) {k : Nat} (h : ks.length = k) : dl (.mk es ks) = es.map dotE ++ kidsD ks k := by
  unfold dl kidsD
  rw [List.take_of_length_le (by omega), leaves_mk, List.map_append, List.map_map]
  congr 1
  unfold below
  rw [List.map_flatMap]
  congr 1
  funext kd
  rw [List.map_map]
  rfl
theorem right_ents : ∀ {d : Nat} {t : T}, RightT d t → ∀ x ∈ leaves t, RightE x.2
  | d + 1, .mk es ks, h, x, hx => by
    rw [leaves_mk] at hx
    rcases List.mem_append.1 hx with hx | hx
    · obtain ⟨e, he, rfl⟩ := List.mem_map.1 hx
      exact h.1 e he
    · obtain ⟨k, hk, hx⟩ := List.mem_flatMap.1 hx
      obtain ⟨y, hy, rfl⟩ := List.mem_map.1 hx
      exact right_ents (h.2.2.2 k hk).2.2 y hy
theorem good_dl {d : Nat} {t : T} (h : RightT d t) : Cx.goodD (dl t) := fun x hx => by
  obtain ⟨y, hy, rfl⟩ := List.mem_map.1 hx
  exact (right_ents h y hy).1
set_option maxRecDepth 100000 in
set_option maxHeartbeats 4000000 in
theorem dots_any : ∀ (t : T) (Ae Ak : Option Addr) (ne nk ce ck : Nat) (lo : Nat) (A : Option Addr) (n c : Nat) (l : List (Int × Int)) (w : World), n + nodes t ≤ 100000 → RdT w lo t ⟨Ae, ne, ce⟩ ⟨Ak, nk, ck⟩ → lo ≤ w.heap.size → Own w lo 48 2 A n c (l.flatMap Cx.dotC) →
    Calls Tryz.prog 62 #[.slice A n c, .agg #[.slice Ae ne ce, .slice Ak nk ck]] w fun e w' => ∃ A' c', e = .returned (.slice A' (n + (leaves t).length) c') ∧ Own w' lo 48 2 A' (n + (leaves t).length) c' ((l ++ dl t).flatMap Cx.dotC) ∧ Gr w w' (.slice A n c) (.slice A' (n + (leaves t).length) c') := by
  intro t
  induction t using T.ind with
  | h es ks ih =>
    intro Ae Ak ne nk ce ck lo A n c l w hn hr hlo how
    obtain ⟨hle, hlk⟩ := rd_lens hr
    have HR := Lib.hid hr
    have HLE := Lib.hid hle
    have HLK := Lib.hid hlk
    clear hle hlk hr
    have IH := Lib.hid ih
    have HN := Lib.hid hn
    have HLO := Lib.hid hlo
    have HOW := Lib.hid how
    have hne5 : ne ≤ 100000 := by have := nodes_es es ks; have := HLE.out; omega
    have hnk5 : nk ≤ 100000 := by have := nodes_es es ks; have := HLK.out; omega
    have hn5 : n ≤ 100000 := by omega
    have hlw : ∀ k, (Value.slice A n c).ownBlock = some k → lo ≤ k ∧ k < w.heap.size := fun k e => how.row.lt k e
    have HLW := Lib.hid hlw
    have HM : Hid ((leaves (.mk es ks)).length = ne + ksum (fun k => (leaves k.2).length) ks nk) := by unfold Hid; rw [leaves_len, ksum_all _ HLK.out, HLE.out]
    have HM2 : Hid (n + (ne + ksum (fun k => (leaves k.2).length) ks nk) ≤ 100000) := by have := leaves_nodes (.mk es ks); have := HM.out; unfold Hid; omega
    clear ih hn hlo how hlw
    obtain ⟨g, hg⟩ : ∃ g, g = w.heap.size := ⟨_, rfl⟩
    have HK := Lib.hid (tree_box w Ae Ak ne nk ce ck)
    rw [← hg] at HK
    obtain ⟨W0, hW0⟩ : ∃ W, W = w.alloc (.cells #[.slice Ae ne ce, .slice Ak nk ck] 25) := ⟨_, rfl⟩
    rw [← hW0] at HK
    have HG := Lib.hid hg
    have HW0 := Lib.hid hW0
    have k0 := HK.out.c0
    have k1 := HK.out.c1
    clear hg hW0
    have HOWN : Hid (Own W0 lo 48 2 A n c (l.flatMap Cx.dotC)) := by unfold Hid; rw [HW0.out]; exact own_later HOW.out (Dt.box_below _ _ _)
    have HWS : Hid (W0.heap.size = g + 1 ∧ w.heap.size = g) := ⟨by rw [HW0.out, HG.out]; simp, HG.out.symm⟩
    have HNG : Hid ((Value.slice A n c).ownBlock ≠ some g) := fun e => by have := (HLW.out g e).2; have := HWS.out.2; omega
    have HGR0 : Hid (Gr w W0 (.slice A n c) (.slice A n c)) := by unfold Hid; rw [HW0.out]; exact Gr.of_below (Dt.box_below _ _ _)
    go_enter Tryz.func62, Tryz.ntmps62
    go_wp2_with fail
    rw [← HG.out, ← HW0.out]
    go_wp2_with fail
    go_loopw [0, 12] (fun v i wr => ∃ (k : Nat) (Ax : Option Addr) (cx : Nat), k ≤ ne ∧ i = .int .i64 k ∧ v = .slice Ax (n + k) cx ∧ Hid (Own wr lo 48 2 Ax (n + k) cx ((l ++ (es.take k).map dotE).flatMap Cx.dotC)) ∧ Hid (Gr W0 wr (.slice A n c) (.slice Ax (n + k) cx))) (fun _ i _ => ne - (intOf i).toNat)
    case atStart => exact ⟨0, A, c, by omega, rfl, rfl, by have := HOWN.out; simpa [Hid] using this, Gr.refl _ _⟩
    case round =>
      obtain ⟨k, Ax, cx, hk, rfl, rfl, HO, HGR⟩ := hrel
      clear k0 k1
      have hg0 : g < W0.heap.size := by have := HWS.out.1; omega
      have k0 := (HGR.out.cell (p := ⟨g, 0, none⟩) hg0 HNG.out).trans HK.out.c0
      have k1 := (HGR.out.cell (p := ⟨g, 1, none⟩) hg0 HNG.out).trans HK.out.c1
      have hgr : g < wr.heap.size := Nat.lt_of_lt_of_le hg0 HGR.out.size
      by_cases hlt : k < ne
      · have hkl : k < es.length := by rw [HLE.out]; exact hlt
        obtain ⟨b, o, rfl, hb, hc⟩ := rd_ent HR.out (by omega)
        obtain ⟨c0, c1, c2, c3⟩ := hc k hkl
        have hbg : b < W0.heap.size := by have := HLO.out; have := HWS.out.1; have := HWS.out.2; omega
        have hnb : (Value.slice A n c).ownBlock ≠ some b := fun e => by have := (HLW.out b e).1; omega
        have hbw : b < w.heap.size := by have := HLO.out; omega
        have c0 := (HGR.out.cell (p := ⟨b, o + k * 4, none⟩) hbg hnb).trans ((HK.out.below.cell (p := ⟨b, o + k * 4, none⟩) hbw).trans c0)
        have c1 := (HGR.out.cell (p := ⟨b, o + k * 4 + 1, none⟩) hbg hnb).trans ((HK.out.below.cell (p := ⟨b, o + k * 4 + 1, none⟩) hbw).trans c1)
        have c2 := (HGR.out.cell (p := ⟨b, o + k * 4 + 2, none⟩) hbg hnb).trans ((HK.out.below.cell (p := ⟨b, o + k * 4 + 2, none⟩) hbw).trans c2)
        have c3 := (HGR.out.cell (p := ⟨b, o + k * 4 + 3, none⟩) hbg hnb).trans ((HK.out.below.cell (p := ⟨b, o + k * 4 + 3, none⟩) hbw).trans c3)
        have HSUC : Hid ((es.take (k + 1)).map dotE = (es.take k).map dotE ++ [((es[k]).a, (es[k]).n)]) := by unfold Hid; rw [List.take_succ_eq_append_getElem hkl, List.map_append]; rfl
        obtain ⟨⟨ea, en, et, ev⟩, hx⟩ : ∃ x, x = es[k] := ⟨_, rfl⟩
        rw [← hx] at c0 c1 c2 c3 HSUC
        dsimp only at c0 c1 c2 c3 HSUC
        obtain ⟨W1, hW1⟩ : ∃ W, W = wr.alloc (.cells #[.int .i64 ea, .int .i64 en, .string et, .int .i64 ev] 58) := ⟨_, rfl⟩
        have hb1 : Below wr.heap.size wr W1 := by rw [hW1]; exact Dt.box_below _ _ _
        have hos := HO.out
        obtain ⟨A6, c6, w6, r1, r2, r3⟩ := push_dot W1 lo (wr.heap.size + 1) (by rw [hW1]; simp) (own_later HO.out hb1) (by have h1 := HGR.out.size; have h2 := hb1.size; have h3 := HLO.out; have h4 := HWS.out.1; have h5 := HWS.out.2; omega) (ea, en) (by omega)
        have HO6 : Hid (Own w6 lo 48 2 A6 (n + (k + 1)) c6 ((l ++ (es.take (k + 1)).map dotE).flatMap Cx.dotC)) := by unfold Hid; rw [HSUC.out, ← List.append_assoc]; exact r2
        have HGR6 : Hid (Gr W0 w6 (.slice A n c) (.slice A6 (n + (k + 1)) c6)) := HGR.out.trans ((Gr.of_below hb1).trans r3)
        have Hrun := Lib.hid r1
        have HW1 := Lib.hid hW1
        clear hc hx hW1 hb1 r1 r2 r3 hos HSUC hnb hbg
        go_wp2_with (at_builtin; rw [← HW1.out]; refine Lib.wpList_append_run _ rfl _ _ _ _ rfl _ _ rfl rfl _ _ Hrun.out ?_)
        go_roundw
        case rel => exact ⟨k + 1, A6, c6, by omega, by go_num, rfl, HO6.out, HGR6.out⟩
        case measure => simp [intOf]; omega
      · obtain rfl : k = ne := by omega
        have HO1 : Hid (Own wr lo 48 2 Ax (n + k) cx ((l ++ es.map dotE).flatMap Cx.dotC)) := by have h1 := HO.out; rw [List.take_of_length_le (by rw [HLE.out]; omega)] at h1; exact h1
        have HGR1 := Lib.hid HGR.out
        go_wp2_with fail
        go_loopw [0, 25] (fun v i wr => ∃ (j : Nat) (Ay : Option Addr) (cy m : Nat), j ≤ nk ∧ i = .int .i64 j ∧ v = .slice Ay m cy ∧ Hid (m = n + (k + ksum (fun k => (leaves k.2).length) ks j)) ∧ Hid (Own wr lo 48 2 Ay m cy ((l ++ es.map dotE ++ kidsD ks j).flatMap Cx.dotC)) ∧ Hid (Gr W0 wr (.slice A n c) (.slice Ay m cy))) (fun _ i _ => nk - (intOf i).toNat)
        case atStart => exact ⟨0, Ax, cx, n + k, by omega, rfl, rfl, by rw [ksum_zero]; rfl, by have h1 := HO1.out; simpa [Hid, kidsD] using h1, HGR1.out⟩
        case round =>
          obtain ⟨j, Ay, cy, m, hj, rfl, rfl, HMM, HO, HGR⟩ := hrel
          clear k0 k1
          have k0 := (HGR.out.cell (p := ⟨g, 0, none⟩) hg0 HNG.out).trans HK.out.c0
          have k1 := (HGR.out.cell (p := ⟨g, 1, none⟩) hg0 HNG.out).trans HK.out.c1
          have hgr : g < wr.heap.size := Nat.lt_of_lt_of_le hg0 HGR.out.size
          by_cases hlt : j < nk
          · have hkl : j < ks.length := by rw [HLK.out]; exact hlt
            obtain ⟨b, o, rfl, hb, hc⟩ := rd_kid HR.out (by omega)
            obtain ⟨⟨Ae', ne', ce'⟩, ⟨Ak', nk', ck'⟩, c0, c1, c2, hkid⟩ := hc j hkl
            dsimp only at c0 c1 c2
            have hbg : b < W0.heap.size := by have := HLO.out; have := HWS.out.1; have := HWS.out.2; omega
            have hnb : (Value.slice A n c).ownBlock ≠ some b := fun e => by have := (HLW.out b e).1; omega
            have hbw : b < w.heap.size := by have := HLO.out; omega
            have c0 := (HGR.out.cell (p := ⟨b, o + j * 3, none⟩) hbg hnb).trans ((HK.out.below.cell (p := ⟨b, o + j * 3, none⟩) hbw).trans c0)
            have c1 := (HGR.out.cell (p := ⟨b, o + j * 3 + 1, none⟩) hbg hnb).trans ((HK.out.below.cell (p := ⟨b, o + j * 3 + 1, none⟩) hbw).trans c1)
            have c2 := (HGR.out.cell (p := ⟨b, o + j * 3 + 2, none⟩) hbg hnb).trans ((HK.out.below.cell (p := ⟨b, o + j * 3 + 2, none⟩) hbw).trans c2)
            obtain ⟨key, hkey⟩ : ∃ key, key = (ks[j]).1 := ⟨_, rfl⟩
            rw [← hkey] at c0
            obtain ⟨W1, hW1⟩ : ∃ W, W = wr.alloc (.cells #[.string key, .slice Ae' ne' ce', .slice Ak' nk' ck'] 85) := ⟨_, rfl⟩
            have hb1 : Below wr.heap.size wr W1 := by rw [hW1]; exact Dt.box_below _ _ _
            have hbel : Below lo w W1 := by
              have h0 : Below lo w wr := (HGR0.out.trans HGR.out).below HLO.out (fun k hk => (HLW.out k hk).1)
              exact h0.trans (hb1.mono (by have h1 := HGR.out.size; have h2 := HLO.out; have h4 := HWS.out.1; have h5 := HWS.out.2; omega))
            have hs1 := ksum_succ (fun k => (leaves k.2).length) hkl
            have hs2 := Nat.le_trans (ksum_le (fun k => (leaves k.2).length) ks (j + 1)) (Nat.le_of_eq (ksum_all _ HLK.out).symm)
            have hmm := HMM.out
            have hm2 := HM2.out
            have hkn := nodes_kid (es := es) (List.getElem_mem hkl)
            have hsn : m + nodes (ks[j]).2 ≤ 100000 := by
              have h1 : ksum (fun k => (leaves k.2).length) ks j ≤ ksum (fun k => nodes k.2) ks j := by
                unfold ksum; exact sum_mono fun a _ => leaves_nodes a.2
              have h2 := ksum_succ (fun k => nodes k.2) hkl
              have h3 := Nat.le_trans (ksum_le (fun k => nodes k.2) ks (j + 1)) (Nat.le_of_eq rfl)
              have h4 := HN.out
              rw [nodes_mk] at h4
              have h5 := HLE.out
              omega
            have hcall := IH.out _ (List.getElem_mem hkl) Ae' Ak' ne' nk' ce' ck' lo Ay m cy (l ++ es.map dotE ++ kidsD ks j) W1 hsn (RdT.below hkid hbel) (by have h1 := HGR.out.size; have h2 := hb1.size; have h3 := HLO.out; have h4 := HWS.out.1; have h5 := HWS.out.2; omega) (own_later HO.out hb1)
            have HMM2 : Hid (m + (leaves (ks[j]).2).length = n + (k + ksum (fun k => (leaves k.2).length) ks (j + 1))) := by unfold Hid; omega
            have HKD := Lib.hid (kidsD_succ hkl)
            have HC := Lib.hid hcall
            have HB1 := Lib.hid hb1
            have HW1 := Lib.hid hW1
            clear hc hkid hkey hW1 hb1 hbel hs1 hs2 hmm hm2 hkn hsn hcall hnb hbg
            go_wp2_with fail
            rw [← HW1.out]
            refine HC.out.mono ?_
            rintro e w2 ⟨A7, c7, rfl, r2, r3⟩
            have HO7 : Hid (Own w2 lo 48 2 A7 (m + (leaves (ks[j]).2).length) c7 ((l ++ es.map dotE ++ kidsD ks (j + 1)).flatMap Cx.dotC)) := by unfold Hid; rw [HKD.out, ← List.append_assoc]; exact r2
            have HGR7 : Hid (Gr W0 w2 (.slice A n c) (.slice A7 (m + (leaves (ks[j]).2).length) c7)) := HGR.out.trans ((Gr.of_below HB1.out).trans r3)
            clear r2 r3
            go_wp2_with fail
            go_roundw
            case rel => exact ⟨j + 1, A7, c7, _, by omega, by go_num, rfl, HMM2.out, HO7.out, HGR7.out⟩
            case measure => simp [intOf]; omega
          · obtain rfl : j = nk := by omega
            have hmm : m = n + (leaves (.mk es ks)).length := by rw [HM.out]; exact HMM.out
            subst hmm
            have HO9 : Hid (Own wr lo 48 2 Ay (n + (leaves (.mk es ks)).length) cy ((l ++ dl (.mk es ks)).flatMap Cx.dotC)) := by unfold Hid; rw [dl_mk es ks HLK.out, ← List.append_assoc]; exact HO.out
            have HGR9 := Lib.hid (HGR0.out.trans HGR.out)
            go_wp2_with fail
            go_ret
            exact ⟨Ay, cy, rfl, HO9.out, HGR9.out⟩
set_option maxRecDepth 100000 in
set_option maxHeartbeats 4000000 in
theorem dotsT_bad (t : T) (Ae Ak : Option Addr) (ne nk ce ck : Nat) (w : World) (hz : rightB 5 t = false) (hl : LenT reachBytes t) (hr : RdT w w.heap.size t ⟨Ae, ne, ce⟩ ⟨Ak, nk, ck⟩) :
    Calls Tryz.prog 34 #[.agg #[.slice Ae ne ce, .slice Ak nk ck]] w fun e w' => e = .returned (.tuple #[.slice none 0 0, .int .i64 1]) ∧ Below w.heap.size w w' := by
  have HR := Lib.hid hr
  have HL := Lib.hid hl
  have HZ := Lib.hid hz
  obtain ⟨g, hg⟩ : ∃ g, g = w.heap.size := ⟨_, rfl⟩
  have HK := Lib.hid (tree_box w Ae Ak ne nk ce ck)
  rw [← hg] at HK
  obtain ⟨W0, hW0⟩ : ∃ W, W = w.alloc (.cells #[.slice Ae ne ce, .slice Ak nk ck] 25) := ⟨_, rfl⟩
  rw [← hW0] at HK
  have HG := Lib.hid hg
  have HW0 := Lib.hid hW0
  have k0 := HK.out.c0
  have k1 := HK.out.c1
  clear hg hW0
  clear hr hl hz
  go_enter Tryz.func34, Tryz.ntmps34
  go_wp2_with fail
  rw [← HG.out, ← HW0.out]
  refine (rightT_any t Ae Ak ne nk ce ck W0 HL.out (RdT.more HK.out.below.size _ (RdT.below HR.out HK.out.below))).mono ?_
  rw [HZ.out]
  rintro e w1 ⟨rfl, hb1⟩
  have HK1 := Lib.hid (HK.out.later hb1)
  clear k0 k1 hb1
  have k0 := HK1.out.c0
  have k1 := HK1.out.c1
  go_wp2
  go_ret2
  exact ⟨rfl, HK1.out.below⟩
set_option maxRecDepth 100000 in
set_option maxHeartbeats 4000000 in
theorem dotsT_any (t : T) (Ae Ak : Option Addr) (ne nk ce ck : Nat) (w : World) (hz : rightB 5 t = true) (hl : LenT reachBytes t) (hn : nodes t ≤ 1000) (hr : RdT w w.heap.size t ⟨Ae, ne, ce⟩ ⟨Ak, nk, ck⟩) :
    Calls Tryz.prog 34 #[.agg #[.slice Ae ne ce, .slice Ak nk ck]] w fun e w' => ∃ u q A c, e = .returned (.tuple #[.slice A q c, .int .i64 0]) ∧ Hid (u.length = q) ∧ Hid (Cx.OfC (dl t) u) ∧ q ≤ 4 * nodes t ∧ Hid (Rd w' w'.heap.size 3 A q c (spsC u)) ∧ Below w.heap.size w w' := by
  have HN := Lib.hid hn
  clear hn
  have HR := Lib.hid hr
  have HL := Lib.hid hl
  have HZ := Lib.hid hz
  obtain ⟨g, hg⟩ : ∃ g, g = w.heap.size := ⟨_, rfl⟩
  have HK := Lib.hid (tree_box w Ae Ak ne nk ce ck)
  rw [← hg] at HK
  obtain ⟨W0, hW0⟩ : ∃ W, W = w.alloc (.cells #[.slice Ae ne ce, .slice Ak nk ck] 25) := ⟨_, rfl⟩
  rw [← hW0] at HK
  have HG := Lib.hid hg
  have HW0 := Lib.hid hW0
  have k0 := HK.out.c0
  have k1 := HK.out.c1
  clear hg hW0
  clear hr hl hz
  go_enter Tryz.func34, Tryz.ntmps34
  go_wp2_with fail
  rw [← HG.out, ← HW0.out]
  refine (rightT_any t Ae Ak ne nk ce ck W0 HL.out (RdT.more HK.out.below.size _ (RdT.below HR.out HK.out.below))).mono ?_
  rw [HZ.out]
  rintro e w1 ⟨rfl, hb1⟩
  have HK1 := Lib.hid (HK.out.later hb1)
  clear k0 k1 hb1
  have k0 := HK1.out.c0
  have k1 := HK1.out.c1
  have HD := Lib.hid (dots_any t Ae Ak ne nk ce ck w1.heap.size none 0 0 [] w1 (by have := HN.out; omega) (RdT.more HK1.out.below.size _ (RdT.below HR.out HK1.out.below)) (Nat.le_refl _) (by exact ⟨World.ownsRow_nil _ _ _ _, by simp⟩))
  go_wp2_with fail
  refine HD.out.mono ?_
  rintro e w2 ⟨A2, c2, rfl, ho, hg⟩
  rw [Nat.zero_add] at ho hg ⊢
  have hb2 : Below w1.heap.size w1 w2 := hg.below (Nat.le_refl _) (fun k hk => by simp [Value.ownBlock] at hk)
  have HK2 := Lib.hid (HK1.out.later hb2)
  have hm : (leaves t).length ≤ 1000 := Nat.le_trans (leaves_nodes t) HN.out
  have hof := Cx.ofC_any (dl t) (leaves t).length A2 c2 w2 (dl_len t) hm ho.rd
  have HOF := Lib.hid hof
  have HM := Lib.hid hm
  clear k0 k1 ho hg hb2 hof hm
  have k0 := HK2.out.c0
  have k1 := HK2.out.c1
  go_wp2_with fail
  refine HOF.out.mono ?_
  rintro e w3 (⟨_, u, q, A3, c3, rfl, hu1, hu2, hq, hr3, hb3⟩ | ⟨hno, _⟩)
  · have HB3 := Lib.hid (HK2.out.later hb3).below
    have HU1 := Lib.hid hu1
    have HU2 := Lib.hid hu2
    have HR3 := Lib.hid hr3
    have HQ := Lib.hid hq
    clear hb3 hu1 hu2 hr3 hq
    go_wp2
    go_ret2
    exact ⟨u, q, A3, c3, rfl, HU1.out, HU2.out, by have := HQ.out; have := leaves_nodes t; omega, HR3.out, HB3.out⟩
  · exact absurd (good_dl (rightB_iff.1 HZ.out)) hno
end Tr
end Go.Proofs.YtcbclefemcmhpaaGreat
namespace Go.Proofs.YtcbclefemcmhpaaGreat
open Go.ChangeShapes Go.WideShapes Go.ChangeAt Go.RowKit
namespace Cx
open Sp Rw
set_option maxRecDepth 100000 in
set_option maxHeartbeats 2000000 in
theorem refofC_any (l : List (Int × Int)) (n : Nat) (A : Option Addr) (c : Nat) (w : World) (hl : l.length = n) (hn : n ≤ 1000) (hr : Rd w w.heap.size 2 A n c (l.flatMap dotC)) (hg : goodD l) (u : List S3) (hu : OfC l u) (q : Nat) (hq : u.length = q) (hq8 : q ≤ 800000) :
    Calls Tryz.prog 68 #[.slice A n c] w fun e w' => ∃ A' c', e = .returned (.slice A' q c') ∧ Rd w' w'.heap.size 3 A' q c' (spsC u) ∧ Below w.heap.size w w' := by
  have HUP : Hid (pre (fun d : Nat => part u d) 4 = u) := by
    unfold Hid
    rw [pre_four]
    refine ext_part (rise_glue _) hu.right.rise fun d hd => ?_
    rw [part_glue _ hd]
    have e : ((d.toNat : Nat) : Int) = d := by have := hd.1; omega
    rw [e]
  have HUB : Hid (∀ d : Nat, d < 4 → ∀ x, SetIs (nums l d) x → x = part u d) := fun d hd x hx =>
    ext hx.1 (hu.right.part d (by unfold Cen; omega)) fun m => by
      have h1 := hx.2 m
      have h2 := hu.has d m (by unfold Cen; omega)
      unfold hasC at h2
      rw [← nums_mem] at h2
      cases e1 : hasB x m <;> cases e2 : hasB (part u d) m <;> simp_all
  have HUL : Hid (∀ d : Nat, d ≤ 4 → (pre (fun d : Nat => part u d) d).length ≤ q) := by
    have h4 : (pre (fun d : Nat => part u d) 4).length = q := by rw [HUP.out, hq]
    intro d hd
    have hmono : ∀ i j : Nat, i ≤ j → (pre (fun d : Nat => part u d) i).length ≤ (pre (fun d : Nat => part u d) j).length := by
      intro i j hij
      induction j with
      | zero => obtain rfl : i = 0 := by omega
                exact Nat.le_refl _
      | succ j ih =>
        rcases (by omega : i ≤ j ∨ i = j + 1) with h | rfl
        · have := ih h
          simp only [pre, List.length_append]
          omega
        · exact Nat.le_refl _
    have := hmono d 4 hd
    omega
  have HR := Lib.hid hr
  have HL := Lib.hid hl
  have HGD := Lib.hid hg
  have HQ := Lib.hid hq
  clear hr hl hg hq hu
  go_enter Tryz.func68, Tryz.ntmps68
  go_wp2
  go_loopw [3, 7] (fun v i wr => ∃ (d m : Nat) (A' : Option Addr) (c' : Nat), d ≤ 4 ∧ v = .slice A' m c' ∧ i = .int .i64 d ∧ Hid ((pre (fun d : Nat => part u d) d).length = m) ∧ Hid (Own wr w.heap.size 55 3 A' m c' (spsC (pre (fun d : Nat => part u d) d))) ∧ Hid (Below w.heap.size w wr)) (fun _ i _ => 4 - (intOf i).toNat)
  case atStart => exact ⟨0, 0, none, 0, by omega, rfl, rfl, rfl, ⟨World.ownsRow_nil _ _ _ _, by simp [pre, spsC]⟩, Below.refl _ _⟩
  case round =>
    obtain ⟨d, m1, A', c', hd, rfl, rfl, HM, HO, HB⟩ := hrel
    by_cases hd4 : d < 4
    · obtain ⟨W0, hW0⟩ : ∃ W0, W0 = wr := ⟨_, rfl⟩
      rw [← hW0] at HO HB
      have HW0 := Lib.hid hW0
      have HQ4 : Hid (∀ x : Nat, (part u d).length = x → m1 + x ≤ 800000) := fun x hx => by
        have := HUL.out (d + 1) (by omega)
        simp only [pre, List.length_append, Cx.spans_len] at this
        have e1 := HM.out
        omega
      clear hW0
      go_wp2
      go_loopw [5, 12] (fun v i wr2 => ∃ (k m2 : Nat) (A2 : Option Addr) (c2 : Nat), k ≤ n ∧ v = .slice A2 m2 c2 ∧ i = .int .i64 k ∧ Hid ((nums (l.take k) d).length = m2) ∧ Hid (Own wr2 W0.heap.size 2 1 A2 m2 c2 (intsC (nums (l.take k) d))) ∧ Hid (Below W0.heap.size W0 wr2)) (fun _ i _ => n - (intOf i).toNat)
      case atStart => exact ⟨0, 0, none, 0, by omega, rfl, rfl, rfl, ⟨World.ownsRow_nil _ _ _ _, by simp [nums, intsC]⟩, (by unfold Hid; rw [HW0.out]; exact Below.refl _ _)⟩
      case round =>
        clear HW0
        obtain ⟨k, m2, A2, c2, hk, rfl, rfl, HM2, HO2, HB2⟩ := hrel
        have HBW : Hid (Below w.heap.size w wr) := HB.out.trans (HB2.out.mono HB.out.size)
        by_cases hlt : k < n
        · have hkl : k < l.length := by rw [HL.out]; exact hlt
          obtain ⟨b1, o, rfl, hbl, hc⟩ := rd_dot HR.out hlt
          obtain ⟨q0, q1⟩ := hc k hkl
          obtain ⟨p, hp⟩ : ∃ p, p = l[k] := ⟨_, rfl⟩
          have htk := nums_take hkl hp (d : Int)
          rw [← hp] at q0 q1
          obtain ⟨dc, y⟩ := p
          have q0 := (HBW.out.cell (p := ⟨b1, o + k * 2, none⟩) hbl).trans q0
          have q1 := (HBW.out.cell (p := ⟨b1, o + k * 2 + 1, none⟩) hbl).trans q1
          dsimp only at q0 q1 htk
          clear hc hp
          by_cases he : dc = (d : Int)
          · have f1 : (dc == (d : Int)) = true := by simpa using he
            rw [if_pos he] at htk
            have hml : m2 ≤ 1000 := by rw [← HM2.out]; exact Nat.le_trans (nums_len _ _) (by rw [List.length_take]; omega)
            obtain ⟨v3, w3, hrun, ho3, hb3⟩ := run_push Tryz.underlying105 infoI rfl (by omega) (by omega) wr W0.heap.size wr.heap.size rfl HB2.out.size _ m2 _ HO2.out.row [.int .i64 y] 1 rfl (by intro u hu; simp at hu; rcases hu with rfl; rfl) (by omega)
            have e2 : intsC (nums (l.take k) d) ++ [.int .i64 y] = intsC (nums (l.take (k + 1)) d) := by rw [htk, intsC_append]; rfl
            rw [e2] at ho3
            obtain ⟨A3, c3, rfl, ho4⟩ := Own.of_row ho3 (intsC_one _)
            have Hrun := Lib.hid hrun
            have HO3 := Lib.hid ho4
            have HM3 : Hid ((nums (l.take (k + 1)) d).length = m2 + 1) := by unfold Hid; rw [htk, List.length_append, HM2.out]; rfl
            have HB3 := Lib.hid (HB2.out.trans hb3)
            clear hrun ho3 ho4 hb3 htk e2 HO2 HM2 hml
            go_wp2_with (at_builtin; refine Lib.wpList_append_run _ rfl _ _ _ _ rfl _ _ rfl rfl _ _ Hrun.out ?_)
            exact ⟨⟨.slice A3 (m2 + 1) c3, _, .int .i64 ((k : Int) + 1), ⟨k + 1, by omega, m2 + 1, A3, c3, rfl, by go_num, HM3.out, HO3.out⟩, rfl, rfl, rfl⟩, by simp [intOf]; omega⟩
          · have f1 : (dc == (d : Int)) = false := by simpa using he
            rw [if_neg he] at htk
            rw [← htk] at HM2 HO2
            clear htk
            go_wp2
            go_roundw
            case rel => exact ⟨k + 1, m2, A2, c2, by omega, rfl, by go_num, HM2.out, HO2.out, HB2.out⟩
            case measure => simp [intOf]; omega
        · obtain rfl : k = n := by omega
          have hall : l.take k = l := List.take_of_length_le (by rw [HL.out]; omega)
          rw [hall] at HO2 HM2
          have HNL : Hid ((nums l d).length ≤ 1000) := by unfold Hid; have := nums_len l d; have := HL.out; omega
          have HC := Lib.hid (refof_any (nums l d) m2 A2 c2 wr HM2.out (by have := HM2.out; have := HNL.out; omega) HO2.out.rd (fun x hx => by have := (good_num (HGD.out _ (nums_mem.1 hx))).2; exact this))
          have HC' : Hid (Calls Tryz.prog 94 #[.slice A2 m2 c2] wr fun e w' => ∃ A' q' c', e = .returned (.slice A' q' c') ∧ Hid ((part u d).length = q') ∧ Hid (Rd w' w'.heap.size 2 A' q' c' (runsC (part u d))) ∧ Below wr.heap.size wr w') := by
            refine HC.out.mono ?_
            rintro e w' ⟨x, A', c', rfl, h1, ho, hb⟩
            have := HUB.out d hd4 x h1
            subst this
            exact ⟨A', _, c', rfl, rfl, ho.rd, hb⟩
          have HO5 : Hid (Own wr w.heap.size 55 3 A' m1 c' (spsC (pre (fun d : Nat => part u d) d))) := own_later HO.out HB2.out
          clear hall HC HO HB2
          go_wp2_with fail
          refine HC'.out.mono ?_
          rintro e w3 ⟨A3, q3, c3, rfl, HL3, HR3, hb3⟩
          have HB3 := Lib.hid (HBW.out.trans (hb3.mono HBW.out.size))
          have HO3 := Lib.hid (own_later HO5.out hb3)
          clear hb3
          have HC4 := Lib.hid (spans_any (part u d) q3 A3 c3 d w3 HL3.out (by have := HQ4.out q3 HL3.out; omega) HR3.out)
          go_wp2_with fail
          refine HC4.out.mono ?_
          rintro e w4 ⟨A4, c4, rfl, ho4, hb4⟩
          have hO4 := own_later HO3.out hb4
          have hB4 := HB3.out.trans (hb4.mono HB3.out.size)
          obtain ⟨A5, c5, w5, hrun, ho5, hb5⟩ := appsC hO4 ho4.rd (by have := HQ4.out q3 HL3.out; omega) hB4.size
          have Hrun := Lib.hid hrun
          have HO6 := Lib.hid ho5
          have HB5 := Lib.hid (hB4.trans hb5)
          have HM5 : Hid ((pre (fun d : Nat => part u d) (d + 1)).length = m1 + q3) := by
            simp only [pre, List.length_append, Cx.spans_len, Hid]
            rw [HM.out, HL3.out]
          clear hb4 ho4 hO4 hB4 hrun ho5 hb5
          go_wp2_with (at_builtin; refine Lib.wpList_append_run _ rfl _ _ _ _ rfl _ _ rfl rfl _ _ Hrun.out ?_)
          go_roundw
          case rel => exact ⟨d + 1, m1 + q3, A5, c5, by omega, rfl, by go_num, HM5.out, HO6.out, HB5.out⟩
          case measure => simp [intOf]; omega
    · obtain rfl : d = 4 := by omega
      have HE : Hid (m1 = q) := by unfold Hid; rw [← HM.out, HUP.out, HQ.out]
      rw [HUP.out, HE.out] at HO
      rw [HE.out]
      go_wp2
      go_ret
      exact ⟨_, _, rfl, HO.out.rd, HB.out⟩
end Cx
end Go.Proofs.YtcbclefemcmhpaaGreat
namespace Go.Proofs.YtcbclefemcmhpaaGreat
open Go.ChangeShapes Go.WideShapes Go.ChangeAt Go.RowKit
namespace Tr
open Sp Rw
set_option maxRecDepth 100000 in
set_option maxHeartbeats 4000000 in
theorem refdots_any (t : T) (Ae Ak : Option Addr) (ne nk ce ck : Nat) (w : World) (hn : nodes t ≤ 1000) (hr : RdT w w.heap.size t ⟨Ae, ne, ce⟩ ⟨Ak, nk, ck⟩) (hg : Cx.goodD (dl t)) (u : List Cx.S3) (hu : Cx.OfC (dl t) u) (q : Nat) (hq : u.length = q) (hq8 : q ≤ 800000) :
    Calls Tryz.prog 39 #[.agg #[.slice Ae ne ce, .slice Ak nk ck]] w fun e w' => ∃ A' c', e = .returned (.slice A' q c') ∧ Rd w' w'.heap.size 3 A' q c' (spsC u) ∧ Below w.heap.size w w' := by
  have HR := Lib.hid hr
  have HN := Lib.hid hn
  have HU := Lib.hid hu
  have HQ := Lib.hid hq
  have HG2 := Lib.hid hg
  have HQ8 := Lib.hid hq8
  clear hr hn hu hq hg hq8
  obtain ⟨g, hg⟩ : ∃ g, g = w.heap.size := ⟨_, rfl⟩
  have HK := Lib.hid (tree_box w Ae Ak ne nk ce ck)
  rw [← hg] at HK
  obtain ⟨W0, hW0⟩ : ∃ W, W = w.alloc (.cells #[.slice Ae ne ce, .slice Ak nk ck] 25) := ⟨_, rfl⟩
  rw [← hW0] at HK
  have HG := Lib.hid hg
  have HW0 := Lib.hid hW0
  have k0 := HK.out.c0
  have k1 := HK.out.c1
  clear hg hW0
  go_enter Tryz.func39, Tryz.ntmps39
  go_wp2_with fail
  rw [← HG.out, ← HW0.out]
  refine (leaves_any t Ae Ak ne nk ce ck W0 (by have := HN.out; omega) (RdT.more HK.out.below.size _ (RdT.below HR.out HK.out.below))).mono ?_
  rintro e w1 ⟨Al, cl, rfl, hl, hb1⟩
  have HK1 := Lib.hid (HK.out.later hb1)
  have HLF := Lib.hid hl
  obtain ⟨n, hn⟩ : ∃ n, n = (leaves t).length := ⟨_, rfl⟩
  rw [← hn] at HLF ⊢
  have HNN := Lib.hid hn
  have hn1 : n ≤ 1000 := by have := leaves_nodes t; have := HN.out; omega
  clear k0 k1 hb1 hl hn
  go_wp2_with fail
  go_loopw [3, 10] (fun v i wr => ∃ (k : Nat) (Ax : Option Addr) (cx : Nat), k ≤ n ∧ i = .int .i64 k ∧ v = .slice Ax k cx ∧ Hid (Own wr w1.heap.size 48 2 Ax k cx (((leaves t).take k).map (fun x => dotE x.2) |>.flatMap Cx.dotC)) ∧ Hid (Gr w1 wr (.slice none 0 0) (.slice Ax k cx))) (fun _ i _ => n - (intOf i).toNat)
  case atStart => exact ⟨0, none, 0, by omega, rfl, rfl, ⟨World.ownsRow_nil _ _ _ _, by simp⟩, Gr.refl _ _⟩
  case round =>
    obtain ⟨k, Ax, cx, hk, rfl, rfl, HO, HGR⟩ := hrel
    have hbw : Below w1.heap.size w1 wr := HGR.out.below (Nat.le_refl _) (fun k hk => by simp [Value.ownBlock] at hk)
    by_cases hlt : k < n
    · have hkl : k < (leaves t).length := by rw [← HNN.out]; exact hlt
      obtain ⟨b, o, rfl, hb, hc⟩ := LfRd.at_ HLF.out (by omega)
      obtain ⟨s, _, c1, c2, c3, c4, _, _⟩ := hc k hkl
      have c1 := (hbw.cell (p := ⟨b, o + k * 5 + 1, none⟩) hb).trans c1
      have c2 := (hbw.cell (p := ⟨b, o + k * 5 + 2, none⟩) hb).trans c2
      have HSUC : Hid (((leaves t).take (k + 1)).map (fun x => dotE x.2) = ((leaves t).take k).map (fun x => dotE x.2) ++ [(((leaves t)[k]).2.a, ((leaves t)[k]).2.n)]) := by unfold Hid; rw [List.take_succ_eq_append_getElem hkl, List.map_append]; rfl
      obtain ⟨ea, hea⟩ : ∃ x, x = ((leaves t)[k]).2.a := ⟨_, rfl⟩
      obtain ⟨en, hen⟩ : ∃ x, x = ((leaves t)[k]).2.n := ⟨_, rfl⟩
      rw [← hea] at c1 HSUC
      rw [← hen] at c2 HSUC
      obtain ⟨A6, c6, w6, r1, r2, r3⟩ := push_dot wr w1.heap.size wr.heap.size rfl HO.out hbw.size (ea, en) (by omega)
      have HO6 : Hid (Own w6 w1.heap.size 48 2 A6 (k + 1) c6 (((leaves t).take (k + 1)).map (fun x => dotE x.2) |>.flatMap Cx.dotC)) := by unfold Hid; rw [HSUC.out]; exact r2
      have HGR6 : Hid (Gr w1 w6 (.slice none 0 0) (.slice A6 (k + 1) c6)) := HGR.out.trans r3
      have Hrun := Lib.hid r1
      clear hc hea hen r1 r2 r3 HSUC c3 c4 hbw
      go_wp2_with (at_builtin; refine Lib.wpList_append_run _ rfl _ _ _ _ rfl _ _ rfl rfl _ _ Hrun.out ?_)
      go_roundw
      case rel => exact ⟨k + 1, A6, c6, by omega, by go_num, rfl, HO6.out, HGR6.out⟩
      case measure => simp [intOf]; omega
    · obtain rfl : k = n := by omega
      have hrd : Rd wr wr.heap.size 2 Ax k cx ((dl t).flatMap Cx.dotC) := by
        have h1 := HO.out
        rw [List.take_of_length_le (by rw [← HNN.out]; omega)] at h1
        exact h1.rd
      have hof := Cx.refofC_any (dl t) k Ax cx wr (by rw [dl_len]; exact HNN.out.symm) hn1 hrd HG2.out u HU.out q HQ.out HQ8.out
      have HOF := Lib.hid hof
      have HB := Lib.hid (HK1.out.below.trans (hbw.mono HK1.out.below.size))
      clear hrd hof hbw
      go_wp2_with fail
      refine HOF.out.mono ?_
      rintro e w3 ⟨A3, c3, rfl, hr3, hb3⟩
      have HR3 := Lib.hid hr3
      have HB3 := Lib.hid (HB.out.trans (hb3.mono HB.out.size))
      clear hr3 hb3
      go_wp2_with fail
      go_ret
      exact ⟨A3, c3, rfl, HR3.out, HB3.out⟩
end Tr
end Go.Proofs.YtcbclefemcmhpaaGreat
namespace Go.Proofs.YtcbclefemcmhpaaGreat
open Go.ChangeShapes Go.WideShapes Go.ChangeAt Go.RowKit
namespace Cx
open Sp Rw
set_option maxRecDepth 100000
theorem ctx_of_trod {H : Type} {enc : TypeId × Value → H} {W : World} {A : Option Addr} {len cap fuel : Nat} {x : DataW H × List MemPlace}
    (h : DataW.trod enc Tryz.prog W 0 (fun _ => true) true fuel 27 (Value.slice A len cap).cells.toList = some x) :
    ∃ l : List S3, l.length = len ∧ Rd W W.heap.size 3 A len cap (spsC l) ∧ len ≤ maxLen := by
  refine rd_of_trod spC spC_len spC_one (by omega) Tryz.underlying27 (by kernel_rfl) ?_ h
  intro n cs y hy
  obtain ⟨y0, y1, y2, m, _, hlen, h0, h1, h2⟩ := Go.Deep.trod_struct3 Tryz.underlying55 hy
  have hc3 : Tryz.prog.cellsOf 55 = 3 := by kernel_rfl
  have hci : Tryz.prog.cellsOf 3 = 1 := by kernel_rfl
  have hcj : Tryz.prog.cellsOf 2 = 1 := by kernel_rfl
  rw [hc3] at hlen
  obtain ⟨c0, c1, c2, rfl⟩ : ∃ c0 c1 c2, cs = [c0, c1, c2] := by
    match cs, hlen with
    | [c0, c1, c2], _ => exact ⟨_, _, _, rfl⟩
  simp only [hci, hcj] at h0 h1 h2
  obtain ⟨a, e0, _, w0⟩ := DataW.trod_int Tryz.underlying3 h0
  obtain ⟨b, e1, _, w1⟩ := DataW.trod_int Tryz.underlying2 h1
  obtain ⟨d, e2, _, w2⟩ := DataW.trod_int Tryz.underlying2 h2
  simp at e0 e1 e2
  subst e0; subst e1; subst e2
  exact ⟨(a, b, d), rfl⟩
def four (a b c d : Int) (j : Nat) : Int := if j = 0 then a else if j = 1 then b else if j = 2 then c else d
end Cx
end Go.Proofs.YtcbclefemcmhpaaGreat
