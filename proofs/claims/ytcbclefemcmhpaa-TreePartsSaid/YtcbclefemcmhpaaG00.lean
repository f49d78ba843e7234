/- Texts of the lower layers, and of layer 9, put together. -/
import Derived.Test.YtcbclefemcmhpaaRows
import Derived.WalkKit
import Derived.WalkSpells
import Derived.WalkLawsBesides
import Derived.Deep.AppendLies
import Derived.Deep.Draws
import Derived.Deep.RegionHeld3
import Derived.Deep.QuietTactic
import Derived.BigQuiet
import Derived.Maps.AppendAt
import Derived.Lib.Hide
import Derived.Lib.AppendZeros
import Derived.Deep.RegionHeld
import Derived.ProofKit
import Derived.OpenShut
import Derived.Deep.Slices
import Derived.StillTailTactics
import Derived.IntWalk
import Derived.Lib.AppendStr
import Derived.Lib.SlBytesRow
import Derived.Laws.BitsAllLaws
import Derived.Deep.RegionLaw
import Derived.Deep.DeepCutAuto
import Derived.Lib.Strings
import Derived.Lib.Slices
import Derived.Lib.Walk
import Derived.Lib.Bytealg
import Derived.Shelf.SlGeneric
import Derived.Shelf.SortG.Plain
import Derived.Shelf.SortG.SortNone
import Derived.Ground.SlgnProg
import Derived.Deep.Strs
namespace Go.Proofs.Ytcbclefemcmhpaa
open Go.RowKit

/-- The slice value '.slice A n c' holds the cells xs (sz cells an element), below block B. -/
structure Rd (w : World) (B sz : Nat) (A : Option Addr) (n c : Nat) (xs : List Value) : Prop where
  len : xs.length = n * sz
  cap : n ≤ c
  one : ∀ u ∈ xs, u.oneCell' = true
  at_ : 0 < n → ∃ b o, A = some ⟨b, o, none⟩ ∧ b < B ∧ ∀ j u, xs[j]? = some u → w.cell? ⟨b, o + j, none⟩ = some u

section
variable {w w' : World} {B B' sz n c : Nat} {A : Option Addr} {xs : List Value}
theorem Rd.nil (c : Nat) : Rd w B sz A 0 c [] := ⟨by simp, Nat.zero_le _, by simp, fun h => absurd h (by omega)⟩
theorem Rd.keep (h : Rd w B sz A n c xs) (hk : ∀ p : Addr, p.block < B → w'.cell? p = w.cell? p) : Rd w' B sz A n c xs :=
  ⟨h.len, h.cap, h.one, fun hn => by
    obtain ⟨b, o, e, hb, hc⟩ := h.at_ hn
    exact ⟨b, o, e, hb, fun j u hu => (hk ⟨b, o + j, none⟩ hb).trans (hc j u hu)⟩⟩
theorem Rd.more (h : Rd w B sz A n c xs) (hB : B ≤ B') : Rd w B' sz A n c xs :=
  ⟨h.len, h.cap, h.one, fun hn => by
    obtain ⟨b, o, e, hb, hc⟩ := h.at_ hn
    exact ⟨b, o, e, by omega, hc⟩⟩
theorem Rd.below (h : Rd w B sz A n c xs) (hb : Below B w w') : Rd w' B sz A n c xs := h.keep fun _ hp => hb.cell hp
theorem Rd.later (h : Rd w w.heap.size sz A n c xs) (hb : Below w.heap.size w w') : Rd w' w'.heap.size sz A n c xs := (h.below hb).more hb.size
theorem Rd.drewN (h : Rd w B sz A n c xs) (k : Nat) : Rd (w.drewN k) B sz A n c xs := h.keep fun _ _ => rfl
theorem Rd.drew (h : Rd w B sz A n c xs) : Rd w.drew B sz A n c xs := h.keep fun _ _ => rfl
theorem Rd.alloc (h : Rd w B sz A n c xs) (hB : B ≤ w.heap.size) (o : Obj) : Rd (w.alloc o) B sz A n c xs := h.keep fun p hp => World.cell?_alloc_lt w o p (by omega)
theorem Rd.setCell (h : Rd w B sz A n c xs) {p : Addr} (hB : B ≤ p.block) (u : Value) : Rd (w.setCell p u) B sz A n c xs :=
  h.keep fun q hq => World.cell?_setCell_other w p q u (fun e => by subst e; omega)
/-- A cut 's[i:j]'. -/
theorem Rd.cut (h : Rd w B sz A n c xs) {i j : Nat} (hi : i ≤ j) (hj : j ≤ n) :
    Rd w B sz (if c = i then A else A.map (·.add (i * sz))) (j - i) (c - i) ((xs.drop (i * sz)).take ((j - i) * sz)) := by
  have hc := h.cap
  have hln : (j - i) * sz ≤ xs.length - i * sz := by rw [h.len, ← Nat.sub_mul]; exact Nat.mul_le_mul_right _ (by omega)
  refine ⟨?_, by omega, fun u hu => h.one u (List.mem_of_mem_drop (List.mem_of_mem_take hu)), fun hn => ?_⟩
  · rw [List.length_take, List.length_drop]; omega
  obtain ⟨b, o, rfl, hb, hcell⟩ := h.at_ (by omega)
  rw [if_neg (by omega)]
  refine ⟨b, o + i * sz, ?_, hb, fun k u hu => ?_⟩
  · show some (Addr.add ⟨b, o, none⟩ (i * sz)) = _
    unfold Addr.add
    split
    · rename_i h0; rw [h0]; rfl
    · rfl
  · rw [List.getElem?_take] at hu
    split at hu
    · rw [List.getElem?_drop] at hu
      have := hcell _ u hu
      rwa [← Nat.add_assoc] at this
    · cases hu
/-- 's[:j]' -/
theorem Rd.to_ (h : Rd w B sz A n c xs) {j : Nat} (hj : j ≤ n) : Rd w B sz A j c (xs.take (j * sz)) := by
  have hc := h.cap
  have hln : j * sz ≤ xs.length := by rw [h.len]; exact Nat.mul_le_mul_right _ hj
  refine ⟨by rw [List.length_take]; omega, by omega, fun u hu => h.one u (List.mem_of_mem_take hu), fun hn => ?_⟩
  obtain ⟨b, o, e, hb, hcell⟩ := h.at_ (by omega)
  refine ⟨b, o, e, hb, fun k u hu => ?_⟩
  rw [List.getElem?_take] at hu
  split at hu
  · exact hcell _ u hu
  · cases hu
/-- 's[i:]' -/
theorem Rd.from_ (h : Rd w B sz A n c xs) {i : Nat} (hi : i ≤ n) :
    Rd w B sz (if c = i then A else A.map (·.add (i * sz))) (n - i) (c - i) (xs.drop (i * sz)) := by
  have h1 := h.cut hi (Nat.le_refl n)
  rwa [List.take_of_length_le (by rw [List.length_drop, h.len, ← Nat.sub_mul]; exact Nat.le_refl _)] at h1
theorem Rd.of_own {base : Nat} {e : TypeId} {v : Value} (h : w.ownsRow base e sz v n xs) (h1 : ∀ u ∈ xs, u.oneCell' = true) : ∃ A c, v = .slice A n c ∧ Rd w w.heap.size sz A n c xs := by
  rcases h.2 with ⟨rfl, rfl⟩ | ⟨g, cap, cur, rfl, _, hg, hnc, _, _, _⟩
  · exact ⟨none, 0, rfl, ⟨h.1, Nat.le_refl _, h1, fun hn => absurd hn (by omega)⟩⟩
  · refine ⟨_, cap, rfl, ⟨h.1, hnc, h1, fun hn => ⟨g, 0, rfl, (Array.getElem?_eq_some_iff.1 hg).1, fun j u hu => ?_⟩⟩⟩
    have := h.cells (g := g) rfl j u hu
    rw [Nat.zero_add]
    unfold Addr.add at this
    split at this
    · rename_i h0; rw [h0]; exact this
    · simpa using this
end

/-- The slice value is a row of the call's own: new since 'base'. -/
structure Own (w : World) (base : Nat) (e : TypeId) (sz : Nat) (A : Option Addr) (n c : Nat) (xs : List Value) : Prop where
  row : w.ownsRow base e sz (.slice A n c) n xs
  one : ∀ u ∈ xs, u.oneCell' = true
theorem Own.rd {w : World} {base : Nat} {e : TypeId} {sz n c : Nat} {A : Option Addr} {xs : List Value} (h : Own w base e sz A n c xs) : Rd w w.heap.size sz A n c xs := by
  obtain ⟨A', c', hv, hr⟩ := Rd.of_own h.row h.one
  injection hv with h1 h2 h3
  subst h1; subst h3
  exact hr
theorem Own.set_below {w : World} {base : Nat} {e : TypeId} {sz n c : Nat} {A : Option Addr} {xs : List Value} (h : Own w base e sz A n c xs) {a : Addr} (ha : a.block < base) (u : Value) : Own (w.setCell a u) base e sz A n c xs :=
  ⟨ownsRow_setCell_below h.row ha u, h.one⟩
theorem Own.mono {w : World} {base base' : Nat} {e : TypeId} {sz n c : Nat} {A : Option Addr} {xs : List Value} (h : Own w base e sz A n c xs) (hb : base' ≤ base) : Own w base' e sz A n c xs := by
  refine ⟨⟨h.row.1, ?_⟩, h.one⟩
  rcases h.row.2 with h1 | ⟨g, cap, cur, h1, h2, h3⟩
  · exact .inl h1
  · exact .inr ⟨g, cap, cur, h1, by omega, h3⟩
theorem Own.of_row {w : World} {base : Nat} {e : TypeId} {sz n : Nat} {v : Value} {xs : List Value} (h : w.ownsRow base e sz v n xs) (h1 : ∀ u ∈ xs, u.oneCell' = true) : ∃ A c, v = .slice A n c ∧ Own w base e sz A n c xs := by
  rcases h.2 with ⟨rfl, rfl⟩ | ⟨g, cap, cur, rfl, _⟩
  · exact ⟨none, 0, rfl, h, h1⟩
  · exact ⟨_, cap, rfl, h, h1⟩
/-- An answer that is a row of the call's own. -/
def NewRow (ty sz : Nat) (xs : List Value) (n : Nat) (w : World) (e : Ending) (w' : World) : Prop :=
  ∃ A c, e = .returned (.slice A n c) ∧ Own w' w.heap.size ty sz A n c xs ∧ Below w.heap.size w w'

/-- append(v, x...) where v is a row of the call's own and x reads as 'news'. -/
theorem run_app {P : Program} (w : World) (base : Nat) (t ty e : TypeId) (i : TypeInfo) (z : Value) (sz bytes : Nat) (ht : P.underlying t = some (.slice e)) (hi : P.info? e = some i) (hz : i.zero = some z)
    (hsize : i.size = sz) (hby : i.bytes = bytes) (hzs : z.cells.size = sz) (hsz : 0 < sz)
    {v : Value} {n : Nat} {xs : List Value} (hown : w.ownsRow base e sz v n xs)
    {B : Nat} {A : Option Addr} {m c : Nat} {news : List Value} (hr : Rd w B sz A m c news)
    (h63 : n + m ≤ 1000000) (hbytes : bytes ≤ 1000000) (hbase : base ≤ w.heap.size) :
    ∃ v' w', (Builtin.append_ #[t, t] ty #[v, .slice A m c]).run P w = .ok v' w' ∧ w'.ownsRow base e sz v' (n + m) (xs ++ news) ∧ w.grownBy w' v.ownBlock ∧
      (v'.ownBlock = v.ownBlock ∨ v'.ownBlock = some w.heap.size) := by
  rcases Nat.eq_zero_or_pos m with rfl | hm
  · have hn : news = [] := List.eq_nil_of_length_eq_zero (by simpa using hr.len)
    subst hn
    refine ⟨v, w, ?_, by simpa using hown, ⟨rfl, rfl, rfl, Nat.le_refl _, fun _ _ _ => rfl⟩, .inl rfl⟩
    have hf : ∀ (A : Option Addr), (Builtin.firstCells i.size 0 (.slice A 0 c)).run P w = .ok #[] w := by
      intro A
      cases A with
      | none => simp [Builtin.firstCells]
      | some a => exact run_firstCells_some w i.size 0 a 0 c [] (by simp) (by simp)
    rcases hown.2 with ⟨rfl, rfl⟩ | ⟨g, cap, cur, rfl, _, _, hnc, _⟩
    · simp [Builtin.append_, run_underlying ht, sizeOf, typeInfo, hi, Builtin.lenOf, hf]
    · simp [Builtin.append_, run_underlying ht, sizeOf, typeInfo, hi, Builtin.lenOf, hf, hnc, storeCells]
  · obtain ⟨b, o, rfl, _, hc⟩ := hr.at_ hm
    have hb2 : (n + m) * bytes ≤ 140737488355328 := Nat.le_trans (Nat.mul_le_mul h63 hbytes) (by omega)
    obtain ⟨v', w', h1, h2, h3, _, h5⟩ := run_append_own_at (P := P) w base t ty e i z sz bytes ht hi hz hsize hby hzs hsz v n xs hown ⟨b, o, none⟩ m c news hr.len
      (fun j u hu => by
        have := hc j u hu
        unfold Addr.add
        split
        · rename_i h0; subst h0; simpa using this
        · exact this) hr.one (by simp only [maxLen]; omega) hb2 hbase
    exact ⟨v', w', h1, h2, h3, h5⟩

/-- 's[i:]' and 's[:j]', as rules for the walk: the address under a name. -/
theorem run_cut_from {P : Program} (t e : TypeId) (sz : Nat) (ht : P.underlying t = some (.slice e)) {i : TypeInfo} (hi : P.info? e = some i) (hsz : i.size = sz) (A : Option Addr) (n c k : Nat) (hk : k ≤ n) (w : World) :
    (Instr.slice t (.slice A n c) (some (.int .i64 (k : Nat))) none none).run P w = .ok (.slice (if c = k then A else A.map (·.add (k * sz))) (n - k) (c - k)) w := by
  subst hsz
  simp [Instr.slice, Instr.sliceBounds, Instr.sliceBound, asIntOf, run_underlying ht, sizeOf, typeInfo, hi, hk]
theorem run_cut_to {P : Program} (t e : TypeId) (sz : Nat) (ht : P.underlying t = some (.slice e)) {i : TypeInfo} (hi : P.info? e = some i) (_hsz : i.size = sz) (A : Option Addr) (n c k : Nat) (hk : k ≤ c) (w : World) :
    (Instr.slice t (.slice A n c) none (some (.int .i64 (k : Nat))) none).run P w = .ok (.slice A k c) w := by
  subst _hsz
  have h0 : (fun x : Addr => x.add 0) = id := by funext x; simp [Addr.add]
  simp [Instr.slice, Instr.sliceBounds, Instr.sliceBound, asIntOf, run_underlying ht, sizeOf, typeInfo, hi, hk, h0]

/-- a slice that comes in: its value's parts, its cells -/
structure Part where
  A : Option Addr
  n : Nat
  c : Nat
  xs : List Value
def Part.val (p : Part) : Value := .slice p.A p.n p.c
def total (ss : List Part) : Nat := (ss.map Part.n).sum
def cat (ss : List Part) : List Value := ss.flatMap Part.xs
theorem total_take (ss : List Part) (i : Nat) (h : i < ss.length) : total (ss.take (i + 1)) = total (ss.take i) + ss[i].n := by
  unfold total
  rw [List.take_succ_eq_append_getElem h]
  simp only [List.map_append, List.sum_append, List.map_cons, List.map_nil, List.sum_cons, List.sum_nil, Nat.add_zero]
theorem total_le (ss : List Part) (i : Nat) : total (ss.take i) ≤ total ss := by
  have h : total ss = total (ss.take i) + total (ss.drop i) := by
    simp only [total]; rw [← List.sum_append, ← List.map_append, List.take_append_drop]
  omega
theorem cat_take (ss : List Part) (i : Nat) (h : i < ss.length) : cat (ss.take (i + 1)) = cat (ss.take i) ++ ss[i].xs := by
  unfold cat
  rw [List.take_succ_eq_append_getElem h]
  simp only [List.flatMap_append, List.flatMap_cons, List.flatMap_nil, List.append_nil]


/-- only block g, and what is new, has turned: step by step -/
theorem gb_later {w wr w2 : World} {row : Option Nat} (h : w.grownBy wr row) (hb : Below wr.heap.size wr w2) : w.grownBy w2 row :=
  ⟨hb.os.trans h.os, hb.tape.trans h.tape, hb.output.trans h.output, Nat.le_trans h.size hb.size, fun k hk hne => (hb.block k (Nat.lt_of_lt_of_le hk h.size)).trans (h.block k hk hne)⟩
theorem gb_drew {w wr : World} {row : Option Nat} (h : w.grownBy wr row) : w.grownBy wr.drew row := ⟨h.os, h.tape, h.output, h.size, h.block⟩
theorem gb_drewN {w wr : World} {row : Option Nat} (h : w.grownBy wr row) (n : Nat) : w.grownBy (wr.drewN n) row := ⟨h.os, h.tape, h.output, h.size, h.block⟩
theorem gb_set {w wr : World} {g : Nat} (h : w.grownBy wr (some g)) (j : Nat) (u : Value) : w.grownBy (wr.setCell ⟨g, j, none⟩ u) (some g) :=
  ⟨h.os, h.tape, h.output, by simpa [World.setCell] using h.size, fun i hi hne => (Below.heap_setCell wr ⟨g, j, none⟩ u i (fun e => hne (by rw [e]))).trans (h.block i hi hne)⟩
theorem bel_drewN {B : Nat} {a w : World} (h : Below B a w) (n : Nat) : Below B a (w.drewN n) := ⟨h.os, h.tape, h.output, h.size, h.block⟩
theorem gb_refl (w : World) (row : Option Nat) : w.grownBy w row := ⟨rfl, rfl, rfl, Nat.le_refl _, fun _ _ _ => rfl⟩

/-- The slice value holds the cells xs, in a block from lo on. -/
structure Rb (w : World) (lo sz : Nat) (A : Option Addr) (n c : Nat) (xs : List Value) : Prop where
  len : xs.length = n * sz
  cap : n ≤ c
  one : ∀ u ∈ xs, u.oneCell' = true
  at_ : 0 < n → ∃ b o, A = some ⟨b, o, none⟩ ∧ lo ≤ b ∧ b < w.heap.size ∧ ∀ j u, xs[j]? = some u → w.cell? ⟨b, o + j, none⟩ = some u
section
variable {w w' : World} {lo sz n c : Nat} {A : Option Addr} {xs : List Value}
theorem Rb.rd (h : Rb w lo sz A n c xs) : Rd w w.heap.size sz A n c xs :=
  ⟨h.len, h.cap, h.one, fun hn => by obtain ⟨b, o, e, _, hb, hc⟩ := h.at_ hn; exact ⟨b, o, e, hb, hc⟩⟩
theorem Rb.mono {lo' : Nat} (h : Rb w lo sz A n c xs) (hl : lo' ≤ lo) : Rb w lo' sz A n c xs :=
  ⟨h.len, h.cap, h.one, fun hn => by obtain ⟨b, o, e, h1, hb, hc⟩ := h.at_ hn; exact ⟨b, o, e, by omega, hb, hc⟩⟩
theorem Rb.gb {s : Nat} (h : Rb w lo sz A n c xs) (hg : w.grownBy w' (some s)) (hs : s < lo) : Rb w' lo sz A n c xs :=
  ⟨h.len, h.cap, h.one, fun hn => by
    obtain ⟨b, o, e, h1, hb, hc⟩ := h.at_ hn
    exact ⟨b, o, e, h1, Nat.lt_of_lt_of_le hb hg.size, fun j u hu => (World.cell?_of_block (hg.block b hb (fun e => by injection e with e; omega))).trans (hc j u hu)⟩⟩
theorem Rb.later (h : Rb w lo sz A n c xs) (hb : Below w.heap.size w w') : Rb w' lo sz A n c xs :=
  ⟨h.len, h.cap, h.one, fun hn => by
    obtain ⟨b, o, e, h1, hbb, hc⟩ := h.at_ hn
    exact ⟨b, o, e, h1, Nat.lt_of_lt_of_le hbb hb.size, fun j u hu => (hb.cell (p := ⟨b, o + j, none⟩) hbb).trans (hc j u hu)⟩⟩
theorem Own.rb {base : Nat} {e : TypeId} (h : Own w base e sz A n c xs) : Rb w base sz A n c xs := by
  have h1 := h.rd
  refine ⟨h1.len, h1.cap, h1.one, fun hn => ?_⟩
  obtain ⟨b, o, e1, hb, hc⟩ := h1.at_ hn
  refine ⟨b, o, e1, ?_, hb, hc⟩
  rcases h.row.2 with ⟨_, h0⟩ | ⟨g, _, _, hv, hg, _⟩
  · omega
  · injection hv with hv; rw [e1] at hv; injection hv with hv; injection hv with hv; omega
end

end Go.Proofs.Ytcbclefemcmhpaa
namespace Go.Proofs.Ytcbclefemcmhpaa
open Go.RowKit
/-- the cells l lie there as they did; nothing that was there in w0 has turned -/
def Kept (l : List (Addr × Value)) (w0 w : World) : Prop := Below w0.heap.size w0 w ∧ ∀ x ∈ l, x.1.block < w.heap.size ∧ w.cell? x.1 = some x.2
namespace Kept
variable {l : List (Addr × Value)} {w0 w w' : World} {p : Addr} {v : Value}
theorem below (h : Kept l w0 w) : Below w0.heap.size w0 w := h.1
theorem nil (w : World) : Kept [] w w := ⟨Below.refl _ _, by simp⟩
theorem nil_of (h : Below w0.heap.size w0 w) : Kept [] w0 w := ⟨h, by simp⟩
theorem cons (h : Kept l w0 w) (hp : p.block < w.heap.size) (hv : w.cell? p = some v) : Kept ((p, v) :: l) w0 w :=
  ⟨h.1, fun x hx => by
    rcases List.mem_cons.1 hx with rfl | hx
    · exact ⟨hp, hv⟩
    · exact h.2 x hx⟩
theorem cons_of (h : Kept l w0 w) (hv : w.cell? p = some v) : Kept ((p, v) :: l) w0 w := h.cons (by obtain ⟨b, o, s⟩ := p; exact World.block_lt_of_cell? w _ hv) hv
theorem later (h : Kept l w0 w) (hb : Below w.heap.size w w') : Kept l w0 w' :=
  ⟨h.1.trans (hb.mono h.1.size), fun x hx => ⟨Nat.lt_of_lt_of_le (h.2 x hx).1 hb.size, (hb.cell (p := x.1) (h.2 x hx).1).trans (h.2 x hx).2⟩⟩
theorem alloc (h : Kept l w0 w) (o : Obj) : Kept l w0 (w.alloc o) := h.later ((Below.refl _ _).alloc (Nat.le_refl _) _)
theorem drew (h : Kept l w0 w) : Kept l w0 w.drew := h.later ((bel_drewN (Below.refl _ _) 1))
theorem drewN (h : Kept l w0 w) (n : Nat) : Kept l w0 (w.drewN n) := h.later ((bel_drewN (Below.refl _ _) n))
/-- a cell of a newer block is written -/
theorem set (h : Kept l w0 w) {a : Addr} (ha : w0.heap.size ≤ a.block) (hl : ∀ x ∈ l, x.1.block ≠ a.block) (u : Value) : Kept l w0 (w.setCell a u) :=
  ⟨h.1.setCell ha _, fun x hx => ⟨by simpa [World.setCell] using (h.2 x hx).1, (World.cell?_setCell_other w a x.1 u (fun e => hl x hx (by rw [e]))).trans (h.2 x hx).2⟩⟩
theorem tail {x : Addr × Value} (h : Kept (x :: l) w0 w) : Kept l w0 w := ⟨h.1, fun y hy => h.2 y (List.mem_cons_of_mem _ hy)⟩
theorem head {x : Addr × Value} (h : Kept (x :: l) w0 w) : w.cell? x.1 = some x.2 := (h.2 x (List.mem_cons_self)).2
theorem c0 (h : Kept ((p, v) :: l) w0 w) : w.cell? p = some v := h.head
theorem c1 {x0 : Addr × Value} (h : Kept (x0 :: (p, v) :: l) w0 w) : w.cell? p = some v := h.tail.head
theorem c2 {x0 x1 : Addr × Value} (h : Kept (x0 :: x1 :: (p, v) :: l) w0 w) : w.cell? p = some v := h.tail.tail.head
theorem c3 {x0 x1 x2 : Addr × Value} (h : Kept (x0 :: x1 :: x2 :: (p, v) :: l) w0 w) : w.cell? p = some v := h.tail.tail.tail.head
theorem c4 {x0 x1 x2 x3 : Addr × Value} (h : Kept (x0 :: x1 :: x2 :: x3 :: (p, v) :: l) w0 w) : w.cell? p = some v := h.tail.tail.tail.tail.head
theorem c5 {x0 x1 x2 x3 x4 : Addr × Value} (h : Kept (x0 :: x1 :: x2 :: x3 :: x4 :: (p, v) :: l) w0 w) : w.cell? p = some v := h.tail.tail.tail.tail.tail.head
theorem c6 {x0 x1 x2 x3 x4 x5 : Addr × Value} (h : Kept (x0 :: x1 :: x2 :: x3 :: x4 :: x5 :: (p, v) :: l) w0 w) : w.cell? p = some v := h.tail.tail.tail.tail.tail.tail.head
theorem c7 {x0 x1 x2 x3 x4 x5 x6 : Addr × Value} (h : Kept (x0 :: x1 :: x2 :: x3 :: x4 :: x5 :: x6 :: (p, v) :: l) w0 w) : w.cell? p = some v := h.tail.tail.tail.tail.tail.tail.tail.head
end Kept
/-- block g may be written -/
def Free (g : Nat) (w : World) : Prop := g < w.heap.size ∧ ∀ j, w.frozen? ⟨g, j, none⟩ = false
namespace Free
variable {g : Nat} {w w' : World}
theorem later (h : Free g w) (hb : Below w.heap.size w w') : Free g w' := ⟨Nat.lt_of_lt_of_le h.1 hb.size, fun j => (hb.frozen (p := ⟨g, j, none⟩) h.1).trans (h.2 j)⟩
theorem alloc (h : Free g w) (o : Obj) : Free g (w.alloc o) := h.later ((Below.refl _ _).alloc (Nat.le_refl _) _)
theorem drewN (h : Free g w) (n : Nat) : Free g (w.drewN n) := h.later ((bel_drewN (Below.refl _ _) n))
theorem drew (h : Free g w) : Free g w.drew := h.later ((bel_drewN (Below.refl _ _) 1))
theorem set (h : Free g w) (a : Addr) (u : Value) : Free g (w.setCell a u) := ⟨by simpa [World.setCell] using h.1, fun j => by rw [World.frozen?_setCell]; exact h.2 j⟩
end Free
/-- a contract that makes memory, with what is kept -/
theorem calls_kept {P : Program} {f : FuncId} {args : Array Value} {l : List (Addr × Value)} {w0 w : World} {r : Value} (hc : Calls P f args w fun e w' => e = .returned r ∧ Below w.heap.size w w') (h : Hid (Kept l w0 w)) :
    Calls P f args w fun e w' => e = .returned r ∧ Hid (Kept l w0 w') := hc.mono fun _ _ ⟨he, hb⟩ => ⟨he, h.out.later hb⟩
end Go.Proofs.Ytcbclefemcmhpaa
namespace Go.Proofs.Ytcbclefemcmhpaa
/-- equal: no rule of simp closes it -/
structure Is {α : Type} (x y : α) : Prop where
  out : x = y
theorem Is.rfl {α : Type} {x : α} : Is x x := ⟨Eq.refl x⟩
section
variable {P : Program} {md : Region.Mode} {ops : Array Oper} {Q : Exit → Act → World → Prop} {S : World → Prop} {fuel : Nat} {listed l2 : Array Bool} {a a2 : Act} {w : World}
/-- it is wanted, and yields v wherever S holds -/
theorem Tk (i d : Nat) {oi : Oper} {v : Value} (h : wpAnyH P md ops Q S fuel l2 a2 w) (hi : ops[i]? = some oi := by rfl) (hd : oi.dst = some d := by rfl) (hs : Region.noSelect ops = true := by kernel_rfl) (hf : Region.free md ops listed i = true := by kernel_rfl) (hr : (Region.ready md ops listed).contains i = true := by kernel_rfl)
    (hw : Region.wanted oi (yielded ops a.tmps) = true := by kernel_rfl)
    (hy : ∀ wz, S wz → (execOp a.eval oi).run P wz = .ok (.value v) wz := by (intro wz hSw; (try dsimp only at hSw); go_simp; try with_reducible rfl))
    (hQ : ∀ c a w, Q (.panic c) (a.put oi.dst v) w → Q (.panic c) a w := by exact fun _ _ _ h => h) (hS : S w := by assumption)
    (ha : Is (a.put (some d) v) a2 := by first | (simp only [Act.put, List.setIfInBounds_toArray, List.set_cons_zero, List.set_cons_succ]; exact Is.rfl) | exact Is.rfl) (hl : Is (listed.setIfInBounds i true) l2 := by first | (simp only [List.setIfInBounds_toArray, List.set_cons_zero, List.set_cons_succ]; exact Is.rfl) | exact Is.rfl) : wpAnyH P md ops Q S (fuel + 1) listed a w :=
  wpAnyH_take hi hs hf hr hQ (Or.inl ⟨hw, hy⟩) hS (by rw [hd, ha.out, hl.out]; exact h)
/-- it isn't wanted -/
theorem Tn (i d : Nat) {oi : Oper} (h : wpAnyH P md ops Q S fuel l2 a2 w) (hi : ops[i]? = some oi := by rfl) (hd : oi.dst = some d := by rfl) (hs : Region.noSelect ops = true := by kernel_rfl) (hf : Region.free md ops listed i = true := by kernel_rfl) (hr : (Region.ready md ops listed).contains i = true := by kernel_rfl)
    (hw : Region.wanted oi (yielded ops a.tmps) = false := by kernel_rfl)
    (hQ : ∀ c a w, Q (.panic c) (a.put oi.dst undef) w → Q (.panic c) a w := by exact fun _ _ _ h => h) (hS : S w := by assumption)
    (ha : Is (a.put (some d) undef) a2 := by first | (simp only [Act.put, List.setIfInBounds_toArray, List.set_cons_zero, List.set_cons_succ]; exact Is.rfl) | exact Is.rfl) (hl : Is (listed.setIfInBounds i true) l2 := by first | (simp only [List.setIfInBounds_toArray, List.set_cons_zero, List.set_cons_succ]; exact Is.rfl) | exact Is.rfl) : wpAnyH P md ops Q S (fuel + 1) listed a w :=
  wpAnyH_take hi hs hf hr hQ (Or.inr ⟨hw, rfl⟩) hS (by rw [hd, ha.out, hl.out]; exact h)
end
end Go.Proofs.Ytcbclefemcmhpaa
namespace Go.Proofs.Ytcbclefemcmhpaa
open Go.RowKit

/-- a strict order in which any two unlike ones stand -/
structure Tot {K : Type} (lt : K → K → Prop) : Prop where
  irr : ∀ a, ¬ lt a a
  tr : ∀ a b c, lt a b → lt b c → lt a c
  tri : ∀ a b, lt a b ∨ a = b ∨ lt b a
theorem Tot.asym {K : Type} {lt : K → K → Prop} (h : Tot lt) {a b : K} (h1 : lt a b) : ¬ lt b a := fun h2 => h.irr a (h.tr _ _ _ h1 h2)
/-- not behind -/
theorem Tot.le_tr {K : Type} {lt : K → K → Prop} (h : Tot lt) {a b c : K} (h1 : ¬ lt b a) (h2 : ¬ lt c b) : ¬ lt c a := by
  intro h3
  rcases h.tri a b with h4 | h4 | h4
  · exact h2 (h.tr _ _ _ h3 h4)
  · subst h4; exact h2 h3
  · exact h1 h4

/-- texts by their bytes -/
def ltS (a b : ByteArray) : Prop := Op.bytesLess a.toList b.toList = true
theorem bytesLess_irr : ∀ l, Op.bytesLess l l = false
  | [] => rfl
  | a :: l => by
    have := bytesLess_irr l
    simp [Op.bytesLess, this]
theorem bytesLess_tr : ∀ a b c, Op.bytesLess a b = true → Op.bytesLess b c = true → Op.bytesLess a c = true
  | _, [], _ => by intro h; cases ‹List UInt8› <;> simp [Op.bytesLess] at h
  | [], _ :: _, [] => by intro _ h; simp [Op.bytesLess] at h
  | [], _ :: _, _ :: _ => by intro _ _; rfl
  | _ :: _, _ :: _, [] => by intro _ h; simp [Op.bytesLess] at h
  | x :: a, y :: b, z :: c => by
    intro h1 h2
    simp only [Op.bytesLess, Bool.or_eq_true, Bool.and_eq_true, decide_eq_true_eq, beq_iff_eq] at h1 h2 ⊢
    rcases h1 with h1 | ⟨rfl, h1⟩
    · rcases h2 with h2 | ⟨rfl, h2⟩
      · exact .inl (UInt8.lt_trans h1 h2)
      · exact .inl h1
    · rcases h2 with h2 | ⟨rfl, h2⟩
      · exact .inl h2
      · exact .inr ⟨rfl, bytesLess_tr a b c h1 h2⟩
theorem bytesLess_tri : ∀ a b, Op.bytesLess a b = true ∨ a = b ∨ Op.bytesLess b a = true
  | [], [] => .inr (.inl rfl)
  | [], _ :: _ => .inl rfl
  | _ :: _, [] => .inr (.inr rfl)
  | x :: a, y :: b => by
    simp only [Op.bytesLess, Bool.or_eq_true, Bool.and_eq_true, decide_eq_true_eq, beq_iff_eq]
    rcases Nat.lt_trichotomy x.toNat y.toNat with h | h | h
    · exact .inl (.inl (UInt8.lt_iff_toNat_lt.2 h))
    · have hxy : x = y := UInt8.toNat_inj.1 h
      subst hxy
      rcases bytesLess_tri a b with h1 | h1 | h1
      · exact .inl (.inr ⟨rfl, h1⟩)
      · subst h1; exact .inr (.inl rfl)
      · exact .inr (.inr (.inr ⟨rfl, h1⟩))
    · exact .inr (.inr (.inl (UInt8.lt_iff_toNat_lt.2 h)))
theorem tot_int : Tot (fun a b : Int => a < b) := ⟨by intros; omega, by intros; omega, by intros; omega⟩
theorem bytes_ext {a b : ByteArray} (h : a.toList = b.toList) : a = b := by
  rw [ByteArray.toList_eq, ByteArray.toList_eq] at h
  exact WideShapes.bytes_inj h
theorem tot_str : Tot ltS := by
  refine ⟨fun a h => ?_, fun a b c h1 h2 => bytesLess_tr _ _ _ h1 h2, fun a b => ?_⟩
  · unfold ltS at h; rw [bytesLess_irr] at h; cases h
  · rcases bytesLess_tri a.toList b.toList with h | h | h
    · exact .inl h
    · exact .inr (.inl (bytes_ext h))
    · exact .inr (.inr h)

/-- what cmp.Compare answers -/
noncomputable def cmpK {K : Type} (lt : K → K → Prop) (a b : K) : Int :=
  open Classical in if lt a b then -1 else if lt b a then 1 else 0
section
variable {K : Type} {lt : K → K → Prop} {a b : K}
theorem cmpK_lt (h : lt a b) : cmpK lt a b = -1 := by simp [cmpK, h]
theorem cmpK_gt (h : ¬ lt a b) (h2 : lt b a) : cmpK lt a b = 1 := by simp [cmpK, h, h2]
theorem cmpK_eq (h : ¬ lt a b) (h2 : ¬ lt b a) : cmpK lt a b = 0 := by simp [cmpK, h, h2]
theorem cmpK_neg (h : cmpK lt a b < 0) : lt a b := by
  by_cases h1 : lt a b
  · exact h1
  · by_cases h2 : lt b a <;> simp [cmpK, h1, h2] at h
theorem cmpK_nneg (h : 0 ≤ cmpK lt a b) : ¬ lt a b := by
  by_cases h1 : lt a b
  · simp [cmpK, h1] at h
  · exact h1
theorem cmpK_zero (T : Tot lt) : cmpK lt a b = 0 ↔ a = b := by
  rcases T.tri a b with h | h | h
  · rw [cmpK_lt h]; exact ⟨fun h0 => by omega, fun h0 => (T.irr b (h0 ▸ h)).elim⟩
  · subst h; rw [cmpK_eq (T.irr a) (T.irr a)]; simp
  · rw [cmpK_gt (T.asym h) h]; exact ⟨fun h0 => by omega, fun h0 => (T.irr a (h0 ▸ h)).elim⟩
end

section
variable {K V : Type} {lt : K → K → Prop}
/-- the keys rise -/
def Up (lt : K → K → Prop) (l : List (K × V)) : Prop := ∀ i j (hi : i < l.length) (hj : j < l.length), i < j → lt l[i].1 l[j].1
/-- i is where t stands, or would -/
def Place (lt : K → K → Prop) (l : List (K × V)) (t : K) (i : Nat) : Prop := i ≤ l.length ∧ (∀ k (h : k < l.length), k < i → lt l[k].1 t) ∧ (∀ k (h : k < l.length), i ≤ k → ¬ lt l[k].1 t)
def FoundAt (lt : K → K → Prop) (l : List (K × V)) (t : K) (i : Nat) : Prop := Place lt l t i ∧ ∃ h : i < l.length, l[i].1 = t
def NoneAt (lt : K → K → Prop) (l : List (K × V)) (t : K) (i : Nat) : Prop := Place lt l t i ∧ ∀ h : i < l.length, l[i].1 ≠ t
/-- what a search knows -/
def Inv (lt : K → K → Prop) (l : List (K × V)) (t : K) (i j : Nat) : Prop := (∀ k (h : k < l.length), k < i → lt l[k].1 t) ∧ (∀ k (h : k < l.length), j ≤ k → ¬ lt l[k].1 t)
variable (T : Tot lt) {l : List (K × V)}
include T
theorem Inv.up (hu : Up lt l) {t : K} {i j m : Nat} (h : Inv lt l t i j) (hm : m < l.length) (hc : lt l[m].1 t) : Inv lt l t (m + 1) j :=
  ⟨fun k hk hkm => by
    rcases Nat.lt_or_ge k m with h1 | h1
    · exact T.tr _ _ _ (hu k m hk hm h1) hc
    · obtain rfl : k = m := by omega
      exact hc, h.2⟩
theorem Inv.down (hu : Up lt l) {t : K} {i j m : Nat} (h : Inv lt l t i j) (hm : m < l.length) (hc : ¬ lt l[m].1 t) : Inv lt l t i m :=
  ⟨h.1, fun k hk hkm => by
    rcases Nat.lt_or_ge m k with h1 | h1
    · exact fun h2 => hc (T.tr _ _ _ (hu m k hm hk h1) h2)
    · obtain rfl : k = m := by omega
      exact hc⟩
theorem NoneAt.all (hu : Up lt l) {t : K} {i : Nat} (h : NoneAt lt l t i) : ∀ p ∈ l, p.1 ≠ t := by
  obtain ⟨⟨hi, h1, h2⟩, h3⟩ := h
  intro p hp he
  obtain ⟨k, hk, rfl⟩ := List.getElem_of_mem hp
  rcases Nat.lt_or_ge k i with hlt | hge
  · have := h1 k hk hlt; rw [he] at this; exact T.irr _ this
  · have hil : i < l.length := by omega
    have a1 := h2 i hil (Nat.le_refl _)
    have a2 := h3 hil
    rcases Nat.lt_or_ge i k with h4 | h4
    · have := hu i k hil hk h4; rw [he] at this; exact a1 this
    · obtain rfl : i = k := by omega
      exact a2 he
theorem FoundAt.uniq (hu : Up lt l) {t : K} {i j : Nat} (h : FoundAt lt l t i) (k : FoundAt lt l t j) : i = j := by
  obtain ⟨_, hi, he⟩ := h
  obtain ⟨_, hj, hf⟩ := k
  rcases Nat.lt_trichotomy i j with h1 | h1 | h1
  · have := hu i j hi hj h1; rw [he, hf] at this; exact (T.irr _ this).elim
  · exact h1
  · have := hu j i hj hi h1; rw [he, hf] at this; exact (T.irr _ this).elim
omit T in
theorem FoundAt.mem {t : K} {i : Nat} (h : FoundAt lt l t i) : ∃ p ∈ l, p.1 = t := by
  obtain ⟨_, hi, he⟩ := h
  exact ⟨l[i], List.getElem_mem hi, he⟩
omit T in
theorem NoneAt.uniq {t : K} {i j : Nat} (h : NoneAt lt l t i) (k : NoneAt lt l t j) : i = j := by
  obtain ⟨⟨hi, h1, h2⟩, _⟩ := h
  obtain ⟨⟨hj, h4, h5⟩, _⟩ := k
  rcases Nat.lt_trichotomy i j with h7 | h7 | h7
  · exact (h2 i (by omega) (Nat.le_refl _) (h4 i (by omega) h7)).elim
  · exact h7
  · exact (h5 j (by omega) (Nat.le_refl _) (h1 j (by omega) h7)).elim
theorem exists_at (l : List (K × V)) (hu : Up lt l) (t : K) : ∃ i, FoundAt lt l t i ∨ NoneAt lt l t i := by
  classical
  have key : ∀ n, n ≤ l.length → ∃ i, i ≤ n ∧ (∀ k (h : k < l.length), k < i → lt l[k].1 t) ∧ (∀ k (h : k < l.length), i ≤ k → k < n → ¬ lt l[k].1 t) := by
    intro n
    induction n with
    | zero => intro _; exact ⟨0, Nat.le_refl _, by intros; omega, by intros; omega⟩
    | succ n ih =>
      intro hn
      obtain ⟨i, hi, h1, h2⟩ := ih (by omega)
      by_cases hlt : lt l[n].1 t
      · refine ⟨n + 1, Nat.le_refl _, fun k hk hkn => ?_, by intros; omega⟩
        rcases Nat.lt_or_ge k n with h3 | h3
        · exact T.tr _ _ _ (hu k n hk (by omega) h3) hlt
        · obtain rfl : k = n := by omega
          exact hlt
      · refine ⟨i, by omega, h1, fun k hk hik hkn => ?_⟩
        rcases Nat.lt_or_ge k n with h3 | h3
        · exact h2 k hk hik h3
        · obtain rfl : k = n := by omega
          exact hlt
  obtain ⟨i, hi, h1, h2⟩ := key l.length (Nat.le_refl _)
  have hp : Place lt l t i := ⟨hi, h1, fun k hk hik => h2 k hk hik hk⟩
  refine ⟨i, ?_⟩
  by_cases h : ∃ h : i < l.length, l[i].1 = t
  · exact .inl ⟨hp, h⟩
  · exact .inr ⟨hp, fun hi he => h ⟨hi, he⟩⟩
end

section
variable {K V : Type} {lt : K → K → Prop}
theorem up_pair (l : List (K × V)) : Up lt l ↔ l.Pairwise (fun a b => lt a.1 b.1) :=
  ⟨fun h => List.pairwise_iff_getElem.2 fun i j hi hj hij => h i j hi hj hij, fun h i j hi hj hij => List.pairwise_iff_getElem.1 h i j hi hj hij⟩
/-- lists that rise and have the same elements are the same -/
theorem up_uniq (T : Tot lt) : ∀ {l m : List (K × V)}, Up lt l → Up lt m → (∀ p, p ∈ l ↔ p ∈ m) → l = m := by
  have key : ∀ {l m : List (K × V)}, l.Pairwise (fun a b => lt a.1 b.1) → m.Pairwise (fun a b => lt a.1 b.1) → (∀ p, p ∈ l ↔ p ∈ m) → l = m := by
    intro l
    induction l with
    | nil =>
      intro m _ _ h
      cases m with
      | nil => rfl
      | cons y m => have := (h y).2 (by simp); cases this
    | cons x l ih =>
      intro m hl hm h
      cases m with
      | nil => have := (h x).1 (by simp); cases this
      | cons y m =>
        have hl' := List.pairwise_cons.1 hl
        have hm' := List.pairwise_cons.1 hm
        have hxy : x = y := by
          rcases List.mem_cons.1 ((h x).1 (by simp)) with e | e
          · exact e
          · rcases List.mem_cons.1 ((h y).2 (by simp)) with f | f
            · exact f.symm
            · exact (T.asym (hm'.1 x e) (hl'.1 y f)).elim
        subst hxy
        rw [ih hl'.2 hm'.2 fun p => ?_]
        constructor
        · intro hp
          rcases List.mem_cons.1 ((h p).1 (List.mem_cons_of_mem _ hp)) with e | e
          · subst e; exact (T.irr _ (hl'.1 p hp)).elim
          · exact e
        · intro hp
          rcases List.mem_cons.1 ((h p).2 (List.mem_cons_of_mem _ hp)) with e | e
          · subst e; exact (T.irr _ (hm'.1 p hp)).elim
          · exact e
  exact fun {l m} hl hm h => key ((up_pair _).1 hl) ((up_pair _).1 hm) h
/-- m behind Put(t, v) -/
def PutIs (lt : K → K → Prop) (m : List (K × V)) (t : K) (v : V) (m' : List (K × V)) : Prop :=
  Up lt m' ∧ m'.length ≤ m.length + 1 ∧ ∀ p, p ∈ m' ↔ p = (t, v) ∨ (p ∈ m ∧ p.1 ≠ t)
/-- m behind Del(t) -/
def DelIs (lt : K → K → Prop) (m : List (K × V)) (t : K) (m' : List (K × V)) : Prop :=
  Up lt m' ∧ m'.length ≤ m.length ∧ ∀ p, p ∈ m' ↔ (p ∈ m ∧ p.1 ≠ t)
theorem split_at (m : List (K × V)) (i : Nat) (h : i < m.length) : m = m.take i ++ m[i] :: m.drop (i + 1) := by simp
theorem mem_take_lt {m : List (K × V)} {t : K} {i : Nat} (h : Place lt m t i) : ∀ p ∈ m.take i, lt p.1 t := by
  intro p hp
  obtain ⟨k, hk, rfl⟩ := List.getElem_of_mem hp
  simp at hk
  rw [List.getElem_take]
  exact h.2.1 k (by omega) (by omega)
theorem mem_drop_gt (T : Tot lt) {m : List (K × V)} (hu : Up lt m) {t : K} {i j : Nat} (h : Place lt m t i) (hij : i ≤ j) (hne : ∀ h : j < m.length, i = j → m[j].1 ≠ t) : ∀ p ∈ m.drop j, lt t p.1 := by
  intro p hp
  obtain ⟨k, hk, rfl⟩ := List.getElem_of_mem hp
  simp at hk
  rw [List.getElem_drop]
  have h1 := h.2.2 (j + k) (by omega) (by omega)
  rcases T.tri t (m[j + k]'(by omega)).1 with e | e | e
  · exact e
  · exfalso
    rcases Nat.eq_zero_or_pos k with rfl | hk0
    · rcases Nat.lt_or_ge i j with h2 | h2
      · have := hu i j (by omega) (by omega) h2
        exact h.2.2 i (by omega) (Nat.le_refl _) (by rw [e]; exact this)
      · exact hne (by omega) (by omega) e.symm
    · have := hu j (j + k) (by omega) (by omega) (by omega)
      exact h.2.2 j (by omega) hij (by rw [e]; exact this)
  · exact (h1 e).elim
theorem put_found_is (T : Tot lt) {m : List (K × V)} (hu : Up lt m) {t : K} (v : V) {i : Nat} (hf : FoundAt lt m t i) : PutIs lt m t v (m.take i ++ [(t, v)] ++ m.drop (i + 1)) := by
  obtain ⟨hp, hi, he⟩ := hf
  have h1 := mem_take_lt hp
  have h2 := mem_drop_gt T hu hp (j := i + 1) (by omega) (by intros; omega)
  have hpw := (up_pair m).1 hu
  rw [split_at m i hi] at hpw
  have hpw' := List.pairwise_append.1 hpw
  refine ⟨(up_pair _).2 ?_, by simp; omega, fun p => ?_⟩
  · rw [List.append_assoc, List.pairwise_append]
    refine ⟨hpw'.1, List.pairwise_cons.2 ⟨h2, (List.pairwise_cons.1 hpw'.2.1).2⟩, fun a ha b hb => ?_⟩
    rcases List.mem_cons.1 hb with rfl | hb
    · exact h1 a ha
    · exact T.tr _ _ _ (h1 a ha) (h2 b hb)
  · simp only [List.mem_append, List.mem_singleton]
    constructor
    · rintro ((h | h) | h)
      · exact .inr ⟨List.mem_of_mem_take h, fun e => T.irr t (e ▸ h1 p h)⟩
      · exact .inl h
      · exact .inr ⟨List.mem_of_mem_drop h, fun e => T.irr t (e ▸ h2 p h)⟩
    · rintro (h | ⟨h, hne⟩)
      · exact .inl (.inr h)
      · rw [split_at m i hi, List.mem_append, List.mem_cons] at h
        rcases h with h | h | h
        · exact .inl (.inl h)
        · exact (hne (h ▸ he)).elim
        · exact .inr h
theorem put_none_is (T : Tot lt) {m : List (K × V)} (hu : Up lt m) {t : K} (v : V) {i : Nat} (hf : NoneAt lt m t i) : PutIs lt m t v (m.take i ++ [(t, v)] ++ m.drop i) := by
  obtain ⟨hp, hne⟩ := hf
  have h1 := mem_take_lt hp
  have h2 := mem_drop_gt T hu hp (j := i) (Nat.le_refl _) (fun h _ => hne h)
  have hpw := (up_pair m).1 hu
  have hpw1 : (m.take i ++ m.drop i).Pairwise (fun a b => lt a.1 b.1) := by rwa [List.take_append_drop]
  have hpw' := List.pairwise_append.1 hpw1
  refine ⟨(up_pair _).2 ?_, by have := hp.1; simp; omega, fun p => ?_⟩
  · rw [List.append_assoc, List.pairwise_append]
    refine ⟨hpw'.1, List.pairwise_cons.2 ⟨h2, hpw'.2.1⟩, fun a ha b hb => ?_⟩
    rcases List.mem_cons.1 hb with rfl | hb
    · exact h1 a ha
    · exact T.tr _ _ _ (h1 a ha) (h2 b hb)
  · simp only [List.mem_append, List.mem_singleton]
    constructor
    · rintro ((h | h) | h)
      · exact .inr ⟨List.mem_of_mem_take h, fun e => T.irr t (e ▸ h1 p h)⟩
      · exact .inl h
      · exact .inr ⟨List.mem_of_mem_drop h, fun e => T.irr t (e ▸ h2 p h)⟩
    · rintro (h | ⟨h, hne'⟩)
      · exact .inl (.inr h)
      · rw [← List.take_append_drop i m, List.mem_append] at h
        rcases h with h | h
        · exact .inl (.inl h)
        · exact .inr h
theorem del_found_is (T : Tot lt) {m : List (K × V)} (hu : Up lt m) {t : K} {i : Nat} (hf : FoundAt lt m t i) : DelIs lt m t (m.take i ++ m.drop (i + 1)) := by
  obtain ⟨hp, hi, he⟩ := hf
  have h1 := mem_take_lt hp
  have h2 := mem_drop_gt T hu hp (j := i + 1) (by omega) (by intros; omega)
  have hpw := (up_pair m).1 hu
  rw [split_at m i hi] at hpw
  have hpw' := List.pairwise_append.1 hpw
  refine ⟨(up_pair _).2 ?_, by simp; omega, fun p => ?_⟩
  · rw [List.pairwise_append]
    exact ⟨hpw'.1, (List.pairwise_cons.1 hpw'.2.1).2, fun a ha b hb => T.tr _ _ _ (h1 a ha) (h2 b hb)⟩
  · simp only [List.mem_append]
    constructor
    · rintro (h | h)
      · exact ⟨List.mem_of_mem_take h, fun e => T.irr t (e ▸ h1 p h)⟩
      · exact ⟨List.mem_of_mem_drop h, fun e => T.irr t (e ▸ h2 p h)⟩
    · rintro ⟨h, hne⟩
      rw [split_at m i hi, List.mem_append, List.mem_cons] at h
      rcases h with h | h | h
      · exact .inl h
      · exact (hne (h ▸ he)).elim
      · exact .inr h
theorem del_len (T : Tot lt) {m m' : List (K × V)} (hu : Up lt m) {t : K} (h : DelIs lt m t m') (hm : ∃ p ∈ m, p.1 = t) : m'.length + 1 = m.length := by
  obtain ⟨p, hp, hpt⟩ := hm
  obtain ⟨i, hf | hf⟩ := exists_at T m hu t
  · have h1 := del_found_is T hu hf
    have e : m' = m.take i ++ m.drop (i + 1) := up_uniq T h.1 h1.1 fun q => (h.2.2 q).trans (h1.2.2 q).symm
    have := hf.2.1
    rw [e]; simp; omega
  · exact absurd hpt (hf.all T hu p hp)
theorem del_len_not (T : Tot lt) {m m' : List (K × V)} (hu : Up lt m) {t : K} (h : DelIs lt m t m') (hm : ∀ p ∈ m, p.1 ≠ t) : m'.length = m.length := by
  have e : m' = m := up_uniq T h.1 hu fun q => (h.2.2 q).trans ⟨fun h => h.1, fun h => ⟨h, hm q h⟩⟩
  rw [e]
theorem del_none_is (T : Tot lt) {m : List (K × V)} (hu : Up lt m) {t : K} {i : Nat} (hf : NoneAt lt m t i) : DelIs lt m t (m.take i ++ m.drop i) := by
  rw [List.take_append_drop]
  exact ⟨hu, Nat.le_refl _, fun p => ⟨fun h => ⟨h, hf.all T hu p h⟩, fun h => h.1⟩⟩
end

-- the cells of elements of two cells each
section
variable {α : Type} (f g : α → Value)
def flat2 (l : List α) : List Value := l.flatMap fun p => [f p, g p]
theorem flat2_len (l : List α) : (flat2 f g l).length = l.length * 2 := by
  induction l with
  | nil => rfl
  | cons p l ih => simp [flat2, List.flatMap_cons] at ih ⊢; omega
theorem flat2_fst (l : List α) : ∀ (j : Nat) (h : j < l.length), (flat2 f g l)[j * 2]? = some (f l[j]) := by
  induction l with
  | nil => intro j h; simp at h
  | cons p l ih =>
    intro j h
    cases j with
    | zero => rfl
    | succ j => have := ih j (by simpa using h); simpa [flat2, List.flatMap_cons, Nat.succ_mul] using this
theorem flat2_snd (l : List α) : ∀ (j : Nat) (h : j < l.length), (flat2 f g l)[j * 2 + 1]? = some (g l[j]) := by
  induction l with
  | nil => intro j h; simp at h
  | cons p l ih =>
    intro j h
    cases j with
    | zero => rfl
    | succ j => have := ih j (by simpa using h); simpa [flat2, List.flatMap_cons, Nat.succ_mul] using this
theorem flat2_append (a b : List α) : flat2 f g (a ++ b) = flat2 f g a ++ flat2 f g b := by simp [flat2]
theorem flat2_take (l : List α) : ∀ i, flat2 f g (l.take i) = (flat2 f g l).take (i * 2) := by
  induction l with
  | nil => intro i; simp [flat2]
  | cons p l ih =>
    intro i
    cases i with
    | zero => simp [flat2]
    | succ i => have := ih i; simp [flat2, Nat.succ_mul] at this ⊢; exact this
theorem flat2_drop (l : List α) : ∀ i, flat2 f g (l.drop i) = (flat2 f g l).drop (i * 2) := by
  induction l with
  | nil => intro i; simp [flat2]
  | cons p l ih =>
    intro i
    cases i with
    | zero => simp [flat2]
    | succ i => have := ih i; simp [flat2, Nat.succ_mul] at this ⊢; exact this
theorem flat2_set (l : List α) (e : α) : ∀ i, i < l.length → flat2 f g (l.set i e) = ((flat2 f g l).set (i * 2) (f e)).set (i * 2 + 1) (g e) := by
  induction l with
  | nil => intro i h; simp at h
  | cons p l ih =>
    intro i h
    cases i with
    | zero => simp [flat2]
    | succ i => have := ih i (by simpa using h); simp [flat2, Nat.succ_mul] at this ⊢; exact this
end
end Go.Proofs.Ytcbclefemcmhpaa
namespace Go.Proofs.Ytcbclefemcmhpaa
open Go.ChangeShapes Go.WideShapes Go.ChangeAt Go.RowKit
theorem own : ownKnob Try.prog.godebug = none := by kernel_rfl
theorem laidOut : laidOutB Try.prog = true := by kernel_rfl

theorem trodAll_later {H : Type} {enc : TypeId × Value → H} {P : Program} (hl : laidOutB P = true) {W W' : World} (hb : Below W.heap.size W W') :
    ∀ {ts : List TypeId} {vs : List Value} {ds : List (DataW H)} {ps : List MemPlace}, ts.all (fun t => P.readableRec t && decide (t < P.types.size)) = true →
      DataW.TrodAll enc P W 0 (fun _ => true) true ts vs ds ps → (∀ x ∈ ps, x.block < W.heap.size) → DataW.TrodAll enc P W' 0 (fun b => decide (b < W.heap.size)) true ts vs ds ps
  | [], _, _, _, _, h, _ => by
    obtain ⟨rfl, rfl, rfl⟩ := trodAll_nil h
    exact trodAll_mk0
  | t :: ts, _, _, _, ha, h, hlt => by
    obtain ⟨v, vs', d, ds', p, q, rfl, rfl, rfl, h0, hr⟩ := trodAll_cons h
    simp only [List.all_cons, Bool.and_eq_true, decide_eq_true_eq] at ha
    exact trodAll_cons_mk (Below.trod hl ha.1.1 ha.1.2 h0 hb (fun x hx => hlt x (List.mem_append_left _ hx))) (trodAll_later hl hb (by simpa using ha.2) hr (fun x hx => hlt x (List.mem_append_right _ hx)))

theorem law_post {H : Type} {enc : TypeId × Value → H} {f : Func} {s : ChangeSpec} {W W' : World} {args : Array Value} {ds gs : List (DataW H)} {before : List MemPlace}
    (hW : DataW.Whole enc Try.prog f.params.toList s.vars false W args.toList ds gs before) (hall : f.params.toList.all (fun t => Try.prog.readableRec t && decide (t < Try.prog.types.size)) = true)
    (hvars : s.vars = []) (hrt : f.resultTypes = #[4]) (hfn : s.fn H ds = { results := [.lit (.bool true)], args := ds }) (hb : Below W.heap.size W W') :
    s.post enc Try.prog f false true false false W args (.bool true) W' := by
  have hW0 := hW
  obtain ⟨p, q, hA, hV, rfl, hfz, hnd⟩ := hW
  rw [hvars] at hV
  obtain ⟨rfl, rfl⟩ := trodVars_none hV
  have hlt : ∀ x ∈ p, x.block < W.heap.size := fun x hx => by simpa using hW0.lt x (by simpa using hx)
  refine ⟨ds, [], p ++ [], [], p, [], hW0, ?_, ?_, ?_, ?_, fun h => by cases h⟩
  · rw [List.append_nil, hfn, hrt]
    exact trodAll_mk1 (shut_bool Try.underlying4 true)
  · rw [List.append_nil, hfn]
    exact trodAll_later laidOut hb hall hA hlt
  · rw [hvars, List.append_nil, hfn]
    rfl
  · exact hb.frame _

/-- cells of a slice that came in -/
theorem rd_of_cells {w : World} {a : Addr} {sz n c : Nat} {xs : List Value} (hl : xs.length = n * sz) (hc : n ≤ c) (h1 : ∀ u ∈ xs, u.oneCell' = true) (hsz : 0 < sz) (h : ∀ j u, xs[j]? = some u → w.cell? (a.add j) = some u) : Rd w w.heap.size sz (some a) n c xs := by
  refine ⟨hl, hc, h1, fun hn => ?_⟩
  have hpos : 0 < xs.length := by rw [hl]; exact Nat.mul_pos hn hsz
  have h0 := h 0 _ (List.getElem?_eq_getElem hpos)
  have hs : a.spot = none := by
    cases he : a.spot with
    | none => rfl
    | some q =>
      simp only [Addr.add, if_true] at h0
      unfold World.cell? at h0
      split at h0
      · rw [he] at h0; simp at h0
      · cases h0
  obtain ⟨b, o, sp⟩ := a
  dsimp only at hs
  subst hs
  have hb : b < w.heap.size := by
    simp only [Addr.add, if_true] at h0
    exact World.block_lt_of_cell? w _ h0
  refine ⟨b, o, rfl, hb, fun j u hu => ?_⟩
  have := h j u hu
  unfold Addr.add at this
  split at this
  · rename_i hj; subst hj; exact this
  · exact this
theorem add_add' (a : Addr) (i j : Nat) : (a.add i).add j = a.add (i + j) := by
  unfold Addr.add
  by_cases hi : i = 0 <;> by_cases hj : j = 0 <;> simp [hi, hj, Nat.add_assoc]
theorem flatMap_len {α : Type} {f : α → List Value} {sz : Nat} (hf : ∀ a, (f a).length = sz) : ∀ l : List α, (l.flatMap f).length = l.length * sz
  | [] => by simp
  | c :: l => by rw [List.flatMap_cons, List.length_append, hf, flatMap_len hf l, List.length_cons, Nat.succ_mul, Nat.add_comm]
/-- A slice that came in, element by element. -/
theorem rd_of_trod {H : Type} {enc : TypeId × Value → H} {P : Program} {W : World} {t e : TypeId} {sz : Nat} {α : Type} (f : α → List Value) (hf : ∀ a, (f a).length = sz) (h1 : ∀ a, ∀ u ∈ f a, u.oneCell' = true) (hsz : 0 < sz)
    (ht : P.underlying t = some (.slice e)) (hce : P.cellsOf e = sz) (dec : ∀ n cs y, DataW.trod enc P W 0 (fun _ => true) true n e cs = some y → ∃ a, cs = f a)
    {A : Option Addr} {len cap : Nat} {fuel : Nat} {x : DataW H × List MemPlace} (h : DataW.trod enc P W 0 (fun _ => true) true fuel t (Value.slice A len cap).cells.toList = some x) :
    ∃ l : List α, l.length = len ∧ Rd W W.heap.size sz A len cap (l.flatMap f) ∧ len ≤ maxLen := by
  rcases Deep.open_slice ht h with ⟨hcs, _⟩ | ⟨a, len', cap', m, n, D, Pl, hcs, _, hl, hm, hmm, _, hel⟩
  · simp only [Value.cells] at hcs
    injection hcs with hcs
    injection hcs with e1 e2 e3
    subst e1; subst e2; subst e3
    exact ⟨[], rfl, Rd.nil _, by simp [maxLen]⟩
  · simp only [Value.cells] at hcs
    injection hcs with hcs
    injection hcs with e1 e2 e3
    subst e1; subst e2; subst e3
    have hmm' : m = cap := by simpa using hmm
    clear hmm
    subst hmm'
    have key : ∀ q, q ≤ len → ∃ l : List α, l.length = q ∧ ∀ k u, (l.flatMap f)[k]? = some u → W.cell? (a.add k) = some u := by
      intro q
      induction q with
      | zero => intro _; exact ⟨[], rfl, by simp⟩
      | succ q ih =>
        intro hq
        obtain ⟨l, hlq, hcell⟩ := ih (by omega)
        obtain ⟨cs', hc, htr⟩ := hel q (by omega)
        obtain ⟨b, rfl⟩ := dec _ _ _ htr
        obtain ⟨_, hlen, hat⟩ := World.cells?_some hc
        refine ⟨l ++ [b], by simp [hlq], fun k u hu => ?_⟩
        have hfl : (l.flatMap f).length = q * sz := by
          rw [flatMap_len hf, hlq]
        rw [List.flatMap_append] at hu
        rcases Nat.lt_or_ge k (q * sz) with h5 | h5
        · rw [List.getElem?_append_left (by omega)] at hu
          exact hcell k u hu
        · rw [List.getElem?_append_right (by omega), hfl] at hu
          simp only [List.flatMap_cons, List.flatMap_nil, List.append_nil] at hu
          have hk : k - q * sz < sz := by
            have := (List.getElem?_eq_some_iff.1 hu).1
            rw [hf] at this
            exact this
          have := hat (k - q * sz) (by rw [hce]; exact hk)
          rw [add_add', hce] at this
          have e2 : q * sz + (k - q * sz) = k := by omega
          rw [e2, hu] at this
          exact this
    obtain ⟨l, hll, hcell⟩ := key len (Nat.le_refl _)
    refine ⟨l, hll, rd_of_cells ?_ hl ?_ hsz hcell, Nat.le_trans hl hm⟩
    · rw [flatMap_len hf, hll]
    · intro u hu
      obtain ⟨b, _, hu⟩ := List.mem_flatMap.1 hu
      exact h1 b u hu
end Go.Proofs.Ytcbclefemcmhpaa
namespace Go.Proofs.Ytcbclefemcmhpaa
open Go.ChangeShapes Go.WideShapes Go.ChangeAt Go.RowKit
namespace Dt
def cenB (a : Int) : Bool := decide (0 ≤ a ∧ a < 4)
def rightB (a n : Int) : Bool := decide (0 ≤ a ∧ a < 4 ∧ 1 ≤ n ∧ n ≤ 1099511627776)
def cmp1 (a b : Int) : Int := if a < b then -1 else if b < a then 1 else 0
def cmpI (a n b m : Int) : Int := if a < b ∨ (a = b ∧ n < m) then -1 else if a = b ∧ n = m then 0 else 1
def lessB (a n b m : Int) : Bool := decide (a < b ∨ (a = b ∧ n < m))
theorem cmp1_lt {a b : Int} (h : a < b) : cmp1 a b = -1 := by unfold cmp1; rw [if_pos h]
theorem cmp1_gt {a b : Int} (h : b < a) : cmp1 a b = 1 := by unfold cmp1; rw [if_neg (by omega), if_pos h]
theorem cmp1_eq (a : Int) : cmp1 a a = 0 := by unfold cmp1; rw [if_neg (by omega), if_neg (by omega)]
theorem cmp1_or (a b : Int) : (a < b ∧ cmp1 a b = -1) ∨ (a = b ∧ cmp1 a b = 0) ∨ (b < a ∧ cmp1 a b = 1) := by
  rcases Int.lt_trichotomy a b with h | rfl | h
  · exact .inl ⟨h, cmp1_lt h⟩
  · exact .inr (.inl ⟨rfl, cmp1_eq _⟩)
  · exact .inr (.inr ⟨h, cmp1_gt h⟩)
theorem ret_bool {a b : Bool} (h : a = b) : Ending.returned (.bool a) = .returned (.bool b) := by rw [h]
theorem ret_int {a b : Int} (h : a = b) : Ending.returned (.int .i64 a) = .returned (.int .i64 b) := by rw [h]
theorem center_any (a : Int) (w : World) : Calls Try.prog 64 #[.int .i64 a] w fun e w' => e = .returned (.bool (cenB a)) ∧ w = w' := by
  unfold cenB
  by_cases h0 : 0 ≤ a
  · by_cases h4 : a < 4
    · have f1 : decide (0 ≤ a) = true := by simpa using h0
      have f2 : decide (a < 4) = true := by simpa using h4
      go_enter Try.func64, Try.ntmps64
      go_wp2
      go_ret
      exact ⟨ret_bool (by simp <;> omega), rfl⟩
    · have f1 : decide (0 ≤ a) = true := by simpa using h0
      have f2 : decide (a < 4) = false := by simp; omega
      go_enter Try.func64, Try.ntmps64
      go_wp2
      go_ret
      exact ⟨ret_bool (by simp <;> omega), rfl⟩
  · have f1 : decide (0 ≤ a) = false := by simp; omega
    go_enter Try.func64, Try.ntmps64
    go_wp2
    go_ret
    exact ⟨ret_bool (by simp <;> omega), rfl⟩

/-- a box of a dot -/
theorem box_below (w : World) (x : Array Value) (t : TypeId) : Below w.heap.size w (w.alloc (.cells x t)) := (Below.refl _ _).alloc (Nat.le_refl _) _
set_option maxHeartbeats 400000 in
theorem right_any (a n : Int) (w : World) : Calls Try.prog 56 #[.agg #[.int .i64 a, .int .i64 n]] w fun e w' => e = .returned (.bool (rightB a n)) ∧ Below w.heap.size w w' := by
  by_cases h0 : cenB a = true
  · by_cases h1 : 1 ≤ n
    · by_cases h2 : n ≤ 1099511627776
      · have f1 : decide (1 ≤ n) = true := by simpa using h1
        have f2 : decide (n ≤ 1099511627776) = true := by simpa using h2
        go_enter Try.func56, Try.ntmps56
        go_wp2_with (go_at_call 64; refine (center_any _ _).mono ?_; rw [h0]; rintro e w' ⟨rfl, rfl⟩)
        go_ret
        exact ⟨ret_bool (by unfold cenB at h0; unfold rightB; simp at *; omega), box_below _ _ _⟩
      · have f1 : decide (1 ≤ n) = true := by simpa using h1
        have f2 : decide (n ≤ 1099511627776) = false := by simp; omega
        go_enter Try.func56, Try.ntmps56
        go_wp2_with (go_at_call 64; refine (center_any _ _).mono ?_; rw [h0]; rintro e w' ⟨rfl, rfl⟩)
        go_ret
        exact ⟨ret_bool (by unfold rightB; simp; omega), box_below _ _ _⟩
    · have f1 : decide (1 ≤ n) = false := by simp; omega
      go_enter Try.func56, Try.ntmps56
      go_wp2_with (go_at_call 64; refine (center_any _ _).mono ?_; rw [h0]; rintro e w' ⟨rfl, rfl⟩)
      go_ret
      exact ⟨ret_bool (by unfold rightB; simp; omega), box_below _ _ _⟩
  · have h0' : cenB a = false := by simpa using h0
    go_enter Try.func56, Try.ntmps56
    go_wp2_with (go_at_call 64; refine (center_any _ _).mono ?_; rw [h0']; rintro e w' ⟨rfl, rfl⟩)
    go_ret
    exact ⟨ret_bool (by unfold cenB at h0'; unfold rightB; simp at *; omega), box_below _ _ _⟩
set_option maxHeartbeats 400000 in
theorem refright_any (a n : Int) (w : World) : Calls Try.prog 54 #[.agg #[.int .i64 a, .int .i64 n]] w fun e w' => e = .returned (.bool (rightB a n)) ∧ Below w.heap.size w w' := by
  by_cases h0 : 0 ≤ a
  · have g0 : decide (0 ≤ a) = true := by simpa using h0
    by_cases h3 : a < 4
    · have g1 : decide (a < 4) = true := by simpa using h3
      by_cases h1 : 1 ≤ n
      · have f1 : decide (1 ≤ n) = true := by simpa using h1
        by_cases h2 : n ≤ 1099511627776
        · have f2 : decide (n ≤ 1099511627776) = true := by simpa using h2
          go_enter Try.func54, Try.ntmps54
          go_wp2
          go_ret
          exact ⟨ret_bool (by unfold rightB; simp; omega), box_below _ _ _⟩
        · have f2 : decide (n ≤ 1099511627776) = false := by simp; omega
          go_enter Try.func54, Try.ntmps54
          go_wp2
          go_ret
          exact ⟨ret_bool (by unfold rightB; simp; omega), box_below _ _ _⟩
      · have f1 : decide (1 ≤ n) = false := by simp; omega
        go_enter Try.func54, Try.ntmps54
        go_wp2
        go_ret
        exact ⟨ret_bool (by unfold rightB; simp; omega), box_below _ _ _⟩
    · have g1 : decide (a < 4) = false := by simp; omega
      go_enter Try.func54, Try.ntmps54
      go_wp2
      go_ret
      exact ⟨ret_bool (by unfold rightB; simp; omega), box_below _ _ _⟩
  · have g0 : decide (0 ≤ a) = false := by simp; omega
    go_enter Try.func54, Try.ntmps54
    go_wp2
    go_ret
    exact ⟨ret_bool (by unfold rightB; simp; omega), box_below _ _ _⟩
end Dt
end Go.Proofs.Ytcbclefemcmhpaa
namespace Go.Proofs.Ytcbclefemcmhpaa
namespace Tr
/-- an entry: its dot, its text, its number -/
structure E where
  a : Int
  n : Int
  s : ByteArray
  v : Int
/-- a tree: entries, trees below keys -/
inductive T where
  | mk (es : List E) (ks : List (ByteArray × T)) : T
def T.es : T → List E | .mk e _ => e
def T.ks : T → List (ByteArray × T) | .mk _ k => k
def none_ : T := .mk [] []
theorem T.eta (t : T) : T.mk t.es t.ks = t := by cases t; rfl
theorem kid_lt {es : List E} {ks : List (ByteArray × T)} {k : ByteArray × T} (h : k ∈ ks) : SizeOf.sizeOf k.2 < SizeOf.sizeOf (T.mk es ks) := by
  have h1 := List.sizeOf_lt_of_mem h
  cases k
  simp at h1 ⊢
  omega
theorem T.ind {P : T → Prop} (h : ∀ es ks, (∀ k ∈ ks, P k.2) → P (.mk es ks)) : ∀ t, P t
  | .mk es ks => h es ks fun k _hk => T.ind h k.2
termination_by t => SizeOf.sizeOf t
decreasing_by exact kid_lt _hk
/-- a tree's leaves: each an entry at the end of a path -/
def leaves : T → List (List ByteArray × E)
  | .mk es ks => es.map (fun e => ([], e)) ++ ks.attach.flatMap (fun k => (leaves k.1.2).map fun x => (k.1.1 :: x.1, x.2))
termination_by t => SizeOf.sizeOf t
decreasing_by exact kid_lt k.2
theorem attach_flat {α β : Type} (l : List α) (f : α → List β) : l.attach.flatMap (fun k => f k.1) = l.flatMap f := by
  conv => rhs; rw [← List.attach_map_subtype_val l]
  rw [List.flatMap_map]
def below (ks : List (ByteArray × T)) : List (List ByteArray × E) := ks.flatMap fun k => (leaves k.2).map fun x => (k.1 :: x.1, x.2)
theorem leaves_mk (es : List E) (ks : List (ByteArray × T)) : leaves (.mk es ks) = es.map (fun e => ([], e)) ++ below ks := by
  rw [leaves]
  unfold below
  rw [attach_flat ks fun k => (leaves k.2).map fun x => (k.1 :: x.1, x.2)]
/-- how many entries and kids there are, all in all -/
def nodes : T → Nat
  | .mk es ks => es.length + ks.length + (ks.attach.map fun k => nodes k.1.2).sum
termination_by t => SizeOf.sizeOf t
decreasing_by exact kid_lt k.2
theorem nodes_mk (es : List E) (ks : List (ByteArray × T)) : nodes (.mk es ks) = es.length + ks.length + (ks.map fun k => nodes k.2).sum := by
  rw [nodes]
  congr 2
  conv => rhs; rw [← List.attach_map_subtype_val ks]
  rw [List.map_map]
  rfl
/-- at most so many entries and kids anywhere -/
inductive LenT (m : Nat) : T → Prop where
  | mk {es : List E} {ks : List (ByteArray × T)} : es.length ≤ m → ks.length ≤ m → (∀ k ∈ ks, LenT m k.2) → LenT m (.mk es ks)
theorem LenT.es {m : Nat} {es : List E} {ks : List (ByteArray × T)} (h : LenT m (.mk es ks)) : es.length ≤ m := by cases h; assumption
theorem LenT.ks {m : Nat} {es : List E} {ks : List (ByteArray × T)} (h : LenT m (.mk es ks)) : ks.length ≤ m := by cases h; assumption
theorem LenT.kid {m : Nat} {es : List E} {ks : List (ByteArray × T)} (h : LenT m (.mk es ks)) {k : ByteArray × T} (hk : k ∈ ks) : LenT m k.2 := by
  cases h with
  | mk _ _ h3 => exact h3 k hk
theorem le_sum {α : Type} {f : α → Nat} : ∀ {l : List α} {a : α}, a ∈ l → f a ≤ (l.map f).sum
  | b :: l, a, h => by
    rw [List.map_cons, List.sum_cons]
    rcases List.mem_cons.1 h with rfl | h
    · omega
    · have := le_sum (f := f) h
      omega
theorem nodes_es (es : List E) (ks : List (ByteArray × T)) : es.length + ks.length ≤ nodes (.mk es ks) := by rw [nodes_mk]; omega
theorem nodes_kid {es : List E} {ks : List (ByteArray × T)} {k : ByteArray × T} (h : k ∈ ks) : nodes k.2 ≤ nodes (.mk es ks) := by
  have := le_sum (f := fun k : ByteArray × T => nodes k.2) h
  rw [nodes_mk]
  omega
/-- how many leaves there are -/
theorem leaves_len (es : List E) (ks : List (ByteArray × T)) : (leaves (.mk es ks)).length = es.length + (ks.map fun k => (leaves k.2).length).sum := by
  rw [leaves_mk, List.length_append, List.length_map]
  congr 1
  unfold below
  rw [List.length_flatMap]
  simp
theorem sum_mono {α : Type} {f g : α → Nat} : ∀ {l : List α}, (∀ a ∈ l, f a ≤ g a) → (l.map f).sum ≤ (l.map g).sum
  | [], _ => Nat.le_refl _
  | b :: l, h => by
    rw [List.map_cons, List.sum_cons, List.map_cons, List.sum_cons]
    have := h b List.mem_cons_self
    have := sum_mono (f := f) (g := g) fun a ha => h a (List.mem_cons_of_mem _ ha)
    omega
theorem leaves_nodes (t : T) : (leaves t).length ≤ nodes t := by
  induction t using T.ind with
  | h es ks ih =>
    rw [leaves_len, nodes_mk]
    have := sum_mono ih
    omega
/-- which entry is ahead -/
def ltE (x y : E) : Prop := Dt.lessB x.a x.n y.a y.n = true
theorem ltE_iff {x y : E} : ltE x y ↔ (x.a < y.a ∨ (x.a = y.a ∧ x.n < y.n)) := by unfold ltE Dt.lessB; exact decide_eq_true_iff
theorem ltE_tr {x y z : E} (h1 : ltE x y) (h2 : ltE y z) : ltE x z := by rw [ltE_iff] at *; omega
theorem ltE_irr (x : E) : ¬ ltE x x := by rw [ltE_iff]; omega
def RightE (e : E) : Prop := Dt.rightB e.a e.n = true ∧ e.s.size ≤ 30 ∧ -1099511627776 ≤ e.v ∧ e.v ≤ 1099511627776
def KeyOk (k : ByteArray) : Prop := 1 ≤ k.size ∧ k.size ≤ 30
/-- right, and at most so deep -/
def RightT : Nat → T → Prop
  | 0, _ => False
  | d + 1, .mk es ks => (∀ e ∈ es, RightE e) ∧ es.Pairwise ltE ∧ ks.Pairwise (fun x y => ltS x.1 y.1) ∧ ∀ k ∈ ks, KeyOk k.1 ∧ ¬ (k.2.es = [] ∧ k.2.ks = []) ∧ RightT d k.2
theorem RightT.more : ∀ {d : Nat} {t : T}, RightT d t → RightT (d + 1) t
  | _ + 1, .mk _ _, h => ⟨h.1, h.2.1, h.2.2.1, fun k hk => ⟨(h.2.2.2 k hk).1, (h.2.2.2 k hk).2.1, RightT.more (h.2.2.2 k hk).2.2⟩⟩
theorem RightT.none {d : Nat} : RightT (d + 1) none_ := ⟨by simp, by simp, by simp, by simp⟩
/-- a right tree that isn't empty has a leaf -/
theorem leaves_some : ∀ {d : Nat} {t : T}, RightT d t → ¬ (t.es = [] ∧ t.ks = []) → leaves t ≠ []
  | d + 1, .mk es ks, h, hn => by
    rw [leaves_mk]
    cases es with
    | cons e es => simp
    | nil =>
      cases ks with
      | nil => exact absurd ⟨rfl, rfl⟩ hn
      | cons k ks =>
        obtain ⟨_, h1, h2⟩ := h.2.2.2 k List.mem_cons_self
        have := leaves_some h2 h1
        intro h3
        simp [below] at h3
        exact this h3.1
/-- the leaves below a key, as seen from there -/
def under (l : List (List ByteArray × E)) (key : ByteArray) : List (List ByteArray × E) := l.filterMap fun x => match x.1 with
  | [] => none
  | k :: p => if k = key then some (p, x.2) else none
theorem under_append (a b : List (List ByteArray × E)) (key : ByteArray) : under (a ++ b) key = under a key ++ under b key := by simp [under]
theorem under_own (es : List E) (key : ByteArray) : under (es.map fun e => ([], e)) key = [] := by
  induction es with
  | nil => rfl
  | cons e es ih => simp [under]
theorem under_kid (k : ByteArray) (l : List (List ByteArray × E)) (key : ByteArray) : under (l.map fun x => (k :: x.1, x.2)) key = if k = key then l else [] := by
  induction l with
  | nil => simp [under]
  | cons x l ih =>
    have e : under ((x :: l).map fun x => (k :: x.1, x.2)) key = (if k = key then [x] else []) ++ under (l.map fun x => (k :: x.1, x.2)) key := by
      unfold under
      by_cases h : k = key <;> simp [h]
    rw [e, ih]
    by_cases h : k = key <;> simp [h]
/-- what hangs at a key -/
def kidAt : List (ByteArray × T) → ByteArray → T
  | [], _ => none_
  | k :: ks, key => if k.1 = key then k.2 else kidAt ks key
theorem leaves_none : leaves none_ = [] := by unfold none_; rw [leaves_mk]; rfl
theorem kidAt_not {ks : List (ByteArray × T)} {key : ByteArray} (h : ∀ k ∈ ks, k.1 ≠ key) : kidAt ks key = none_ := by
  induction ks with
  | nil => rfl
  | cons k ks ih =>
    unfold kidAt
    rw [if_neg (h k List.mem_cons_self)]
    exact ih fun k hk => h k (List.mem_cons_of_mem _ hk)
theorem under_below : ∀ {ks : List (ByteArray × T)} (key : ByteArray), ks.Pairwise (fun x y => ltS x.1 y.1) → under (below ks) key = leaves (kidAt ks key)
  | [], key, _ => by unfold below kidAt; rw [leaves_none]; rfl
  | k :: ks, key, h => by
    rw [List.pairwise_cons] at h
    have ih := under_below key h.2
    have e : below (k :: ks) = ((leaves k.2).map fun x => (k.1 :: x.1, x.2)) ++ below ks := by unfold below; rw [List.flatMap_cons]
    rw [e, under_append, under_kid, ih]
    by_cases hk : k.1 = key
    · have hn : kidAt ks key = none_ := kidAt_not fun x hx hxk => tot_str.irr key (by have := h.1 x hx; rwa [hk, hxk] at this)
      rw [if_pos hk, hn, leaves_none, List.append_nil]
      unfold kidAt
      rw [if_pos hk]
    · rw [if_neg hk, List.nil_append]
      conv => rhs; unfold kidAt
      rw [if_neg hk]
/-- the leaves below a key are those of the kid -/
theorem under_leaves {d : Nat} {t : T} (h : RightT d t) (key : ByteArray) : under (leaves t) key = leaves (kidAt t.ks key) := by
  cases d with
  | zero => exact h.elim
  | succ d =>
    cases t with
    | mk es ks =>
      rw [leaves_mk, under_append, under_own, List.nil_append, under_below key h.2.2.1]
      rfl
theorem kidAt_mem {ks : List (ByteArray × T)} {key : ByteArray} : (∃ k ∈ ks, k.1 = key ∧ kidAt ks key = k.2) ∨ ((∀ k ∈ ks, k.1 ≠ key) ∧ kidAt ks key = none_) := by
  induction ks with
  | nil => exact .inr ⟨by simp, rfl⟩
  | cons k ks ih =>
    unfold kidAt
    by_cases h : k.1 = key
    · rw [if_pos h]
      exact .inl ⟨k, List.mem_cons_self, h, rfl⟩
    · rw [if_neg h]
      rcases ih with ⟨x, h1, h2, h3⟩ | ⟨h1, h2⟩
      · exact .inl ⟨x, List.mem_cons_of_mem _ h1, h2, h3⟩
      · refine .inr ⟨fun x hx => ?_, h2⟩
        rcases List.mem_cons.1 hx with rfl | hx
        · exact h
        · exact h1 x hx
theorem RightT.kid {d : Nat} {t : T} (h : RightT (d + 1) t) (key : ByteArray) : RightT (d + 1) (kidAt t.ks key) := by
  cases t with
  | mk es ks =>
    rcases kidAt_mem (ks := ks) (key := key) with ⟨k, h1, _, h3⟩ | ⟨_, h2⟩
    · show RightT (d + 1) (kidAt ks key)
      rw [h3]
      exact (h.2.2.2 k h1).2.2.more
    · show RightT (d + 1) (kidAt ks key)
      rw [h2]
      exact RightT.none
/-- below keys, one by one -/
def getT (t : T) : List ByteArray → T
  | [] => t
  | k :: p => getT (kidAt t.ks k) p
/-- a tree of a path alone -/
def wrapT (t : T) : List ByteArray → T
  | [] => t
  | k :: p => .mk [] [(k, wrapT t p)]
theorem leaves_wrap (t : T) : ∀ p : List ByteArray, leaves (wrapT t p) = (leaves t).map fun x => (p ++ x.1, x.2)
  | [] => by unfold wrapT; simp
  | k :: p => by
    unfold wrapT
    rw [leaves_mk]
    unfold below
    rw [List.flatMap_cons, leaves_wrap t p]
    simp
theorem get_wrap (t : T) : ∀ p : List ByteArray, getT (wrapT t p) p = t
  | [] => rfl
  | k :: p => by
    unfold getT wrapT
    show getT (kidAt [(k, wrapT t p)] k) p = t
    unfold kidAt
    rw [if_pos rfl]
    exact get_wrap t p
theorem wrap_some {t : T} (h : ¬ (t.es = [] ∧ t.ks = [])) : ∀ p : List ByteArray, ¬ ((wrapT t p).es = [] ∧ (wrapT t p).ks = [])
  | [] => h
  | k :: p => by unfold wrapT; intro h2; cases h2.2
theorem RightT.wrap {d : Nat} {t : T} (h : RightT d t) (hn : ¬ (t.es = [] ∧ t.ks = [])) : ∀ {p : List ByteArray}, (∀ k ∈ p, KeyOk k) → RightT (d + p.length) (wrapT t p)
  | [], _ => h
  | k :: p, hk => by
    unfold wrapT
    refine ⟨by simp, by simp, by simp, fun x hx => ?_⟩
    rw [List.mem_singleton.1 hx]
    exact ⟨hk k List.mem_cons_self, wrap_some hn p, RightT.wrap h hn fun k hk2 => hk k (List.mem_cons_of_mem _ hk2)⟩
/-- the kids that a test lets through -/
def keepK (f : ByteArray → Bool) (ks : List (ByteArray × T)) : List (ByteArray × T) := ks.filter fun k => f k.1
theorem below_keep (f : ByteArray → Bool) (ks : List (ByteArray × T)) : (below ks).filter (fun x => match x.1 with | [] => false | k :: _ => f k) = below (keepK f ks) := by
  induction ks with
  | nil => rfl
  | cons k ks ih =>
    have e : below (k :: ks) = ((leaves k.2).map fun x => (k.1 :: x.1, x.2)) ++ below ks := by unfold below; rw [List.flatMap_cons]
    rw [e, List.filter_append, ih]
    unfold keepK
    cases hk : f k.1 with
    | true =>
      rw [List.filter_cons, hk, if_pos rfl]
      have e2 : below (k :: ks.filter fun k => f k.1) = ((leaves k.2).map fun x => (k.1 :: x.1, x.2)) ++ below (ks.filter fun k => f k.1) := by unfold below; rw [List.flatMap_cons]
      rw [e2]
      congr 1
      rw [List.filter_eq_self]
      intro x hx
      obtain ⟨y, _, rfl⟩ := List.mem_map.1 hx
      exact hk
    | false =>
      rw [List.filter_cons, hk, if_neg (by simp)]
      have : (((leaves k.2).map fun x => (k.1 :: x.1, x.2)).filter fun x => match x.1 with | [] => false | k :: _ => f k) = [] := by
        rw [List.filter_eq_nil_iff]
        intro x hx
        obtain ⟨y, _, rfl⟩ := List.mem_map.1 hx
        simp [hk]
      rw [this, List.nil_append]
theorem RightT.keep {d : Nat} {es : List E} {ks : List (ByteArray × T)} (h : RightT (d + 1) (.mk es ks)) (f : ByteArray → Bool) : RightT (d + 1) (.mk es (keepK f ks)) :=
  ⟨h.1, h.2.1, h.2.2.1.sublist List.filter_sublist, fun k hk => h.2.2.2 k (List.mem_filter.1 hk).1⟩
/-! ## a rising list, told one by one: each time the least one above the last one -/
/-- above the i-th one's forerunner -/
def Abv {α : Type} (lt : α → α → Prop) (l : List α) (i : Nat) (x : α) : Prop := ∀ (_ : 0 < i) (hi : i - 1 < l.length), lt l[i - 1] x
def LeastOf {α : Type} (lt : α → α → Prop) (m : List α) (above : α → Prop) : Option α → Prop
  | none => ∀ x ∈ m, ¬ above x
  | some b => b ∈ m ∧ above b ∧ ∀ x ∈ m, above x → ¬ lt x b
theorem rise_at {α : Type} {lt : α → α → Prop} {l : List α} (h : l.Pairwise lt) {i j : Nat} (hij : i < j) (hj : j < l.length) : lt (l[i]'(by omega)) l[j] := List.pairwise_iff_getElem.1 h i j (by omega) hj hij
/-- m: the same members as l, perhaps more than once, in whatever order -/
theorem least_at {α : Type} {lt : α → α → Prop} (irr : ∀ a, ¬ lt a a) (tr : ∀ a b c, lt a b → lt b c → lt a c) {l m : List α} (hm : ∀ x, x ∈ m ↔ x ∈ l) (h : l.Pairwise lt) {i : Nat} (hi : i ≤ l.length) {r : Option α} (hr : LeastOf lt m (Abv lt l i) r) : r = l[i]? := by
  have habv : ∀ (j : Nat) (hj : j < l.length), Abv lt l i l[j] ↔ i ≤ j := fun j hj => by
    constructor
    · intro ha
      rcases Nat.lt_or_ge j i with hlt | hge
      · have h1 := ha (by omega) (by omega)
        rcases Nat.lt_or_ge j (i - 1) with h2 | h2
        · exact absurd (tr _ _ _ h1 (rise_at h h2 (by omega))) (irr _)
        · have e : i - 1 = j := by omega
          have h3 : lt l[i - 1] l[i - 1] := by
            have : l[j] = l[i - 1] := by congr 1; omega
            rw [this] at h1
            exact h1
          exact absurd h3 (irr _)
      · exact hge
    · intro hij h0 h1
      exact rise_at h (by omega) hj
  cases r with
  | none =>
    rw [List.getElem?_eq_none]
    rcases Nat.lt_or_ge i l.length with hlt | hge
    · exact absurd ((habv i hlt).2 (Nat.le_refl _)) (hr _ ((hm _).2 (List.getElem_mem hlt)))
    · exact hge
  | some b =>
    obtain ⟨h1, h2, h3⟩ := hr
    obtain ⟨j, hj, rfl⟩ := List.getElem_of_mem ((hm _).1 h1)
    have hij := (habv j hj).1 h2
    rcases Nat.lt_or_ge i j with hlt | hge
    · exact absurd (rise_at h hlt hj) (h3 _ ((hm _).2 (List.getElem_mem (by omega))) ((habv i (by omega)).2 (Nat.le_refl _)))
    · have e : j = i := by omega
      subst e
      rw [List.getElem?_eq_getElem hj]
/-- the entries at the root, and the first keys, of leaves -/
def rootE (l : List (List ByteArray × E)) : List E := l.filterMap fun x => match x.1 with | [] => some x.2 | _ :: _ => none
def heads (l : List (List ByteArray × E)) : List ByteArray := l.filterMap fun x => match x.1 with | [] => none | k :: _ => some k
theorem rootE_below (ks : List (ByteArray × T)) : rootE (below ks) = [] := by
  unfold rootE below
  rw [List.filterMap_eq_nil_iff]
  intro x hx
  obtain ⟨k, _, hx⟩ := List.mem_flatMap.1 hx
  obtain ⟨y, _, rfl⟩ := List.mem_map.1 hx
  rfl
theorem rootE_leaves (es : List E) (ks : List (ByteArray × T)) : rootE (leaves (.mk es ks)) = es := by
  rw [leaves_mk]
  unfold rootE
  rw [List.filterMap_append]
  have h1 := rootE_below ks
  unfold rootE at h1
  rw [h1, List.append_nil, List.filterMap_map]
  exact List.filterMap_some
theorem heads_leaves {d : Nat} {es : List E} {ks : List (ByteArray × T)} (h : RightT (d + 1) (.mk es ks)) (k : ByteArray) : k ∈ heads (leaves (.mk es ks)) ↔ k ∈ ks.map (fun x => x.1) := by
  unfold heads
  rw [List.mem_filterMap]
  constructor
  · rintro ⟨x, hx, he⟩
    rw [leaves_mk] at hx
    rcases List.mem_append.1 hx with hx | hx
    · obtain ⟨e, _, rfl⟩ := List.mem_map.1 hx
      cases he
    · obtain ⟨y, hy, hx⟩ := List.mem_flatMap.1 hx
      obtain ⟨z, _, rfl⟩ := List.mem_map.1 hx
      injection he with he
      subst he
      exact List.mem_map.2 ⟨y, hy, rfl⟩
  · intro hk
    obtain ⟨y, hy, rfl⟩ := List.mem_map.1 hk
    obtain ⟨_, h1, h2⟩ := h.2.2.2 y hy
    have h3 := leaves_some h2 h1
    obtain ⟨z, hz⟩ := List.exists_mem_of_ne_nil _ h3
    refine ⟨(y.1 :: z.1, z.2), ?_, rfl⟩
    rw [leaves_mk]
    exact List.mem_append_right _ (List.mem_flatMap.2 ⟨y, hy, List.mem_map.2 ⟨z, hz, rfl⟩⟩)
end Tr
end Go.Proofs.Ytcbclefemcmhpaa
namespace Go.Proofs.Ytcbclefemcmhpaa
namespace Tr
open Classical
/-- neighbours rise, so all do -/
theorem rise_of {α : Type} {lt : α → α → Prop} (tr : ∀ a b c, lt a b → lt b c → lt a c) {l : List α} (h : ∀ (i : Nat) (_ : 0 < i) (hi : i < l.length), lt (l[i - 1]'(by omega)) l[i]) : l.Pairwise lt := by
  rw [List.pairwise_iff_getElem]
  intro i j hi hj hij
  induction j with
  | zero => omega
  | succ j ih =>
    have h1 := h (j + 1) (by omega) hj
    have e : j + 1 - 1 = j := by omega
    simp only [e] at h1
    rcases Nat.lt_or_ge i j with hlt | hge
    · exact tr _ _ _ (ih (by omega) hlt) h1
    · have : i = j := by omega
      subst this
      exact h1
/-- the first k entries are right and rise -/
def GoodE (es : List E) (k : Nat) : Prop := ∀ (i : Nat) (h : i < es.length), i < k → RightE es[i] ∧ (0 < i → ltE (es[i - 1]'(by omega)) es[i])
/-- the i-th kid is right, and behind its forerunner -/
def OkK (d : Nat) (ks : List (ByteArray × T)) (i : Nat) (h : i < ks.length) : Prop := KeyOk (ks[i]).1 ∧ (0 < i → ltS (ks[i - 1]'(by omega)).1 (ks[i]).1) ∧ ¬ ((ks[i]).2.es = [] ∧ (ks[i]).2.ks = []) ∧ RightT d (ks[i]).2
def GoodK (d : Nat) (ks : List (ByteArray × T)) (k : Nat) : Prop := ∀ (i : Nat) (h : i < ks.length), i < k → OkK d ks i h
theorem GoodE.zero (es : List E) : GoodE es 0 := fun _ _ h => absurd h (Nat.not_lt_zero _)
theorem GoodK.zero (d : Nat) (ks : List (ByteArray × T)) : GoodK d ks 0 := fun _ _ h => absurd h (Nat.not_lt_zero _)
theorem GoodE.succ {es : List E} {k : Nat} (h : GoodE es k) (hk : k < es.length) (h1 : RightE es[k]) (h2 : 0 < k → ltE (es[k - 1]'(by omega)) es[k]) : GoodE es (k + 1) := fun i hi hlt => by
  by_cases he : i = k
  · subst he; exact ⟨h1, h2⟩
  · exact h i hi (by omega)
theorem GoodK.succ {d : Nat} {ks : List (ByteArray × T)} {k : Nat} (h : GoodK d ks k) (hk : k < ks.length) (h1 : OkK d ks k hk) : GoodK d ks (k + 1) := fun i hi hlt => by
  by_cases he : i = k
  · subst he; exact h1
  · exact h i hi (by omega)
theorem right_iff (d : Nat) (es : List E) (ks : List (ByteArray × T)) : RightT (d + 1) (.mk es ks) ↔ GoodE es es.length ∧ GoodK d ks ks.length := by
  constructor
  · rintro ⟨h1, h2, h3, h4⟩
    refine ⟨fun i hi _ => ⟨h1 _ (List.getElem_mem hi), fun h0 => List.pairwise_iff_getElem.1 h2 (i - 1) i (by omega) hi (by omega)⟩, fun i hi _ => ?_⟩
    obtain ⟨k1, k2, k3⟩ := h4 _ (List.getElem_mem hi)
    exact ⟨k1, fun h0 => List.pairwise_iff_getElem.1 h3 (i - 1) i (by omega) hi (by omega), k2, k3⟩
  · rintro ⟨h1, h2⟩
    refine ⟨fun e he => ?_, rise_of (lt := ltE) (fun _ _ _ => ltE_tr) fun i h0 hi => (h1 i hi hi).2 h0, ?_, fun k hk => ?_⟩
    · obtain ⟨i, hi, rfl⟩ := List.getElem_of_mem he
      exact (h1 i hi hi).1
    · refine rise_of (lt := fun x y : ByteArray × T => ltS x.1 y.1) (fun _ _ _ => tot_str.tr _ _ _) fun i h0 hi => (h2 i hi hi).2.1 h0
    · obtain ⟨i, hi, rfl⟩ := List.getElem_of_mem hk
      obtain ⟨k1, _, k2, k3⟩ := h2 i hi hi
      exact ⟨k1, k2, k3⟩
/-- is it right, and at most so deep? -/
noncomputable def rightB (d : Nat) (t : T) : Bool := decide (RightT d t)
theorem rightB_zero (t : T) : rightB 0 t = false := decide_eq_false (by intro h; cases t; exact h)
theorem rightB_yes {d : Nat} {es : List E} {ks : List (ByteArray × T)} (h1 : GoodE es es.length) (h2 : GoodK d ks ks.length) : rightB (d + 1) (.mk es ks) = true := decide_eq_true ((right_iff d es ks).2 ⟨h1, h2⟩)
theorem rightB_noE {d : Nat} {es : List E} {ks : List (ByteArray × T)} (k : Nat) (hk : k < es.length) (h : ¬ (RightE es[k] ∧ (0 < k → ltE (es[k - 1]'(by omega)) es[k]))) : rightB (d + 1) (.mk es ks) = false :=
  decide_eq_false fun hr => h (((right_iff d es ks).1 hr).1 k hk hk)
theorem rightB_noK {d : Nat} {es : List E} {ks : List (ByteArray × T)} (k : Nat) (hk : k < ks.length) (h : ¬ OkK d ks k hk) : rightB (d + 1) (.mk es ks) = false :=
  decide_eq_false fun hr => h (((right_iff d es ks).1 hr).2 k hk hk)
theorem rightB_iff {d : Nat} {t : T} : rightB d t = true ↔ RightT d t := decide_eq_true_iff
end Tr
end Go.Proofs.Ytcbclefemcmhpaa
namespace Go.Proofs.Ytcbclefemcmhpaa
open Go.RowKit

/-- the cells of bytes -/
def u8s (bs : List UInt8) : List Value := bs.map fun b => Value.int .u8 b.toNat
theorem u8s_length (bs : List UInt8) : (u8s bs).length = bs.length := by simp [u8s]
theorem u8s_one (bs : List UInt8) : ∀ u ∈ u8s bs, u.oneCell' = true := by
  intro u hu
  simp only [u8s, List.mem_map] at hu
  obtain ⟨b, _, rfl⟩ := hu
  rfl
theorem u8s_append (a b : List UInt8) : u8s (a ++ b) = u8s a ++ u8s b := by simp [u8s]
theorem u8s_take (a : List UInt8) (n : Nat) : u8s (a.take n) = (u8s a).take n := by simp [u8s, List.map_take]
theorem u8s_drop (a : List UInt8) (n : Nat) : u8s (a.drop n) = (u8s a).drop n := by simp [u8s, List.map_drop]
theorem u8s_get (bs : List UInt8) (k : Nat) (h : k < bs.length) : (u8s bs)[k]? = some (.int .u8 bs[k].toNat) := by simp [u8s, h]
/-- bytes as a text -/
def strOf (bs : List UInt8) : ByteArray := ⟨bs.toArray⟩
theorem strOf_size (bs : List UInt8) : (strOf bs).size = bs.length := rfl
theorem strOf_list (bs : List UInt8) : (strOf bs).data.toList = bs := by simp [strOf]
theorem strOf_inj {a b : List UInt8} (h : strOf a = strOf b) : a = b := by rw [← strOf_list a, h, strOf_list]
theorem strOf_of (s : ByteArray) : strOf s.data.toList = s := rfl
theorem strCells_of (bs : List UInt8) : Lib.strCells (strOf bs) = u8s bs := by simp [Lib.strCells, u8s, strOf]
theorem strCells_s (s : ByteArray) : Lib.strCells s = u8s s.data.toList := rfl

/-- a number's bytes, by sevens of bits -/
def sev (u : Nat) : List UInt8 := if u < 128 then [UInt8.ofNat u] else UInt8.ofNat (u % 128 + 128) :: sev (u / 128)
termination_by u
decreasing_by omega
theorem sev_lt {u : Nat} (h : u < 128) : sev u = [UInt8.ofNat u] := by rw [sev, if_pos h]
theorem sev_ge {u : Nat} (h : 128 ≤ u) : sev u = UInt8.ofNat (u % 128 + 128) :: sev (u / 128) := by rw [sev, if_neg (by omega)]
theorem sev_pos (u : Nat) : 1 ≤ (sev u).length := by
  rcases Nat.lt_or_ge u 128 with h | h
  · rw [sev_lt h]; simp
  · rw [sev_ge h]; simp
theorem sev_len : ∀ (k u : Nat), u < 128 ^ (k + 1) → (sev u).length ≤ k + 1
  | 0, u, h => by rw [sev_lt (by simpa using h)]; simp
  | k + 1, u, h => by
    rcases Nat.lt_or_ge u 128 with h1 | h1
    · rw [sev_lt h1]; simp
    · rw [sev_ge h1, List.length_cons]
      have := sev_len k (u / 128) (by rw [Nat.div_lt_iff_lt_mul (by omega)]; rw [Nat.pow_succ] at h; exact h)
      omega
theorem sev_ten {u : Nat} (h : u < 18446744073709551616) : (sev u).length ≤ 10 := sev_len 9 u (Nat.lt_of_lt_of_le h (by decide))

/-- a number without a sign -/
def foldN (v : Int) : Nat := if v < 0 then (2 * (-(v + 1)) + 1).toNat else (2 * v).toNat
def unfoldN (u : Nat) : Int := if u % 2 = 1 then -((u / 2 : Nat) : Int) - 1 else ((u / 2 : Nat) : Int)
theorem unfold_fold (v : Int) : unfoldN (foldN v) = v := by
  unfold unfoldN foldN
  split <;> split <;> omega
theorem fold_unfold (u : Nat) : foldN (unfoldN u) = u := by
  unfold unfoldN foldN
  split <;> split <;> omega
theorem fold_lt {v : Int} (h1 : -9223372036854775808 ≤ v) (h2 : v ≤ 9223372036854775807) : foldN v < 18446744073709551616 := by
  unfold foldN; split <;> omega
theorem unfold_in {u : Nat} (h : u < 18446744073709551616) : -9223372036854775808 ≤ unfoldN u ∧ unfoldN u ≤ 9223372036854775807 := by
  unfold unfoldN; split <;> omega
/-- a number's bytes -/
def numB (v : Int) : List UInt8 := sev (foldN v)
theorem numB_pos (v : Int) : 1 ≤ (numB v).length := sev_pos _
theorem numB_ten {v : Int} (h1 : -9223372036854775808 ≤ v) (h2 : v ≤ 9223372036854775807) : (numB v).length ≤ 10 := sev_ten (fold_lt h1 h2)

/-- no number's bytes begin with another one's -/
theorem sev_prefix : ∀ (a b : Nat) (x y : List UInt8), sev a ++ x = sev b ++ y → a = b ∧ x = y := by
  intro a
  induction a using Nat.strongRecOn with
  | ind a ih =>
    intro b x y h
    rcases Nat.lt_or_ge a 128 with ha | ha <;> rcases Nat.lt_or_ge b 128 with hb | hb
    · rw [sev_lt ha, sev_lt hb] at h
      simp only [List.cons_append, List.nil_append, List.cons.injEq] at h
      have h1 := congrArg UInt8.toNat h.1
      simp only [UInt8.toNat_ofNat'] at h1
      exact ⟨by omega, h.2⟩
    · rw [sev_lt ha, sev_ge hb] at h
      simp only [List.cons_append, List.nil_append, List.cons.injEq] at h
      have h1 := congrArg UInt8.toNat h.1
      simp only [UInt8.toNat_ofNat'] at h1
      omega
    · rw [sev_ge ha, sev_lt hb] at h
      simp only [List.cons_append, List.nil_append, List.cons.injEq] at h
      have h1 := congrArg UInt8.toNat h.1
      simp only [UInt8.toNat_ofNat'] at h1
      omega
    · rw [sev_ge ha, sev_ge hb] at h
      simp only [List.cons_append, List.cons.injEq] at h
      have h1 := congrArg UInt8.toNat h.1
      simp only [UInt8.toNat_ofNat'] at h1
      obtain ⟨h2, h3⟩ := ih (a / 128) (by omega) _ _ _ h.2
      exact ⟨by omega, h3⟩
theorem numB_prefix {a b : Int} {x y : List UInt8} (h : numB a ++ x = numB b ++ y) : a = b ∧ x = y := by
  obtain ⟨h1, h2⟩ := sev_prefix _ _ _ _ h
  exact ⟨by rw [← unfold_fold a, h1, unfold_fold], h2⟩

/-- what bytes begin with, read as a number -/
def Begins (bs : List UInt8) (u n : Nat) : Prop := u < 18446744073709551616 ∧ n ≤ bs.length ∧ bs.take n = sev u
theorem Begins.split {bs : List UInt8} {u n : Nat} (h : Begins bs u n) : bs = sev u ++ bs.drop n := by
  rw [← h.2.2, List.take_append_drop]
theorem Begins.len {bs : List UInt8} {u n : Nat} (h : Begins bs u n) : n = (sev u).length := by
  rw [← h.2.2, List.length_take]; have := h.2.1; omega
theorem Begins.uniq {bs : List UInt8} {u n u' n' : Nat} (h : Begins bs u n) (h' : Begins bs u' n') : u = u' ∧ n = n' := by
  have h1 := h.split.symm.trans h'.split
  obtain ⟨rfl, _⟩ := sev_prefix _ _ _ _ h1
  exact ⟨rfl, by rw [h.len, h'.len]⟩
theorem begins_of {u : Nat} (h : u < 18446744073709551616) (x : List UInt8) : Begins (sev u ++ x) u (sev u).length := ⟨h, by simp, by simp⟩

section
variable {P : Program}
/-- 'string(b)' -/
theorem run_str (w : World) (src dst e : TypeId) (hs : P.underlying src = some (.slice e)) (he : P.underlying e = some (.int .u8)) (hd : P.underlying dst = some .string)
    {B : Nat} {A : Option Addr} {n c : Nat} {bs : List UInt8} (hr : Rd w B 1 A n c (u8s bs)) :
    (convert src dst (.slice A n c)).run P w = .ok (.string (strOf bs)) w := by
  have hl : bs.length = n := by have := hr.len; rw [u8s_length] at this; omega
  rcases Nat.eq_zero_or_pos n with h0 | h0
  · subst h0
    have hb : bs = [] := List.eq_nil_of_length_eq_zero hl
    subst hb
    rw [run_convert_bytes_string w src dst e A 0 c hs he hd]
    cases A with
    | none => simp [Conv.bytesToString, strOf, Sem.run_pure]; try rfl
    | some a =>
      rw [run_bytesToString w a 0 c [] (by simp [loadCells, loadCellsFrom, Sem.run_pure])]
      rfl
  · obtain ⟨b, o, rfl, _, hc⟩ := hr.at_ h0
    have h := Lib.run_convert_whole (P := P) w src e dst hs he hd b o (strOf bs) (fun i hi => by
      have hi' : i < bs.length := hi
      rw [hc i _ (u8s_get bs i hi')]
      rfl) c
    rw [strOf_size, hl] at h
    exact h

/-- append(v, s...), s a text, v a row of the call's own: the new row is the old one's block or a new one -/
theorem run_app_str (w : World) (t u ty e : TypeId) (i : TypeInfo) (ht : P.underlying t = some (.slice e)) (hu : P.underlying u = some .string) (hi : P.info? e = some i) (hz : i.zero = some (.int .u8 0))
    (hsize : i.size = 1) (hby : i.bytes = 1) {v : Value} {n base : Nat} {xs : List Value} (hown : w.ownsRow base e 1 v n xs) (s : ByteArray) (h63 : n + s.size ≤ 1000000) (hbase : base ≤ w.heap.size) :
    ∃ v' w', (Builtin.append_ #[t, u] ty #[v, .string s]).run P w = .ok v' w' ∧ w'.ownsRow base e 1 v' (n + s.size) (xs ++ u8s s.data.toList) ∧ w.grownBy w' v.ownBlock ∧
      (v'.ownBlock = v.ownBlock ∨ v'.ownBlock = some w.heap.size) := by
  obtain ⟨v', w', hr, h1, h2, h3⟩ := Lib.run_append_own_string w base t u ty e i ht hu hi hz hsize hby v n xs hown s (by simp only [maxLen]; omega) (by omega) hbase
  refine ⟨v', w', hr, h1, h2, ?_⟩
  have hxl : xs.length = n := by simpa using hown.1
  rcases hown.2 with ⟨rfl, rfl⟩ | ⟨g, cap, cur, rfl, hbg, hg, hnc, hcm, hcs, htake⟩
  · by_cases hm : s.size = 0
    · exact .inl (by rw [h3.2 ⟨rfl, hm⟩])
    · have hr2 := run_append_nil_string (P := P) w t u ty e i (.int .u8 0) ht hu hi hz s (by omega) (by omega) (by rw [hby]; omega)
      rw [hr] at hr2
      injection hr2 with e1 e2
      exact .inr (by rw [e1]; rfl)
  · by_cases hroom : n + s.size ≤ cap
    · have hr2 := Lib.run_append_room_string (P := P) w t u ty e i ht hu hi hsize g n cap cur hg s hroom (by omega)
      rw [hr] at hr2
      injection hr2 with e1 e2
      exact .inl (by rw [e1]; rfl)
    · have holds : ∀ j u, xs[j]? = some u → w.cell? ((⟨g, 0, none⟩ : Addr).add j) = some u := hown.cells (g := g) rfl
      have hr2 := Lib.run_append_grow_string (P := P) w t u ty e i (.int .u8 0) ht hu hi hz ⟨g, 0, none⟩ n cap xs (by rw [hsize]; simpa using hxl) holds s (by omega) (by omega) (by rw [hby]; exact growslice_fits (by omega) (by omega))
      rw [hr] at hr2
      injection hr2 with e1 e2
      exact .inr (by rw [e1]; rfl)
end

/-- Only blocks a and g, and what is new, have turned. -/
structure Two (a : Nat) (g : Option Nat) (w w' : World) : Prop where
  os : w'.os = w.os
  tape : w'.tape = w.tape
  output : w'.output = w.output
  size : w.heap.size ≤ w'.heap.size
  block : ∀ k, k < w.heap.size → k ≠ a → some k ≠ g → w'.heap[k]? = w.heap[k]?
/-- the block of a row: the old one, or a new one -/
def Fresh (g g' : Option Nat) (w : World) : Prop := g' = none ∨ g' = g ∨ ∃ k, g' = some k ∧ w.heap.size ≤ k
section
variable {a : Nat} {g g' g2 : Option Nat} {w w' w2 : World}
theorem Two.refl (a : Nat) (g : Option Nat) (w : World) : Two a g w w := ⟨rfl, rfl, rfl, Nat.le_refl _, fun _ _ _ _ => rfl⟩
theorem Fresh.refl (g : Option Nat) (w : World) : Fresh g g w := .inr (.inl rfl)
theorem Two.of_below (h : Below w.heap.size w w') : Two a g w w' := ⟨h.os, h.tape, h.output, h.size, fun k hk _ _ => h.block k hk⟩
theorem Two.of_grown (h : w.grownBy w' g) : Two a g w w' := ⟨h.os, h.tape, h.output, h.size, fun k hk _ h2 => h.block k hk h2⟩
theorem Two.trans (h : Two a g w w') (hf : Fresh g g' w) (h2 : Two a g' w' w2) : Two a g w w2 :=
  ⟨h2.os.trans h.os, h2.tape.trans h.tape, h2.output.trans h.output, Nat.le_trans h.size h2.size, fun k hk ha hg =>
    (h2.block k (Nat.lt_of_lt_of_le hk h.size) ha (by
      rcases hf with rfl | rfl | ⟨q, rfl, hq⟩
      · intro e; cases e
      · exact hg
      · intro e; injection e with e; omega)).trans (h.block k hk ha hg)⟩
theorem Fresh.trans (hf : Fresh g g' w) (hs : w.heap.size ≤ w'.heap.size) (h2 : Fresh g' g2 w') : Fresh g g2 w := by
  rcases h2 with rfl | rfl | ⟨k, rfl, hk⟩
  · exact .inl rfl
  · exact hf
  · exact .inr (.inr ⟨k, rfl, by omega⟩)
theorem Two.setCell (h : Two a g w w') (o : Nat) (u : Value) : Two a g w (w'.setCell ⟨a, o, none⟩ u) :=
  ⟨h.os, h.tape, h.output, by simpa [World.setCell] using h.size, fun k hk ha hg => (Below.heap_setCell w' ⟨a, o, none⟩ u k ha).trans (h.block k hk ha hg)⟩
theorem Two.cell (h : Two a g w w') {p : Addr} (hp : p.block < w.heap.size) (ha : p.block ≠ a) (hg : some p.block ≠ g) : w'.cell? p = w.cell? p := World.cell?_of_block (h.block p.block hp ha hg)
theorem Two.frozen (h : Two a g w w') {p : Addr} (hp : p.block < w.heap.size) (ha : p.block ≠ a) (hg : some p.block ≠ g) : w'.frozen? p = w.frozen? p := World.frozen?_of_block (h.block p.block hp ha hg)
/-- what lies elsewhere reads as it did -/
theorem Rd.two {B sz n c : Nat} {A : Option Addr} {xs : List Value} (hr : Rd w B sz A n c xs) (h : Two a g w w') (hB : B ≤ w.heap.size) (hA : ∀ b o, A = some ⟨b, o, none⟩ → b ≠ a ∧ some b ≠ g) : Rd w' B sz A n c xs :=
  ⟨hr.len, hr.cap, hr.one, fun hn => by
    obtain ⟨b, o, e, hb, hc⟩ := hr.at_ hn
    obtain ⟨h1, h2⟩ := hA b o e
    exact ⟨b, o, e, hb, fun j u hu => (h.cell (p := ⟨b, o + j, none⟩) (show b < _ by omega) h1 h2).trans (hc j u hu)⟩⟩
theorem Two.below (h : Two a g w w') {B : Nat} (ha : B ≤ a) (hg : ∀ k, g = some k → B ≤ k) (hB : B ≤ w.heap.size) : Below B w w' :=
  ⟨h.os, h.tape, h.output, h.size, fun k hk => h.block k (by omega) (by omega) (fun e => by have := hg k e.symm; omega)⟩
/-- a row of the call's own, its block not touched -/
theorem ownsRow_two {base e sz n : Nat} {v : Value} {xs : List Value} (hr : w.ownsRow base e sz v n xs) (h : Two a g w w') (hv : ∀ b, v.ownBlock = some b → b ≠ a ∧ some b ≠ g) : w'.ownsRow base e sz v n xs := by
  refine ⟨hr.1, ?_⟩
  rcases hr.2 with h1 | ⟨b, cap, cur, rfl, h2, h3, h4⟩
  · exact .inl h1
  · obtain ⟨h5, h6⟩ := hv b rfl
    exact .inr ⟨b, cap, cur, rfl, h2, (h.block b (Array.getElem?_eq_some_iff.1 h3).1 h5 h6).trans h3, h4⟩
theorem ownsRow_later {base e sz n : Nat} {v : Value} {xs : List Value} (hr : w.ownsRow base e sz v n xs) (h : Below w.heap.size w w') : w'.ownsRow base e sz v n xs := by
  refine ⟨hr.1, ?_⟩
  rcases hr.2 with h1 | ⟨b, cap, cur, rfl, h2, h3, h4⟩
  · exact .inl h1
  · exact .inr ⟨b, cap, cur, rfl, h2, (h.block b (Array.getElem?_eq_some_iff.1 h3).1).trans h3, h4⟩
theorem ownBlock_lt {base e sz n : Nat} {v : Value} {xs : List Value} (hr : w.ownsRow base e sz v n xs) {b : Nat} (h : v.ownBlock = some b) : base ≤ b ∧ b < w.heap.size := by
  rcases hr.2 with ⟨rfl, _⟩ | ⟨b', cap, cur, rfl, h2, h3, h4⟩
  · cases h
  · injection h with h
    have h' : b' = b := h
    subst h'
    exact ⟨h2, (Array.getElem?_eq_some_iff.1 h3).1⟩
end
end Go.Proofs.Ytcbclefemcmhpaa
namespace Go.Proofs.Ytcbclefemcmhpaa
namespace Sp
/-- right, from m on -/
def RightF : Int → List (Int × Int) → Prop
  | _, [] => True
  | m, r :: l => m ≤ r.1 ∧ r.1 ≤ r.2 ∧ r.2 ≤ 1099511627776 ∧ RightF (r.2 + 2) l
instance decR : ∀ (m : Int) (l : List (Int × Int)), Decidable (RightF m l)
  | _, [] => .isTrue trivial
  | m, r :: l => by
    unfold RightF
    have := decR (r.2 + 2) l
    exact inferInstance
def rightB (l : List (Int × Int)) : Bool := decide (RightF 1 l)
def hasB (l : List (Int × Int)) (n : Int) : Bool := l.any fun r => decide (r.1 ≤ n ∧ n ≤ r.2)
theorem has_cons (r : Int × Int) (l : List (Int × Int)) (n : Int) : hasB (r :: l) n = (decide (r.1 ≤ n ∧ n ≤ r.2) || hasB l n) := rfl
theorem has_nil (n : Int) : hasB [] n = false := rfl
theorem has_append (a b : List (Int × Int)) (n : Int) : hasB (a ++ b) n = (hasB a n || hasB b n) := by simp [hasB]
theorem has_true {l : List (Int × Int)} {n : Int} : hasB l n = true ↔ ∃ r ∈ l, r.1 ≤ n ∧ n ≤ r.2 := by simp [hasB]
theorem has_false {l : List (Int × Int)} {n : Int} : hasB l n = false ↔ ∀ r ∈ l, ¬ (r.1 ≤ n ∧ n ≤ r.2) := by
  simp [hasB]
theorem RightF.mono {m m' : Int} (hm : m' ≤ m) : ∀ {l : List (Int × Int)}, RightF m l → RightF m' l
  | [], _ => trivial
  | r :: l, h => by obtain ⟨h1, h2, h3, h4⟩ := h; exact ⟨by omega, h2, h3, h4⟩
theorem RightF.mem : ∀ {l : List (Int × Int)} {m : Int}, RightF m l → ∀ r ∈ l, m ≤ r.1 ∧ r.1 ≤ r.2 ∧ r.2 ≤ 1099511627776
  | [], _, _, r, hr => by simp at hr
  | q :: l, m, h, r, hr => by
    obtain ⟨h1, h2, h3, h4⟩ := h
    rcases List.mem_cons.1 hr with rfl | hr
    · exact ⟨h1, h2, h3⟩
    · have := RightF.mem h4 r hr
      exact ⟨by omega, this.2⟩
theorem has_lt {l : List (Int × Int)} {m n : Int} (h : RightF m l) (hn : n < m) : hasB l n = false :=
  has_false.2 fun r hr => by have := h.mem r hr; omega
theorem has_gt {l : List (Int × Int)} {m n : Int} (h : RightF m l) (hn : 1099511627776 < n) : hasB l n = false :=
  has_false.2 fun r hr => by have := h.mem r hr; omega
theorem has_bounds {l : List (Int × Int)} {n : Int} (h : RightF 1 l) (hn : hasB l n = true) : 1 ≤ n ∧ n ≤ 1099511627776 := by
  obtain ⟨r, hr, h1, h2⟩ := has_true.1 hn
  have := h.mem r hr
  omega
/-- a set has one list -/
theorem ext : ∀ {a b : List (Int × Int)} {m m' : Int}, RightF m a → RightF m' b → (∀ n, hasB a n = hasB b n) → a = b
  | [], [], _, _, _, _, _ => rfl
  | [], r :: b, _, _, _, h, he => by
    have := he r.1
    rw [has_nil, has_cons] at this
    obtain ⟨_, h2, _⟩ := h
    simp [h2] at this
  | r :: a, [], _, _, h, _, he => by
    have := he r.1
    rw [has_nil, has_cons] at this
    obtain ⟨_, h2, _⟩ := h
    simp [h2] at this
  | (x, y) :: a, (u, v) :: b, m, m', ha, hb, he => by
    obtain ⟨a1, a2, a3, a4⟩ := ha
    obtain ⟨b1, b2, b3, b4⟩ := hb
    dsimp only at a1 a2 a3 a4 b1 b2 b3 b4
    have key : ∀ {l : List (Int × Int)} {x y n : Int}, RightF (y + 2) l → n ≤ y + 1 → hasB ((x, y) :: l) n = decide (x ≤ n ∧ n ≤ y) := by
      intro l x y n h hn
      rw [has_cons, has_lt h (by omega), Bool.or_false]
    have hxu : x = u := by
      have e1 := he x
      have e2 := he u
      rcases Int.lt_trichotomy x u with h | h | h
      · rw [key a4 (by omega), key b4 (by omega)] at e1
        have e3 : decide (x ≤ x ∧ x ≤ y) = true := by simp; omega
        have e4 : decide (u ≤ x ∧ x ≤ v) = false := by simp; omega
        rw [e3, e4] at e1
        cases e1
      · exact h
      · rw [key a4 (by omega), key b4 (by omega)] at e2
        have e3 : decide (x ≤ u ∧ u ≤ y) = false := by simp; omega
        have e4 : decide (u ≤ u ∧ u ≤ v) = true := by simp; omega
        rw [e3, e4] at e2
        cases e2
    subst hxu
    have hyv : y = v := by
      have e1 := he (y + 1)
      have e2 := he (v + 1)
      rcases Int.lt_trichotomy y v with h | h | h
      · rw [key a4 (by omega), key b4 (by omega)] at e1
        have e3 : decide (x ≤ y + 1 ∧ y + 1 ≤ y) = false := by simp; omega
        have e4 : decide (x ≤ y + 1 ∧ y + 1 ≤ v) = true := by simp; omega
        rw [e3, e4] at e1
        cases e1
      · exact h
      · rw [key a4 (by omega), key b4 (by omega)] at e2
        have e3 : decide (x ≤ v + 1 ∧ v + 1 ≤ v) = false := by simp; omega
        have e4 : decide (x ≤ v + 1 ∧ v + 1 ≤ y) = true := by simp; omega
        rw [e3, e4] at e2
        cases e2
    subst hyv
    have : a = b := by
      refine ext a4 b4 fun n => ?_
      by_cases hn : n ≤ y
      · rw [has_lt a4 (by omega), has_lt b4 (by omega)]
      · have e := he n
        rw [has_cons, has_cons] at e
        have e3 : decide (x ≤ n ∧ n ≤ y) = false := by simp; omega
        simpa [e3] using e
    rw [this]
theorem RightF.snoc : ∀ {l : List (Int × Int)} {m : Int}, RightF m l → ∀ {r : Int × Int}, (∀ q ∈ l, q.2 + 2 ≤ r.1) → m ≤ r.1 → r.1 ≤ r.2 → r.2 ≤ 1099511627776 → RightF m (l ++ [r])
  | [], _, _, _, _, h1, h2, h3 => ⟨h1, h2, h3, trivial⟩
  | q :: l, _, h, r, hq, _, h2, h3 => by
    obtain ⟨a1, a2, a3, a4⟩ := h
    exact ⟨a1, a2, a3, RightF.snoc a4 (fun p hp => hq p (List.mem_cons_of_mem _ hp)) (hq q List.mem_cons_self) h2 h3⟩
theorem RightF.of_snoc : ∀ {l : List (Int × Int)} {m : Int} {r : Int × Int}, RightF m (l ++ [r]) → RightF m l ∧ (∀ q ∈ l, q.2 + 2 ≤ r.1) ∧ m ≤ r.1 ∧ r.1 ≤ r.2 ∧ r.2 ≤ 1099511627776
  | [], _, _, h => ⟨trivial, by simp, h.1, h.2.1, h.2.2.1⟩
  | q :: l, _, r, h => by
    obtain ⟨a1, a2, a3, a4⟩ := h
    obtain ⟨b1, b2, b3, b4, b5⟩ := RightF.of_snoc a4
    refine ⟨⟨a1, a2, a3, b1⟩, fun p hp => ?_, by omega, b4, b5⟩
    rcases List.mem_cons.1 hp with rfl | hp
    · exact b3
    · exact b2 p hp
/-- the i-th of the numbers at which runs begin, or have just ended; behind them all one above every edge -/
def edge : List (Int × Int) → Nat → Int
  | [], _ => 1099511627778
  | r :: _, 0 => r.1
  | r :: _, 1 => r.2 + 1
  | _ :: l, i + 2 => edge l i
theorem edge_end : ∀ {l : List (Int × Int)} {i : Nat}, 2 * l.length ≤ i → edge l i = 1099511627778
  | [], _, _ => rfl
  | r :: l, 0, h => by simp at h
  | r :: l, 1, h => by simp at h; omega
  | r :: l, i + 2, h => edge_end (l := l) (i := i) (by simp at h; omega)
theorem edge_even : ∀ {l : List (Int × Int)} {k : Nat} (h : k < l.length), edge l (2 * k) = l[k].1
  | r :: l, 0, _ => rfl
  | r :: l, k + 1, h => by
    rw [show 2 * (k + 1) = 2 * k + 2 from by omega]
    show edge l (2 * k) = _
    rw [edge_even (by simpa using h)]
    rfl
theorem edge_odd : ∀ {l : List (Int × Int)} {k : Nat} (h : k < l.length), edge l (2 * k + 1) = l[k].2 + 1
  | r :: l, 0, _ => rfl
  | r :: l, k + 1, h => by
    rw [show 2 * (k + 1) + 1 = 2 * k + 1 + 2 from by omega]
    show edge l (2 * k + 1) = _
    rw [edge_odd (by simpa using h)]
    rfl
theorem edge_ge : ∀ {l : List (Int × Int)} {m : Int} {i : Nat}, RightF m l → i < 2 * l.length → m ≤ edge l i ∧ edge l i ≤ 1099511627777
  | [], _, _, _, h => by simp at h
  | r :: l, m, 0, h, _ => by obtain ⟨a1, a2, a3, _⟩ := h; exact ⟨a1, by show r.1 ≤ _; omega⟩
  | r :: l, m, 1, h, _ => by obtain ⟨a1, a2, a3, _⟩ := h; exact ⟨by show m ≤ r.2 + 1; omega, by show r.2 + 1 ≤ _; omega⟩
  | r :: l, m, i + 2, h, hi => by
    obtain ⟨a1, a2, a3, a4⟩ := h
    have := edge_ge (i := i) a4 (by simp at hi; omega)
    exact ⟨by show m ≤ edge l i; omega, this.2⟩
theorem edge_pos {l : List (Int × Int)} (h : RightF 1 l) (i : Nat) : 1 ≤ edge l i ∧ edge l i ≤ 1099511627778 := by
  by_cases hi : i < 2 * l.length
  · have := edge_ge h hi; omega
  · rw [edge_end (by omega)]; omega
theorem edge_lt : ∀ {l : List (Int × Int)} {m : Int} {i : Nat}, RightF m l → i < 2 * l.length → edge l i < edge l (i + 1)
  | [], _, _, _, h => by simp at h
  | r :: l, m, 0, h, _ => by obtain ⟨a1, a2, a3, _⟩ := h; show r.1 < r.2 + 1; omega
  | r :: l, m, 1, h, _ => by
    obtain ⟨a1, a2, a3, a4⟩ := h
    show r.2 + 1 < edge l 0
    cases l with
    | nil => show _ < (1099511627778 : Int); omega
    | cons q l => have := a4.1; show _ < q.1; omega
  | r :: l, m, i + 2, h, hi => by
    obtain ⟨a1, a2, a3, a4⟩ := h
    exact edge_lt (l := l) (i := i) a4 (by simp at hi; omega)
/-- between two edges all are within, or none is -/
theorem has_at : ∀ {l : List (Int × Int)} {m : Int} {k : Nat} {n : Int}, RightF m l → k ≤ 2 * l.length → (k = 0 ∨ edge l (k - 1) ≤ n) → (k = 2 * l.length ∨ n < edge l k) → hasB l n = decide (k % 2 = 1)
  | [], _, k, n, _, hk, _, _ => by
    have : k = 0 := by simpa using hk
    subst this; rfl
  | r :: l, m, 0, n, h, _, _, h2 => by
    have h2 : n < r.1 := by
      rcases h2 with h2 | h2
      · simp at h2
      · exact h2
    obtain ⟨a1, a2, a3, a4⟩ := h
    rw [has_cons, has_lt a4 (by omega)]
    simp; omega
  | r :: l, m, 1, n, h, _, h1, h2 => by
    obtain ⟨a1, a2, a3, a4⟩ := h
    have h1 : r.1 ≤ n := by
      rcases h1 with h1 | h1
      · omega
      · exact h1
    have h2 : n < r.2 + 1 := by
      rcases h2 with h2 | h2
      · simp at h2; omega
      · exact h2
    rw [has_cons]
    simp; left; omega
  | r :: l, m, k + 2, n, h, hk, h1, h2 => by
    obtain ⟨a1, a2, a3, a4⟩ := h
    have hl : r.2 < n := by
      rcases h1 with h1 | h1
      · omega
      · cases k with
        | zero => have : r.2 + 1 ≤ n := h1; omega
        | succ k =>
          have h1 : edge l k ≤ n := h1
          have := edge_ge (i := k) a4 (by simp at hk; omega)
          omega
    have ih := has_at (l := l) (k := k) (n := n) a4 (by simp at hk; omega)
      (by
        rcases h1 with h1 | h1
        · omega
        · cases k with
          | zero => exact .inl rfl
          | succ k => exact .inr h1)
      (by
        rcases h2 with h2 | h2
        · left; simp at h2; omega
        · exact .inr h2)
    rw [has_cons, ih]
    have e : decide (r.1 ≤ n ∧ n ≤ r.2) = false := by simp; omega
    rw [e, Bool.false_or]
    have : (k + 2) % 2 = k % 2 := by omega
    rw [this]
/-- what two sets make -/
structure Put (f : Bool → Bool → Bool) (a b l : List (Int × Int)) : Prop where
  right : RightF 1 l
  has : ∀ n, hasB l n = f (hasB a n) (hasB b n)
  len : l.length ≤ a.length + b.length
theorem Put.eq {f : Bool → Bool → Bool} {a b l l' : List (Int × Int)} (h : Put f a b l) (h' : Put f a b l') : l = l' := ext h.right h'.right fun n => by rw [h.has, h'.has]
/-- how far a join is: i edges of a and j edges of b lie at p or ahead of it -/
structure Join (f : Bool → Bool → Bool) (a b : List (Int × Int)) (i j : Nat) (p : Int) (done : List (Int × Int)) (s : Int) (within : Bool) : Prop where
  hi : i ≤ 2 * a.length
  hj : j ≤ 2 * b.length
  pi : i = 0 ∨ edge a (i - 1) ≤ p
  pj : j = 0 ∨ edge b (j - 1) ≤ p
  ni : p < edge a i
  nj : p < edge b j
  w : within = f (decide (i % 2 = 1)) (decide (j % 2 = 1))
  right : RightF 1 done
  ends : ∀ r ∈ done, r.2 + 1 ≤ p
  open_ : within = true → 1 ≤ s ∧ s ≤ p ∧ ∀ r ∈ done, r.2 + 2 ≤ s
  has : ∀ n, n ≤ p → (hasB done n || (within && decide (s ≤ n))) = f (hasB a n) (hasB b n)
  len : 2 * done.length + (if within then 1 else 0) ≤ i + j
theorem Join.zero {f : Bool → Bool → Bool} (hf : f false false = false) {a b : List (Int × Int)} (ha : RightF 1 a) (hb : RightF 1 b) (s : Int) : Join f a b 0 0 0 [] s false := by
  refine ⟨Nat.zero_le _, Nat.zero_le _, .inl rfl, .inl rfl, ?_, ?_, by simp [hf], trivial, by simp, by simp, fun n hn => ?_, by simp⟩
  · have := edge_pos ha 0; omega
  · have := edge_pos hb 0; omega
  · rw [has_lt ha (by omega), has_lt hb (by omega), hf]; simp [has_nil]
/-- the row that lies there -/
def rowJ (done : List (Int × Int)) (s : Int) (within : Bool) : List (Int × Int) := if within then done ++ [(s, 0)] else done
theorem Join.end {f : Bool → Bool → Bool} (hf : f false false = false) {a b done : List (Int × Int)} {i j : Nat} {p s : Int} {within : Bool} (ha : RightF 1 a) (hb : RightF 1 b) (h : Join f a b i j p done s within) (hi : 2 * a.length ≤ i) (hj : 2 * b.length ≤ j) : within = false ∧ Put f a b done := by
  have ei : i = 2 * a.length := Nat.le_antisymm h.hi hi
  have ej : j = 2 * b.length := Nat.le_antisymm h.hj hj
  have hw : within = false := by
    rw [h.w, ei, ej]
    simp [hf]
  refine ⟨hw, h.right, fun n => ?_, ?_⟩
  · by_cases hn : n ≤ p
    · have := h.has n hn
      rw [hw] at this
      simpa using this
    · have e1 := has_at (k := i) (n := n) ha h.hi (by have := h.pi; omega) (.inl ei)
      have e2 := has_at (k := j) (n := n) hb h.hj (by have := h.pj; omega) (.inl ej)
      have e3 : hasB done n = false := has_false.2 fun r hr => by have := h.ends r hr; omega
      rw [e1, e2, e3, ei, ej]
      simp [hf]
  · have := h.len
    omega
theorem Join.more {f : Bool → Bool → Bool} {a b done : List (Int × Int)} {i j i' j' : Nat} {p s at' : Int} {within kept : Bool} (ha : RightF 1 a) (hb : RightF 1 b) (h : Join f a b i j p done s within)
    (hlt : i < 2 * a.length ∨ j < 2 * b.length) (hat : at' = min (edge a i) (edge b j)) (hi' : i' = if edge a i = at' then i + 1 else i) (hj' : j' = if edge b j = at' then j + 1 else j) (hk : kept = f (decide (i' % 2 = 1)) (decide (j' % 2 = 1))) :
    1 ≤ at' ∧ at' ≤ 1099511627777 ∧ i + j < i' + j' ∧ Join f a b i' j' at' (if !kept && within then done ++ [(s, at' - 1)] else done) (if kept && !within then at' else s) kept := by
  have hle : at' ≤ 1099511627777 := by
    rw [hat]
    rcases hlt with h1 | h1
    · have := (edge_ge ha h1).2; omega
    · have := (edge_ge hb h1).2; omega
  have hp : p < at' := by have := h.ni; have := h.nj; omega
  have hpos : 1 ≤ at' := by have := (edge_pos ha i).1; have := (edge_pos hb j).1; omega
  have hii : edge a i = at' → i < 2 * a.length := fun e => by
    rcases Nat.lt_or_ge i (2 * a.length) with h1 | h1
    · exact h1
    · rw [edge_end h1] at e; omega
  have hjj : edge b j = at' → j < 2 * b.length := fun e => by
    rcases Nat.lt_or_ge j (2 * b.length) with h1 | h1
    · exact h1
    · rw [edge_end h1] at e; omega
  have hone : edge a i = at' ∨ edge b j = at' := by omega
  have h_i : i' ≤ 2 * a.length ∧ (i' = 0 ∨ edge a (i' - 1) ≤ at') ∧ at' < edge a i' := by
    by_cases e : edge a i = at'
    · rw [if_pos e] at hi'
      subst hi'
      have := edge_lt ha (hii e)
      exact ⟨hii e, .inr (by rw [Nat.add_sub_cancel]; omega), by omega⟩
    · rw [if_neg e] at hi'
      subst hi'
      exact ⟨h.hi, by have := h.pi; omega, by omega⟩
  have h_j : j' ≤ 2 * b.length ∧ (j' = 0 ∨ edge b (j' - 1) ≤ at') ∧ at' < edge b j' := by
    by_cases e : edge b j = at'
    · rw [if_pos e] at hj'
      subst hj'
      have := edge_lt hb (hjj e)
      exact ⟨hjj e, .inr (by rw [Nat.add_sub_cancel]; omega), by omega⟩
    · rw [if_neg e] at hj'
      subst hj'
      exact ⟨h.hj, by have := h.pj; omega, by omega⟩
  have hmid : ∀ n, p < n → n < at' → f (hasB a n) (hasB b n) = within := fun n h1 h2 => by
    have e1 := has_at (k := i) (n := n) ha h.hi (by have := h.pi; omega) (.inr (by omega))
    have e2 := has_at (k := j) (n := n) hb h.hj (by have := h.pj; omega) (.inr (by omega))
    rw [e1, e2, h.w]
  have hend : f (hasB a at') (hasB b at') = kept := by
    have e1 := has_at (k := i') (n := at') ha h_i.1 h_i.2.1 (.inr h_i.2.2)
    have e2 := has_at (k := j') (n := at') hb h_j.1 h_j.2.1 (.inr h_j.2.2)
    rw [e1, e2, hk]
  have hno : ∀ n, p ≤ n → hasB done n = false := fun n hn => has_false.2 fun r hr => by have := h.ends r hr; omega
  have hlen := h.len
  have hsum : i + j < i' + j' := by
    rcases hone with e | e
    · rw [if_pos e] at hi'
      have : j ≤ j' := by rw [hj']; split <;> omega
      omega
    · rw [if_pos e] at hj'
      have : i ≤ i' := by rw [hi']; split <;> omega
      omega
  refine ⟨hpos, hle, hsum, h_i.1, h_j.1, h_i.2.1, h_j.2.1, h_i.2.2, h_j.2.2, hk, ?_, ?_, ?_, ?_, ?_⟩
  · cases kept <;> cases hw : within <;> simp only [Bool.not_true, Bool.not_false, Bool.and_true, Bool.and_false, if_true, Bool.false_eq_true, if_false] <;> try exact h.right
    obtain ⟨s1, s2, s3⟩ := h.open_ hw
    exact h.right.snoc (fun q hq => s3 q hq) s1 (by show s ≤ at' - 1; omega) (by show at' - 1 ≤ _; omega)
  · intro r hr
    have hr' : r ∈ done ∨ r.2 = at' - 1 := by
      split at hr
      · rcases List.mem_append.1 hr with h1 | h1
        · exact .inl h1
        · rw [List.mem_singleton.1 h1]; exact .inr rfl
      · exact .inl hr
    rcases hr' with h1 | h1
    · have := h.ends r h1; omega
    · omega
  · intro hkt
    subst hkt
    cases hw : within with
    | true =>
      obtain ⟨s1, s2, s3⟩ := h.open_ hw
      simp only [Bool.not_true, Bool.and_false, Bool.false_and, Bool.false_eq_true, if_false]
      exact ⟨s1, by omega, s3⟩
    | false =>
      simp only [Bool.not_true, Bool.not_false, Bool.and_false, Bool.and_true, Bool.false_eq_true, if_false, if_true]
      exact ⟨hpos, Int.le_refl _, fun r hr => by have := h.ends r hr; omega⟩
  · intro n hn
    rcases (by omega : p < n ∨ n ≤ p) with h1 | h1
    · rcases (by omega : n < at' ∨ at' ≤ n) with h2 | h2
      · rw [hmid n h1 h2]
        have e0 := hno n (by omega)
        cases kept <;> cases hw : within
        · simp [e0]
        · obtain ⟨s1, s2, s3⟩ := h.open_ hw
          simp only [Bool.not_false, Bool.and_true, if_true, has_append, has_cons, has_nil, e0, Bool.false_or, Bool.or_false, Bool.false_and, decide_eq_true_eq]
          omega
        · have : ¬ at' ≤ n := by omega
          simp [e0, this]
        · obtain ⟨s1, s2, s3⟩ := h.open_ hw
          have : s ≤ n := by omega
          simp [e0, this]
      · have : n = at' := by omega
        subst this
        rw [hend]
        have e0 := hno n (by omega)
        cases kept <;> cases hw : within
        · simp [e0]
        · have e3 : decide (s ≤ n ∧ n ≤ n - 1) = false := by simp; omega
          simp only [Bool.not_false, Bool.and_true, if_true, has_append, has_cons, has_nil, e0, Bool.or_false, Bool.false_and, e3]
        · simp [e0]
        · obtain ⟨s1, s2, s3⟩ := h.open_ hw
          have : s ≤ n := by omega
          simp [e0, this]
    · have e := h.has n h1
      rw [← e]
      cases kept <;> cases hw : within
      · simp
      · have e3 : decide (s ≤ n ∧ n ≤ at' - 1) = decide (s ≤ n) := by
          congr 1
          exact propext ⟨fun h => h.1, fun h => ⟨h, by omega⟩⟩
        simp only [Bool.not_false, Bool.and_true, Bool.true_and, if_true, has_append, has_cons, has_nil, Bool.or_false, Bool.false_and, e3]
      · have : ¬ at' ≤ n := by omega
        simp [this]
      · simp
  · cases kept <;> cases hw : within <;> simp only [hw, Bool.not_true, Bool.not_false, Bool.and_true, Bool.and_false, if_true, Bool.false_eq_true, if_false, List.length_append, List.length_singleton] at hlen ⊢ <;> omega
end Sp
end Go.Proofs.Ytcbclefemcmhpaa
namespace Go.Proofs.Ytcbclefemcmhpaa
open Go.ChangeShapes Go.WideShapes Go.ChangeAt Go.RowKit
namespace Sp
/-- a run's cells -/
def runC (r : Int × Int) : List Value := [.int .i64 r.1, .int .i64 r.2]
def runsC (l : List (Int × Int)) : List Value := l.flatMap runC
theorem runsC_append (a b : List (Int × Int)) : runsC (a ++ b) = runsC a ++ runsC b := by simp [runsC]
theorem runsC_len (l : List (Int × Int)) : (runsC l).length = l.length * 2 := flatMap_len (f := runC) (fun _ => rfl) l
theorem runsC_one (l : List (Int × Int)) : ∀ u ∈ runsC l, u.oneCell' = true := by
  intro u hu
  obtain ⟨r, _, hu⟩ := List.mem_flatMap.1 hu
  simp [runC] at hu
  rcases hu with rfl | rfl <;> rfl
theorem runsC_at (l : List (Int × Int)) (k : Nat) (h : k < l.length) : (runsC l)[k * 2]? = some (.int .i64 l[k].1) ∧ (runsC l)[k * 2 + 1]? = some (.int .i64 l[k].2) := by
  unfold runsC
  induction l generalizing k with
  | nil => simp at h
  | cons d l ih =>
    cases k with
    | zero => simp [runC]
    | succ k =>
      have := ih k (by simpa using h)
      rw [List.flatMap_cons, show (k + 1) * 2 = (k * 2 + 1) + 1 from by omega]
      simp only [runC, List.cons_append, List.nil_append, List.getElem?_cons_succ, List.getElem_cons_succ]
      exact this
/-- cells of whole numbers -/
def intsC (l : List Int) : List Value := l.map fun x => Value.int .i64 x
theorem intsC_len (l : List Int) : (intsC l).length = l.length * 1 := by simp [intsC]
theorem intsC_one (l : List Int) : ∀ u ∈ intsC l, u.oneCell' = true := by
  intro u hu
  obtain ⟨r, _, rfl⟩ := List.mem_map.1 hu
  rfl
theorem intsC_at (l : List Int) (k : Nat) (h : k < l.length) : (intsC l)[k]? = some (.int .i64 l[k]) := by
  simp [intsC, h]
theorem intsC_append (a b : List Int) : intsC (a ++ b) = intsC a ++ intsC b := by simp [intsC]
theorem ints_flat : ∀ l : List Int, intsC l = l.flatMap fun b : Int => [Value.int .i64 b]
  | [] => rfl
  | b :: l => by
    have := ints_flat l
    unfold intsC at this ⊢
    rw [List.map_cons, List.flatMap_cons, this]; rfl
/-- the two cells of a run that a slice tells -/
theorem rd_run {w : World} {B n c : Nat} {A : Option Addr} {l : List (Int × Int)} (h : Rd w B 2 A n c (runsC l)) (hl : l.length = n) {k : Nat} (hk : k < n) :
    ∃ b o, A = some ⟨b, o, none⟩ ∧ b < B ∧ ∀ (k : Nat) (hk : k < l.length), w.cell? ⟨b, o + k * 2, none⟩ = some (.int .i64 l[k].1) ∧ w.cell? ⟨b, o + k * 2 + 1, none⟩ = some (.int .i64 l[k].2) := by
  obtain ⟨b, o, e, hb, hc⟩ := h.at_ (by omega)
  refine ⟨b, o, e, hb, fun k hk => ?_⟩
  obtain ⟨q0, q1⟩ := runsC_at l k hk
  exact ⟨hc _ _ q0, by rw [Nat.add_assoc]; exact hc _ _ q1⟩
theorem rd_int {w : World} {B n c : Nat} {A : Option Addr} {l : List Int} (h : Rd w B 1 A n c (intsC l)) (_ : l.length = n) {k : Nat} (hk : k < n) :
    ∃ b o, A = some ⟨b, o, none⟩ ∧ b < B ∧ ∀ (k : Nat) (hk : k < l.length), w.cell? ⟨b, o + k, none⟩ = some (.int .i64 l[k]) := by
  obtain ⟨b, o, e, hb, hc⟩ := h.at_ (by omega)
  exact ⟨b, o, e, hb, fun k hk => hc _ _ (intsC_at l k hk)⟩
theorem info_of {t sz by_ : Nat} {z : Value} (h : (Try.prog.info? t).map (fun i => (i.zero, i.size, i.bytes)) = some (some z, sz, by_)) : ∃ i, Try.prog.info? t = some i ∧ i.zero = some z ∧ i.size = sz ∧ i.bytes = by_ := by
  cases hi : Try.prog.info? t with
  | none => rw [hi] at h; cases h
  | some i =>
    rw [hi] at h
    simp only [Option.map_some, Option.some.injEq, Prod.mk.injEq] at h
    exact ⟨i, rfl, h.1, h.2.1, h.2.2⟩
theorem infoI : (Try.prog.info? 2).map (fun i => (i.zero, i.size, i.bytes)) = some (some (.int .i64 0), 1, 8) := by kernel_rfl
/-- append of what a new row holds -/
theorem run_push {t e sz by_ : Nat} {z : Value} (ht : Try.prog.underlying t = some (.slice e)) (hi : (Try.prog.info? e).map (fun i => (i.zero, i.size, i.bytes)) = some (some z, sz, by_)) (hzs : z.cells.size = sz) (hsz : 0 < sz) (hby : by_ ≤ 1000000)
    (W : World) (base q : Nat) (hq : W.heap.size = q) (hb : base ≤ W.heap.size) (v : Value) (n : Nat) (xs : List Value) (hown : W.ownsRow base e sz v n xs) (news : List Value) (m : Nat) (hm : news.length = m * sz) (h1 : ∀ u ∈ news, u.oneCell' = true) (hn : n + m ≤ 1000000) :
    ∃ v' w', (Builtin.append_ #[t, t] t #[v, .slice (some ⟨q, 0, none⟩) m m]).run Try.prog (W.alloc (.cells news.toArray e)) = .ok v' w' ∧
      w'.ownsRow base e sz v' (n + m) (xs ++ news) ∧ Below base W w' := by
  subst hq
  obtain ⟨i0, hi0, hz0, hz1, hz2⟩ := info_of hi
  obtain ⟨v', w', h1, h2, h3, h4⟩ := run_app (P := Try.prog) (W.alloc (.cells news.toArray e)) base t t e i0 z sz by_ ht hi0 hz0 hz1 hz2 hzs hsz
    (hown.alloc _) (B := W.heap.size + 1) (A := some ⟨W.heap.size, 0, none⟩) (m := m) (c := m) (news := news)
    ⟨hm, by omega, h1, fun _ => ⟨_, _, rfl, by omega, fun j u hu => by
      rw [Nat.zero_add, cell_of_row _ _ j _ _ (0, 0) (heap_alloc_new _ _)]
      simpa using hu⟩⟩ hn hby (by simp; omega)
  exact ⟨v', w', h1, h2, ((Below.refl base W).alloc hb _).grown h3 (by simp; omega) (fun k hk => (hown.lt k hk).1)⟩
/-- append of one run -/
theorem push_run {t e : Nat} (ht : Try.prog.underlying t = some (.slice e)) (hi : (Try.prog.info? e).map (fun i => (i.zero, i.size, i.bytes)) = some (some (.agg #[.int .i64 0, .int .i64 0]), 2, 16))
    (W : World) (base q : Nat) (hq : W.heap.size = q) (hb : base ≤ W.heap.size) (v : Value) (l : List (Int × Int)) (hown : W.ownsRow base e 2 v l.length (runsC l)) (x y : Int) (hn : l.length ≤ 900000) :
    ∃ A' c' w', (Builtin.append_ #[t, t] t #[v, .slice (some ⟨q, 0, none⟩) 1 1]).run Try.prog (W.alloc (.cells #[.int .i64 x, .int .i64 y] e)) = .ok (.slice A' (l ++ [(x, y)]).length c') w' ∧
      Own w' base e 2 A' (l ++ [(x, y)]).length c' (runsC (l ++ [(x, y)])) ∧ Below base W w' := by
  obtain ⟨v', w', h1, h2, h3⟩ := run_push ht hi rfl (by omega) (by omega) W base q hq hb v l.length (runsC l) hown [.int .i64 x, .int .i64 y] 1 rfl (by intro u hu; simp at hu; rcases hu with rfl | rfl <;> rfl) (by omega)
  have e1 : runsC (l ++ [(x, y)]) = runsC l ++ [.int .i64 x, .int .i64 y] := by rw [runsC_append]; rfl
  have e2 : (l ++ [(x, y)]).length = l.length + 1 := by simp
  rw [← e1, ← e2] at h2
  obtain ⟨A', c', rfl, ho⟩ := Own.of_row h2 (runsC_one _)
  exact ⟨A', c', w', h1, ho, h3⟩
/-- a cell of a row of the call's own is written -/
theorem ownsRow_set {w : World} {base e sz n cap g : Nat} {xs : List Value} (h : w.ownsRow base e sz (.slice (some ⟨g, 0, none⟩) n cap) n xs) (i : Nat) (u : Value) : (w.setCell ⟨g, i, none⟩ u).ownsRow base e sz (.slice (some ⟨g, 0, none⟩) n cap) n (xs.set i u) := by
  obtain ⟨h1, h2⟩ := h
  refine ⟨by rw [List.length_set]; exact h1, ?_⟩
  rcases h2 with ⟨h2, _⟩ | ⟨g', cap', cur, hv, hg, hh, hn, hm, hs, hx⟩
  · cases h2
  · injection hv with e1 e2 e3
    injection e1 with e1
    injection e1 with e1
    subst e1; subst e3
    refine .inr ⟨g, cap, cur.setIfInBounds i u, rfl, hg, heap_setCell_same w g i cur e u hh, hn, hm, by simpa using hs, ?_⟩
    rw [← hx]
    simp [List.take_set]
/-- where a row of the call's own lies -/
theorem Own.place {w : World} {base e sz n c : Nat} {A : Option Addr} {xs : List Value} (h : Own w base e sz A n c xs) (hn : 0 < n) : ∃ g, A = some ⟨g, 0, none⟩ ∧ base ≤ g ∧ g < w.heap.size ∧ (∀ j, w.frozen? ⟨g, j, none⟩ = false) ∧ ∀ j u, xs[j]? = some u → w.cell? ⟨g, j, none⟩ = some u := by
  rcases h.row.2 with ⟨_, h0⟩ | ⟨g, cap, cur, hv, hg, hh, _⟩
  · omega
  · injection hv with e1 e2 e3
    subst e1
    obtain ⟨b, o, e4, hb, hc⟩ := h.rd.at_ hn
    injection e4 with e4
    injection e4 with e4 e5
    subst e4; subst e5
    exact ⟨g, rfl, hg, hb, fun j => by simp [World.frozen?, hh], fun j u hu => by have := hc j u hu; rwa [Nat.zero_add] at this⟩
theorem own_later {w w' : World} {base e sz n c : Nat} {A : Option Addr} {xs : List Value} (h : Own w base e sz A n c xs) (hb : Below w.heap.size w w') : Own w' base e sz A n c xs := ⟨ownsRow_later h.row hb, h.one⟩
/-- the last run's end is written -/
theorem own_close {w : World} {base e n c g : Nat} {done : List (Int × Int)} {s t t' : Int} (h : Own w base e 2 (some ⟨g, 0, none⟩) n c (runsC (done ++ [(s, t)]))) : Own (w.setCell ⟨g, done.length * 2 + 1, none⟩ (.int .i64 t')) base e 2 (some ⟨g, 0, none⟩) n c (runsC (done ++ [(s, t')])) := by
  have e1 : (runsC (done ++ [(s, t)])).set (done.length * 2 + 1) (.int .i64 t') = runsC (done ++ [(s, t')]) := by
    have e2 : ¬ done.length * 2 + 1 < (runsC done).length := by rw [runsC_len]; omega
    rw [runsC_append, runsC_append, List.set_append, if_neg e2, runsC_len, Nat.add_sub_cancel_left]
    rfl
  refine ⟨?_, runsC_one _⟩
  rw [← e1]
  exact ownsRow_set h.row _ _
theorem wf_i64 {n : Int} (h : (Lit.int .i64 n).wf = true) : -9223372036854775808 ≤ n ∧ n ≤ 9223372036854775807 := by
  have e1 : IntKind.i64.min = -9223372036854775808 := by decide
  have e2 : IntKind.i64.max = 9223372036854775807 := by decide
  simp [Lit.wf, e1, e2] at h
  exact h
end Sp
end Go.Proofs.Ytcbclefemcmhpaa
namespace Go.Proofs.Ytcbclefemcmhpaa
open Go.ChangeShapes Go.WideShapes Go.ChangeAt Go.RowKit
namespace Rw
open Sp
section
variable {α : Type} {f : α → List Value} {k : Nat}
theorem flat_at (hf : ∀ a, (f a).length = k) : ∀ (l : List α) (i j : Nat) (hi : i < l.length), j < k → (l.flatMap f)[i * k + j]? = (f l[i])[j]?
  | [], i, _, hi, _ => by simp at hi
  | a :: l, 0, j, _, hj => by
    rw [List.flatMap_cons, Nat.zero_mul, Nat.zero_add, List.getElem?_append_left (by rw [hf]; exact hj)]
    rfl
  | a :: l, i + 1, j, hi, hj => by
    have ih := flat_at hf l i j (by simpa using hi) hj
    have e : (i + 1) * k + j = k + (i * k + j) := by rw [Nat.succ_mul]; omega
    rw [List.flatMap_cons, e, List.getElem?_append_right (by rw [hf]; omega), hf, Nat.add_sub_cancel_left, ih]
    rfl
/-- the cells of an element that a slice tells -/
theorem rd_elem (hf : ∀ a, (f a).length = k) {w : World} {B n c : Nat} {A : Option Addr} {l : List α} (h : Rd w B k A n c (l.flatMap f)) {m : Nat} (hm : m < n) :
    ∃ b o, A = some ⟨b, o, none⟩ ∧ b < B ∧ ∀ (i : Nat) (hi : i < l.length) (j : Nat) (u : Value), (f l[i])[j]? = some u → w.cell? ⟨b, o + i * k + j, none⟩ = some u := by
  obtain ⟨b, o, e, hb, hc⟩ := h.at_ (by omega)
  refine ⟨b, o, e, hb, fun i hi j u hu => ?_⟩
  have hj : j < k := by
    have := (List.getElem?_eq_some_iff.1 hu).1
    rwa [hf] at this
  rw [Nat.add_assoc]
  exact hc _ _ ((flat_at hf l i j hi hj).trans hu)
/-- append of one element that the call has just laid -/
theorem push (hf : ∀ a, (f a).length = k) (h1 : ∀ a, ∀ u ∈ f a, u.oneCell' = true) {t e by_ : Nat} {z : Value} (ht : Try.prog.underlying t = some (.slice e)) (hi : (Try.prog.info? e).map (fun i => (i.zero, i.size, i.bytes)) = some (some z, k, by_)) (hzs : z.cells.size = k) (hk : 0 < k) (hby : by_ ≤ 1000000)
    (W : World) (base q : Nat) (hq : W.heap.size = q) (hb : base ≤ W.heap.size) (v : Value) (l : List α) (hown : W.ownsRow base e k v l.length (l.flatMap f)) (a : α) (cs : Array Value) (hcs : cs = (f a).toArray) (hn : l.length ≤ 900000) :
    ∃ A' c' w', (Builtin.append_ #[t, t] t #[v, .slice (some ⟨q, 0, none⟩) 1 1]).run Try.prog (W.alloc (.cells cs e)) = .ok (.slice A' (l ++ [a]).length c') w' ∧
      Own w' base e k A' (l ++ [a]).length c' ((l ++ [a]).flatMap f) ∧ Below base W w' := by
  subst hcs
  obtain ⟨v', w', r1, r2, r3⟩ := run_push ht hi hzs hk hby W base q hq hb v l.length (l.flatMap f) hown (f a) 1 (by rw [hf, Nat.one_mul]) (h1 a) (by omega)
  have e1 : (l ++ [a]).flatMap f = l.flatMap f ++ f a := by simp
  have e2 : (l ++ [a]).length = l.length + 1 := by simp
  rw [← e1, ← e2] at r2
  obtain ⟨A', c', rfl, ho⟩ := Own.of_row r2 (fun u hu => by
    obtain ⟨b, _, hu⟩ := List.mem_flatMap.1 hu
    exact h1 b u hu)
  exact ⟨A', c', w', r1, ho, r3⟩
end
/-- an int, an int64, an int64: a span's cells -/
def spC (s : Int × Int × Int) : List Value := [.int .i64 s.1, .int .i64 s.2.1, .int .i64 s.2.2]
theorem spC_len (s : Int × Int × Int) : (spC s).length = 3 := rfl
theorem spC_one (s : Int × Int × Int) : ∀ u ∈ spC s, u.oneCell' = true := by
  intro u hu
  simp [spC] at hu
  rcases hu with rfl | rfl | rfl <;> rfl
def spsC (l : List (Int × Int × Int)) : List Value := l.flatMap spC
theorem rd_span {w : World} {B n c : Nat} {A : Option Addr} {l : List (Int × Int × Int)} (h : Rd w B 3 A n c (spsC l)) {m : Nat} (hm : m < n) :
    ∃ b o, A = some ⟨b, o, none⟩ ∧ b < B ∧ ∀ (i : Nat) (hi : i < l.length), w.cell? ⟨b, o + i * 3, none⟩ = some (.int .i64 l[i].1) ∧ w.cell? ⟨b, o + i * 3 + 1, none⟩ = some (.int .i64 l[i].2.1) ∧ w.cell? ⟨b, o + i * 3 + 2, none⟩ = some (.int .i64 l[i].2.2) := by
  obtain ⟨b, o, e, hb, hc⟩ := rd_elem spC_len h hm
  exact ⟨b, o, e, hb, fun i hi => ⟨hc i hi 0 _ rfl, hc i hi 1 _ rfl, hc i hi 2 _ rfl⟩⟩
end Rw
end Go.Proofs.Ytcbclefemcmhpaa
namespace Go.Proofs.Ytcbclefemcmhpaa
open Go.ChangeShapes Go.WideShapes Go.ChangeAt Go.RowKit
namespace Rw
open Sp
/-- a slice value's parts -/
structure SV where
  A : Option Addr
  n : Nat
  c : Nat
def SV.val (s : SV) : Value := .slice s.A s.n s.c
def sv0 : SV := ⟨none, 0, 0⟩
def upd {α : Type} (f : Nat → α) (d : Nat) (x : α) (i : Nat) : α := if i = d then x else f i
theorem upd_same {α : Type} (f : Nat → α) (d : Nat) (x : α) : upd f d x d = x := by simp [upd]
theorem upd_other {α : Type} (f : Nat → α) {d i : Nat} (x : α) (h : i ≠ d) : upd f d x i = f i := by simp [upd, h]
/-- the four slices at block g read as q tells; each its own row -/
structure Rows4 (W : World) (base e sz g : Nat) (s : Nat → SV) (q : Nat → List Value) : Prop where
  low : g < base
  high : base ≤ W.heap.size
  free : Free g W
  cell : ∀ d, d < 4 → W.cell? ⟨g, d, none⟩ = some (.slice (s d).A (s d).n (s d).c)
  own : ∀ d, d < 4 → Own W base e sz (s d).A (s d).n (s d).c (q d)
  apart : ∀ d d', d < 4 → d' < 4 → d ≠ d' → ∀ b, (s d).val.ownBlock = some b → (s d').val.ownBlock ≠ some b
namespace Rows4
variable {W : World} {base e sz g : Nat} {s : Nat → SV} {q : Nat → List Value}
theorem later {W' : World} (h : Rows4 W base e sz g s q) (hb : Below W.heap.size W W') : Rows4 W' base e sz g s q :=
  ⟨h.low, Nat.le_trans h.high hb.size, h.free.later hb, fun d hd => (hb.cell (p := ⟨g, d, none⟩) h.free.1).trans (h.cell d hd), fun d hd => own_later (h.own d hd) hb, h.apart⟩
theorem nil {W : World} {base e sz g : Nat} (low : g < base) (high : base ≤ W.heap.size) (free : Free g W) (c : ∀ d, d < 4 → W.cell? ⟨g, d, none⟩ = some (.slice none 0 0)) : Rows4 W base e sz g (fun _ => sv0) (fun _ => []) :=
  ⟨low, high, free, c, fun _ _ => ⟨World.ownsRow_nil _ _ _ _, by simp⟩, fun _ _ _ _ _ b h => by simp [sv0, SV.val, Value.ownBlock] at h⟩
theorem lt (h : Rows4 W base e sz g s q) {d b : Nat} (hd : d < 4) (hb : (s d).val.ownBlock = some b) : base ≤ b ∧ b < W.heap.size := (h.own d hd).row.lt b hb
theorem rd (h : Rows4 W base e sz g s q) {d : Nat} (hd : d < 4) : Rd W W.heap.size sz (s d).A (s d).n (s d).c (q d) := (h.own d hd).rd
/-- one element is appended to the d-th -/
theorem push {t by_ : Nat} {z : Value} (ht : Try.prog.underlying t = some (.slice e)) (hi : (Try.prog.info? e).map (fun i => (i.zero, i.size, i.bytes)) = some (some z, sz, by_)) (hzs : z.cells.size = sz) (hsz : 0 < sz) (hby : by_ ≤ 1000000)
    (h : Rows4 W base e sz g s q) {d : Nat} (hd : d < 4) (p : Nat) (hp : W.heap.size = p) (news : List Value) (hm : news.length = 1 * sz) (h1 : ∀ u ∈ news, u.oneCell' = true) (hn : (s d).n ≤ 900000) :
    ∃ A' c' w', (Builtin.append_ #[t, t] t #[.slice (s d).A (s d).n (s d).c, .slice (some ⟨p, 0, none⟩) 1 1]).run Try.prog (W.alloc (.cells news.toArray e)) = .ok (.slice A' ((s d).n + 1) c') w' ∧
      (∀ b, (s d).val.ownBlock ≠ some b → b < W.heap.size → ∀ j, w'.cell? ⟨b, j, none⟩ = W.cell? ⟨b, j, none⟩) ∧ Free g w' ∧ Below base W w' ∧
      Rows4 (w'.setCell ⟨g, d, none⟩ (.slice A' ((s d).n + 1) c')) base e sz g (upd s d ⟨A', (s d).n + 1, c'⟩) (upd q d (q d ++ news)) := by
  subst hp
  obtain ⟨i0, hi0, hz0, hz1, hz2⟩ := info_of hi
  have hown := (h.own d hd).row
  obtain ⟨v', w', r1, r2, r3, r4⟩ := run_app (P := Try.prog) (W.alloc (.cells news.toArray e)) base t t e i0 z sz by_ ht hi0 hz0 hz1 hz2 hzs hsz
    (hown.alloc _) (B := W.heap.size + 1) (A := some ⟨W.heap.size, 0, none⟩) (m := 1) (c := 1) (news := news)
    ⟨hm, by omega, h1, fun _ => ⟨_, _, rfl, by omega, fun j u hu => by
      rw [Nat.zero_add, cell_of_row _ _ j _ _ (0, 0) (heap_alloc_new _ _)]
      simpa using hu⟩⟩ (by omega) hby (by have := h.high; simp; omega)
  obtain ⟨A', c', rfl, ho⟩ := Own.of_row r2 (fun u hu => by
    rcases List.mem_append.1 hu with hu | hu
    · exact (h.own d hd).one u hu
    · exact h1 u hu)
  have hblk : ∀ b, (s d).val.ownBlock ≠ some b → b < W.heap.size → w'.heap[b]? = W.heap[b]? := fun b hb hlt =>
    (r3.block b (by simp; omega) (fun e => hb e.symm)).trans (heap_alloc_old W _ hlt)
  have hsize : W.heap.size ≤ w'.heap.size := by have := r3.size; simp at this; omega
  have hgd : ∀ d', d' < 4 → (s d').val.ownBlock ≠ some g := fun d' hd' hb => by have := (h.lt hd' hb).1; have := h.low; omega
  have hfree : Free g w' := ⟨Nat.lt_of_lt_of_le h.free.1 hsize, fun j => (World.frozen?_of_block (a := ⟨g, j, none⟩) (hblk g (hgd d hd) h.free.1)).trans (h.free.2 j)⟩
  have hbel : Below base W w' := ((Below.refl base W).alloc h.high _).grown r3 (by have := h.high; simp; omega) (fun k hk => (h.lt hd hk).1)
  have hnewb : ∀ b, (SV.val ⟨A', (s d).n + 1, c'⟩).ownBlock = some b → b = W.heap.size + 1 ∨ (s d).val.ownBlock = some b := fun b hb => by
    rcases r4 with r4 | r4
    · exact .inr (r4.symm.trans hb)
    · have : some b = some (W.alloc (.cells news.toArray e)).heap.size := hb.symm.trans r4
      injection this with this
      simp at this
      exact .inl this
  refine ⟨A', c', w', r1, fun b hb hlt j => World.cell?_of_block (a := ⟨b, j, none⟩) (hblk b hb hlt), hfree, hbel, ⟨h.low, by have := h.high; simpa [World.setCell] using Nat.le_trans this hsize, hfree.set _ _, ?_, ?_, ?_⟩⟩
  · intro d' hd'
    by_cases he : d' = d
    · subst he
      rw [upd_same]
      have k0 : w'.cell? ⟨g, d', none⟩ = some (.slice (s d').A (s d').n (s d').c) := (World.cell?_of_block (a := ⟨g, d', none⟩) (hblk g (hgd d' hd) h.free.1)).trans (h.cell d' hd)
      have m0 := hfree.2 d'
      go_simp
    · rw [upd_other _ _ he]
      rw [World.cell?_setCell_other w' ⟨g, d, none⟩ ⟨g, d', none⟩ _ (fun e => by injection e with _ e; exact he e.symm)]
      exact (World.cell?_of_block (a := ⟨g, d', none⟩) (hblk g (hgd d hd) h.free.1)).trans (h.cell d' hd')
  · intro d' hd'
    by_cases he : d' = d
    · subst he
      rw [upd_same, upd_same]
      exact ho.set_below (a := ⟨g, d', none⟩) h.low _
    · rw [upd_other _ _ he, upd_other _ _ he]
      refine Own.set_below ⟨?_, (h.own d' hd').one⟩ (a := ⟨g, d, none⟩) h.low _
      refine ((h.own d' hd').row.alloc _).kept r3 ?_
      cases hv : (s d').val.ownBlock with
      | none => exact .inl hv
      | some b => exact .inr (fun e => h.apart d' d hd' hd he b hv (e.symm.trans hv))
  · intro d1 d2 h1 h2 hne b hb
    by_cases e1 : d1 = d
    · subst e1
      rw [upd_same] at hb
      rw [upd_other _ _ (Ne.symm hne)]
      intro hb2
      rcases hnewb b hb with hb' | hb'
      · have := (h.lt h2 hb2).2; omega
      · exact h.apart d1 d2 h1 h2 hne b hb' hb2
    · rw [upd_other _ _ e1] at hb
      by_cases e2 : d2 = d
      · subst e2
        rw [upd_same]
        intro hb2
        rcases hnewb b hb2 with hb' | hb'
        · have := (h.lt h1 hb).2; omega
        · exact h.apart d1 d2 h1 h2 hne b hb hb'
      · rw [upd_other _ _ e2]
        exact h.apart d1 d2 h1 h2 hne b hb
end Rows4
end Rw
end Go.Proofs.Ytcbclefemcmhpaa
namespace Go.Proofs.Ytcbclefemcmhpaa
open Go.ChangeShapes Go.WideShapes Go.ChangeAt Go.RowKit
namespace Tr
open Rw
/-- an entry's cells -/
def entC (e : E) : List Value := [.int .i64 e.a, .int .i64 e.n, .string e.s, .int .i64 e.v]
theorem entC_len (e : E) : (entC e).length = 4 := rfl
theorem entC_one (e : E) : ∀ u ∈ entC e, u.oneCell' = true := by
  intro u hu
  simp [entC] at hu
  rcases hu with rfl | rfl | rfl | rfl <;> rfl
def entsC (l : List E) : List Value := l.flatMap entC
theorem at_lt {ks : List (ByteArray × T)} {i : Nat} (h : i < ks.length) (es : List E) : SizeOf.sizeOf (ks[i]).2 < SizeOf.sizeOf (T.mk es ks) := kid_lt (List.getElem_mem h)
/-- the two slices read as the tree, all below block B -/
def RdT (w : World) (B : Nat) : T → SV → SV → Prop
  | .mk es ks, se, sk => es.length = se.n ∧ Rd w B 4 se.A se.n se.c (entsC es) ∧ ks.length = sk.n ∧ ∃ xs : List Value, Rd w B 3 sk.A sk.n sk.c xs ∧
      ∀ (i : Nat) (h : i < ks.length), ∃ se' sk' : SV, xs[i * 3]? = some (.string (ks[i]).1) ∧ xs[i * 3 + 1]? = some (.slice se'.A se'.n se'.c) ∧ xs[i * 3 + 2]? = some (.slice sk'.A sk'.n sk'.c) ∧ RdT w B (ks[i]).2 se' sk'
termination_by t => SizeOf.sizeOf t
decreasing_by exact at_lt h es
theorem rdT_mk (w : World) (B : Nat) (es : List E) (ks : List (ByteArray × T)) (se sk : SV) : RdT w B (.mk es ks) se sk ↔ (es.length = se.n ∧ Rd w B 4 se.A se.n se.c (entsC es) ∧ ks.length = sk.n ∧ ∃ xs : List Value, Rd w B 3 sk.A sk.n sk.c xs ∧
      ∀ (i : Nat) (h : i < ks.length), ∃ se' sk' : SV, xs[i * 3]? = some (.string (ks[i]).1) ∧ xs[i * 3 + 1]? = some (.slice se'.A se'.n se'.c) ∧ xs[i * 3 + 2]? = some (.slice sk'.A sk'.n sk'.c) ∧ RdT w B (ks[i]).2 se' sk') := by
  rw [RdT]
theorem RdT.keep {w w' : World} {B : Nat} (hk : ∀ p : Addr, p.block < B → w'.cell? p = w.cell? p) : ∀ (t : T) {se sk : SV}, RdT w B t se sk → RdT w' B t se sk := by
  intro t
  induction t using T.ind with
  | h es ks ih =>
    intro se sk h
    rw [rdT_mk] at h ⊢
    obtain ⟨h1, h2, h3, xs, h4, h5⟩ := h
    refine ⟨h1, h2.keep hk, h3, xs, h4.keep hk, fun i hi => ?_⟩
    obtain ⟨se', sk', e1, e2, e3, e4⟩ := h5 i hi
    exact ⟨se', sk', e1, e2, e3, ih _ (List.getElem_mem hi) e4⟩
theorem RdT.more {w : World} {B B' : Nat} (hB : B ≤ B') : ∀ (t : T) {se sk : SV}, RdT w B t se sk → RdT w B' t se sk := by
  intro t
  induction t using T.ind with
  | h es ks ih =>
    intro se sk h
    rw [rdT_mk] at h ⊢
    obtain ⟨h1, h2, h3, xs, h4, h5⟩ := h
    refine ⟨h1, h2.more hB, h3, xs, h4.more hB, fun i hi => ?_⟩
    obtain ⟨se', sk', e1, e2, e3, e4⟩ := h5 i hi
    exact ⟨se', sk', e1, e2, e3, ih _ (List.getElem_mem hi) e4⟩
theorem RdT.below {w w' : World} {B : Nat} {t : T} {se sk : SV} (h : RdT w B t se sk) (hb : Below B w w') : RdT w' B t se sk := RdT.keep (fun _ hp => hb.cell hp) t h
theorem RdT.later {w w' : World} {t : T} {se sk : SV} (h : RdT w w.heap.size t se sk) (hb : Below w.heap.size w w') : RdT w' w'.heap.size t se sk := RdT.more hb.size t (h.below hb)
theorem RdT.none (w : World) (B c c' : Nat) : RdT w B none_ ⟨none, 0, c⟩ ⟨none, 0, c'⟩ := by
  unfold none_
  rw [rdT_mk]
  exact ⟨rfl, Rd.nil _, rfl, [], Rd.nil _, fun i hi => by simp at hi⟩
/-- the cells of an entry, of a kid -/
theorem rd_ent {w : World} {B : Nat} {es : List E} {ks : List (ByteArray × T)} {Ae Ak : Option Addr} {ne nk ce ck : Nat} (h : RdT w B (.mk es ks) ⟨Ae, ne, ce⟩ ⟨Ak, nk, ck⟩) (hn : 0 < ne) :
    ∃ b o, Ae = some ⟨b, o, none⟩ ∧ b < B ∧ ∀ (i : Nat) (hi : i < es.length), w.cell? ⟨b, o + i * 4, none⟩ = some (.int .i64 es[i].a) ∧ w.cell? ⟨b, o + i * 4 + 1, none⟩ = some (.int .i64 es[i].n) ∧ w.cell? ⟨b, o + i * 4 + 2, none⟩ = some (.string es[i].s) ∧ w.cell? ⟨b, o + i * 4 + 3, none⟩ = some (.int .i64 es[i].v) := by
  rw [rdT_mk] at h
  obtain ⟨b, o, e, hb, hc⟩ := rd_elem entC_len h.2.1 hn
  exact ⟨b, o, e, hb, fun i hi => ⟨hc i hi 0 _ rfl, hc i hi 1 _ rfl, hc i hi 2 _ rfl, hc i hi 3 _ rfl⟩⟩
theorem rd_kid {w : World} {B : Nat} {es : List E} {ks : List (ByteArray × T)} {Ae Ak : Option Addr} {ne nk ce ck : Nat} (h : RdT w B (.mk es ks) ⟨Ae, ne, ce⟩ ⟨Ak, nk, ck⟩) (hn : 0 < nk) :
    ∃ b o, Ak = some ⟨b, o, none⟩ ∧ b < B ∧ ∀ (i : Nat) (hi : i < ks.length), ∃ se' sk' : SV, w.cell? ⟨b, o + i * 3, none⟩ = some (.string (ks[i]).1) ∧ w.cell? ⟨b, o + i * 3 + 1, none⟩ = some (.slice se'.A se'.n se'.c) ∧ w.cell? ⟨b, o + i * 3 + 2, none⟩ = some (.slice sk'.A sk'.n sk'.c) ∧ RdT w B (ks[i]).2 se' sk' := by
  rw [rdT_mk] at h
  obtain ⟨_, _, _, xs, h4, h5⟩ := h
  obtain ⟨b, o, e, hb, hc⟩ := h4.at_ hn
  refine ⟨b, o, e, hb, fun i hi => ?_⟩
  obtain ⟨se', sk', e1, e2, e3, e4⟩ := h5 i hi
  refine ⟨se', sk', hc _ _ e1, ?_, ?_, e4⟩
  · rw [Nat.add_assoc]; exact hc _ _ e2
  · rw [Nat.add_assoc]; exact hc _ _ e3
theorem rd_lens {w : World} {B : Nat} {es : List E} {ks : List (ByteArray × T)} {Ae Ak : Option Addr} {ne nk ce ck : Nat} (h : RdT w B (.mk es ks) ⟨Ae, ne, ce⟩ ⟨Ak, nk, ck⟩) : es.length = ne ∧ ks.length = nk := by
  rw [rdT_mk] at h
  exact ⟨h.1, h.2.2.1⟩
/-- a sum over the first k -/
def ksum (f : ByteArray × T → Nat) (ks : List (ByteArray × T)) (k : Nat) : Nat := ((ks.take k).map f).sum
theorem ksum_zero (f : ByteArray × T → Nat) (ks : List (ByteArray × T)) : ksum f ks 0 = 0 := rfl
theorem ksum_succ (f : ByteArray × T → Nat) {ks : List (ByteArray × T)} {k : Nat} (h : k < ks.length) : ksum f ks (k + 1) = ksum f ks k + f ks[k] := by
  unfold ksum
  rw [List.take_succ_eq_append_getElem h]
  simp only [List.map_append, List.sum_append, List.map_cons, List.map_nil, List.sum_cons, List.sum_nil, Nat.add_zero]
theorem ksum_all (f : ByteArray × T → Nat) {ks : List (ByteArray × T)} {n : Nat} (h : ks.length = n) : ksum f ks n = (ks.map f).sum := by
  unfold ksum
  rw [List.take_of_length_le (by omega)]
theorem ksum_le (f : ByteArray × T → Nat) (ks : List (ByteArray × T)) (k : Nat) : ksum f ks k ≤ (ks.map f).sum := by
  unfold ksum
  conv => rhs; rw [← List.take_append_drop k ks]
  rw [List.map_append, List.sum_append]
  omega
end Tr
end Go.Proofs.Ytcbclefemcmhpaa
namespace Go.Proofs.Ytcbclefemcmhpaa
open Go.ChangeShapes Go.WideShapes Go.ChangeAt Go.RowKit
namespace Dt
theorem nan_int (a : Int) (w : World) : Calls Try.prog 65 #[.int .i64 a] w fun e w' => e = .returned (.bool false) ∧ w = w' := by
  have f1 : (a != a) = false := by simp
  go_enter Try.func65, Try.ntmps65
  go_wp2
  go_ret
  exact ⟨rfl, rfl⟩
theorem nan_int64 (a : Int) (w : World) : Calls Try.prog 66 #[.int .i64 a] w fun e w' => e = .returned (.bool false) ∧ w = w' := by
  have f1 : (a != a) = false := by simp
  go_enter Try.func66, Try.ntmps66
  go_wp2
  go_ret
  exact ⟨rfl, rfl⟩
theorem cmp_int (a b : Int) (w : World) : Calls Try.prog 58 #[.int .i64 a, .int .i64 b] w fun e w' => e = .returned (.int .i64 (cmp1 a b)) ∧ w = w' := by
  rcases Int.lt_trichotomy a b with h | rfl | h
  · rw [cmp1_lt h]
    have f1 : decide (a < b) = true := by simpa using h
    go_enter Try.func58, Try.ntmps58
    go_wp2_with (go_at_call 65; refine (nan_int _ _).mono ?_; rintro e w' ⟨rfl, rfl⟩)
    go_ret
    exact ⟨rfl, rfl⟩
  · rw [cmp1_eq]
    have f1 : decide (a < a) = false := by simp
    go_enter Try.func58, Try.ntmps58
    go_wp2_with (go_at_call 65; refine (nan_int _ _).mono ?_; rintro e w' ⟨rfl, rfl⟩)
    go_ret
    exact ⟨rfl, rfl⟩
  · rw [cmp1_gt h]
    have f1 : decide (a < b) = false := by simp; omega
    have f2 : decide (b < a) = true := by simpa using h
    go_enter Try.func58, Try.ntmps58
    go_wp2_with (go_at_call 65; refine (nan_int _ _).mono ?_; rintro e w' ⟨rfl, rfl⟩)
    go_ret
    exact ⟨rfl, rfl⟩
theorem cmp_int64 (a b : Int) (w : World) : Calls Try.prog 59 #[.int .i64 a, .int .i64 b] w fun e w' => e = .returned (.int .i64 (cmp1 a b)) ∧ w = w' := by
  rcases Int.lt_trichotomy a b with h | rfl | h
  · rw [cmp1_lt h]
    have f1 : decide (a < b) = true := by simpa using h
    go_enter Try.func59, Try.ntmps59
    go_wp2_with (go_at_call 66; refine (nan_int64 _ _).mono ?_; rintro e w' ⟨rfl, rfl⟩)
    go_ret
    exact ⟨rfl, rfl⟩
  · rw [cmp1_eq]
    have f1 : decide (a < a) = false := by simp
    go_enter Try.func59, Try.ntmps59
    go_wp2_with (go_at_call 66; refine (nan_int64 _ _).mono ?_; rintro e w' ⟨rfl, rfl⟩)
    go_ret
    exact ⟨rfl, rfl⟩
  · rw [cmp1_gt h]
    have f1 : decide (a < b) = false := by simp; omega
    have f2 : decide (b < a) = true := by simpa using h
    go_enter Try.func59, Try.ntmps59
    go_wp2_with (go_at_call 66; refine (nan_int64 _ _).mono ?_; rintro e w' ⟨rfl, rfl⟩)
    go_ret
    exact ⟨rfl, rfl⟩
/-- the first one that isn't zero, of two -/
theorem or_two (g : Nat) (x y : Int) (w : World) (h0 : w.cell? ⟨g, 0, none⟩ = some (.int .i64 x)) (h1 : w.cell? ⟨g, 1, none⟩ = some (.int .i64 y)) :
    Calls Try.prog 57 #[.slice (some ⟨g, 0, none⟩) 2 2] w fun e w' => e = .returned (.int .i64 (if x = 0 then y else x)) ∧ w = w' := by
  by_cases hx : x = 0
  · rw [if_pos hx]
    subst hx
    by_cases hy : y = 0
    · subst hy
      go_enter Try.func57, Try.ntmps57
      go_wp2
      go_loop [8] (fun i => ∃ k : Nat, k ≤ 2 ∧ i = .int .i64 k) (fun i => 2 - (intOf i).toNat)
      case atStart => exact ⟨0, by omega, rfl⟩
      case round =>
        obtain ⟨k, hk, rfl⟩ := hrel
        rcases (by omega : k = 0 ∨ k = 1 ∨ k = 2) with rfl | rfl | rfl
        · go_wp2
          go_round
          case rel => exact ⟨1, by omega, rfl⟩
          case measure => simp [intOf]
        · go_wp2
          go_round
          case rel => exact ⟨2, by omega, rfl⟩
          case measure => simp [intOf]
        · go_wp2
          go_ret
          exact ⟨rfl, rfl⟩
    · have f1 : (y != 0) = true := by simpa using hy
      go_enter Try.func57, Try.ntmps57
      go_wp2
      go_loop [8] (fun i => ∃ k : Nat, k ≤ 1 ∧ i = .int .i64 k) (fun i => 2 - (intOf i).toNat)
      case atStart => exact ⟨0, by omega, rfl⟩
      case round =>
        obtain ⟨k, hk, rfl⟩ := hrel
        rcases (by omega : k = 0 ∨ k = 1) with rfl | rfl
        · go_wp2
          go_round
          case rel => exact ⟨1, by omega, rfl⟩
          case measure => simp [intOf]
        · go_wp2
          go_ret
          exact ⟨rfl, rfl⟩
  · rw [if_neg hx]
    have f1 : (x != 0) = true := by simpa using hx
    go_enter Try.func57, Try.ntmps57
    go_wp2
    go_loop [8] (fun i => i = .int .i64 0) (fun i => 2 - (intOf i).toNat)
    case atStart => rfl
    case round =>
      subst hrel
      go_wp2
      go_ret
      exact ⟨rfl, rfl⟩
theorem box2_below (w : World) (x y : Array Value) (t u : TypeId) : Below w.heap.size w ((w.alloc (.cells x t)).alloc (.cells y u)) := ((Below.refl _ _).alloc (Nat.le_refl _) _).alloc (by simp) _
set_option maxRecDepth 100000 in
set_option maxHeartbeats 400000 in
theorem less_any (a n b m : Int) (w : World) : Calls Try.prog 40 #[.agg #[.int .i64 a, .int .i64 n], .agg #[.int .i64 b, .int .i64 m]] w fun e w' => e = .returned (.bool (lessB a n b m)) ∧ Below w.heap.size w w' := by
  by_cases h0 : a = b
  · subst h0
    have g0 : (a != a) = false := by simp
    by_cases h1 : n < m
    · have f1 : decide (n < m) = true := by simpa using h1
      go_enter Try.func40, Try.ntmps40
      go_wp2
      go_ret
      exact ⟨ret_bool (by unfold lessB; simp; omega), box2_below _ _ _ _ _⟩
    · have f1 : decide (n < m) = false := by simp; omega
      go_enter Try.func40, Try.ntmps40
      go_wp2
      go_ret
      exact ⟨ret_bool (by unfold lessB; simp; omega), box2_below _ _ _ _ _⟩
  · have g0 : (a != b) = true := by simpa using h0
    by_cases h1 : a < b
    · have f1 : decide (a < b) = true := by simpa using h1
      go_enter Try.func40, Try.ntmps40
      go_wp2
      go_ret
      exact ⟨ret_bool (by unfold lessB; simp; omega), box2_below _ _ _ _ _⟩
    · have f1 : decide (a < b) = false := by simp; omega
      go_enter Try.func40, Try.ntmps40
      go_wp2
      go_ret
      exact ⟨ret_bool (by unfold lessB; simp; omega), box2_below _ _ _ _ _⟩
theorem cmpI_or (a n b m : Int) : (if cmp1 a b = 0 then cmp1 n m else cmp1 a b) = cmpI a n b m := by
  unfold cmp1 cmpI
  repeat' split
  all_goals omega
set_option maxRecDepth 100000 in
set_option maxHeartbeats 400000 in
theorem compare_any (a n b m : Int) (w : World) : Calls Try.prog 48 #[.agg #[.int .i64 a, .int .i64 n], .agg #[.int .i64 b, .int .i64 m]] w fun e w' => e = .returned (.int .i64 (cmpI a n b m)) ∧ Below w.heap.size w w' := by
  have HC := Lib.hid (cmpI_or a n b m)
  obtain ⟨x, hx⟩ : ∃ x, x = cmp1 a b := ⟨_, rfl⟩
  obtain ⟨y, hy⟩ : ∃ y, y = cmp1 n m := ⟨_, rfl⟩
  rw [← hx, ← hy] at HC
  have H1 : ∀ W, Hid (Calls Try.prog 58 #[.int .i64 a, .int .i64 b] W fun e w' => e = .returned (.int .i64 x) ∧ w' = W) := fun W => by rw [hx]; exact (cmp_int a b W).mono fun _ _ h => ⟨h.1, h.2.symm⟩
  have H2 : ∀ W, Hid (Calls Try.prog 59 #[.int .i64 n, .int .i64 m] W fun e w' => e = .returned (.int .i64 y) ∧ w' = W) := fun W => by rw [hy]; exact (cmp_int64 n m W).mono fun _ _ h => ⟨h.1, h.2.symm⟩
  clear hx hy
  go_enter Try.func48, Try.ntmps48
  go_wp2
  have hb := Lib.hid (box2_below w #[.int .i64 a, .int .i64 n] #[.int .i64 b, .int .i64 m] 49 49)
  obtain ⟨p, hp⟩ : ∃ p, p = w.heap.size := ⟨_, rfl⟩
  obtain ⟨W, hW⟩ : ∃ W, W = (w.alloc (.cells #[.int .i64 a, .int .i64 n] 49)).alloc (.cells #[.int .i64 b, .int .i64 m] 49) := ⟨_, rfl⟩
  have k0 : W.cell? ⟨p, 0, none⟩ = some (.int .i64 a) := by rw [hW, hp]; go_simp
  have k1 : W.cell? ⟨p, 1, none⟩ = some (.int .i64 n) := by rw [hW, hp]; go_simp
  have k2 : W.cell? ⟨p + 1, 0, none⟩ = some (.int .i64 b) := by rw [hW, hp]; go_simp
  have k3 : W.cell? ⟨p + 1, 1, none⟩ = some (.int .i64 m) := by rw [hW, hp]; go_simp
  rw [← hW] at hb ⊢
  rw [← hp]
  have HP := Lib.hid hp
  clear hW hp
  refine wp_region_still_tail 10 (by kernel_rfl) (by kernel_rfl) ?_
  simp only [List.take_succ_cons, List.take_zero, List.drop_succ_cons, List.drop_zero]
  still_step
  still_step
  still_step
  still_step
  still_call (H1 _).out
  still_step
  still_step
  still_step
  still_step
  still_call (H2 _).out
  refine wpStill_nil ?_
  change wpList _ _ _ _ _ W.drew
  have hb2 : Hid (Below w.heap.size w (W.drew.alloc (.cells #[.int .i64 x, .int .i64 y] 3))) := ((bel_drewN hb.out 1)).alloc (by have := hb.out.size; simpa using this) _
  clear H1 H2 k0 k1 k2 k3 hb
  generalize W.drew = W2 at *
  go_wp2_with (go_at_call 57; refine (or_two W2.heap.size x y _ (by go_simp) (by go_simp)).mono ?_; rw [HC.out]; rintro e w' ⟨rfl, rfl⟩)
  go_ret
  exact ⟨rfl, hb2.out⟩

end Dt
end Go.Proofs.Ytcbclefemcmhpaa
namespace Go.Proofs.Ytcbclefemcmhpaa
open Go.ChangeShapes Go.WideShapes Go.ChangeAt Go.RowKit
namespace Tr
open Sp Rw
theorem upon_append {P : Program} {o : Oper} {a : Go.Act} {K : Go.Act → World → Prop} {Q : Exit → Go.Act → World → Prop} {w w' : World} {v xv v' : Value} (s x : Operand) (t : TypeId)
    (ho : o.op = .call { callee := .builtin .append, args := #[s, x], argTypes := #[t, t] }) (hs : a.eval s = v) (hx : a.eval x = xv)
    (hr : (Builtin.append_ #[t, t] o.type #[v, xv]).run P w = .ok v' w') (h : K (a.put o.dst v') w') : Oper.upon P o a K Q ((execOp a.eval o).run P w) := by
  unfold execOp
  simp only [ho, resolve, invoke, builtin, Sem.run_bind, Sem.run_pure, Result.andThen_ok, List.map_toArray, List.map_cons, List.map_nil, hs, hx, hr]
  exact h
theorem empty_any (Ae Ak : Option Addr) (ne nk ce ck : Nat) (w : World) : Calls Try.prog 10 #[.agg #[.slice Ae ne ce, .slice Ak nk ck]] w fun e w' => e = .returned (.bool (decide (ne = 0 ∧ nk = 0))) ∧ Below w.heap.size w w' := by
  by_cases h0 : ne = 0
  · by_cases h1 : nk = 0
    · have f0 : ((ne : Int) == 0) = true := by simpa using h0
      have f1 : ((nk : Int) == 0) = true := by simpa using h1
      go_enter Try.func10, Try.ntmps10
      go_wp2
      go_ret
      exact ⟨Dt.ret_bool (by simp [h0, h1]), Dt.box_below _ _ _⟩
    · have f0 : ((ne : Int) == 0) = true := by simpa using h0
      have f1 : ((nk : Int) == 0) = false := by simpa using h1
      go_enter Try.func10, Try.ntmps10
      go_wp2
      go_ret
      exact ⟨Dt.ret_bool (by simp [h1]), Dt.box_below _ _ _⟩
  · have f0 : ((ne : Int) == 0) = false := by simpa using h0
    go_enter Try.func10, Try.ntmps10
    go_wp2
    go_ret
    exact ⟨Dt.ret_bool (by simp [h0]), Dt.box_below _ _ _⟩
def keyB (k : ByteArray) : Bool := decide (1 ≤ k.size ∧ k.size ≤ 30)
theorem keyB_iff {k : ByteArray} : keyB k = true ↔ KeyOk k := decide_eq_true_iff (p := 1 ≤ k.size ∧ k.size ≤ 30)
theorem keyB_no {k : ByteArray} (h : keyB k = false) : ¬ KeyOk k := of_decide_eq_false (p := 1 ≤ k.size ∧ k.size ≤ 30) h
theorem rightKey_any (k : ByteArray) (w : World) : Calls Try.prog 28 #[.string k] w fun e w' => e = .returned (.bool (keyB k)) ∧ w = w' := by
  by_cases h0 : 1 ≤ k.size
  · by_cases h1 : k.size ≤ 30
    · have f0 : decide ((1 : Int) ≤ (k.size : Int)) = true := by simp; omega
      have f1 : decide ((k.size : Int) ≤ 30) = true := by simp; omega
      go_enter Try.func28, Try.ntmps28
      go_wp2
      go_ret
      exact ⟨Dt.ret_bool (by unfold keyB; simp [h0, h1]), rfl⟩
    · have f0 : decide ((1 : Int) ≤ (k.size : Int)) = true := by simp; omega
      have f1 : decide ((k.size : Int) ≤ 30) = false := by simp; omega
      go_enter Try.func28, Try.ntmps28
      go_wp2
      go_ret
      exact ⟨Dt.ret_bool (by unfold keyB; simp [h1]), rfl⟩
  · have f0 : decide ((1 : Int) ≤ (k.size : Int)) = false := by simp; omega
    go_enter Try.func28, Try.ntmps28
    go_wp2
    go_ret
    exact ⟨Dt.ret_bool (by unfold keyB; simp [h0]), rfl⟩
theorem refkey_any (k : ByteArray) (w : World) : Calls Try.prog 41 #[.string k] w fun e w' => e = .returned (.bool (keyB k)) ∧ w = w' := by
  by_cases h0 : 1 ≤ k.size
  · by_cases h1 : k.size ≤ 30
    · have f0 : decide ((1 : Int) ≤ (k.size : Int)) = true := by simp; omega
      have f1 : decide ((k.size : Int) ≤ 30) = true := by simp; omega
      go_enter Try.func41, Try.ntmps41
      go_wp2
      go_ret
      exact ⟨Dt.ret_bool (by unfold keyB; simp [h0, h1]), rfl⟩
    · have f0 : decide ((1 : Int) ≤ (k.size : Int)) = true := by simp; omega
      have f1 : decide ((k.size : Int) ≤ 30) = false := by simp; omega
      go_enter Try.func41, Try.ntmps41
      go_wp2
      go_ret
      exact ⟨Dt.ret_bool (by unfold keyB; simp [h1]), rfl⟩
  · have f0 : decide ((1 : Int) ≤ (k.size : Int)) = false := by simp; omega
    go_enter Try.func41, Try.ntmps41
    go_wp2
    go_ret
    exact ⟨Dt.ret_bool (by unfold keyB; simp [h0]), rfl⟩
def entB (e : E) : Bool := Dt.rightB e.a e.n && decide (e.s.size ≤ 30 ∧ -1099511627776 ≤ e.v ∧ e.v ≤ 1099511627776)
theorem entB_iff {e : E} : entB e = true ↔ RightE e := by
  unfold entB RightE
  rw [Bool.and_eq_true, decide_eq_true_iff]
def entV (e : E) : Value := .agg #[.int .i64 e.a, .int .i64 e.n, .string e.s, .int .i64 e.v]
theorem entB_no {e : E} (h : Dt.rightB e.a e.n = false) : entB e = false := by unfold entB; rw [h, Bool.false_and]
theorem entB_bad {e : E} (h : ¬ (e.s.size ≤ 30 ∧ -1099511627776 ≤ e.v ∧ e.v ≤ 1099511627776)) : entB e = false := by unfold entB; rw [decide_eq_false h, Bool.and_false]
set_option maxHeartbeats 800000 in
theorem rightEntry_any (e : E) (w : World) : Calls Try.prog 47 #[.agg #[.int .i64 e.a, .int .i64 e.n, .string e.s, .int .i64 e.v]] w fun r w' => r = .returned (.bool (entB e)) ∧ Below w.heap.size w w' := by
  have HR := fun W => Lib.hid (Dt.right_any e.a e.n W)
  obtain ⟨a, n, s, v⟩ := e
  dsimp only at HR ⊢
  cases hd : Dt.rightB a n with
  | false =>
    rw [hd] at HR
    have hz : entB ⟨a, n, s, v⟩ = false := entB_no hd
    rw [hz]
    clear hz hd
    go_enter Try.func47, Try.ntmps47
    go_wp2_with (go_at_call 56; refine (HR _).out.mono ?_; rintro e w1 ⟨rfl, hb⟩; have HB := Lib.hid hb; clear hb)
    go_ret
    exact ⟨rfl, (Dt.box_below _ _ _).trans (HB.out.mono (by simp))⟩
  | true =>
    rw [hd] at HR
    by_cases h1 : s.size ≤ 30
    · have f1 : decide ((s.size : Int) ≤ 30) = true := by simp; omega
      by_cases h2 : -1099511627776 ≤ v
      · have f2 : decide (-1099511627776 ≤ v) = true := decide_eq_true h2
        by_cases h3 : v ≤ 1099511627776
        · have f3 : decide (v ≤ 1099511627776) = true := decide_eq_true h3
          have hz : entB ⟨a, n, s, v⟩ = true := entB_iff.2 ⟨hd, h1, h2, h3⟩
          rw [hz]
          clear hz hd h1 h2 h3
          go_enter Try.func47, Try.ntmps47
          go_wp2_with (go_at_call 56; have hk := Lib.hid (((((Kept.nil w).alloc (.cells #[.int .i64 a, .int .i64 n, .string s, .int .i64 v] 51)).cons_of (p := ⟨w.heap.size, 2, none⟩) (v := .string s) (by go_simp)).cons_of (p := ⟨w.heap.size, 3, none⟩) (v := .int .i64 v) (by go_simp))); refine (HR _).out.mono ?_; rintro e w1 ⟨rfl, hb⟩; have HK := Lib.hid (hk.out.later hb); have k0 := HK.out.c0; have k1 := HK.out.c1; clear hb hk)
          go_ret
          exact ⟨rfl, HK.out.below⟩
        · have f3 : decide (v ≤ 1099511627776) = false := decide_eq_false h3
          have hz : entB ⟨a, n, s, v⟩ = false := entB_bad (by rintro ⟨_, _, h⟩; exact h3 h)
          rw [hz]
          clear hz hd h1 h2 h3
          go_enter Try.func47, Try.ntmps47
          go_wp2_with (go_at_call 56; have hk := Lib.hid (((((Kept.nil w).alloc (.cells #[.int .i64 a, .int .i64 n, .string s, .int .i64 v] 51)).cons_of (p := ⟨w.heap.size, 2, none⟩) (v := .string s) (by go_simp)).cons_of (p := ⟨w.heap.size, 3, none⟩) (v := .int .i64 v) (by go_simp))); refine (HR _).out.mono ?_; rintro e w1 ⟨rfl, hb⟩; have HK := Lib.hid (hk.out.later hb); have k0 := HK.out.c0; have k1 := HK.out.c1; clear hb hk)
          go_ret
          exact ⟨rfl, HK.out.below⟩
      · have f2 : decide (-1099511627776 ≤ v) = false := decide_eq_false h2
        have hz : entB ⟨a, n, s, v⟩ = false := entB_bad (by rintro ⟨_, h, _⟩; exact h2 h)
        rw [hz]
        by_cases h3 : v ≤ 1099511627776
        · have f3 : decide (v ≤ 1099511627776) = true := decide_eq_true h3
          clear hz hd h1 h2 h3
          go_enter Try.func47, Try.ntmps47
          go_wp2_with (go_at_call 56; have hk := Lib.hid (((((Kept.nil w).alloc (.cells #[.int .i64 a, .int .i64 n, .string s, .int .i64 v] 51)).cons_of (p := ⟨w.heap.size, 2, none⟩) (v := .string s) (by go_simp)).cons_of (p := ⟨w.heap.size, 3, none⟩) (v := .int .i64 v) (by go_simp))); refine (HR _).out.mono ?_; rintro e w1 ⟨rfl, hb⟩; have HK := Lib.hid (hk.out.later hb); have k0 := HK.out.c0; have k1 := HK.out.c1; clear hb hk)
          go_ret
          exact ⟨rfl, HK.out.below⟩
        · omega
    · have f1 : decide ((s.size : Int) ≤ 30) = false := by simp; omega
      have hz : entB ⟨a, n, s, v⟩ = false := entB_bad (by rintro ⟨h, _⟩; exact h1 h)
      rw [hz]
      clear hz hd h1
      go_enter Try.func47, Try.ntmps47
      go_wp2_with (go_at_call 56; have hk := Lib.hid (((((Kept.nil w).alloc (.cells #[.int .i64 a, .int .i64 n, .string s, .int .i64 v] 51)).cons_of (p := ⟨w.heap.size, 2, none⟩) (v := .string s) (by go_simp)).cons_of (p := ⟨w.heap.size, 3, none⟩) (v := .int .i64 v) (by go_simp))); refine (HR _).out.mono ?_; rintro e w1 ⟨rfl, hb⟩; have HK := Lib.hid (hk.out.later hb); have k0 := HK.out.c0; have k1 := HK.out.c1; clear hb hk)
      go_ret
      exact ⟨rfl, HK.out.below⟩
set_option maxHeartbeats 800000 in
theorem refentry_any (e : E) (w : World) : Calls Try.prog 39 #[.agg #[.int .i64 e.a, .int .i64 e.n, .string e.s, .int .i64 e.v]] w fun r w' => r = .returned (.bool (entB e)) ∧ Below w.heap.size w w' := by
  have HR := fun W => Lib.hid (Dt.refright_any e.a e.n W)
  obtain ⟨a, n, s, v⟩ := e
  dsimp only at HR ⊢
  cases hd : Dt.rightB a n with
  | false =>
    rw [hd] at HR
    have hz : entB ⟨a, n, s, v⟩ = false := entB_no hd
    rw [hz]
    clear hz hd
    go_enter Try.func39, Try.ntmps39
    go_wp2_with (go_at_call 54; refine (HR _).out.mono ?_; rintro e w1 ⟨rfl, hb⟩; have HB := Lib.hid hb; clear hb)
    go_ret
    exact ⟨rfl, (Dt.box_below _ _ _).trans (HB.out.mono (by simp))⟩
  | true =>
    rw [hd] at HR
    by_cases h1 : s.size ≤ 30
    · have f1 : decide ((s.size : Int) ≤ 30) = true := by simp; omega
      by_cases h2 : -1099511627776 ≤ v
      · have f2 : decide (-1099511627776 ≤ v) = true := decide_eq_true h2
        by_cases h3 : v ≤ 1099511627776
        · have f3 : decide (v ≤ 1099511627776) = true := decide_eq_true h3
          have hz : entB ⟨a, n, s, v⟩ = true := entB_iff.2 ⟨hd, h1, h2, h3⟩
          rw [hz]
          clear hz hd h1 h2 h3
          go_enter Try.func39, Try.ntmps39
          go_wp2_with (go_at_call 54; have hk := Lib.hid (((((Kept.nil w).alloc (.cells #[.int .i64 a, .int .i64 n, .string s, .int .i64 v] 51)).cons_of (p := ⟨w.heap.size, 2, none⟩) (v := .string s) (by go_simp)).cons_of (p := ⟨w.heap.size, 3, none⟩) (v := .int .i64 v) (by go_simp))); refine (HR _).out.mono ?_; rintro e w1 ⟨rfl, hb⟩; have HK := Lib.hid (hk.out.later hb); have k0 := HK.out.c0; have k1 := HK.out.c1; clear hb hk)
          go_ret
          exact ⟨rfl, HK.out.below⟩
        · have f3 : decide (v ≤ 1099511627776) = false := decide_eq_false h3
          have hz : entB ⟨a, n, s, v⟩ = false := entB_bad (by rintro ⟨_, _, h⟩; exact h3 h)
          rw [hz]
          clear hz hd h1 h2 h3
          go_enter Try.func39, Try.ntmps39
          go_wp2_with (go_at_call 54; have hk := Lib.hid (((((Kept.nil w).alloc (.cells #[.int .i64 a, .int .i64 n, .string s, .int .i64 v] 51)).cons_of (p := ⟨w.heap.size, 2, none⟩) (v := .string s) (by go_simp)).cons_of (p := ⟨w.heap.size, 3, none⟩) (v := .int .i64 v) (by go_simp))); refine (HR _).out.mono ?_; rintro e w1 ⟨rfl, hb⟩; have HK := Lib.hid (hk.out.later hb); have k0 := HK.out.c0; have k1 := HK.out.c1; clear hb hk)
          go_ret
          exact ⟨rfl, HK.out.below⟩
      · have f2 : decide (-1099511627776 ≤ v) = false := decide_eq_false h2
        have hz : entB ⟨a, n, s, v⟩ = false := entB_bad (by rintro ⟨_, h, _⟩; exact h2 h)
        rw [hz]
        by_cases h3 : v ≤ 1099511627776
        · have f3 : decide (v ≤ 1099511627776) = true := decide_eq_true h3
          clear hz hd h1 h2 h3
          go_enter Try.func39, Try.ntmps39
          go_wp2_with (go_at_call 54; have hk := Lib.hid (((((Kept.nil w).alloc (.cells #[.int .i64 a, .int .i64 n, .string s, .int .i64 v] 51)).cons_of (p := ⟨w.heap.size, 2, none⟩) (v := .string s) (by go_simp)).cons_of (p := ⟨w.heap.size, 3, none⟩) (v := .int .i64 v) (by go_simp))); refine (HR _).out.mono ?_; rintro e w1 ⟨rfl, hb⟩; have HK := Lib.hid (hk.out.later hb); have k0 := HK.out.c0; have k1 := HK.out.c1; clear hb hk)
          go_ret
          exact ⟨rfl, HK.out.below⟩
        · omega
    · have f1 : decide ((s.size : Int) ≤ 30) = false := by simp; omega
      have hz : entB ⟨a, n, s, v⟩ = false := entB_bad (by rintro ⟨h, _⟩; exact h1 h)
      rw [hz]
      clear hz hd h1
      go_enter Try.func39, Try.ntmps39
      go_wp2_with (go_at_call 54; have hk := Lib.hid (((((Kept.nil w).alloc (.cells #[.int .i64 a, .int .i64 n, .string s, .int .i64 v] 51)).cons_of (p := ⟨w.heap.size, 2, none⟩) (v := .string s) (by go_simp)).cons_of (p := ⟨w.heap.size, 3, none⟩) (v := .int .i64 v) (by go_simp))); refine (HR _).out.mono ?_; rintro e w1 ⟨rfl, hb⟩; have HK := Lib.hid (hk.out.later hb); have k0 := HK.out.c0; have k1 := HK.out.c1; clear hb hk)
      go_ret
      exact ⟨rfl, HK.out.below⟩
end Tr
end Go.Proofs.Ytcbclefemcmhpaa
namespace Go.Proofs.Ytcbclefemcmhpaa
open Go.ChangeShapes Go.WideShapes Go.ChangeAt Go.RowKit
namespace Tr
open Sp Rw
/-- the box of a tree that is an argument -/
theorem tree_box (w : World) (Ae Ak : Option Addr) (ne nk ce ck : Nat) : Kept [(⟨w.heap.size, 0, none⟩, .slice Ae ne ce), (⟨w.heap.size, 1, none⟩, .slice Ak nk ck)] w (w.alloc (.cells #[.slice Ae ne ce, .slice Ak nk ck] 25)) :=
  (((Kept.nil w).alloc _).cons_of (by go_simp)).cons_of (by go_simp)
set_option maxRecDepth 100000 in
set_option maxHeartbeats 2000000 in
theorem size_any : ∀ (t : T) (Ae Ak : Option Addr) (ne nk ce ck : Nat) (w : World), nodes t ≤ 1000000 → RdT w w.heap.size t ⟨Ae, ne, ce⟩ ⟨Ak, nk, ck⟩ →
    Calls Try.prog 25 #[.agg #[.slice Ae ne ce, .slice Ak nk ck]] w fun e w' => e = .returned (.int .i64 (leaves t).length) ∧ Below w.heap.size w w' := by
  intro t
  induction t using T.ind with
  | h es ks ih =>
    intro Ae Ak ne nk ce ck w hn hr
    obtain ⟨hle, hlk⟩ := rd_lens hr
    have hnk : nk ≤ 1000000 := by have := nodes_es es ks; omega
    have IH := Lib.hid ih
    have HR := Lib.hid hr
    have HLE := Lib.hid hle
    have HLK := Lib.hid hlk
    have HN := Lib.hid hn
    obtain ⟨m, hm⟩ : ∃ m, m = (leaves (.mk es ks)).length := ⟨_, rfl⟩
    rw [← hm]
    have HM : Hid (m = ne + ksum (fun k => (leaves k.2).length) ks nk) := by unfold Hid; rw [hm, leaves_len, ksum_all _ hlk, hle]
    have hm6 : m ≤ 1000000 := by rw [hm]; exact Nat.le_trans (leaves_nodes _) hn
    obtain ⟨g, hg⟩ : ∃ g, g = w.heap.size := ⟨_, rfl⟩
    have HK := Lib.hid (tree_box w Ae Ak ne nk ce ck)
    rw [← hg] at HK
    obtain ⟨W0, hW0⟩ : ∃ W, W = w.alloc (.cells #[.slice Ae ne ce, .slice Ak nk ck] 25) := ⟨_, rfl⟩
    rw [← hW0] at HK
    have HG := Lib.hid hg
    have HW0 := Lib.hid hW0
    have k0 := HK.out.c0
    have k1 := HK.out.c1
    clear hr ih hle hlk hn hm hg hW0
    go_enter Try.func25, Try.ntmps25
    go_wp2_with fail
    rw [← HG.out, ← HW0.out]
    go_wp2_with fail
    go_loopw [3, 12] (fun n i wr => ∃ (k : Nat), k ≤ nk ∧ i = .int .i64 k ∧ n = .int .i64 ((ne + ksum (fun k => (leaves k.2).length) ks k : Nat) : Int) ∧ Hid (Kept [(⟨g, 0, none⟩, .slice Ae ne ce), (⟨g, 1, none⟩, .slice Ak nk ck)] w wr)) (fun _ i _ => nk - (intOf i).toNat)
    case atStart => exact ⟨0, by omega, rfl, by rw [ksum_zero]; rfl, HK.out⟩
    case round =>
      obtain ⟨k, hk, rfl, rfl, HKW⟩ := hrel
      clear k0 k1
      have k0 := HKW.out.c0
      have k1 := HKW.out.c1
      by_cases hlt : k < nk
      · have hkl : k < ks.length := by rw [HLK.out]; exact hlt
        obtain ⟨b, o, rfl, hb, hc⟩ := rd_kid HR.out (by omega)
        obtain ⟨⟨Ae', ne', ce'⟩, ⟨Ak', nk', ck'⟩, c0, c1, c2, hkid⟩ := hc k hkl
        dsimp only at c0 c1 c2
        have c0 := (HKW.out.below.cell (p := ⟨b, o + k * 3, none⟩) hb).trans c0
        have c1 := (HKW.out.below.cell (p := ⟨b, o + k * 3 + 1, none⟩) hb).trans c1
        have c2 := (HKW.out.below.cell (p := ⟨b, o + k * 3 + 2, none⟩) hb).trans c2
        obtain ⟨key, hkey⟩ : ∃ key, key = (ks[k]).1 := ⟨_, rfl⟩
        rw [← hkey] at c0
        obtain ⟨W1, hW1⟩ : ∃ W, W = wr.alloc (.cells #[.string key, .slice Ae' ne' ce', .slice Ak' nk' ck'] 42) := ⟨_, rfl⟩
        have hb1 : Below wr.heap.size wr W1 := by rw [hW1]; exact Dt.box_below _ _ _
        have hk1 := HKW.out.later hb1
        obtain ⟨q, hq⟩ : ∃ q, q = (leaves (ks[k]).2).length := ⟨_, rfl⟩
        have hs1 := ksum_succ (fun k => (leaves k.2).length) hkl
        have hs2 := Nat.le_trans (ksum_le (fun k => (leaves k.2).length) ks (k + 1)) (Nat.le_of_eq (ksum_all _ HLK.out).symm)
        have hm := HM.out
        rw [← hq] at hs1
        have HS := Lib.hid hs1
        have hwrap : IntKind.i64.wrap (((ne + ksum (fun k => (leaves k.2).length) ks k : Nat) : Int) + (q : Int)) = ((ne + ksum (fun k => (leaves k.2).length) ks (k + 1) : Nat) : Int) := by
          rw [IntKind.wrap_i64]; omega
        have hcall := IH.out _ (List.getElem_mem hkl) Ae' Ak' ne' nk' ce' ck' W1 (Nat.le_trans (nodes_kid (List.getElem_mem hkl)) HN.out) (RdT.more hk1.below.size _ (RdT.below hkid hk1.below))
        rw [← hq] at hcall
        have HC := Lib.hid hcall
        have HK1 := Lib.hid hk1
        have HW1 := Lib.hid hW1
        obtain ⟨S, hS⟩ : ∃ S, S = ne + ksum (fun k => (leaves k.2).length) ks k := ⟨_, rfl⟩
        obtain ⟨S', hS'⟩ : ∃ S, S = ne + ksum (fun k => (leaves k.2).length) ks (k + 1) := ⟨_, rfl⟩
        rw [← hS] at hwrap ⊢
        rw [← hS'] at hwrap
        have HS' := Lib.hid hS'
        clear hc hkid hkey hW1 hb1 hk1 hcall hq hs1 hs2 hm hS hS' HS
        go_wp2_with fail
        rw [← HW1.out]
        refine HC.out.mono ?_
        rintro e w2 ⟨rfl, hb2⟩
        have HK2 := Lib.hid (HK1.out.later hb2)
        clear hb2
        go_wp2_with fail
        go_roundw
        case rel => exact ⟨k + 1, by omega, by go_num, by rw [HS'.out], HK2.out⟩
        case measure => simp [intOf]; omega
      · obtain rfl : k = nk := by omega
        rw [← HM.out]
        go_wp2_with fail
        go_ret
        exact ⟨rfl, HKW.out.below⟩
end Tr
end Go.Proofs.Ytcbclefemcmhpaa
namespace Go.Proofs.Ytcbclefemcmhpaa
open Go.ChangeShapes Go.WideShapes Go.ChangeAt Go.RowKit
namespace Tr
open Sp Rw
/-- texts compared -/
def cmpS (a b : ByteArray) : Int := Lib.compareBytes a.data.toList b.data.toList
theorem cmpL_lt : ∀ a b : List UInt8, Lib.compareBytes a b < 0 ↔ Op.bytesLess a b = true
  | [], [] => by simp [Lib.compareBytes, Op.bytesLess]
  | [], _ :: _ => by simp [Lib.compareBytes, Op.bytesLess]
  | _ :: _, [] => by simp [Lib.compareBytes, Op.bytesLess]
  | x :: a, y :: b => by
    have ih := cmpL_lt a b
    unfold Lib.compareBytes Op.bytesLess
    by_cases h : x < y
    · simp [h]
    · by_cases h2 : y < x
      · have h3 : x ≠ y := fun e => by subst e; exact UInt8.lt_irrefl x h2
        simp [h, h2, h3]
      · have h3 : x = y := UInt8.le_antisymm (UInt8.not_lt.1 h2) (UInt8.not_lt.1 h)
        subst h3
        simp [h, ih]
theorem cmpL_eq : ∀ a b : List UInt8, Lib.compareBytes a b = 0 ↔ a = b
  | [], [] => by simp [Lib.compareBytes]
  | [], _ :: _ => by simp [Lib.compareBytes]
  | _ :: _, [] => by simp [Lib.compareBytes]
  | x :: a, y :: b => by
    have ih := cmpL_eq a b
    unfold Lib.compareBytes
    by_cases h : x < y
    · have h3 : x ≠ y := fun e => by subst e; exact UInt8.lt_irrefl x h
      simp [h, h3]
    · by_cases h2 : y < x
      · have h3 : x ≠ y := fun e => by subst e; exact UInt8.lt_irrefl x h2
        simp [h, h2, h3]
      · have h3 : x = y := UInt8.le_antisymm (UInt8.not_lt.1 h2) (UInt8.not_lt.1 h)
        subst h3
        simp [h, ih]
theorem cmpS_lt (a b : ByteArray) : cmpS a b < 0 ↔ ltS a b := by
  unfold cmpS ltS
  rw [ByteArray.toList_eq, ByteArray.toList_eq]
  exact cmpL_lt _ _
theorem cmpS_eq (a b : ByteArray) : cmpS a b = 0 ↔ a = b := by
  unfold cmpS
  rw [cmpL_eq]
  constructor
  · intro h
    exact bytes_ext (by rw [ByteArray.toList_eq, ByteArray.toList_eq]; exact h)
  · rintro rfl; rfl
set_option maxHeartbeats 1000000 in
set_option maxRecDepth 100000 in
theorem compareString_any (a b : ByteArray) (w : World) : Calls Try.prog 46 #[.string a, .string b] w fun e w' => e = .returned (.int .i64 (cmpS a b)) ∧ w' = w := by
  go_enter Try.func46, Try.ntmps46
  go_wp2
  rw [run_callFunc_extern Try.func55 (by kernel_rfl) (by kernel_rfl) (by kernel_rfl) (e := Extern.BytealgCompare.compare) (by kernel_rfl), Lib.run_compareString]
  simp only [Result.andThen]
  rw [Oper.upon_value]
  go_wp2
  go_ret
  exact ⟨rfl, rfl⟩
theorem compare_str (a b : ByteArray) (w : World) : Calls Try.prog 34 #[.string a, .string b] w fun e w' => e = .returned (.int .i64 (cmpS a b)) ∧ w' = w := by
  go_enter Try.func34, Try.ntmps34
  go_wp2_with (go_at_call 46; refine (compareString_any _ _ _).mono ?_; rintro e w' ⟨rfl, rfl⟩)
  go_ret
  exact ⟨rfl, rfl⟩
theorem nan_s (x : ByteArray) (w : World) : Calls Try.prog 63 #[.string x] w fun e w' => e = .returned (.bool false) ∧ w' = w := by
  go_enter Try.func63, Try.ntmps63
  go_wp2
  go_ret
  exact ⟨by simp, rfl⟩
theorem nan_sl (x : ByteArray) (w : World) : Calls Try.prog 53 #[.string x] w fun e w' => e = .returned (.bool false) ∧ w' = w := by
  go_enter Try.func53, Try.ntmps53
  go_wp2
  go_ret
  exact ⟨by simp, rfl⟩
theorem less_s (x y : ByteArray) (b : Bool) (w : World) (hb : Op.bytesLess x.toList y.toList = b) : Calls Try.prog 52 #[.string x, .string y] w fun e w' => e = .returned (.bool b) ∧ w' = w := by
  go_enter Try.func52, Try.ntmps52
  go_wp2_with (go_at_call 63; refine (nan_s _ _).mono ?_; rintro e w' ⟨rfl, rfl⟩)
  go_ret
  exact ⟨by first | rfl | simp [hb], rfl⟩
/-- the closure of Get -/
theorem getcmp_any (k key : ByteArray) (A B : Option Addr) (n m c d : Nat) (w : World) : Calls Try.prog 33 #[.agg #[.string k, .slice A n c, .slice B m d], .string key] w fun e w' => e = .returned (.int .i64 (cmpS k key)) ∧ Below w.heap.size w w' := by
  go_enter Try.func33, Try.ntmps33
  go_wp2_with (go_at_call 34; refine (compare_str _ _ _).mono ?_; rintro e w' ⟨rfl, rfl⟩)
  go_ret
  exact ⟨rfl, Dt.box_below _ _ _⟩
end Tr
end Go.Proofs.Ytcbclefemcmhpaa
namespace Go.Proofs.Ytcbclefemcmhpaa
open Go.Shelf
namespace Tr
def sortS_lay_ren : Go.Shelf.Ren := ⟨fun | 54 => 50 | 64 => 62 | 65 => 61 | 78 => 75 | 79 => 76 | 80 => 67 | 81 => 68 | 82 => 69 | 83 => 70 | 84 => 71 | 85 => 72 | 61 => 52 | 86 => 73 | 87 => 74 | 93 => 77 | 89 => 78 | 90 => 79 | 94 => 80 | 95 => 81 | 69 => 63 | 97 => 82 | n => n, fun | 25 => 26 | 26 => 9 | 3 => 3 | 51 => 77 | 0 => 0 | 67 => 99 | 69 => 101 | 4 => 4 | 61 => 93 | 60 => 92 | 44 => 62 | 5 => 5 | 9 => 9 | 75 => 102 | 79 => 106 | 83 => 108 | 84 => 109 | n => n, fun | n => n⟩
theorem sortS_lay : Go.Proofs.SlLaysN.n54 Try.prog sortS_lay_ren := {
  mixed := by kernel_rfl
  f54 := ⟨Try.f50.name, by decide, Try.func50.trans (congrArg some (by kernel_rfl))⟩
  f61 := ⟨Try.f52.name, by decide, Try.func52.trans (congrArg some (by kernel_rfl))⟩
  f64 := Try.func62.trans (congrArg some (by kernel_rfl))
  f65 := ⟨Try.f61.name, by decide, Try.func61.trans (congrArg some (by kernel_rfl))⟩
  f69 := ⟨Try.f63.name, by decide, Try.func63.trans (congrArg some (by kernel_rfl))⟩
  f78 := Try.func75.trans (congrArg some (by kernel_rfl))
  f79 := Try.func76.trans (congrArg some (by kernel_rfl))
  f80 := ⟨Try.f67.name, by decide, Try.func67.trans (congrArg some (by kernel_rfl))⟩
  f81 := ⟨Try.f68.name, by decide, Try.func68.trans (congrArg some (by kernel_rfl))⟩
  f82 := ⟨Try.f69.name, by decide, Try.func69.trans (congrArg some (by kernel_rfl))⟩
  f83 := ⟨Try.f70.name, by decide, Try.func70.trans (congrArg some (by kernel_rfl))⟩
  f84 := ⟨Try.f71.name, by decide, Try.func71.trans (congrArg some (by kernel_rfl))⟩
  f85 := ⟨Try.f72.name, by decide, Try.func72.trans (congrArg some (by kernel_rfl))⟩
  f86 := ⟨Try.f73.name, by decide, Try.func73.trans (congrArg some (by kernel_rfl))⟩
  f87 := ⟨Try.f74.name, by decide, Try.func74.trans (congrArg some (by kernel_rfl))⟩
  f89 := Try.func78.trans (congrArg some (by kernel_rfl))
  f90 := Try.func79.trans (congrArg some (by kernel_rfl))
  f93 := ⟨Try.f77.name, by decide, Try.func77.trans (congrArg some (by kernel_rfl))⟩
  f94 := ⟨Try.f80.name, by decide, Try.func80.trans (congrArg some (by kernel_rfl))⟩
  f95 := ⟨Try.f81.name, by decide, Try.func81.trans (congrArg some (by kernel_rfl))⟩
  f97 := ⟨Try.f82.name, by decide, Try.func82.trans (congrArg some (by kernel_rfl))⟩
  t0 := Try.underlying0
  a0 := Try.isAgg0
  z0 := Try.sizeOf0
  v0 := Try.zeroValue0
  t3 := Try.underlying3
  a3 := Try.isAgg3
  z3 := Try.sizeOf3
  v3 := Try.zeroValue3
  t4 := Try.underlying4
  a4 := Try.isAgg4
  z4 := Try.sizeOf4
  v4 := Try.zeroValue4
  t5 := Try.underlying5
  a5 := Try.isAgg5
  z5 := Try.sizeOf5
  v5 := Try.zeroValue5
  t9 := Try.underlying9
  a9 := Try.isAgg9
  z9 := Try.sizeOf9
  v9 := Try.zeroValue9
  t25 := Try.underlying26
  a25 := Try.isAgg26
  z25 := Try.sizeOf26
  v25 := Try.zeroValue26
  t26 := Try.underlying9
  a26 := Try.isAgg9
  z26 := Try.sizeOf9
  v26 := Try.zeroValue9
  t44 := Try.underlying62
  a44 := Try.isAgg62
  z44 := Try.sizeOf62
  v44 := Try.zeroValue62
  t51 := Try.underlying77
  a51 := Try.isAgg77
  z51 := Try.sizeOf77
  v51 := Try.zeroValue77
  t60 := Try.underlying92
  a60 := Try.isAgg92
  z60 := Try.sizeOf92
  v60 := Try.zeroValue92
  t61 := Try.underlying93
  a61 := Try.isAgg93
  z61 := Try.sizeOf93
  v61 := Try.zeroValue93
  t67 := Try.underlying99
  a67 := Try.isAgg99
  z67 := Try.sizeOf99
  v67 := Try.zeroValue99
  t69 := Try.underlying101
  a69 := Try.isAgg101
  z69 := Try.sizeOf101
  v69 := Try.zeroValue101
  t75 := Try.underlying102
  a75 := Try.isAgg102
  z75 := Try.sizeOf102
  v75 := Try.zeroValue102
  t79 := Try.underlying106
  a79 := Try.isAgg106
  z79 := Try.sizeOf106
  v79 := Try.zeroValue106
  t83 := Try.underlying108
  a83 := Try.isAgg108
  z83 := Try.sizeOf108
  v83 := Try.zeroValue108
  t84 := Try.underlying109
  a84 := Try.isAgg109
  z84 := Try.sizeOf109
  v84 := Try.zeroValue109 }
end Tr
end Go.Proofs.Ytcbclefemcmhpaa
namespace Go.Proofs.Ytcbclefemcmhpaa
open Go.ChangeShapes Go.WideShapes Go.ChangeAt Go.RowKit
namespace Tr
open Rw Sp
/-- The slice value holds the cells xs, in a block that meets ok and may be written. -/
structure RO (w : World) (ok : Nat → Prop) (sz : Nat) (A : Option Addr) (n c : Nat) (xs : List Value) : Prop where
  len : xs.length = n * sz
  cap : n ≤ c
  one : ∀ u ∈ xs, u.oneCell' = true
  at_ : 0 < n → ∃ b o, A = some ⟨b, o, none⟩ ∧ ok b ∧ b < w.heap.size ∧ (∀ j, w.frozen? ⟨b, j, none⟩ = false) ∧ ∀ j u, xs[j]? = some u → w.cell? ⟨b, o + j, none⟩ = some u
namespace RO
variable {w w' : World} {ok ok' : Nat → Prop} {sz n c : Nat} {A : Option Addr} {xs : List Value}
theorem nil (w : World) (ok : Nat → Prop) (sz : Nat) (A : Option Addr) (c : Nat) : RO w ok sz A 0 c [] := ⟨by simp, Nat.zero_le _, by simp, fun h => absurd h (by omega)⟩
theorem rd (h : RO w ok sz A n c xs) : Rd w w.heap.size sz A n c xs := ⟨h.len, h.cap, h.one, fun hn => by obtain ⟨b, o, e, _, hb, _, hc⟩ := h.at_ hn; exact ⟨b, o, e, hb, hc⟩⟩
theorem mono (h : RO w ok sz A n c xs) (ho : ∀ b, ok b → b < w.heap.size → ok' b) : RO w ok' sz A n c xs :=
  ⟨h.len, h.cap, h.one, fun hn => by obtain ⟨b, o, e, h1, hb, h2, hc⟩ := h.at_ hn; exact ⟨b, o, e, ho b h1 hb, hb, h2, hc⟩⟩
theorem keep (h : RO w ok sz A n c xs) (hs : w.heap.size ≤ w'.heap.size) (hk : ∀ b, ok b → b < w.heap.size → w'.heap[b]? = w.heap[b]?) : RO w' ok sz A n c xs :=
  ⟨h.len, h.cap, h.one, fun hn => by
    obtain ⟨b, o, e, h1, hb, h2, hc⟩ := h.at_ hn
    exact ⟨b, o, e, h1, Nat.lt_of_lt_of_le hb hs, fun j => (World.frozen?_of_block (a := ⟨b, j, none⟩) (hk b h1 hb)).trans (h2 j), fun j u hu => (World.cell?_of_block (a := ⟨b, o + j, none⟩) (hk b h1 hb)).trans (hc j u hu)⟩⟩
theorem of_own {base e : Nat} (h : Own w base e sz A n c xs) : RO w (fun b => base ≤ b ∧ (Value.slice A n c).ownBlock = some b) sz A n c xs :=
  ⟨h.rd.len, h.rd.cap, h.one, fun hn => by
    obtain ⟨g, rfl, h1, h2, h3, h4⟩ := Sp.Own.place h hn
    exact ⟨g, 0, rfl, ⟨h1, by simp [Value.ownBlock]⟩, h2, h3, fun j u hu => by rw [Nat.zero_add]; exact h4 j u hu⟩⟩
end RO
/-- the two slices read as the tree, in blocks that meet ok and may be written -/
def RdO (w : World) (ok : Nat → Prop) : T → SV → SV → Prop
  | .mk es ks, se, sk => es.length = se.n ∧ RO w ok 4 se.A se.n se.c (entsC es) ∧ ks.length = sk.n ∧ ∃ xs : List Value, RO w ok 3 sk.A sk.n sk.c xs ∧
      ∀ (i : Nat) (h : i < ks.length), ∃ se' sk' : SV, xs[i * 3]? = some (.string (ks[i]).1) ∧ xs[i * 3 + 1]? = some (.slice se'.A se'.n se'.c) ∧ xs[i * 3 + 2]? = some (.slice sk'.A sk'.n sk'.c) ∧ RdO w ok (ks[i]).2 se' sk'
termination_by t => SizeOf.sizeOf t
decreasing_by exact at_lt h es
theorem rdO_mk (w : World) (ok : Nat → Prop) (es : List E) (ks : List (ByteArray × T)) (se sk : SV) : RdO w ok (.mk es ks) se sk ↔ (es.length = se.n ∧ RO w ok 4 se.A se.n se.c (entsC es) ∧ ks.length = sk.n ∧ ∃ xs : List Value, RO w ok 3 sk.A sk.n sk.c xs ∧
      ∀ (i : Nat) (h : i < ks.length), ∃ se' sk' : SV, xs[i * 3]? = some (.string (ks[i]).1) ∧ xs[i * 3 + 1]? = some (.slice se'.A se'.n se'.c) ∧ xs[i * 3 + 2]? = some (.slice sk'.A sk'.n sk'.c) ∧ RdO w ok (ks[i]).2 se' sk') := by
  rw [RdO]
theorem RdO.rd {w : World} {ok : Nat → Prop} : ∀ (t : T) {se sk : SV}, RdO w ok t se sk → RdT w w.heap.size t se sk := by
  intro t
  induction t using T.ind with
  | h es ks ih =>
    intro se sk h
    rw [rdO_mk] at h
    rw [rdT_mk]
    obtain ⟨h1, h2, h3, xs, h4, h5⟩ := h
    refine ⟨h1, h2.rd, h3, xs, h4.rd, fun i hi => ?_⟩
    obtain ⟨se', sk', e1, e2, e3, e4⟩ := h5 i hi
    exact ⟨se', sk', e1, e2, e3, ih _ (List.getElem_mem hi) e4⟩
theorem RdO.mono {w : World} {ok ok' : Nat → Prop} (ho : ∀ b, ok b → b < w.heap.size → ok' b) : ∀ (t : T) {se sk : SV}, RdO w ok t se sk → RdO w ok' t se sk := by
  intro t
  induction t using T.ind with
  | h es ks ih =>
    intro se sk h
    rw [rdO_mk] at h ⊢
    obtain ⟨h1, h2, h3, xs, h4, h5⟩ := h
    refine ⟨h1, h2.mono ho, h3, xs, h4.mono ho, fun i hi => ?_⟩
    obtain ⟨se', sk', e1, e2, e3, e4⟩ := h5 i hi
    exact ⟨se', sk', e1, e2, e3, ih _ (List.getElem_mem hi) e4⟩
theorem RdO.keep {w w' : World} {ok : Nat → Prop} (hs : w.heap.size ≤ w'.heap.size) (hk : ∀ b, ok b → b < w.heap.size → w'.heap[b]? = w.heap[b]?) : ∀ (t : T) {se sk : SV}, RdO w ok t se sk → RdO w' ok t se sk := by
  intro t
  induction t using T.ind with
  | h es ks ih =>
    intro se sk h
    rw [rdO_mk] at h ⊢
    obtain ⟨h1, h2, h3, xs, h4, h5⟩ := h
    refine ⟨h1, h2.keep hs hk, h3, xs, h4.keep hs hk, fun i hi => ?_⟩
    obtain ⟨se', sk', e1, e2, e3, e4⟩ := h5 i hi
    exact ⟨se', sk', e1, e2, e3, ih _ (List.getElem_mem hi) e4⟩
theorem RdO.later {w w' : World} {ok : Nat → Prop} {t : T} {se sk : SV} (h : RdO w ok t se sk) (hb : Below w.heap.size w w') : RdO w' ok t se sk := RdO.keep hb.size (fun b _ hlt => hb.block b hlt) t h
theorem RdO.none (w : World) (ok : Nat → Prop) (A A' : Option Addr) (c c' : Nat) : RdO w ok none_ ⟨A, 0, c⟩ ⟨A', 0, c'⟩ := by
  unfold none_
  rw [rdO_mk]
  exact ⟨rfl, RO.nil _ _ _ _ _, rfl, [], RO.nil _ _ _ _ _, fun i hi => by simp at hi⟩
/-- a kid's cells -/
def kidC (k : ByteArray × SV × SV) : List Value := [.string k.1, .slice k.2.1.A k.2.1.n k.2.1.c, .slice k.2.2.A k.2.2.n k.2.2.c]
theorem kidC_len (k : ByteArray × SV × SV) : (kidC k).length = 3 := rfl
theorem kidC_one (k : ByteArray × SV × SV) : ∀ u ∈ kidC k, u.oneCell' = true := by
  intro u hu
  simp [kidC] at hu
  rcases hu with rfl | rfl | rfl <;> rfl
/-- a row of the call's own, of type e, that holds these kids, each in blocks of the call's own, none of them the row's -/
structure KidRow (w : World) (base e : Nat) (A : Option Addr) (n c : Nat) (ks : List (ByteArray × T)) (kr : List (ByteArray × SV × SV)) : Prop where
  len : ks.length = n
  lenr : kr.length = n
  own : Own w base e 3 A n c (kr.flatMap kidC)
  kid : ∀ (i : Nat) (h : i < ks.length) (h' : i < kr.length), kr[i].1 = ks[i].1 ∧ RdO w (fun b => base ≤ b ∧ (Value.slice A n c).ownBlock ≠ some b) ks[i].2 kr[i].2.1 kr[i].2.2
namespace KidRow
variable {w w' : World} {base e n c : Nat} {A : Option Addr} {ks : List (ByteArray × T)} {kr : List (ByteArray × SV × SV)}
theorem nil (w : World) (base e : Nat) : KidRow w base e none 0 0 [] [] := ⟨rfl, rfl, ⟨World.ownsRow_nil _ _ _ _, by simp⟩, fun i h => by simp at h⟩
theorem later (h : KidRow w base e A n c ks kr) (hb : Below w.heap.size w w') : KidRow w' base e A n c ks kr :=
  ⟨h.len, h.lenr, own_later h.own hb, fun i hi hi' => ⟨(h.kid i hi hi').1, (h.kid i hi hi').2.later hb⟩⟩
/-- read as a tree's kids -/
theorem tree (h : KidRow w base e A n c ks kr) {ok : Nat → Prop} (hok : ∀ b, base ≤ b → b < w.heap.size → ok b) {es : List E} {se : SV} (hes : es.length = se.n) (hse : RO w ok 4 se.A se.n se.c (entsC es)) : RdO w ok (.mk es ks) se ⟨A, n, c⟩ := by
  rw [rdO_mk]
  refine ⟨hes, hse, h.len, kr.flatMap kidC, (RO.of_own h.own).mono fun b hb hlt => hok b hb.1 hlt, fun i hi => ?_⟩
  have hi' : i < kr.length := by have h1 := h.len; have h2 := h.lenr; omega
  obtain ⟨e1, e2⟩ := h.kid i hi hi'
  have f0 := flat_at kidC_len kr i 0 hi' (by omega)
  have f1 := flat_at kidC_len kr i 1 hi' (by omega)
  have f2 := flat_at kidC_len kr i 2 hi' (by omega)
  refine ⟨kr[i].2.1, kr[i].2.2, ?_, f1, f2, RdO.mono (fun b hb hlt => hok b hb.1 hlt) _ e2⟩
  rw [← e1]
  exact f0
/-- one kid is appended, of memory laid since -/
theorem push {t by_ : Nat} {z : Value} (ht : Try.prog.underlying t = some (.slice e)) (hi : (Try.prog.info? e).map (fun i => (i.zero, i.size, i.bytes)) = some (some z, 3, by_)) (hzs : z.cells.size = 3) (hby : by_ ≤ 1000000)
    (h : KidRow w base e A n c ks kr) (p : Nat) (hp : w.heap.size = p) (hb : base ≤ w.heap.size) {k : ByteArray × SV × SV} {u : T} (hu : RdO w (fun b => base ≤ b ∧ (Value.slice A n c).ownBlock ≠ some b) u k.2.1 k.2.2) (hn : n ≤ 900000) (cs : Array Value) (hcs : cs = (kidC k).toArray) :
    ∃ A' c' w', (Builtin.append_ #[t, t] t #[.slice A n c, .slice (some ⟨p, 0, none⟩) 1 1]).run Try.prog (w.alloc (.cells cs e)) = .ok (.slice A' (n + 1) c') w' ∧
      KidRow w' base e A' (n + 1) c' (ks ++ [(k.1, u)]) (kr ++ [k]) ∧ Below base w w' ∧ ∀ b, (Value.slice A n c).ownBlock ≠ some b → b < w.heap.size → w'.heap[b]? = w.heap[b]? := by
  subst hp
  subst hcs
  obtain ⟨i0, hi0, hz0, hz1, hz2⟩ := info_of hi
  have hown := h.own.row
  obtain ⟨v', w', r1, r2, r3, r4⟩ := run_app (P := Try.prog) (w.alloc (.cells (kidC k).toArray e)) base t t e i0 z 3 by_ ht hi0 hz0 hz1 hz2 hzs (by omega)
    (hown.alloc _) (B := w.heap.size + 1) (A := some ⟨w.heap.size, 0, none⟩) (m := 1) (c := 1) (news := kidC k)
    ⟨rfl, by omega, kidC_one k, fun _ => ⟨_, _, rfl, by omega, fun j u hu => by
      rw [Nat.zero_add, cell_of_row _ _ j _ _ (0, 0) (heap_alloc_new _ _)]
      simpa using hu⟩⟩ (by omega) hby (by simp; omega)
  obtain ⟨A', c', rfl, ho⟩ := Own.of_row r2 (fun u hu => by
    rcases List.mem_append.1 hu with hu | hu
    · exact h.own.one u hu
    · exact kidC_one k u hu)
  have hbel : Below base w w' := ((Below.refl base w).alloc hb _).grown r3 (by simp; omega) (fun k hk => (hown.lt k hk).1)
  have hsize : w.heap.size ≤ w'.heap.size := by have := r3.size; simp at this; omega
  have hnew : ∀ b, (base ≤ b ∧ (Value.slice A n c).ownBlock ≠ some b) → b < w.heap.size → base ≤ b ∧ (Value.slice A' (n + 1) c').ownBlock ≠ some b := fun b hb hlt => ⟨hb.1, fun he => by
    rcases r4 with r4 | r4
    · exact hb.2 (r4.symm.trans he)
    · have : some b = some (w.alloc (.cells (kidC k).toArray e)).heap.size := he.symm.trans r4
      injection this with this
      simp at this
      omega⟩
  have hto : ∀ {t : T} {se sk : SV}, RdO w (fun b => base ≤ b ∧ (Value.slice A n c).ownBlock ≠ some b) t se sk → RdO w' (fun b => base ≤ b ∧ (Value.slice A' (n + 1) c').ownBlock ≠ some b) t se sk := fun {t se sk} ht =>
    RdO.keep hsize (fun b hb hlt => (r3.block b (by simp; omega) (fun e => hb.2.2 e.symm)).trans (heap_alloc_old w _ hlt)) t (RdO.mono (ok' := fun b => (base ≤ b ∧ (Value.slice A' (n + 1) c').ownBlock ≠ some b) ∧ (base ≤ b ∧ (Value.slice A n c).ownBlock ≠ some b)) (fun b hb hlt => ⟨hnew b hb hlt, hb⟩) t ht) |> RdO.mono (fun b hb _ => hb.1) t
  refine ⟨A', c', w', r1, ⟨by simp [h.len], by simp [h.lenr], ?_, fun i hi hi' => ?_⟩, hbel, fun b hb hlt => (r3.block b (by simp; omega) (fun e => hb e.symm)).trans (heap_alloc_old w _ hlt)⟩
  · have e1 : (kr ++ [k]).flatMap kidC = kr.flatMap kidC ++ kidC k := by simp
    rw [e1]
    exact ho
  · by_cases hlt : i < n
    · have h1 : i < ks.length := by rw [h.len]; exact hlt
      have h2 : i < kr.length := by rw [h.lenr]; exact hlt
      rw [List.getElem_append_left h1, List.getElem_append_left h2]
      exact ⟨(h.kid i h1 h2).1, hto (h.kid i h1 h2).2⟩
    · have e0 : i = n := by simp [h.len] at hi; omega
      have e1 : (ks ++ [(k.1, u)])[i] = (k.1, u) := by rw [List.getElem_append_right (by rw [h.len]; omega)]; simp
      have e2 : (kr ++ [k])[i] = k := by rw [List.getElem_append_right (by rw [h.lenr]; omega)]; simp
      rw [e1, e2]
      exact ⟨rfl, hto hu⟩
end KidRow
end Tr
end Go.Proofs.Ytcbclefemcmhpaa
namespace Go.Proofs.Ytcbclefemcmhpaa
open Go.ChangeShapes Go.WideShapes Go.ChangeAt Go.RowKit
namespace Tr
open Sp Rw
/-- a greatest one among the first k -/
def kmax (f : ByteArray × T → Nat) (ks : List (ByteArray × T)) (k : Nat) : Nat := ((ks.take k).map f).foldl max 0
theorem kmax_zero (f : ByteArray × T → Nat) (ks : List (ByteArray × T)) : kmax f ks 0 = 0 := rfl
theorem kmax_succ (f : ByteArray × T → Nat) {ks : List (ByteArray × T)} {k : Nat} (h : k < ks.length) : kmax f ks (k + 1) = max (kmax f ks k) (f ks[k]) := by
  unfold kmax
  rw [List.take_succ_eq_append_getElem h]
  simp only [List.map_append, List.foldl_append, List.map_cons, List.map_nil, List.foldl_cons, List.foldl_nil]
/-- how many levels there are -/
def levels : T → Nat
  | .mk _ ks => 1 + (ks.attach.map fun k => levels k.1.2).foldl max 0
termination_by t => SizeOf.sizeOf t
decreasing_by exact kid_lt k.2
theorem levels_mk (es : List E) (ks : List (ByteArray × T)) : levels (.mk es ks) = 1 + kmax (fun k => levels k.2) ks ks.length := by
  rw [levels]
  unfold kmax
  rw [List.take_length]
  congr 2
  conv => rhs; rw [← List.attach_map_subtype_val ks]
  rw [List.map_map]
  rfl
theorem kmax_le {f : ByteArray × T → Nat} {ks : List (ByteArray × T)} {m : Nat} (h : ∀ k ∈ ks, f k ≤ m) : ∀ {k : Nat}, k ≤ ks.length → kmax f ks k ≤ m
  | 0, _ => Nat.zero_le _
  | k + 1, hk => by
    rw [kmax_succ f (show k < ks.length by omega)]
    have h1 := kmax_le h (k := k) (by omega)
    have h2 := h _ (List.getElem_mem (show k < ks.length by omega))
    omega
theorem le_kmax {f : ByteArray × T → Nat} {ks : List (ByteArray × T)} : ∀ {k : Nat}, k ≤ ks.length → ∀ i (hi : i < ks.length), i < k → f ks[i] ≤ kmax f ks k
  | 0, _, _, _, h => absurd h (Nat.not_lt_zero _)
  | k + 1, hk, i, hi, h => by
    rw [kmax_succ f (show k < ks.length by omega)]
    by_cases he : i = k
    · subst he; omega
    · have := le_kmax (f := f) (k := k) (by omega) i hi (by omega)
      omega
theorem levels_pos (t : T) : 1 ≤ levels t := by cases t; rw [levels_mk]; omega
theorem levels_le : ∀ {d : Nat} {t : T}, RightT d t → levels t ≤ d
  | d + 1, .mk es ks, h => by
    rw [levels_mk]
    have := kmax_le (f := fun k => levels k.2) (ks := ks) (m := d) (fun k hk => levels_le (h.2.2.2 k hk).2.2) (k := ks.length) (Nat.le_refl _)
    omega
theorem right_levels : ∀ {d : Nat} {t : T}, RightT d t → RightT (levels t) t
  | d + 1, .mk es ks, h => by
    rw [levels_mk, Nat.add_comm]
    refine ⟨h.1, h.2.1, h.2.2.1, fun k hk => ⟨(h.2.2.2 k hk).1, (h.2.2.2 k hk).2.1, ?_⟩⟩
    have h1 := right_levels (h.2.2.2 k hk).2.2
    obtain ⟨i, hi, rfl⟩ := List.getElem_of_mem hk
    have h2 := le_kmax (f := fun k => levels k.2) (ks := ks) (k := ks.length) (Nat.le_refl _) i hi hi
    obtain ⟨m, hm⟩ : ∃ m, kmax (fun k => levels k.2) ks ks.length = levels (ks[i]).2 + m := ⟨_, (Nat.add_sub_cancel' h2).symm⟩
    rw [hm]
    clear hm h2
    induction m with
    | zero => exact h1
    | succ m ih => exact ih.more
theorem RightT.le {d d' : Nat} {t : T} (h : RightT d t) (hd : d ≤ d') : RightT d' t := by
  obtain ⟨m, rfl⟩ : ∃ m, d' = d + m := ⟨_, (Nat.add_sub_cancel' hd).symm⟩
  clear hd
  induction m with
  | zero => exact h
  | succ m ih => exact ih.more
theorem levels_nodes : ∀ t : T, levels t ≤ nodes t + 1 := by
  intro t
  induction t using T.ind with
  | h es ks ih =>
    rw [levels_mk, nodes_mk]
    have : kmax (fun k => levels k.2) ks ks.length ≤ (ks.map fun k => nodes k.2).sum + ks.length := by
      refine Nat.le_trans (kmax_le (m := (ks.map fun k => nodes k.2).sum + 1 * (if ks = [] then 0 else 1)) (fun k hk => ?_) (Nat.le_refl _)) ?_
      · have h1 := ih k hk
        have h2 := le_sum (f := fun k : ByteArray × T => nodes k.2) hk
        have : ks ≠ [] := List.ne_nil_of_mem hk
        rw [if_neg this]
        omega
      · split
        · omega
        · have : 0 < ks.length := List.length_pos_iff.2 (by assumption)
          omega
    omega
set_option maxRecDepth 100000 in
set_option maxHeartbeats 4000000 in
theorem levels_any : ∀ (t : T) (Ae Ak : Option Addr) (ne nk ce ck : Nat) (w : World), nodes t ≤ 1000000 → RdT w w.heap.size t ⟨Ae, ne, ce⟩ ⟨Ak, nk, ck⟩ →
    Calls Try.prog 29 #[.agg #[.slice Ae ne ce, .slice Ak nk ck]] w fun e w' => e = .returned (.int .i64 (levels t)) ∧ Below w.heap.size w w' := by
  intro t
  induction t using T.ind with
  | h es ks ih =>
    intro Ae Ak ne nk ce ck w hn hr
    obtain ⟨hle, hlk⟩ := rd_lens hr
    have HR := Lib.hid hr
    have HLE := Lib.hid hle
    have HLK := Lib.hid hlk
    clear hle hlk hr
    have hnk : nk ≤ 1000000 := by have := nodes_es es ks; have := HLK.out; omega
    have IH := Lib.hid ih
    have HN := Lib.hid hn
    obtain ⟨m, hm⟩ : ∃ m, m = levels (.mk es ks) := ⟨_, rfl⟩
    rw [← hm]
    have HM : Hid (m = 1 + kmax (fun k => levels k.2) ks nk) := by unfold Hid; rw [hm, levels_mk, HLK.out]
    have hm6 : m ≤ 1000001 := by rw [hm]; have := levels_nodes (.mk es ks); omega
    have HMX : Hid (∀ k, k ≤ nk → kmax (fun k => levels k.2) ks k ≤ 1000000) := fun k hk => by
      rw [← HLK.out] at hk
      refine kmax_le (fun x hx => ?_) hk
      obtain ⟨i, hi, rfl⟩ := List.getElem_of_mem hx
      have h1 := le_kmax (f := fun k => levels k.2) (ks := ks) (Nat.le_refl _) i hi hi
      have h2 := HM.out
      rw [← HLK.out] at h2
      omega
    clear ih hn hm
    obtain ⟨g, hg⟩ : ∃ g, g = w.heap.size := ⟨_, rfl⟩
    have HK := Lib.hid (tree_box w Ae Ak ne nk ce ck)
    rw [← hg] at HK
    obtain ⟨W0, hW0⟩ : ∃ W, W = w.alloc (.cells #[.slice Ae ne ce, .slice Ak nk ck] 25) := ⟨_, rfl⟩
    rw [← hW0] at HK
    have HG := Lib.hid hg
    have HW0 := Lib.hid hW0
    have k0 := HK.out.c0
    have k1 := HK.out.c1
    clear hg hW0
    go_enter Try.func29, Try.ntmps29
    go_wp2_with fail
    rw [← HG.out, ← HW0.out]
    go_wp2_with fail
    go_loopw [3, 9] (fun n i wr => ∃ (k : Nat), k ≤ nk ∧ i = .int .i64 k ∧ n = .int .i64 ((kmax (fun k => levels k.2) ks k : Nat) : Int) ∧ Hid (Kept [(⟨g, 0, none⟩, .slice Ae ne ce), (⟨g, 1, none⟩, .slice Ak nk ck)] w wr)) (fun _ i _ => nk - (intOf i).toNat)
    case atStart => exact ⟨0, by omega, rfl, by rw [kmax_zero]; rfl, HK.out⟩
    case round =>
      obtain ⟨k, hk, rfl, rfl, HKW⟩ := hrel
      clear k0 k1
      have k0 := HKW.out.c0
      have k1 := HKW.out.c1
      by_cases hlt : k < nk
      · have hkl : k < ks.length := by rw [HLK.out]; exact hlt
        obtain ⟨b, o, rfl, hb, hc⟩ := rd_kid HR.out (by omega)
        obtain ⟨⟨Ae', ne', ce'⟩, ⟨Ak', nk', ck'⟩, c0, c1, c2, hkid⟩ := hc k hkl
        dsimp only at c0 c1 c2
        have c0 := (HKW.out.below.cell (p := ⟨b, o + k * 3, none⟩) hb).trans c0
        have c1 := (HKW.out.below.cell (p := ⟨b, o + k * 3 + 1, none⟩) hb).trans c1
        have c2 := (HKW.out.below.cell (p := ⟨b, o + k * 3 + 2, none⟩) hb).trans c2
        obtain ⟨key, hkey⟩ : ∃ key, key = (ks[k]).1 := ⟨_, rfl⟩
        rw [← hkey] at c0
        clear hc
        obtain ⟨W1, hW1⟩ : ∃ W, W = wr.alloc (.cells #[.string key, .slice Ae' ne' ce', .slice Ak' nk' ck'] 42) := ⟨_, rfl⟩
        have hb1 : Below wr.heap.size wr W1 := by rw [hW1]; exact Dt.box_below _ _ _
        have hk1 := HKW.out.later hb1
        have hrd1 := RdT.more hk1.below.size _ (RdT.below hkid hk1.below)
        have HK1 := Lib.hid hk1
        have HW1 := Lib.hid hW1
        clear hW1 hb1 hkid
        obtain ⟨q, hq⟩ : ∃ q, q = levels (ks[k]).2 := ⟨_, rfl⟩
        have hs1 := kmax_succ (fun k => levels k.2) hkl
        have hcall := IH.out _ (List.getElem_mem hkl) Ae' Ak' ne' nk' ce' ck' W1 (Nat.le_trans (nodes_kid (List.getElem_mem hkl)) HN.out) hrd1
        rw [← hq] at hcall hs1
        have HC := Lib.hid hcall
        obtain ⟨S, hS⟩ : ∃ S, S = kmax (fun k => levels k.2) ks k := ⟨_, rfl⟩
        obtain ⟨S', hS'⟩ : ∃ S, S = kmax (fun k => levels k.2) ks (k + 1) := ⟨_, rfl⟩
        rw [← hS, ← hS'] at hs1
        rw [← hS]
        have hmax : max (S : Int) (q : Int) = (S' : Int) := by omega
        have HS' := Lib.hid hS'
        clear hrd1 hkey hk1 hcall hq hs1 hS hS'
        go_wp2_with fail
        rw [← HW1.out]
        refine HC.out.mono ?_
        rintro e w2 ⟨rfl, hb2⟩
        have HK2 := Lib.hid (HK1.out.later hb2)
        clear hb2
        go_wp2_with fail
        go_roundw
        case rel => exact ⟨k + 1, by omega, by go_num, by rw [HS'.out], HK2.out⟩
        case measure => simp [intOf]; omega
      · obtain rfl : k = nk := by omega
        have hmx := HMX.out k (Nat.le_refl _)
        obtain ⟨S, hS⟩ : ∃ S, S = kmax (fun k => levels k.2) ks k := ⟨_, rfl⟩
        rw [← hS] at hmx ⊢
        have hwrap : IntKind.i64.wrap (1 + (S : Int)) = (m : Int) := by rw [IntKind.wrap_i64]; have := HM.out; omega
        have hm1 : 1 + (S : Int) = (m : Int) := by have := HM.out; omega
        have HM1 := Lib.hid hm1
        clear hS hm1
        go_wp2_with fail
        go_ret
        exact ⟨Dt.ret_int (by first | rfl | exact HM1.out), HKW.out.below⟩
set_option maxRecDepth 100000 in
set_option maxHeartbeats 4000000 in
theorem room_any : ∀ (t : T) (Ae Ak : Option Addr) (ne nk ce ck : Nat) (left deep : Int) (w : World), 0 ≤ left → left ≤ 1000 → 0 ≤ deep → deep ≤ 1000 → LenT reachBytes t → RdT w w.heap.size t ⟨Ae, ne, ce⟩ ⟨Ak, nk, ck⟩ →
    Calls Try.prog 17 #[.agg #[.slice Ae ne ce, .slice Ak nk ck], .int .i64 left, .int .i64 deep] w fun e w' => ∃ r : Int, e = .returned (.int .i64 r) ∧ -1000000000000000 ≤ r ∧ r ≤ left ∧ (0 ≤ r → (nodes t : Int) + r = left) ∧ Below w.heap.size w w' := by
  intro t
  induction t using T.ind with
  | h es ks ih =>
    intro Ae Ak ne nk ce ck left deep w h0 h1 h2 h3 hl hr
    obtain ⟨hle, hlk⟩ := rd_lens hr
    have HR := Lib.hid hr
    have HLE := Lib.hid hle
    have HLK := Lib.hid hlk
    clear hle hlk hr
    have hle := hl.es
    have hlk := hl.ks
    rw [HLE.out] at hle
    rw [HLK.out] at hlk
    unfold reachBytes at hle hlk
    have IH := Lib.hid ih
    have HL := Lib.hid hl
    obtain ⟨d, rfl⟩ : ∃ m : Nat, deep = (m : Int) := ⟨deep.toNat, by omega⟩
    have HN : Hid (nodes (.mk es ks) = ne + nk + (ks.map fun k => nodes k.2).sum) := by unfold Hid; rw [nodes_mk, HLE.out, HLK.out]
    clear ih hl
    obtain ⟨g, hg⟩ : ∃ g, g = w.heap.size := ⟨_, rfl⟩
    have HK := Lib.hid (tree_box w Ae Ak ne nk ce ck)
    rw [← hg] at HK
    obtain ⟨W0, hW0⟩ : ∃ W, W = w.alloc (.cells #[.slice Ae ne ce, .slice Ak nk ck] 25) := ⟨_, rfl⟩
    rw [← hW0] at HK
    have HG := Lib.hid hg
    have HW0 := Lib.hid hW0
    have k0 := HK.out.c0
    have k1 := HK.out.c1
    clear hg hW0
    have hw1 : IntKind.i64.wrap (left - (ne : Int)) = left - ne := by rw [IntKind.wrap_i64]; omega
    have hw2 : IntKind.i64.wrap (left - (ne : Int) - (nk : Int)) = left - ne - nk := by rw [IntKind.wrap_i64]; omega
    go_enter Try.func17, Try.ntmps17
    go_wp2_with fail
    rw [← HG.out, ← HW0.out]
    go_wp2_with fail
    go_loopw [1, 20] (fun n i wr => ∃ (k : Nat) (x : Int), k ≤ nk ∧ i = .int .i64 k ∧ n = .int .i64 x ∧ -1000000000000000 ≤ x ∧ x ≤ left ∧ Hid (0 ≤ x → ((ne + nk + ksum (fun k => nodes k.2) ks k : Nat) : Int) + x = left) ∧ Hid (Kept [(⟨g, 0, none⟩, .slice Ae ne ce), (⟨g, 1, none⟩, .slice Ak nk ck)] w wr)) (fun _ i _ => nk - (intOf i).toNat)
    case atStart => exact ⟨0, left - ne - nk, by omega, rfl, rfl, by omega, by omega, fun _ => by rw [ksum_zero]; omega, HK.out⟩
    case round =>
      obtain ⟨k, x, hk, rfl, rfl, hx1, hx2, HX, HKW⟩ := hrel
      clear k0 k1
      have k0 := HKW.out.c0
      have k1 := HKW.out.c1
      by_cases hlt : k < nk
      · by_cases hx : x < 0
        · have f1 : decide (x < 0) = true := decide_eq_true hx
          go_wp2_with fail
          go_ret
          exact ⟨-1, rfl, by omega, by omega, fun h => by omega, HKW.out.below⟩
        have f1 : decide (x < 0) = false := decide_eq_false hx
        by_cases hd : d = 0
        · subst hd
          go_wp2_with fail
          go_ret
          exact ⟨-1, rfl, by omega, by omega, fun h => by omega, HKW.out.below⟩
        have f2 : ((d : Int) == 0) = false := by simpa using hd
        have hkl : k < ks.length := by rw [HLK.out]; exact hlt
        obtain ⟨b, o, rfl, hb, hc⟩ := rd_kid HR.out (by omega)
        obtain ⟨⟨Ae', ne', ce'⟩, ⟨Ak', nk', ck'⟩, c0, c1, c2, hkid⟩ := hc k hkl
        dsimp only at c0 c1 c2
        have c0 := (HKW.out.below.cell (p := ⟨b, o + k * 3, none⟩) hb).trans c0
        have c1 := (HKW.out.below.cell (p := ⟨b, o + k * 3 + 1, none⟩) hb).trans c1
        have c2 := (HKW.out.below.cell (p := ⟨b, o + k * 3 + 2, none⟩) hb).trans c2
        obtain ⟨key, hkey⟩ : ∃ key, key = (ks[k]).1 := ⟨_, rfl⟩
        rw [← hkey] at c0
        clear hc
        have hk1 := HKW.out
        have hrd1 := RdT.more hk1.below.size _ (RdT.below hkid hk1.below)
        have hs1 := ksum_succ (fun k => nodes k.2) hkl
        have hcall := IH.out _ (List.getElem_mem hkl) Ae' Ak' ne' nk' ce' ck' x ((d : Int) - 1) wr (by omega) (by omega) (by omega) (by omega) (HL.out.kid (List.getElem_mem hkl)) hrd1
        have HC := Lib.hid hcall
        have HS := Lib.hid hs1
        clear hrd1 hkey hk1 hcall hs1 hkid
        go_wp2_with fail
        refine HC.out.mono ?_
        rintro e w2 ⟨y, rfl, hy1, hy2, hy3, hb2⟩
        have HK2 := Lib.hid (HKW.out.later hb2)
        have HY := Lib.hid hy3
        clear hb2 hy3
        go_wp2_with fail
        go_roundw
        case rel =>
          refine ⟨k + 1, y, by omega, by go_num, rfl, by omega, by omega, fun h => ?_, HK2.out⟩
          have h1 := HY.out h
          have h2 := HX.out (by omega)
          rw [HS.out]
          omega
        case measure => simp [intOf]; omega
      · obtain rfl : k = nk := by omega
        go_wp2_with fail
        go_ret
        refine ⟨x, rfl, by omega, by omega, fun h => ?_, HKW.out.below⟩
        have h1 := HX.out h
        rw [HN.out, ← ksum_all _ HLK.out]
        exact h1
set_option maxRecDepth 100000 in
set_option maxHeartbeats 4000000 in
theorem small_any (t : T) (Ae Ak : Option Addr) (ne nk ce ck : Nat) (most : Nat) (w : World) (h1 : most ≤ 1000) (hl : LenT reachBytes t) (hr : RdT w w.heap.size t ⟨Ae, ne, ce⟩ ⟨Ak, nk, ck⟩) :
    Calls Try.prog 5 #[.agg #[.slice Ae ne ce, .slice Ak nk ck], .int .i64 most] w fun e w' => ∃ b : Bool, e = .returned (.bool b) ∧ (b = true → nodes t ≤ most) ∧ Below w.heap.size w w' := by
  have hb1 : Below w.heap.size w (w.alloc (.cells #[.slice Ae ne ce, .slice Ak nk ck] 25)) := Dt.box_below _ _ _
  have HC := Lib.hid (room_any t Ae Ak ne nk ce ck most 8 _ (by omega) (by omega) (by omega) (by omega) hl (RdT.more hb1.size _ (RdT.below hr hb1)))
  have HB := Lib.hid hb1
  clear hl hr hb1
  go_enter Try.func5, Try.ntmps5
  go_wp2_with fail
  refine HC.out.mono ?_
  rintro e w2 ⟨r, rfl, hr1, hr2, hr3, hb2⟩
  have HB2 := Lib.hid (HB.out.trans (hb2.mono HB.out.size))
  have HR3 := Lib.hid hr3
  clear hb2 hr3
  go_wp2_with fail
  go_ret
  refine ⟨_, rfl, fun h => ?_, HB2.out⟩
  have h2 : 0 ≤ r := by simpa using h
  have := HR3.out h2
  omega
end Tr
end Go.Proofs.Ytcbclefemcmhpaa
namespace Go.Proofs.Ytcbclefemcmhpaa
open Go.ChangeShapes Go.WideShapes Go.ChangeAt Go.RowKit
namespace Tr
open Sp Rw
open Classical in
/-- are they alike? -/
noncomputable def eqB {α : Type} (x y : α) : Bool := decide (x = y)
open Classical in
theorem eqB_yes {α : Type} {x y : α} (h : x = y) : eqB x y = true := decide_eq_true h
open Classical in
theorem eqB_no {α : Type} {x y : α} (h : ¬ x = y) : eqB x y = false := decide_eq_false h
open Classical in
theorem eqB_iff {α : Type} {x y : α} : eqB x y = true ↔ x = y := decide_eq_true_iff
theorem bytes_ne {a b : ByteArray} (h : ¬ a = b) : (a.toList == b.toList) = false := by
  rw [beq_eq_false_iff_ne]
  exact fun h2 => h (bytes_ext h2)
/-- alike as far as they have been looked at -/
def SameTo {α : Type} (l m : List α) (k : Nat) : Prop := ∀ (i : Nat) (h : i < l.length) (h' : i < m.length), i < k → l[i] = m[i]
theorem SameTo.zero {α : Type} (l m : List α) : SameTo l m 0 := fun _ _ _ h => absurd h (Nat.not_lt_zero _)
theorem SameTo.succ {α : Type} {l m : List α} {k : Nat} (h : SameTo l m k) (h1 : ∀ (a : k < l.length) (b : k < m.length), l[k] = m[k]) : SameTo l m (k + 1) := fun i hi hi' hlt => by
  by_cases he : i = k
  · subst he; exact h1 hi hi'
  · exact h i hi hi' (by omega)
theorem SameTo.all {α : Type} {l m : List α} {k : Nat} (h : SameTo l m k) (hl : l.length = k) (hm : m.length = k) : l = m := List.ext_getElem (by omega) fun i h1 h2 => h i h1 h2 (by omega)
theorem not_same {α : Type} {l m : List α} {k : Nat} (h : k < l.length) (h' : k < m.length) (hne : ¬ l[k] = m[k]) : ¬ l = m := fun e => hne (by subst e; rfl)
end Tr
end Go.Proofs.Ytcbclefemcmhpaa
namespace Go.Proofs.Ytcbclefemcmhpaa
open Go.ChangeShapes Go.WideShapes Go.ChangeAt Go.RowKit
namespace Tr
open Rw
theorem weights_all {H : Type} (P : Program) (e : TypeId) : ∀ {l : List (DataW H)} {d : DataW H}, d ∈ l → ∀ {m : Nat}, m ∈ d.weights P e → m ∈ DataW.weightsAll P e l
  | c :: l, d, h, m, hm => by
    unfold DataW.weightsAll
    rcases List.mem_cons.1 h with rfl | h
    · exact List.mem_append_left _ hm
    · exact List.mem_append_right _ (weights_all P e h hm)
section
variable {H : Type} {enc : TypeId × Value → H} {P : Program} {W : World}
/-- a slice that came in, row by row: each element's cells, and that they are told with less fuel -/
theorem row_of_trod {t e : TypeId} {sz fuel : Nat} {cs : List Value} {x : DataW H × List MemPlace} (ht : P.underlying t = some (.slice e)) (hce : P.cellsOf e = sz) (hsz : 0 < sz)
    (h1 : ∀ n cs y, n < fuel → DataW.trod enc P W 0 (fun _ => true) true n e cs = some y → ∀ u ∈ cs, u.oneCell' = true)
    (h : DataW.trod enc P W 0 (fun _ => true) true fuel t cs = some x) :
    ∃ (s : SV) (f : Nat → List Value), cs = [.slice s.A s.n s.c] ∧ (∀ i, (f i).length = sz) ∧ (∀ i, i < s.n → ∃ n y, n < fuel ∧ DataW.trod enc P W 0 (fun _ => true) true n e (f i) = some y ∧ ∀ m ∈ y.1.weights P e, m ∈ x.1.weights P t) ∧ (0 < s.n → ∃ m ∈ x.1.weights P t, s.n * P.bytesOf e ≤ m) ∧
      Rd W W.heap.size sz s.A s.n s.c ((List.range s.n).flatMap f) ∧ s.n ≤ maxLen := by
  rcases DataW.trod_slice ht h with ⟨rfl, _⟩ | ⟨a, len, cap, elems, rest, n, rfl, rfl, rfl, _, hl, hm, hlen, hel, _⟩
  · exact ⟨⟨none, 0, 0⟩, fun _ => List.replicate sz (.int .i64 0), rfl, fun _ => by simp, fun i hi => absurd hi (Nat.not_lt_zero _), fun h => absurd h (Nat.not_lt_zero _), Rd.nil _, by simp [maxLen]⟩
  · have hex : ∀ i, ∃ c : List Value, c.length = sz ∧ (i < len → (∃ y, DataW.trod enc P W 0 (fun _ => true) true n e c = some y ∧ y ∈ elems) ∧ ∀ j, j < sz → W.cell? (a.add (i * sz + j)) = c[j]?) := by
      intro i
      by_cases hi : i < len
      · have := hel i hi
        rw [List.getElem?_eq_getElem (by omega)] at this
        obtain ⟨c, hc, hy⟩ := Option.bind_eq_some_iff.1 this
        obtain ⟨_, hcl, hat⟩ := World.cells?_some hc
        rw [hce] at hcl hat
        refine ⟨c, hcl, fun _ => ⟨⟨_, hy, List.getElem_mem _⟩, fun j hj => ?_⟩⟩
        have := hat j hj
        rwa [add_add'] at this
      · exact ⟨List.replicate sz (.int .i64 0), by simp, fun h => absurd h hi⟩
    obtain ⟨f, hf⟩ := Classical.axiomOfChoice hex
    have hfl : ∀ i, (f i).length = sz := fun i => (hf i).1
    refine ⟨⟨some a, len, cap⟩, f, rfl, hfl, fun i hi => ?_, fun _ => ?_, ?_, Nat.le_trans hl hm⟩
    · obtain ⟨y, hy, hmem⟩ := ((hf i).2 hi).1
      refine ⟨n, y, Nat.lt_succ_self n, hy, fun m hm => ?_⟩
      simp only [DataW.weights, ht]
      exact List.mem_cons_of_mem _ (List.mem_append_left _ (weights_all P e (List.mem_map.2 ⟨y, hmem, rfl⟩) hm))
    · have hx : (elems.length + rest.length) * P.bytesOf e ∈ (DataW.slice (elems.map (·.1)) (rest.map (·.1))).weights P t := by
        simp only [DataW.weights, ht, List.length_map]
        exact List.mem_cons_self
      exact ⟨_, hx, Nat.mul_le_mul_right _ (by rw [hlen]; exact Nat.le_add_right _ _)⟩
    · refine rd_of_cells (by rw [flatMap_len hfl, List.length_range]) hl (fun u hu => ?_) hsz (fun k u hu => ?_)
      · obtain ⟨i, hi, hu⟩ := List.mem_flatMap.1 hu
        obtain ⟨y, hy, _⟩ := ((hf i).2 (List.mem_range.1 hi)).1
        exact h1 n (f i) y (Nat.lt_succ_self n) hy u hu
      · have hk : k < len * sz := by
          have := (List.getElem?_eq_some_iff.1 hu).1
          rwa [flatMap_len hfl, List.length_range] at this
        have hq : k / sz < len := Nat.div_lt_of_lt_mul (by rw [Nat.mul_comm]; exact hk)
        have hr : k % sz < sz := Nat.mod_lt _ hsz
        have he : k / sz * sz + k % sz = k := by rw [Nat.mul_comm]; exact Nat.div_add_mod k sz
        have h3 := flat_at (f := f) (k := sz) hfl (List.range len) (k / sz) (k % sz) (by rw [List.length_range]; exact hq) hr
        rw [he, List.getElem_range] at h3
        have h4 := ((hf (k / sz)).2 hq).2 (k % sz) hr
        rw [he] at h4
        rw [h4, ← h3]
        exact hu
/-- the types of trees, by number -/
structure Types (P : Program) (tT tE tK tEs tKs tD tI tL tS : TypeId) : Prop where
  T : ∃ f0 f1 : Field, P.underlying tT = some (.struct #[f0, f1]) ∧ f0.type = tEs ∧ f0.offset = 0 ∧ f1.type = tKs ∧ f1.offset = 1
  E : ∃ f0 f1 f2 : Field, P.underlying tE = some (.struct #[f0, f1, f2]) ∧ f0.type = tD ∧ f0.offset = 0 ∧ f1.type = tS ∧ f1.offset = 2 ∧ f2.type = tL ∧ f2.offset = 3
  D : ∃ f0 f1 : Field, P.underlying tD = some (.struct #[f0, f1]) ∧ f0.type = tI ∧ f0.offset = 0 ∧ f1.type = tL ∧ f1.offset = 1
  K : ∃ f0 f1 : Field, P.underlying tK = some (.struct #[f0, f1]) ∧ f0.type = tS ∧ f0.offset = 0 ∧ f1.type = tT ∧ f1.offset = 1
  Es : P.underlying tEs = some (.slice tE)
  Ks : P.underlying tKs = some (.slice tK)
  I : P.underlying tI = some (.int .i64)
  L : P.underlying tL = some (.int .i64)
  S : P.underlying tS = some .string
  cT : P.cellsOf tT = 2
  cE : P.cellsOf tE = 4
  cK : P.cellsOf tK = 3
  cD : P.cellsOf tD = 2
  cEs : P.cellsOf tEs = 1
  cKs : P.cellsOf tKs = 1
  cI : P.cellsOf tI = 1
  cL : P.cellsOf tL = 1
  cS : P.cellsOf tS = 1
  bE : 1 ≤ P.bytesOf tE
  bK : 1 ≤ P.bytesOf tK
variable {tT tE tK tEs tKs tD tI tL tS : TypeId}
theorem ent_of_trod (ty : Types P tT tE tK tEs tKs tD tI tL tS) {n : Nat} {cs : List Value} {y : DataW H × List MemPlace} (h : DataW.trod enc P W 0 (fun _ => true) true n tE cs = some y) : ∃ e : E, cs = entC e := by
  obtain ⟨f0, f1, f2, hE, t0, o0, t1, o1, t2, o2⟩ := ty.E
  obtain ⟨y0, y1, y2, m, _, hlen, h0, h1, h2⟩ := Go.Deep.trod_struct3 hE h
  rw [ty.cE] at hlen
  obtain ⟨c0, c1, c2, c3, rfl⟩ : ∃ c0 c1 c2 c3, cs = [c0, c1, c2, c3] := by
    match cs, hlen with
    | [c0, c1, c2, c3], _ => exact ⟨_, _, _, _, rfl⟩
  rw [t0, o0, ty.cD] at h0
  rw [t1, o1, ty.cS] at h1
  rw [t2, o2, ty.cL] at h2
  obtain ⟨g0, g1, hD, u0, p0, u1, p1⟩ := ty.D
  simp at h0 h1 h2
  obtain ⟨z0, z1, m2, _, _, k0, k1⟩ := trod_struct2 hD h0
  rw [u0, p0, ty.cI] at k0
  rw [u1, p1, ty.cL] at k1
  simp at k0 k1
  obtain ⟨a, e0, _, _⟩ := DataW.trod_int ty.I k0
  obtain ⟨b, e1, _, _⟩ := DataW.trod_int ty.L k1
  obtain ⟨s, e2, _, _⟩ := DataW.trod_string ty.S h1
  obtain ⟨v, e3, _, _⟩ := DataW.trod_int ty.L h2
  simp at e0 e1 e2 e3
  subst e0; subst e1; subst e2; subst e3
  exact ⟨⟨a, b, s, v⟩, rfl⟩
theorem kid_cells (ty : Types P tT tE tK tEs tKs tD tI tL tS) {m : Nat} {cs : List Value} {y : DataW H × List MemPlace} (hy : DataW.trod enc P W 0 (fun _ => true) true m tK cs = some y) : ∃ (key : ByteArray) (se sk : SV), cs = [.string key, .slice se.A se.n se.c, .slice sk.A sk.n sk.c] := by
  obtain ⟨g0, g1, hK, u0, p0, u1, p1⟩ := ty.K
  obtain ⟨zs, m2, rfl, _, hl, hzl, hzs⟩ := DataW.trod_struct hK hy
  rw [ty.cK] at hl
  obtain ⟨d0, d1, d2, rfl⟩ : ∃ d0 d1 d2, cs = [d0, d1, d2] := by
    match cs, hl with
    | [d0, d1, d2], _ => exact ⟨_, _, _, rfl⟩
  have k0 := hzs 0 g0 rfl
  have k1 := hzs 1 g1 rfl
  rw [u0, p0, ty.cS, List.getElem?_eq_getElem (by rw [hzl]; simp)] at k0
  rw [u1, p1, ty.cT, List.getElem?_eq_getElem (by rw [hzl]; simp)] at k1
  simp at k0 k1
  obtain ⟨s, e2, _, _⟩ := DataW.trod_string ty.S k0
  obtain ⟨f0, f1, hT, t0, o0, t1, o1⟩ := ty.T
  obtain ⟨y0, y1, n, _, _, h0, h1⟩ := trod_struct2 hT k1
  rw [t0, o0, ty.cEs] at h0
  rw [t1, o1, ty.cKs] at h1
  simp at h0 h1
  have hsl : ∀ {t e : TypeId} {fuel : Nat} {cs : List Value} {x : DataW H × List MemPlace}, P.underlying t = some (.slice e) → DataW.trod enc P W 0 (fun _ => true) true fuel t cs = some x → ∃ s : SV, cs = [.slice s.A s.n s.c] := by
    intro t e fuel cs x ht h
    rcases DataW.trod_slice ht h with ⟨rfl, _⟩ | ⟨a, len, cap, _, _, _, _, rfl, _⟩
    · exact ⟨⟨none, 0, 0⟩, rfl⟩
    · exact ⟨⟨some a, len, cap⟩, rfl⟩
  obtain ⟨se, e3⟩ := hsl ty.Es h0
  obtain ⟨sk, e4⟩ := hsl ty.Ks h1
  simp at e2 e3 e4
  subst e2; subst e3; subst e4
  exact ⟨s, se, sk, rfl⟩
theorem tree_of_trod (ty : Types P tT tE tK tEs tKs tD tI tL tS) : ∀ (fuel : Nat) {cs : List Value} {x : DataW H × List MemPlace}, DataW.trod enc P W 0 (fun _ => true) true fuel tT cs = some x → (∀ m ∈ x.1.weights P tT, m ≤ reachBytes) →
    ∃ (t : T) (se sk : SV), cs = [.slice se.A se.n se.c, .slice sk.A sk.n sk.c] ∧ RdT W W.heap.size t se sk ∧ LenT reachBytes t := by
  intro fuel
  induction fuel using Nat.strongRecOn with
  | ind fuel ih =>
    intro cs x h hw
    obtain ⟨f0, f1, hT, t0, o0, t1, o1⟩ := ty.T
    obtain ⟨xs, n, rfl, rfl, hlen, hxl, hfs⟩ := DataW.trod_struct hT h
    rw [ty.cT] at hlen
    obtain ⟨c0, c1, rfl⟩ : ∃ c0 c1, cs = [c0, c1] := by
      match cs, hlen with
      | [c0, c1], _ => exact ⟨_, _, rfl⟩
    have h0 := hfs 0 f0 rfl
    have h1 := hfs 1 f1 rfl
    rw [t0, o0, ty.cEs, List.getElem?_eq_getElem (by rw [hxl]; simp)] at h0
    rw [t1, o1, ty.cKs, List.getElem?_eq_getElem (by rw [hxl]; simp)] at h1
    simp at h0 h1
    obtain ⟨x0, x1, rfl⟩ : ∃ x0 x1, xs = [x0, x1] := by
      match xs, hxl with
      | [x0, x1], _ => exact ⟨_, _, rfl⟩
    simp at h0 h1
    have hw0 : ∀ m ∈ x0.1.weights P tEs, m ≤ reachBytes := fun m hm => hw m (by simp only [DataW.weights, hT]; simp [DataW.weightsEach, t0, t1, hm])
    have hw1 : ∀ m ∈ x1.1.weights P tKs, m ≤ reachBytes := fun m hm => hw m (by simp only [DataW.weights, hT]; simp [DataW.weightsEach, t0, t1, hm])
    obtain ⟨se, f, e1, hfl, _, hse, _, _⟩ := row_of_trod ty.Es ty.cE (by omega) (fun n cs y _ hy u hu => by
      obtain ⟨e, rfl⟩ := ent_of_trod ty hy
      exact entC_one e u hu) h0
    simp at e1
    subst e1
    obtain ⟨es, he1, he2, _⟩ := rd_of_trod entC entC_len entC_one (by omega) ty.Es ty.cE (fun n cs y hy => ent_of_trod ty hy) (A := se.A) (len := se.n) (cap := se.c) (by simpa [Value.cells] using h0)
    have hkid : ∀ m cs y, m < n → DataW.trod enc P W 0 (fun _ => true) true m tK cs = some y → (∀ q ∈ y.1.weights P tK, q ≤ reachBytes) → ∃ (key : ByteArray) (t : T) (se sk : SV), cs = [.string key, .slice se.A se.n se.c, .slice sk.A sk.n sk.c] ∧ RdT W W.heap.size t se sk ∧ LenT reachBytes t := by
      intro m cs y hm hy hwy
      obtain ⟨g0, g1, hK, u0, p0, u1, p1⟩ := ty.K
      obtain ⟨zs, m2, rfl, rfl, hl, hzl, hzs⟩ := DataW.trod_struct hK hy
      rw [ty.cK] at hl
      obtain ⟨d0, d1, d2, rfl⟩ : ∃ d0 d1 d2, cs = [d0, d1, d2] := by
        match cs, hl with
        | [d0, d1, d2], _ => exact ⟨_, _, _, rfl⟩
      have k0 := hzs 0 g0 rfl
      have k1 := hzs 1 g1 rfl
      rw [u0, p0, ty.cS, List.getElem?_eq_getElem (by rw [hzl]; simp)] at k0
      rw [u1, p1, ty.cT, List.getElem?_eq_getElem (by rw [hzl]; simp)] at k1
      simp at k0 k1
      obtain ⟨z0, z1, rfl⟩ : ∃ z0 z1, zs = [z0, z1] := by
        match zs, hzl with
        | [z0, z1], _ => exact ⟨_, _, rfl⟩
      simp at k0 k1
      obtain ⟨s, e2, _, _⟩ := DataW.trod_string ty.S k0
      obtain ⟨t, se', sk', e3, hr, hln⟩ := ih m2 (by omega) k1 (fun q hq => hwy q (by simp only [DataW.weights, hK]; simp [DataW.weightsEach, u0, u1, hq]))
      simp at e2 e3
      obtain ⟨rfl, rfl⟩ := e3
      subst e2
      exact ⟨s, t, se', sk', rfl, hr, hln⟩
    obtain ⟨sk, f2, e2, hfl2, hel, hsk, hrd, _⟩ := row_of_trod ty.Ks ty.cK (by omega) (fun m cs y hm hy u hu => by
      obtain ⟨q0, q1, q2, rfl⟩ := kid_cells ty hy
      simp at hu
      rcases hu with rfl | rfl | rfl <;> rfl) h1
    simp at e2
    subst e2
    have hex : ∀ i, ∃ k : ByteArray × T, i < sk.n → ∃ se' sk' : SV, f2 i = [.string k.1, .slice se'.A se'.n se'.c, .slice sk'.A sk'.n sk'.c] ∧ RdT W W.heap.size k.2 se' sk' ∧ LenT reachBytes k.2 := by
      intro i
      by_cases hi : i < sk.n
      · obtain ⟨m, y, hm, hy, hwy⟩ := hel i hi
        obtain ⟨key, t, se', sk', e, hr⟩ := hkid m _ y hm hy (fun q hq => hw1 q (hwy q hq))
        exact ⟨(key, t), fun _ => ⟨se', sk', e, hr⟩⟩
      · exact ⟨(ByteArray.empty, none_), fun h => absurd h hi⟩
    obtain ⟨kf, hkf⟩ := Classical.axiomOfChoice hex
    refine ⟨.mk es ((List.range sk.n).map kf), se, sk, rfl, ?_, 
      .mk (by
        rw [he1]
        rcases Nat.eq_zero_or_pos se.n with h0 | h0
        · omega
        · obtain ⟨m, hm, hle⟩ := hse h0
          have := hw0 m hm
          exact Nat.le_trans (Nat.le_trans (by have := Nat.mul_le_mul_left se.n ty.bE; omega) hle) this) (by
        rw [List.length_map, List.length_range]
        rcases Nat.eq_zero_or_pos sk.n with h0 | h0
        · omega
        · obtain ⟨m, hm, hle⟩ := hsk h0
          have := hw1 m hm
          exact Nat.le_trans (Nat.le_trans (by have := Nat.mul_le_mul_left sk.n ty.bK; omega) hle) this) (fun k hk => by
      obtain ⟨i, hi, rfl⟩ := List.mem_map.1 hk
      obtain ⟨_, _, _, _, h⟩ := hkf i (List.mem_range.1 hi)
      exact h)⟩
    rw [rdT_mk]
    refine ⟨he1, he2, by simp, _, hrd, fun i hi => ?_⟩
    have hi' : i < sk.n := by simpa using hi
    obtain ⟨se', sk', e, hr, _⟩ := hkf i hi'
    have hat : ∀ j, j < 3 → ((List.range sk.n).flatMap f2)[i * 3 + j]? = (f2 i)[j]? := fun j hj => by
      have := flat_at (f := f2) (k := 3) hfl2 (List.range sk.n) i j (by rw [List.length_range]; exact hi') hj
      rwa [List.getElem_range] at this
    have g0 := hat 0 (by omega)
    have g1 := hat 1 (by omega)
    have g2 := hat 2 (by omega)
    rw [e] at g0 g1 g2
    have hk : ((List.range sk.n).map kf)[i] = kf i := by simp
    rw [hk]
    exact ⟨se', sk', g0, g1, g2, hr⟩
end
end Tr
end Go.Proofs.Ytcbclefemcmhpaa
namespace Go.Proofs.Ytcbclefemcmhpaa
open Go.ChangeShapes Go.WideShapes Go.ChangeAt Go.RowKit
namespace Tr
open Rw Sp
namespace KidRow
variable {w w' : World} {base e n c : Nat} {A : Option Addr} {ks : List (ByteArray × T)} {kr : List (ByteArray × SV × SV)}
/-- one kid is appended; what else lay there stays, and is not the new row -/
theorem push2 {t by_ : Nat} {z : Value} (ht : Try.prog.underlying t = some (.slice e)) (hi : (Try.prog.info? e).map (fun i => (i.zero, i.size, i.bytes)) = some (some z, 3, by_)) (hzs : z.cells.size = 3) (hby : by_ ≤ 1000000)
    (h : KidRow w base e A n c ks kr) (p : Nat) (hp : w.heap.size = p) (hb : base ≤ w.heap.size) {k : ByteArray × SV × SV} {u : T} (hu : RdO w (fun b => base ≤ b ∧ (Value.slice A n c).ownBlock ≠ some b) u k.2.1 k.2.2) (hn : n ≤ 900000) (cs : Array Value) (hcs : cs = (kidC k).toArray) :
    ∃ A' c' w', (Builtin.append_ #[t, t] t #[.slice A n c, .slice (some ⟨p, 0, none⟩) 1 1]).run Try.prog (w.alloc (.cells cs e)) = .ok (.slice A' (n + 1) c') w' ∧
      KidRow w' base e A' (n + 1) c' (ks ++ [(k.1, u)]) (kr ++ [k]) ∧ Below base w w' ∧ ∀ b, (Value.slice A n c).ownBlock ≠ some b → b < w.heap.size → (w'.heap[b]? = w.heap[b]? ∧ (Value.slice A' (n + 1) c').ownBlock ≠ some b) := by
  subst hp
  subst hcs
  obtain ⟨i0, hi0, hz0, hz1, hz2⟩ := info_of hi
  have hown := h.own.row
  obtain ⟨v', w', r1, r2, r3, r4⟩ := run_app (P := Try.prog) (w.alloc (.cells (kidC k).toArray e)) base t t e i0 z 3 by_ ht hi0 hz0 hz1 hz2 hzs (by omega)
    (hown.alloc _) (B := w.heap.size + 1) (A := some ⟨w.heap.size, 0, none⟩) (m := 1) (c := 1) (news := kidC k)
    ⟨rfl, by omega, kidC_one k, fun _ => ⟨_, _, rfl, by omega, fun j u hu => by
      rw [Nat.zero_add, cell_of_row _ _ j _ _ (0, 0) (heap_alloc_new _ _)]
      simpa using hu⟩⟩ (by omega) hby (by simp; omega)
  obtain ⟨A', c', rfl, ho⟩ := Own.of_row r2 (fun u hu => by
    rcases List.mem_append.1 hu with hu | hu
    · exact h.own.one u hu
    · exact kidC_one k u hu)
  have hbel : Below base w w' := ((Below.refl base w).alloc hb _).grown r3 (by simp; omega) (fun k hk => (hown.lt k hk).1)
  have hsize : w.heap.size ≤ w'.heap.size := by have := r3.size; simp at this; omega
  have hnew2 : ∀ b, (Value.slice A n c).ownBlock ≠ some b → b < w.heap.size → (Value.slice A' (n + 1) c').ownBlock ≠ some b := fun b hb hlt he => by
    rcases r4 with r4 | r4
    · exact hb (r4.symm.trans he)
    · have : some b = some (w.alloc (.cells (kidC k).toArray e)).heap.size := he.symm.trans r4
      injection this with this
      simp at this
      omega
  have hnew : ∀ b, (base ≤ b ∧ (Value.slice A n c).ownBlock ≠ some b) → b < w.heap.size → base ≤ b ∧ (Value.slice A' (n + 1) c').ownBlock ≠ some b := fun b hb hlt => ⟨hb.1, fun he => by
    rcases r4 with r4 | r4
    · exact hb.2 (r4.symm.trans he)
    · have : some b = some (w.alloc (.cells (kidC k).toArray e)).heap.size := he.symm.trans r4
      injection this with this
      simp at this
      omega⟩
  have hto : ∀ {t : T} {se sk : SV}, RdO w (fun b => base ≤ b ∧ (Value.slice A n c).ownBlock ≠ some b) t se sk → RdO w' (fun b => base ≤ b ∧ (Value.slice A' (n + 1) c').ownBlock ≠ some b) t se sk := fun {t se sk} ht =>
    RdO.keep hsize (fun b hb hlt => (r3.block b (by simp; omega) (fun e => hb.2.2 e.symm)).trans (heap_alloc_old w _ hlt)) t (RdO.mono (ok' := fun b => (base ≤ b ∧ (Value.slice A' (n + 1) c').ownBlock ≠ some b) ∧ (base ≤ b ∧ (Value.slice A n c).ownBlock ≠ some b)) (fun b hb hlt => ⟨hnew b hb hlt, hb⟩) t ht) |> RdO.mono (fun b hb _ => hb.1) t
  refine ⟨A', c', w', r1, ⟨by simp [h.len], by simp [h.lenr], ?_, fun i hi hi' => ?_⟩, hbel, fun b hb hlt => ⟨(r3.block b (by simp; omega) (fun e => hb e.symm)).trans (heap_alloc_old w _ hlt), hnew2 b hb hlt⟩⟩
  · have e1 : (kr ++ [k]).flatMap kidC = kr.flatMap kidC ++ kidC k := by simp
    rw [e1]
    exact ho
  · by_cases hlt : i < n
    · have h1 : i < ks.length := by rw [h.len]; exact hlt
      have h2 : i < kr.length := by rw [h.lenr]; exact hlt
      rw [List.getElem_append_left h1, List.getElem_append_left h2]
      exact ⟨(h.kid i h1 h2).1, hto (h.kid i h1 h2).2⟩
    · have e0 : i = n := by simp [h.len] at hi; omega
      have e1 : (ks ++ [(k.1, u)])[i] = (k.1, u) := by rw [List.getElem_append_right (by rw [h.len]; omega)]; simp
      have e2 : (kr ++ [k])[i] = k := by rw [List.getElem_append_right (by rw [h.lenr]; omega)]; simp
      rw [e1, e2]
      exact ⟨rfl, hto hu⟩
end KidRow
end Tr
end Go.Proofs.Ytcbclefemcmhpaa
