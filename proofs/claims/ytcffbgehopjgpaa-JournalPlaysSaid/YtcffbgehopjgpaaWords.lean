/- Words for memory: a slice value that reads as a list of cells; an append onto a row of the call's own, whatever the source. Nothing here speaks of a program. -/
import Derived.Test.YtcffbgehopjgpaaRows
import Derived.WalkKit
import Derived.WalkSpells
import Derived.WalkLawsBesides
import Derived.Deep.AppendLies
import Derived.Deep.Draws
import Derived.Deep.RegionHeld3
import Derived.Deep.QuietTactic
import Derived.BigQuiet
import Derived.Maps.AppendAt
import Derived.Lib.Hide
import Derived.Lib.AppendZeros
namespace Go.Proofs.Ytcffbgehopjgpaa
open Go.RowKit

/-- The slice value '.slice A n c' holds the cells xs (sz cells an element), below block B. -/
structure Rd (w : World) (B sz : Nat) (A : Option Addr) (n c : Nat) (xs : List Value) : Prop where
  len : xs.length = n * sz
  cap : n ≤ c
  one : ∀ u ∈ xs, u.oneCell' = true
  at_ : 0 < n → ∃ b o, A = some ⟨b, o, none⟩ ∧ b < B ∧ ∀ j u, xs[j]? = some u → w.cell? ⟨b, o + j, none⟩ = some u

section
variable {w w' : World} {B B' sz n c : Nat} {A : Option Addr} {xs : List Value}
theorem Rd.nil (c : Nat) : Rd w B sz A 0 c [] := ⟨by simp, Nat.zero_le _, by simp, fun h => absurd h (by omega)⟩
theorem Rd.keep (h : Rd w B sz A n c xs) (hk : ∀ p : Addr, p.block < B → w'.cell? p = w.cell? p) : Rd w' B sz A n c xs :=
  ⟨h.len, h.cap, h.one, fun hn => by
    obtain ⟨b, o, e, hb, hc⟩ := h.at_ hn
    exact ⟨b, o, e, hb, fun j u hu => (hk ⟨b, o + j, none⟩ hb).trans (hc j u hu)⟩⟩
theorem Rd.more (h : Rd w B sz A n c xs) (hB : B ≤ B') : Rd w B' sz A n c xs :=
  ⟨h.len, h.cap, h.one, fun hn => by
    obtain ⟨b, o, e, hb, hc⟩ := h.at_ hn
    exact ⟨b, o, e, by omega, hc⟩⟩
theorem Rd.below (h : Rd w B sz A n c xs) (hb : Below B w w') : Rd w' B sz A n c xs := h.keep fun _ hp => hb.cell hp
theorem Rd.later (h : Rd w w.heap.size sz A n c xs) (hb : Below w.heap.size w w') : Rd w' w'.heap.size sz A n c xs := (h.below hb).more hb.size
theorem Rd.drewN (h : Rd w B sz A n c xs) (k : Nat) : Rd (w.drewN k) B sz A n c xs := h.keep fun _ _ => rfl
theorem Rd.drew (h : Rd w B sz A n c xs) : Rd w.drew B sz A n c xs := h.keep fun _ _ => rfl
theorem Rd.alloc (h : Rd w B sz A n c xs) (hB : B ≤ w.heap.size) (o : Obj) : Rd (w.alloc o) B sz A n c xs := h.keep fun p hp => World.cell?_alloc_lt w o p (by omega)
theorem Rd.setCell (h : Rd w B sz A n c xs) {p : Addr} (hB : B ≤ p.block) (u : Value) : Rd (w.setCell p u) B sz A n c xs :=
  h.keep fun q hq => World.cell?_setCell_other w p q u (fun e => by subst e; omega)
/-- A cut 's[i:j]'. -/
theorem Rd.cut (h : Rd w B sz A n c xs) {i j : Nat} (hi : i ≤ j) (hj : j ≤ n) :
    Rd w B sz (if c = i then A else A.map (·.add (i * sz))) (j - i) (c - i) ((xs.drop (i * sz)).take ((j - i) * sz)) := by
  have hc := h.cap
  have hln : (j - i) * sz ≤ xs.length - i * sz := by rw [h.len, ← Nat.sub_mul]; exact Nat.mul_le_mul_right _ (by omega)
  refine ⟨?_, by omega, fun u hu => h.one u (List.mem_of_mem_drop (List.mem_of_mem_take hu)), fun hn => ?_⟩
  · rw [List.length_take, List.length_drop]; omega
  obtain ⟨b, o, rfl, hb, hcell⟩ := h.at_ (by omega)
  rw [if_neg (by omega)]
  refine ⟨b, o + i * sz, ?_, hb, fun k u hu => ?_⟩
  · show some (Addr.add ⟨b, o, none⟩ (i * sz)) = _
    unfold Addr.add
    split
    · rename_i h0; rw [h0]; rfl
    · rfl
  · rw [List.getElem?_take] at hu
    split at hu
    · rw [List.getElem?_drop] at hu
      have := hcell _ u hu
      rwa [← Nat.add_assoc] at this
    · cases hu
/-- 's[:j]' -/
theorem Rd.to_ (h : Rd w B sz A n c xs) {j : Nat} (hj : j ≤ n) : Rd w B sz A j c (xs.take (j * sz)) := by
  have hc := h.cap
  have hln : j * sz ≤ xs.length := by rw [h.len]; exact Nat.mul_le_mul_right _ hj
  refine ⟨by rw [List.length_take]; omega, by omega, fun u hu => h.one u (List.mem_of_mem_take hu), fun hn => ?_⟩
  obtain ⟨b, o, e, hb, hcell⟩ := h.at_ (by omega)
  refine ⟨b, o, e, hb, fun k u hu => ?_⟩
  rw [List.getElem?_take] at hu
  split at hu
  · exact hcell _ u hu
  · cases hu
/-- 's[i:]' -/
theorem Rd.from_ (h : Rd w B sz A n c xs) {i : Nat} (hi : i ≤ n) :
    Rd w B sz (if c = i then A else A.map (·.add (i * sz))) (n - i) (c - i) (xs.drop (i * sz)) := by
  have h1 := h.cut hi (Nat.le_refl n)
  rwa [List.take_of_length_le (by rw [List.length_drop, h.len, ← Nat.sub_mul]; exact Nat.le_refl _)] at h1
theorem Rd.of_own {base : Nat} {e : TypeId} {v : Value} (h : w.ownsRow base e sz v n xs) (h1 : ∀ u ∈ xs, u.oneCell' = true) : ∃ A c, v = .slice A n c ∧ Rd w w.heap.size sz A n c xs := by
  rcases h.2 with ⟨rfl, rfl⟩ | ⟨g, cap, cur, rfl, _, hg, hnc, _, _, _⟩
  · exact ⟨none, 0, rfl, ⟨h.1, Nat.le_refl _, h1, fun hn => absurd hn (by omega)⟩⟩
  · refine ⟨_, cap, rfl, ⟨h.1, hnc, h1, fun hn => ⟨g, 0, rfl, (Array.getElem?_eq_some_iff.1 hg).1, fun j u hu => ?_⟩⟩⟩
    have := h.cells (g := g) rfl j u hu
    rw [Nat.zero_add]
    unfold Addr.add at this
    split at this
    · rename_i h0; rw [h0]; exact this
    · simpa using this
end

/-- The slice value is a row of the call's own: new since 'base'. -/
structure Own (w : World) (base : Nat) (e : TypeId) (sz : Nat) (A : Option Addr) (n c : Nat) (xs : List Value) : Prop where
  row : w.ownsRow base e sz (.slice A n c) n xs
  one : ∀ u ∈ xs, u.oneCell' = true
theorem Own.rd {w : World} {base : Nat} {e : TypeId} {sz n c : Nat} {A : Option Addr} {xs : List Value} (h : Own w base e sz A n c xs) : Rd w w.heap.size sz A n c xs := by
  obtain ⟨A', c', hv, hr⟩ := Rd.of_own h.row h.one
  injection hv with h1 h2 h3
  subst h1; subst h3
  exact hr
theorem Own.set_below {w : World} {base : Nat} {e : TypeId} {sz n c : Nat} {A : Option Addr} {xs : List Value} (h : Own w base e sz A n c xs) {a : Addr} (ha : a.block < base) (u : Value) : Own (w.setCell a u) base e sz A n c xs :=
  ⟨ownsRow_setCell_below h.row ha u, h.one⟩
theorem Own.mono {w : World} {base base' : Nat} {e : TypeId} {sz n c : Nat} {A : Option Addr} {xs : List Value} (h : Own w base e sz A n c xs) (hb : base' ≤ base) : Own w base' e sz A n c xs := by
  refine ⟨⟨h.row.1, ?_⟩, h.one⟩
  rcases h.row.2 with h1 | ⟨g, cap, cur, h1, h2, h3⟩
  · exact .inl h1
  · exact .inr ⟨g, cap, cur, h1, by omega, h3⟩
theorem Own.of_row {w : World} {base : Nat} {e : TypeId} {sz n : Nat} {v : Value} {xs : List Value} (h : w.ownsRow base e sz v n xs) (h1 : ∀ u ∈ xs, u.oneCell' = true) : ∃ A c, v = .slice A n c ∧ Own w base e sz A n c xs := by
  rcases h.2 with ⟨rfl, rfl⟩ | ⟨g, cap, cur, rfl, _⟩
  · exact ⟨none, 0, rfl, h, h1⟩
  · exact ⟨_, cap, rfl, h, h1⟩
/-- An answer that is a row of the call's own. -/
def NewRow (ty sz : Nat) (xs : List Value) (n : Nat) (w : World) (e : Ending) (w' : World) : Prop :=
  ∃ A c, e = .returned (.slice A n c) ∧ Own w' w.heap.size ty sz A n c xs ∧ Below w.heap.size w w'

/-- append(v, x...) where v is a row of the call's own and x reads as 'news'. -/
theorem run_app {P : Program} (w : World) (base : Nat) (t ty e : TypeId) (i : TypeInfo) (z : Value) (sz bytes : Nat) (ht : P.underlying t = some (.slice e)) (hi : P.info? e = some i) (hz : i.zero = some z)
    (hsize : i.size = sz) (hby : i.bytes = bytes) (hzs : z.cells.size = sz) (hsz : 0 < sz)
    {v : Value} {n : Nat} {xs : List Value} (hown : w.ownsRow base e sz v n xs)
    {B : Nat} {A : Option Addr} {m c : Nat} {news : List Value} (hr : Rd w B sz A m c news)
    (h63 : n + m ≤ 1000000) (hbytes : bytes ≤ 1000000) (hbase : base ≤ w.heap.size) :
    ∃ v' w', (Builtin.append_ #[t, t] ty #[v, .slice A m c]).run P w = .ok v' w' ∧ w'.ownsRow base e sz v' (n + m) (xs ++ news) ∧ w.grownBy w' v.ownBlock ∧
      (v'.ownBlock = v.ownBlock ∨ v'.ownBlock = some w.heap.size) := by
  rcases Nat.eq_zero_or_pos m with rfl | hm
  · have hn : news = [] := List.eq_nil_of_length_eq_zero (by simpa using hr.len)
    subst hn
    refine ⟨v, w, ?_, by simpa using hown, ⟨rfl, rfl, rfl, Nat.le_refl _, fun _ _ _ => rfl⟩, .inl rfl⟩
    have hf : ∀ (A : Option Addr), (Builtin.firstCells i.size 0 (.slice A 0 c)).run P w = .ok #[] w := by
      intro A
      cases A with
      | none => simp [Builtin.firstCells]
      | some a => exact run_firstCells_some w i.size 0 a 0 c [] (by simp) (by simp)
    rcases hown.2 with ⟨rfl, rfl⟩ | ⟨g, cap, cur, rfl, _, _, hnc, _⟩
    · simp [Builtin.append_, run_underlying ht, sizeOf, typeInfo, hi, Builtin.lenOf, hf]
    · simp [Builtin.append_, run_underlying ht, sizeOf, typeInfo, hi, Builtin.lenOf, hf, hnc, storeCells]
  · obtain ⟨b, o, rfl, _, hc⟩ := hr.at_ hm
    have hb2 : (n + m) * bytes ≤ 140737488355328 := Nat.le_trans (Nat.mul_le_mul h63 hbytes) (by omega)
    obtain ⟨v', w', h1, h2, h3, _, h5⟩ := run_append_own_at (P := P) w base t ty e i z sz bytes ht hi hz hsize hby hzs hsz v n xs hown ⟨b, o, none⟩ m c news hr.len
      (fun j u hu => by
        have := hc j u hu
        unfold Addr.add
        split
        · rename_i h0; subst h0; simpa using this
        · exact this) hr.one (by simp only [maxLen]; omega) hb2 hbase
    exact ⟨v', w', h1, h2, h3, h5⟩

/-- 's[i:]' and 's[:j]', as rules for the walk: the address under a name. -/
theorem run_cut_from {P : Program} (t e : TypeId) (sz : Nat) (ht : P.underlying t = some (.slice e)) {i : TypeInfo} (hi : P.info? e = some i) (hsz : i.size = sz) (A : Option Addr) (n c k : Nat) (hk : k ≤ n) (w : World) :
    (Instr.slice t (.slice A n c) (some (.int .i64 (k : Nat))) none none).run P w = .ok (.slice (if c = k then A else A.map (·.add (k * sz))) (n - k) (c - k)) w := by
  subst hsz
  simp [Instr.slice, Instr.sliceBounds, Instr.sliceBound, asIntOf, run_underlying ht, sizeOf, typeInfo, hi, hk]
theorem run_cut_to {P : Program} (t e : TypeId) (sz : Nat) (ht : P.underlying t = some (.slice e)) {i : TypeInfo} (hi : P.info? e = some i) (_hsz : i.size = sz) (A : Option Addr) (n c k : Nat) (hk : k ≤ c) (w : World) :
    (Instr.slice t (.slice A n c) none (some (.int .i64 (k : Nat))) none).run P w = .ok (.slice A k c) w := by
  subst _hsz
  have h0 : (fun x : Addr => x.add 0) = id := by funext x; simp [Addr.add]
  simp [Instr.slice, Instr.sliceBounds, Instr.sliceBound, asIntOf, run_underlying ht, sizeOf, typeInfo, hi, hk, h0]

/-- a slice that comes in: its value's parts, its cells -/
structure Part where
  A : Option Addr
  n : Nat
  c : Nat
  xs : List Value
def Part.val (p : Part) : Value := .slice p.A p.n p.c
def total (ss : List Part) : Nat := (ss.map Part.n).sum
def cat (ss : List Part) : List Value := ss.flatMap Part.xs
theorem total_take (ss : List Part) (i : Nat) (h : i < ss.length) : total (ss.take (i + 1)) = total (ss.take i) + ss[i].n := by
  unfold total
  rw [List.take_succ_eq_append_getElem h]
  simp only [List.map_append, List.sum_append, List.map_cons, List.map_nil, List.sum_cons, List.sum_nil, Nat.add_zero]
theorem total_le (ss : List Part) (i : Nat) : total (ss.take i) ≤ total ss := by
  have h : total ss = total (ss.take i) + total (ss.drop i) := by
    simp only [total]; rw [← List.sum_append, ← List.map_append, List.take_append_drop]
  omega
theorem cat_take (ss : List Part) (i : Nat) (h : i < ss.length) : cat (ss.take (i + 1)) = cat (ss.take i) ++ ss[i].xs := by
  unfold cat
  rw [List.take_succ_eq_append_getElem h]
  simp only [List.flatMap_append, List.flatMap_cons, List.flatMap_nil, List.append_nil]


/-- only block g, and what is new, has turned: step by step -/
theorem gb_later {w wr w2 : World} {row : Option Nat} (h : w.grownBy wr row) (hb : Below wr.heap.size wr w2) : w.grownBy w2 row :=
  ⟨hb.os.trans h.os, hb.tape.trans h.tape, hb.output.trans h.output, Nat.le_trans h.size hb.size, fun k hk hne => (hb.block k (Nat.lt_of_lt_of_le hk h.size)).trans (h.block k hk hne)⟩
theorem gb_drew {w wr : World} {row : Option Nat} (h : w.grownBy wr row) : w.grownBy wr.drew row := ⟨h.os, h.tape, h.output, h.size, h.block⟩
theorem gb_drewN {w wr : World} {row : Option Nat} (h : w.grownBy wr row) (n : Nat) : w.grownBy (wr.drewN n) row := ⟨h.os, h.tape, h.output, h.size, h.block⟩
theorem gb_set {w wr : World} {g : Nat} (h : w.grownBy wr (some g)) (j : Nat) (u : Value) : w.grownBy (wr.setCell ⟨g, j, none⟩ u) (some g) :=
  ⟨h.os, h.tape, h.output, by simpa [World.setCell] using h.size, fun i hi hne => (Below.heap_setCell wr ⟨g, j, none⟩ u i (fun e => hne (by rw [e]))).trans (h.block i hi hne)⟩
theorem bel_drewN {B : Nat} {a w : World} (h : Below B a w) (n : Nat) : Below B a (w.drewN n) := ⟨h.os, h.tape, h.output, h.size, h.block⟩
theorem gb_refl (w : World) (row : Option Nat) : w.grownBy w row := ⟨rfl, rfl, rfl, Nat.le_refl _, fun _ _ _ => rfl⟩

/-- The slice value holds the cells xs, in a block from lo on. -/
structure Rb (w : World) (lo sz : Nat) (A : Option Addr) (n c : Nat) (xs : List Value) : Prop where
  len : xs.length = n * sz
  cap : n ≤ c
  one : ∀ u ∈ xs, u.oneCell' = true
  at_ : 0 < n → ∃ b o, A = some ⟨b, o, none⟩ ∧ lo ≤ b ∧ b < w.heap.size ∧ ∀ j u, xs[j]? = some u → w.cell? ⟨b, o + j, none⟩ = some u
section
variable {w w' : World} {lo sz n c : Nat} {A : Option Addr} {xs : List Value}
theorem Rb.rd (h : Rb w lo sz A n c xs) : Rd w w.heap.size sz A n c xs :=
  ⟨h.len, h.cap, h.one, fun hn => by obtain ⟨b, o, e, _, hb, hc⟩ := h.at_ hn; exact ⟨b, o, e, hb, hc⟩⟩
theorem Rb.mono {lo' : Nat} (h : Rb w lo sz A n c xs) (hl : lo' ≤ lo) : Rb w lo' sz A n c xs :=
  ⟨h.len, h.cap, h.one, fun hn => by obtain ⟨b, o, e, h1, hb, hc⟩ := h.at_ hn; exact ⟨b, o, e, by omega, hb, hc⟩⟩
theorem Rb.gb {s : Nat} (h : Rb w lo sz A n c xs) (hg : w.grownBy w' (some s)) (hs : s < lo) : Rb w' lo sz A n c xs :=
  ⟨h.len, h.cap, h.one, fun hn => by
    obtain ⟨b, o, e, h1, hb, hc⟩ := h.at_ hn
    exact ⟨b, o, e, h1, Nat.lt_of_lt_of_le hb hg.size, fun j u hu => (World.cell?_of_block (hg.block b hb (fun e => by injection e with e; omega))).trans (hc j u hu)⟩⟩
theorem Rb.later (h : Rb w lo sz A n c xs) (hb : Below w.heap.size w w') : Rb w' lo sz A n c xs :=
  ⟨h.len, h.cap, h.one, fun hn => by
    obtain ⟨b, o, e, h1, hbb, hc⟩ := h.at_ hn
    exact ⟨b, o, e, h1, Nat.lt_of_lt_of_le hbb hb.size, fun j u hu => (hb.cell (p := ⟨b, o + j, none⟩) hbb).trans (hc j u hu)⟩⟩
theorem Own.rb {base : Nat} {e : TypeId} (h : Own w base e sz A n c xs) : Rb w base sz A n c xs := by
  have h1 := h.rd
  refine ⟨h1.len, h1.cap, h1.one, fun hn => ?_⟩
  obtain ⟨b, o, e1, hb, hc⟩ := h1.at_ hn
  refine ⟨b, o, e1, ?_, hb, hc⟩
  rcases h.row.2 with ⟨_, h0⟩ | ⟨g, _, _, hv, hg, _⟩
  · omega
  · injection hv with hv; rw [e1] at hv; injection hv with hv; injection hv with hv; omega
end

/-- what lasts while calls make memory: p in v, q in v' -/
class Las (v v' : World) (p : Prop) (q : outParam Prop) : Prop where
  go : p → Below v.heap.size v v' → q
instance {sz n c : Nat} {A : Option Addr} {xs : List Value} {v v' : World} : Las v v' (Rd v v.heap.size sz A n c xs) (Rd v' v'.heap.size sz A n c xs) := ⟨fun h hb => h.later hb⟩
instance {w0 : World} {v v' : World} : Las v v' (Below w0.heap.size w0 v) (Below w0.heap.size w0 v') := ⟨fun h hb => h.trans (hb.mono h.size)⟩
section
variable {v v' : World} {p1 p2 p3 p4 p5 p6 p7 p8 q1 q2 q3 q4 q5 q6 q7 q8 : Prop}
theorem cq2 [Las v v' p1 q1] [Las v v' p2 q2] (hb : Below v.heap.size v v') (h1 : Hid p1) (h2 : Hid p2) : Hid q1 ∧ Hid q2 := ⟨Las.go (v := v) (v' := v') h1.out hb, Las.go (v := v) (v' := v') h2.out hb⟩
theorem cq3 [Las v v' p1 q1] [Las v v' p2 q2] [Las v v' p3 q3] (hb : Below v.heap.size v v') (h1 : Hid p1) (h2 : Hid p2) (h3 : Hid p3) : Hid q1 ∧ Hid q2 ∧ Hid q3 := ⟨Las.go (v := v) (v' := v') h1.out hb, Las.go (v := v) (v' := v') h2.out hb, Las.go (v := v) (v' := v') h3.out hb⟩
theorem cq4 [Las v v' p1 q1] [Las v v' p2 q2] [Las v v' p3 q3] [Las v v' p4 q4] (hb : Below v.heap.size v v') (h1 : Hid p1) (h2 : Hid p2) (h3 : Hid p3) (h4 : Hid p4) : Hid q1 ∧ Hid q2 ∧ Hid q3 ∧ Hid q4 := ⟨Las.go (v := v) (v' := v') h1.out hb, Las.go (v := v) (v' := v') h2.out hb, Las.go (v := v) (v' := v') h3.out hb, Las.go (v := v) (v' := v') h4.out hb⟩
theorem cq5 [Las v v' p1 q1] [Las v v' p2 q2] [Las v v' p3 q3] [Las v v' p4 q4] [Las v v' p5 q5] (hb : Below v.heap.size v v') (h1 : Hid p1) (h2 : Hid p2) (h3 : Hid p3) (h4 : Hid p4) (h5 : Hid p5) : Hid q1 ∧ Hid q2 ∧ Hid q3 ∧ Hid q4 ∧ Hid q5 := ⟨Las.go (v := v) (v' := v') h1.out hb, Las.go (v := v) (v' := v') h2.out hb, Las.go (v := v) (v' := v') h3.out hb, Las.go (v := v) (v' := v') h4.out hb, Las.go (v := v) (v' := v') h5.out hb⟩
theorem cq6 [Las v v' p1 q1] [Las v v' p2 q2] [Las v v' p3 q3] [Las v v' p4 q4] [Las v v' p5 q5] [Las v v' p6 q6] (hb : Below v.heap.size v v') (h1 : Hid p1) (h2 : Hid p2) (h3 : Hid p3) (h4 : Hid p4) (h5 : Hid p5) (h6 : Hid p6) : Hid q1 ∧ Hid q2 ∧ Hid q3 ∧ Hid q4 ∧ Hid q5 ∧ Hid q6 := ⟨Las.go (v := v) (v' := v') h1.out hb, Las.go (v := v) (v' := v') h2.out hb, Las.go (v := v) (v' := v') h3.out hb, Las.go (v := v) (v' := v') h4.out hb, Las.go (v := v) (v' := v') h5.out hb, Las.go (v := v) (v' := v') h6.out hb⟩
theorem cq7 [Las v v' p1 q1] [Las v v' p2 q2] [Las v v' p3 q3] [Las v v' p4 q4] [Las v v' p5 q5] [Las v v' p6 q6] [Las v v' p7 q7] (hb : Below v.heap.size v v') (h1 : Hid p1) (h2 : Hid p2) (h3 : Hid p3) (h4 : Hid p4) (h5 : Hid p5) (h6 : Hid p6) (h7 : Hid p7) : Hid q1 ∧ Hid q2 ∧ Hid q3 ∧ Hid q4 ∧ Hid q5 ∧ Hid q6 ∧ Hid q7 := ⟨Las.go (v := v) (v' := v') h1.out hb, Las.go (v := v) (v' := v') h2.out hb, Las.go (v := v) (v' := v') h3.out hb, Las.go (v := v) (v' := v') h4.out hb, Las.go (v := v) (v' := v') h5.out hb, Las.go (v := v) (v' := v') h6.out hb, Las.go (v := v) (v' := v') h7.out hb⟩
theorem cq8 [Las v v' p1 q1] [Las v v' p2 q2] [Las v v' p3 q3] [Las v v' p4 q4] [Las v v' p5 q5] [Las v v' p6 q6] [Las v v' p7 q7] [Las v v' p8 q8] (hb : Below v.heap.size v v') (h1 : Hid p1) (h2 : Hid p2) (h3 : Hid p3) (h4 : Hid p4) (h5 : Hid p5) (h6 : Hid p6) (h7 : Hid p7) (h8 : Hid p8) : Hid q1 ∧ Hid q2 ∧ Hid q3 ∧ Hid q4 ∧ Hid q5 ∧ Hid q6 ∧ Hid q7 ∧ Hid q8 := ⟨Las.go (v := v) (v' := v') h1.out hb, Las.go (v := v) (v' := v') h2.out hb, Las.go (v := v) (v' := v') h3.out hb, Las.go (v := v) (v' := v') h4.out hb, Las.go (v := v) (v' := v') h5.out hb, Las.go (v := v) (v' := v') h6.out hb, Las.go (v := v) (v' := v') h7.out hb, Las.go (v := v) (v' := v') h8.out hb⟩
end
end Go.Proofs.Ytcffbgehopjgpaa
