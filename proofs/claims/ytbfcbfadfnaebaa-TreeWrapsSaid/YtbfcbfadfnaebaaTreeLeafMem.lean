/- Leaves in memory: each a path and an entry; a row of them that grows. -/
import Derived.Test.YtbfcbfadfnaebaaTreeSearch
import Derived.Test.YtbfcbfadfnaebaaTreeOwn
namespace Go.Proofs.Ytbfcbfadfnaebaa
open Go.ChangeShapes Go.WideShapes Go.ChangeAt Go.RowKit
namespace Tr
open Rw Sp
abbrev Lf := List ByteArray × E
/-- a leaf's cells -/
def leafC (x : SV × E) : List Value := [.slice x.1.A x.1.n x.1.c, .int .i64 x.2.a, .int .i64 x.2.n, .string x.2.s, .int .i64 x.2.v]
theorem leafC_len (x : SV × E) : (leafC x).length = 5 := rfl
theorem leafC_one (x : SV × E) : ∀ u ∈ leafC x, u.oneCell' = true := by
  intro u hu
  simp [leafC] at hu
  rcases hu with rfl | rfl | rfl | rfl | rfl <;> rfl
/-- The slice value holds the cells xs, in a block that meets ok. -/
structure RX (w : World) (ok : Nat → Prop) (sz : Nat) (A : Option Addr) (n c : Nat) (xs : List Value) : Prop where
  len : xs.length = n * sz
  cap : n ≤ c
  one : ∀ u ∈ xs, u.oneCell' = true
  at_ : 0 < n → ∃ b o, A = some ⟨b, o, none⟩ ∧ ok b ∧ b < w.heap.size ∧ ∀ j u, xs[j]? = some u → w.cell? ⟨b, o + j, none⟩ = some u
namespace RX
variable {w w' : World} {ok ok' : Nat → Prop} {sz n c : Nat} {A : Option Addr} {xs : List Value}
theorem rd (h : RX w ok sz A n c xs) : Rd w w.heap.size sz A n c xs := ⟨h.len, h.cap, h.one, fun hn => by obtain ⟨b, o, e, _, hb, hc⟩ := h.at_ hn; exact ⟨b, o, e, hb, hc⟩⟩
theorem of_rd {B : Nat} (h : Rd w B sz A n c xs) (hB : B ≤ w.heap.size) (hok : ∀ b, b < B → ok b) : RX w ok sz A n c xs := ⟨h.len, h.cap, h.one, fun hn => by obtain ⟨b, o, e, hb, hc⟩ := h.at_ hn; exact ⟨b, o, e, hok b hb, by omega, hc⟩⟩
theorem mono (h : RX w ok sz A n c xs) (ho : ∀ b, ok b → b < w.heap.size → ok' b) : RX w ok' sz A n c xs :=
  ⟨h.len, h.cap, h.one, fun hn => by obtain ⟨b, o, e, h1, hb, hc⟩ := h.at_ hn; exact ⟨b, o, e, ho b h1 hb, hb, hc⟩⟩
theorem keep (h : RX w ok sz A n c xs) (hs : w.heap.size ≤ w'.heap.size) (hk : ∀ b, ok b → b < w.heap.size → w'.heap[b]? = w.heap[b]?) : RX w' ok sz A n c xs :=
  ⟨h.len, h.cap, h.one, fun hn => by
    obtain ⟨b, o, e, h1, hb, hc⟩ := h.at_ hn
    exact ⟨b, o, e, h1, Nat.lt_of_lt_of_le hb hs, fun j u hu => (World.cell?_of_block (a := ⟨b, o + j, none⟩) (hk b h1 hb)).trans (hc j u hu)⟩⟩
theorem later (h : RX w ok sz A n c xs) (hb : Below w.heap.size w w') : RX w' ok sz A n c xs := h.keep hb.size fun b _ hlt => hb.block b hlt
end RX
/-- the paths that leaves' cells point to read so, in blocks that meet ok -/
def Paths (w : World) (ok : Nat → Prop) (ls : List Lf) (lr : List (SV × E)) : Prop := ls.length = lr.length ∧ ∀ (i : Nat) (h : i < ls.length) (h' : i < lr.length), lr[i].2 = ls[i].2 ∧ ls[i].1.length = lr[i].1.n ∧ RX w ok 1 lr[i].1.A lr[i].1.n lr[i].1.c (strs ls[i].1)
namespace Paths
variable {w w' : World} {ok ok' : Nat → Prop} {ls ls2 : List Lf} {lr lr2 : List (SV × E)}
theorem nil (w : World) (ok : Nat → Prop) : Paths w ok [] [] := ⟨rfl, fun i h => by simp at h⟩
theorem mono (h : Paths w ok ls lr) (ho : ∀ b, ok b → b < w.heap.size → ok' b) : Paths w ok' ls lr := ⟨h.1, fun i hi hi' => ⟨(h.2 i hi hi').1, (h.2 i hi hi').2.1, (h.2 i hi hi').2.2.mono ho⟩⟩
theorem keep (h : Paths w ok ls lr) (hs : w.heap.size ≤ w'.heap.size) (hk : ∀ b, ok b → b < w.heap.size → w'.heap[b]? = w.heap[b]?) : Paths w' ok ls lr := ⟨h.1, fun i hi hi' => ⟨(h.2 i hi hi').1, (h.2 i hi hi').2.1, (h.2 i hi hi').2.2.keep hs hk⟩⟩
theorem later (h : Paths w ok ls lr) (hb : Below w.heap.size w w') : Paths w' ok ls lr := h.keep hb.size fun b _ hlt => hb.block b hlt
theorem app (h : Paths w ok ls lr) (h2 : Paths w ok ls2 lr2) : Paths w ok (ls ++ ls2) (lr ++ lr2) := by
  refine ⟨by rw [List.length_append, List.length_append, h.1, h2.1], fun i hi hi' => ?_⟩
  by_cases hlt : i < ls.length
  · have hlt' : i < lr.length := by rw [← h.1]; exact hlt
    rw [List.getElem_append_left hlt, List.getElem_append_left hlt']
    exact h.2 i hlt hlt'
  · have e1 := h.1
    have e2 : i - ls.length < ls2.length := by rw [List.length_append] at hi; omega
    have e3 : i - lr.length < lr2.length := by rw [List.length_append] at hi'; omega
    rw [List.getElem_append_right (by omega), List.getElem_append_right (by omega)]
    have := h2.2 (i - ls.length) e2 (by rw [e1]; exact e3)
    simpa [e1] using this
theorem one {p : List ByteArray} {e : E} {s : SV} (hl : p.length = s.n) (h : RX w ok 1 s.A s.n s.c (strs p)) : Paths w ok [(p, e)] [(s, e)] := ⟨rfl, fun i hi hi' => by
  obtain rfl : i = 0 := by simp at hi; omega
  exact ⟨rfl, hl, h⟩⟩
theorem take (h : Paths w ok ls lr) (k : Nat) : Paths w ok (ls.take k) (lr.take k) := ⟨by rw [List.length_take, List.length_take, h.1], fun i hi hi' => by
  rw [List.length_take] at hi hi'
  rw [List.getElem_take, List.getElem_take]
  exact h.2 i (by omega) (by omega)⟩
end Paths
/-- a slice that came in, or was answered: it reads as these leaves -/
def LfRd (w : World) (B : Nat) (A : Option Addr) (n c : Nat) (ls : List Lf) : Prop := ls.length = n ∧ ∃ lr : List (SV × E), Rd w B 5 A n c (lr.flatMap leafC) ∧ Paths w (fun b => b < B) ls lr
namespace LfRd
variable {w w' : World} {B n c : Nat} {A : Option Addr} {ls : List Lf}
theorem below (h : LfRd w B A n c ls) (_hB : B ≤ w.heap.size) (hb : Below B w w') : LfRd w' B A n c ls := by
  obtain ⟨h1, lr, h2, h3⟩ := h
  exact ⟨h1, lr, h2.below hb, h3.keep hb.size fun b hlt _ => hb.block b hlt⟩
theorem more {B' : Nat} (h : LfRd w B A n c ls) (hB : B ≤ B') : LfRd w B' A n c ls := by
  obtain ⟨h1, lr, h2, h3⟩ := h
  exact ⟨h1, lr, h2.more hB, h3.mono fun b hlt _ => Nat.lt_of_lt_of_le hlt hB⟩
theorem later (h : LfRd w w.heap.size A n c ls) (hb : Below w.heap.size w w') : LfRd w' w'.heap.size A n c ls := (h.below (Nat.le_refl _) hb).more hb.size
/-- the cells of the i-th leaf, and its path -/
theorem at_ (h : LfRd w B A n c ls) (hn : 0 < n) : ∃ b o, A = some ⟨b, o, none⟩ ∧ b < B ∧ ∀ (i : Nat) (hi : i < ls.length), ∃ s : SV, w.cell? ⟨b, o + i * 5, none⟩ = some (.slice s.A s.n s.c) ∧ w.cell? ⟨b, o + i * 5 + 1, none⟩ = some (.int .i64 (ls[i]).2.a) ∧ w.cell? ⟨b, o + i * 5 + 2, none⟩ = some (.int .i64 (ls[i]).2.n) ∧ w.cell? ⟨b, o + i * 5 + 3, none⟩ = some (.string (ls[i]).2.s) ∧ w.cell? ⟨b, o + i * 5 + 4, none⟩ = some (.int .i64 (ls[i]).2.v) ∧ (ls[i]).1.length = s.n ∧ RX w (fun b => b < B) 1 s.A s.n s.c (strs (ls[i]).1) := by
  obtain ⟨h1, lr, h2, h3⟩ := h
  obtain ⟨b, o, e, hb, hc⟩ := rd_elem leafC_len h2 hn
  refine ⟨b, o, e, hb, fun i hi => ?_⟩
  have hi' : i < lr.length := by rw [← h3.1]; exact hi
  obtain ⟨e1, e2, e3⟩ := h3.2 i hi hi'
  refine ⟨lr[i].1, hc i hi' 0 _ rfl, ?_, ?_, ?_, ?_, e2, e3⟩
  · rw [← e1]; exact hc i hi' 1 _ rfl
  · rw [← e1]; exact hc i hi' 2 _ rfl
  · rw [← e1]; exact hc i hi' 3 _ rfl
  · rw [← e1]; exact hc i hi' 4 _ rfl
end LfRd
/-- a row of the call's own, of type e, that holds these leaves; no path lies in the row itself -/
structure LfRow (w : World) (base e : Nat) (A : Option Addr) (n c : Nat) (ls : List Lf) (lr : List (SV × E)) : Prop where
  len : ls.length = n
  own : Own w base e 5 A n c (lr.flatMap leafC)
  paths : Paths w (fun b => (Value.slice A n c).ownBlock ≠ some b) ls lr
namespace LfRow
variable {w w' : World} {base e n c : Nat} {A : Option Addr} {ls : List Lf} {lr : List (SV × E)}
theorem nil (w : World) (base e : Nat) : LfRow w base e none 0 0 [] [] := ⟨rfl, ⟨World.ownsRow_nil _ _ _ _, by simp⟩, Paths.nil _ _⟩
theorem later (h : LfRow w base e A n c ls lr) (hb : Below w.heap.size w w') : LfRow w' base e A n c ls lr := ⟨h.len, own_later h.own hb, h.paths.later hb⟩
theorem mono {base' : Nat} (h : LfRow w base e A n c ls lr) (hb : base' ≤ base) : LfRow w base' e A n c ls lr := ⟨h.len, h.own.mono hb, h.paths⟩
theorem rd (h : LfRow w base e A n c ls lr) : LfRd w w.heap.size A n c ls := ⟨h.len, lr, h.own.rd, ⟨h.paths.1, fun i hi hi' => ⟨(h.paths.2 i hi hi').1, (h.paths.2 i hi hi').2.1, ((h.paths.2 i hi hi').2.2).mono fun _ _ hlt => hlt⟩⟩⟩
/-- more leaves are appended -/
theorem app {t by_ : Nat} {z : Value} (ht : Try.prog.underlying t = some (.slice e)) (hi : (Try.prog.info? e).map (fun i => (i.zero, i.size, i.bytes)) = some (some z, 5, by_)) (hzs : z.cells.size = 5) (hby : by_ ≤ 1000000)
    (h : LfRow w base e A n c ls lr) (hb : base ≤ w.heap.size) {B : Nat} {A2 : Option Addr} {m c2 : Nat} {ls2 : List Lf} {lr2 : List (SV × E)} (hr : Rd w B 5 A2 m c2 (lr2.flatMap leafC)) (hl2 : ls2.length = m) (hp : Paths w (fun b => (Value.slice A n c).ownBlock ≠ some b) ls2 lr2) (hn : n + m ≤ 900000) :
    ∃ A' c' w', (Builtin.append_ #[t, t] t #[.slice A n c, .slice A2 m c2]).run Try.prog w = .ok (.slice A' (n + m) c') w' ∧ LfRow w' base e A' (n + m) c' (ls ++ ls2) (lr ++ lr2) ∧ Below base w w' ∧ ∀ (P : Nat → Prop) (ls : List Lf) (lr : List (SV × E)), Paths w (fun b => (Value.slice A n c).ownBlock ≠ some b ∧ P b) ls lr → Paths w' (fun b => (Value.slice A' (n + m) c').ownBlock ≠ some b ∧ P b) ls lr := by
  obtain ⟨i0, hi0, hz0, hz1, hz2⟩ := info_of hi
  obtain ⟨v', w', r1, r2, r3, r4⟩ := run_app (P := Try.prog) w base t t e i0 z 5 by_ ht hi0 hz0 hz1 hz2 hzs (by omega) h.own.row hr (by omega) hby hb
  have e1 : (lr ++ lr2).flatMap leafC = lr.flatMap leafC ++ lr2.flatMap leafC := by simp
  rw [← e1] at r2
  obtain ⟨A', c', rfl, ho⟩ := Own.of_row r2 (fun u hu => by
    obtain ⟨x, _, hu⟩ := List.mem_flatMap.1 hu
    exact leafC_one x u hu)
  have hk : ∀ b, (Value.slice A n c).ownBlock ≠ some b → b < w.heap.size → w'.heap[b]? = w.heap[b]? := fun b hb hlt => r3.block b hlt (fun e => hb e.symm)
  have hnew : ∀ b, (Value.slice A n c).ownBlock ≠ some b → b < w.heap.size → (Value.slice A' (n + m) c').ownBlock ≠ some b := fun b hb hlt he => by
    rcases r4 with r4 | r4
    · exact hb (r4.symm.trans he)
    · have : some b = some w.heap.size := he.symm.trans r4
      injection this with this
      omega
  have hto : ∀ {ls : List Lf} {lr : List (SV × E)}, Paths w (fun b => (Value.slice A n c).ownBlock ≠ some b) ls lr → Paths w' (fun b => (Value.slice A' (n + m) c').ownBlock ≠ some b) ls lr := fun hp =>
    ((hp.mono (ok' := fun b => (Value.slice A' (n + m) c').ownBlock ≠ some b ∧ (Value.slice A n c).ownBlock ≠ some b) (fun b hb hlt => ⟨hnew b hb hlt, hb⟩)).keep r3.size (fun b hb hlt => hk b hb.2 hlt)).mono (fun b hb _ => hb.1)
  exact ⟨A', c', w', r1, ⟨by rw [List.length_append, h.len, hl2], ho, (hto h.paths).app (hto hp)⟩, (Below.refl base w).grown r3 hb (fun k hk => (h.own.row.lt k hk).1), fun P ls lr hp => ((hp.mono (ok' := fun b => (Value.slice A' (n + m) c').ownBlock ≠ some b ∧ (Value.slice A n c).ownBlock ≠ some b ∧ P b) (fun b hb hlt => ⟨hnew b hb.1 hlt, hb⟩)).keep r3.size (fun b hb hlt => hk b hb.2.1 hlt)).mono (fun b hb _ => ⟨hb.1, hb.2.2⟩)⟩
end LfRow
theorem infoL : (Try.prog.info? 69).map (fun i => (i.zero, i.size, i.bytes)) = some (some (.agg #[.slice none 0 0, .int .i64 0, .int .i64 0, .string ⟨#[]⟩, .int .i64 0]), 5, 64) := by kernel_rfl
/-- one leaf, in a block that has just been laid -/
theorem rd_leaf (w : World) (s : SV) (e : E) (ty : TypeId) : Rd (w.alloc (.cells #[.slice s.A s.n s.c, .int .i64 e.a, .int .i64 e.n, .string e.s, .int .i64 e.v] ty)) (w.heap.size + 1) 5 (some ⟨w.heap.size, 0, none⟩) 1 1 ([(s, e)].flatMap leafC) :=
  ⟨rfl, Nat.le_refl _, fun u hu => leafC_one (s, e) u (by simpa using hu), fun _ => ⟨_, _, rfl, by omega, fun j u hu => by
    rw [Nat.zero_add, cell_of_row _ _ j _ _ (0, 0) (heap_alloc_new _ _)]
    simpa [leafC] using hu⟩⟩
/-- one leaf is appended -/
theorem LfRow.push {w : World} {base n c : Nat} {A : Option Addr} {ls : List Lf} {lr : List (SV × E)} (h : LfRow w base 69 A n c ls lr) (hb : base ≤ w.heap.size) {p : List ByteArray} {e : E} {s : SV} (hl : p.length = s.n) (hp : RX w (fun b => (Value.slice A n c).ownBlock ≠ some b) 1 s.A s.n s.c (strs p)) (hn : n ≤ 800000) :
    ∃ A' c' w', (Builtin.append_ #[30, 30] 30 #[.slice A n c, .slice (some ⟨w.heap.size, 0, none⟩) 1 1]).run Try.prog (w.alloc (.cells #[.slice s.A s.n s.c, .int .i64 e.a, .int .i64 e.n, .string e.s, .int .i64 e.v] 69)) = .ok (.slice A' (n + 1) c') w' ∧ LfRow w' base 69 A' (n + 1) c' (ls ++ [(p, e)]) (lr ++ [(s, e)]) ∧ Below base w w' ∧ ∀ (P : Nat → Prop) (ls : List Lf) (lr : List (SV × E)), Paths w (fun b => (Value.slice A n c).ownBlock ≠ some b ∧ P b) ls lr → Paths w' (fun b => (Value.slice A' (n + 1) c').ownBlock ≠ some b ∧ P b) ls lr := by
  have hal : Below w.heap.size w (w.alloc (.cells #[.slice s.A s.n s.c, .int .i64 e.a, .int .i64 e.n, .string e.s, .int .i64 e.v] 69)) := (Below.refl _ _).alloc (Nat.le_refl _) _
  obtain ⟨A', c', w', r1, r2, r3, r4⟩ := (h.later hal).app Try.underlying30 infoL rfl (by omega) (by simp; omega) (rd_leaf w s e _) rfl (Paths.one hl (hp.later hal)) (by omega)
  exact ⟨A', c', w', r1, r2, (hal.mono hb).trans r3, fun P ls lr hp => r4 P ls lr (hp.later hal)⟩
end Tr
end Go.Proofs.Ytbfcbfadfnaebaa
