/- Trees: what is told one by one; a row of entries. -/
import Derived.Test.YtnlojpolfkjkoaaGreatG10
import Derived.Test.YtnlojpolfkjkoaaGreatTreeUnder
namespace Go.Proofs.YtnlojpolfkjkoaaGreat
open Go.ChangeShapes Go.WideShapes Go.ChangeAt Go.RowKit
namespace Tr
open Sp Rw
def zeroE : E := ⟨0, 0, ⟨#[]⟩, 0⟩
def bestE (r : Option E) : E := match r with | none => zeroE | some e => e
def bestK (r : Option ByteArray) : ByteArray := match r with | none => ⟨#[]⟩ | some k => k
section
variable {α : Type} {lt : α → α → Prop} {ab : α → Prop} {m : List α} {x b : α} {r : Option α}
theorem least_skip (h : ¬ ab x) (hr : LeastOf lt m ab r) : LeastOf lt (m ++ [x]) ab r := by
 cases r with
 | none =>
  intro y hy
  rcases List.mem_append.1 hy with hy | hy
  ·exact hr y hy
  ·rw [List.mem_singleton.1 hy]; exact h
 | some b =>
  refine ⟨List.mem_append_left _ hr.1, hr.2.1, fun y hy ha => ?_⟩
  rcases List.mem_append.1 hy with hy | hy
  ·exact hr.2.2 y hy ha
  ·rw [List.mem_singleton.1 hy] at ha; exact absurd ha h
theorem least_new (irr : ∀ a, ¬ lt a a) (h : ab x) (hr : LeastOf lt m ab none) : LeastOf lt (m ++ [x]) ab (some x) := by
 refine ⟨List.mem_append_right _ List.mem_cons_self, h, fun y hy ha => ?_⟩
 rcases List.mem_append.1 hy with hy | hy
 ·exact absurd ha (hr y hy)
 ·rw [List.mem_singleton.1 hy]; exact irr x
theorem least_less (irr : ∀ a, ¬ lt a a) (tr : ∀ a b c, lt a b → lt b c → lt a c) (h : ab x) (hl : lt x b) (hr : LeastOf lt m ab (some b)) : LeastOf lt (m ++ [x]) ab (some x) := by
 refine ⟨List.mem_append_right _ List.mem_cons_self, h, fun y hy ha => ?_⟩
 rcases List.mem_append.1 hy with hy | hy
 ·exact fun hyx => hr.2.2 y hy ha (tr _ _ _ hyx hl)
 ·rw [List.mem_singleton.1 hy]; exact irr x
theorem least_not (hl : ¬ lt x b) (hr : LeastOf lt m ab (some b)) : LeastOf lt (m ++ [x]) ab (some b) := by
 refine ⟨List.mem_append_left _ hr.1, hr.2.1, fun y hy ha => ?_⟩
 rcases List.mem_append.1 hy with hy | hy
 ·exact hr.2.2 y hy ha
 ·rw [List.mem_singleton.1 hy]; exact hl
end
theorem rootE_succ {ls : List Lf} {k : Nat} (h : k < ls.length) : rootE (ls.take (k + 1)) = rootE (ls.take k) ++ rootE [ls[k]] := by
 rw [List.take_succ_eq_append_getElem h]; unfold rootE; rw [List.filterMap_append]
theorem heads_succ {ls : List Lf} {k : Nat} (h : k < ls.length) : heads (ls.take (k + 1)) = heads (ls.take k) ++ heads [ls[k]] := by
 rw [List.take_succ_eq_append_getElem h]; unfold heads; rw [List.filterMap_append]
theorem kidAt_nth : ∀ {ks : List (ByteArray × T)}, ks.Pairwise (fun x y => ltS x.1 y.1) → ∀ (j : Nat) (h : j < ks.length), kidAt ks (ks[j]).1 = (ks[j]).2
 | k :: ks, hp, 0, _ => by
  show kidAt (k :: ks) k.1 = k.2; unfold kidAt; rw [if_pos rfl]
 | k :: ks, hp, j + 1, h => by
  rw [List.pairwise_cons] at hp
  have hj : j < ks.length := by simpa using h
  have hlt := hp.1 (ks[j]) (List.getElem_mem hj); show kidAt (k :: ks) (ks[j]).1 = (ks[j]).2; unfold kidAt; rw [if_neg (fun e => tot_str.irr (ks[j]).1 (by rw [e] at hlt; exact hlt))]; exact kidAt_nth hp.2 j hj
theorem heads_ok {d : Nat} {es : List E} {ks : List (ByteArray × T)} (h : RightT (d + 1) (.mk es ks)) {k : ByteArray} (hk : k ∈ heads (leaves (.mk es ks))) : 1 ≤ k.size := by
 obtain ⟨x, hx, rfl⟩ := List.mem_map.1 ((heads_leaves h k).1 hk); exact (h.2.2.2 x hx).1.1
theorem _root_.Go.Proofs.YtnlojpolfkjkoaaGreat.Free.low {g B : Nat} {w w' : World} (h : Free g w) (hb : Below B w w') (hg : g < B) (hs : w.heap.size ≤ w'.heap.size) : Free g w' := ⟨Nat.lt_of_lt_of_le h.1 hs, fun j => (hb.frozen (p := ⟨g, j, none⟩) hg).trans (h.2 j)⟩
theorem push_ent (W : World) (base q : Nat) (hq : W.heap.size = q) {A : Option Addr} {n c : Nat} {l : List E} (h : Own W base 41 4 A n c (entsC l)) (hl : l.length = n) (hb : base ≤ W.heap.size) (e : E) (hn : n ≤ 800000) :
  ∃ A' c' w', (Builtin.append_ #[22, 22] 22 #[.slice A n c, .slice (some ⟨q, 0, none⟩) 1 1]).run Tryz.prog (W.alloc (.cells #[.int .i64 e.a, .int .i64 e.n, .string e.s, .int .i64 e.v] 41)) = .ok (.slice A' (n + 1) c') w' ∧ Own w' base 41 4 A' (n + 1) c' (entsC (l ++ [e])) ∧ Below base W w' := by
 subst hl; obtain ⟨A', c', w', r1, r2, r3⟩ := Rw.push (f := entC) entC_len entC_one (t := 22) Tryz.underlying22 infoE rfl (by omega) (by omega) W base q hq hb (.slice A l.length c) l h.row e _ rfl (by omega)
 have e1 : (l ++ [e]).length = l.length + 1 := by simp
 rw [e1] at r1 r2; exact ⟨A', c', w', r1, r2, r3⟩
def lastK (ks : List (ByteArray × T)) (j : Nat) : ByteArray := match j with | 0 => ⟨#[]⟩ | j + 1 => ((ks.map fun x => x.1)[j]?).getD ⟨#[]⟩
theorem str_cons {k : ByteArray} (h : 1 ≤ k.size) : ∃ a l, k.toList = a :: l := by
 rcases hk : k.toList with _ | ⟨a, l⟩
 ·have h1 : k.toList.length = k.size := by rw [ByteArray.toList_eq]; simp
  rw [hk] at h1
  simp at h1
  omega
 ·exact ⟨a, l, rfl⟩
theorem str_isEmpty {k : ByteArray} (h : 1 ≤ k.size) : k.toList.isEmpty = false := by
 obtain ⟨a, l, e⟩ := str_cons h; rw [e]; rfl
theorem nil_isEmpty : (⟨#[]⟩ : ByteArray).toList.isEmpty = true := by
 rw [ByteArray.toList_eq]; rfl
theorem above_key {ks : List (ByteArray × T)} {j : Nat} {k : ByteArray} (h : 1 ≤ k.size) (hj : j ≤ ks.length) : Abv ltS (ks.map fun x => x.1) j k ↔ Op.bytesLess (lastK ks j).toList k.toList = true := by
 cases j with
 | zero =>
  obtain ⟨a, l, e⟩ := str_cons h; refine ⟨fun _ => ?_, fun _ h0 _ => absurd h0 (by omega)⟩; show Op.bytesLess (⟨#[]⟩ : ByteArray).toList k.toList = true; rw [e, ByteArray.toList_eq]; rfl
 | succ j =>
  have hl : j < (ks.map fun x => x.1).length := by rw [List.length_map]; omega
  have e : lastK ks (j + 1) = (ks.map fun x => x.1)[j] := by show ((ks.map fun x => x.1)[j]?).getD ⟨#[]⟩ = _; rw [List.getElem?_eq_getElem hl]; rfl
  rw [e]; exact ⟨fun h1 => h1 (by omega) hl, fun h1 _ _ => h1⟩
def cntOf : Option Value → Nat | some (.slice _ n _) => n | _ => 0
end Tr
end Go.Proofs.YtnlojpolfkjkoaaGreat
