/- A row of kids that grows beside other memory of the call's own. -/
import Derived.Test.YtbfcbfadfnaebaaTreeOwn
namespace Go.Proofs.Ytbfcbfadfnaebaa
open Go.ChangeShapes Go.WideShapes Go.ChangeAt Go.RowKit
namespace Tr
open Rw Sp
namespace KidRow
variable {w w' : World} {base e n c : Nat} {A : Option Addr} {ks : List (ByteArray × T)} {kr : List (ByteArray × SV × SV)}
/-- one kid is appended; what else lay there stays, and is not the new row -/
theorem push2 {t by_ : Nat} {z : Value} (ht : Try.prog.underlying t = some (.slice e)) (hi : (Try.prog.info? e).map (fun i => (i.zero, i.size, i.bytes)) = some (some z, 3, by_)) (hzs : z.cells.size = 3) (hby : by_ ≤ 1000000)
    (h : KidRow w base e A n c ks kr) (p : Nat) (hp : w.heap.size = p) (hb : base ≤ w.heap.size) {k : ByteArray × SV × SV} {u : T} (hu : RdO w (fun b => base ≤ b ∧ (Value.slice A n c).ownBlock ≠ some b) u k.2.1 k.2.2) (hn : n ≤ 900000) (cs : Array Value) (hcs : cs = (kidC k).toArray) :
    ∃ A' c' w', (Builtin.append_ #[t, t] t #[.slice A n c, .slice (some ⟨p, 0, none⟩) 1 1]).run Try.prog (w.alloc (.cells cs e)) = .ok (.slice A' (n + 1) c') w' ∧
      KidRow w' base e A' (n + 1) c' (ks ++ [(k.1, u)]) (kr ++ [k]) ∧ Below base w w' ∧ ∀ b, (Value.slice A n c).ownBlock ≠ some b → b < w.heap.size → (w'.heap[b]? = w.heap[b]? ∧ (Value.slice A' (n + 1) c').ownBlock ≠ some b) := by
  subst hp
  subst hcs
  obtain ⟨i0, hi0, hz0, hz1, hz2⟩ := info_of hi
  have hown := h.own.row
  obtain ⟨v', w', r1, r2, r3, r4⟩ := run_app (P := Try.prog) (w.alloc (.cells (kidC k).toArray e)) base t t e i0 z 3 by_ ht hi0 hz0 hz1 hz2 hzs (by omega)
    (hown.alloc _) (B := w.heap.size + 1) (A := some ⟨w.heap.size, 0, none⟩) (m := 1) (c := 1) (news := kidC k)
    ⟨rfl, by omega, kidC_one k, fun _ => ⟨_, _, rfl, by omega, fun j u hu => by
      rw [Nat.zero_add, cell_of_row _ _ j _ _ (0, 0) (heap_alloc_new _ _)]
      simpa using hu⟩⟩ (by omega) hby (by simp; omega)
  obtain ⟨A', c', rfl, ho⟩ := Own.of_row r2 (fun u hu => by
    rcases List.mem_append.1 hu with hu | hu
    · exact h.own.one u hu
    · exact kidC_one k u hu)
  have hbel : Below base w w' := ((Below.refl base w).alloc hb _).grown r3 (by simp; omega) (fun k hk => (hown.lt k hk).1)
  have hsize : w.heap.size ≤ w'.heap.size := by have := r3.size; simp at this; omega
  have hnew2 : ∀ b, (Value.slice A n c).ownBlock ≠ some b → b < w.heap.size → (Value.slice A' (n + 1) c').ownBlock ≠ some b := fun b hb hlt he => by
    rcases r4 with r4 | r4
    · exact hb (r4.symm.trans he)
    · have : some b = some (w.alloc (.cells (kidC k).toArray e)).heap.size := he.symm.trans r4
      injection this with this
      simp at this
      omega
  have hnew : ∀ b, (base ≤ b ∧ (Value.slice A n c).ownBlock ≠ some b) → b < w.heap.size → base ≤ b ∧ (Value.slice A' (n + 1) c').ownBlock ≠ some b := fun b hb hlt => ⟨hb.1, fun he => by
    rcases r4 with r4 | r4
    · exact hb.2 (r4.symm.trans he)
    · have : some b = some (w.alloc (.cells (kidC k).toArray e)).heap.size := he.symm.trans r4
      injection this with this
      simp at this
      omega⟩
  have hto : ∀ {t : T} {se sk : SV}, RdO w (fun b => base ≤ b ∧ (Value.slice A n c).ownBlock ≠ some b) t se sk → RdO w' (fun b => base ≤ b ∧ (Value.slice A' (n + 1) c').ownBlock ≠ some b) t se sk := fun {t se sk} ht =>
    RdO.keep hsize (fun b hb hlt => (r3.block b (by simp; omega) (fun e => hb.2.2 e.symm)).trans (heap_alloc_old w _ hlt)) t (RdO.mono (ok' := fun b => (base ≤ b ∧ (Value.slice A' (n + 1) c').ownBlock ≠ some b) ∧ (base ≤ b ∧ (Value.slice A n c).ownBlock ≠ some b)) (fun b hb hlt => ⟨hnew b hb hlt, hb⟩) t ht) |> RdO.mono (fun b hb _ => hb.1) t
  refine ⟨A', c', w', r1, ⟨by simp [h.len], by simp [h.lenr], ?_, fun i hi hi' => ?_⟩, hbel, fun b hb hlt => ⟨(r3.block b (by simp; omega) (fun e => hb e.symm)).trans (heap_alloc_old w _ hlt), hnew2 b hb hlt⟩⟩
  · have e1 : (kr ++ [k]).flatMap kidC = kr.flatMap kidC ++ kidC k := by simp
    rw [e1]
    exact ho
  · by_cases hlt : i < n
    · have h1 : i < ks.length := by rw [h.len]; exact hlt
      have h2 : i < kr.length := by rw [h.lenr]; exact hlt
      rw [List.getElem_append_left h1, List.getElem_append_left h2]
      exact ⟨(h.kid i h1 h2).1, hto (h.kid i h1 h2).2⟩
    · have e0 : i = n := by simp [h.len] at hi; omega
      have e1 : (ks ++ [(k.1, u)])[i] = (k.1, u) := by rw [List.getElem_append_right (by rw [h.len]; omega)]; simp
      have e2 : (kr ++ [k])[i] = k := by rw [List.getElem_append_right (by rw [h.lenr]; omega)]; simp
      rw [e1, e2]
      exact ⟨rfl, hto hu⟩
end KidRow
end Tr
end Go.Proofs.Ytbfcbfadfnaebaa
