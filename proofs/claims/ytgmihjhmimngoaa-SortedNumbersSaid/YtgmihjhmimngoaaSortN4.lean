/- Package sorted at int64 keys: Get, Put, Del, whatever the key. -/
import Derived.Test.YtgmihjhmimngoaaSortN3
namespace Go.Proofs.Ytgmihjhmimngoaa
open Go.RowKit
namespace SortN
section
variable (l : Ps) (t : Int) (v : (Option Addr × Nat × Nat)) (A : Option Addr) (c : Nat) (w : World) (hn : l.length ≤ 1000) (hr : Rd w w.heap.size 2 A l.length c (flat l)) (hu : Up (fun a b : Int => a < b) l)
include hn hr hu
theorem put_any :
    Calls Try.prog 17 #[.agg #[.slice A l.length c], .int .i64 t, .slice v.1 v.2.1 v.2.2] w fun e w' => ∃ m, PutIs (fun a b : Int => a < b) l t v m ∧ NewMap m w e w' := by
  obtain ⟨i, hf | hf⟩ := exists_at tot_int l hu t
  · exact (put_found l t v A c w hn hr hu i hf).mono fun _ _ h => ⟨_, put_found_is tot_int hu v hf, h⟩
  · exact (put_none l t v A c w hn hr hu i hf).mono fun _ _ h => ⟨_, put_none_is tot_int hu v hf, h⟩
theorem del_any :
    Calls Try.prog 20 #[.agg #[.slice A l.length c], .int .i64 t] w fun e w' => ∃ m, DelIs (fun a b : Int => a < b) l t m ∧ NewMap m w e w' := by
  obtain ⟨i, hf | hf⟩ := exists_at tot_int l hu t
  · exact (del_found l t A c w hn hr hu i hf).mono fun _ _ h => ⟨_, del_found_is tot_int hu hf, h⟩
  · exact (del_none l t A c w hn hr hu i hf).mono fun _ _ h => ⟨_, del_none_is tot_int hu hf, h⟩
theorem get_has (hm : (t, v) ∈ l) :
    Calls Try.prog 18 #[.agg #[.slice A l.length c], .int .i64 t] w fun e w' => e = .returned (.tuple #[.slice v.1 v.2.1 v.2.2, .bool true]) ∧ Below w.heap.size w w' := by
  obtain ⟨i, hf | hf⟩ := exists_at tot_int l hu t
  · refine get_found l t A c w hn hr hu i hf v fun h => ?_
    obtain ⟨k, hk, hkv⟩ := List.getElem_of_mem hm
    have : i = k := by
      have e1 := hf.2.2
      rcases Nat.lt_trichotomy i k with h1 | h1 | h1
      · have := hu i k h hk h1; rw [e1, hkv] at this; exact (tot_int.irr _ this).elim
      · exact h1
      · have := hu k i hk h h1; rw [e1, hkv] at this; exact (tot_int.irr _ this).elim
    subst this
    rw [hkv]
  · exact (hf.all tot_int hu _ hm rfl).elim
theorem get_not (hm : ∀ p ∈ l, p.1 ≠ t) :
    Calls Try.prog 18 #[.agg #[.slice A l.length c], .int .i64 t] w fun e w' => e = .returned (.tuple #[.slice none 0 0, .bool false]) ∧ Below w.heap.size w w' := by
  obtain ⟨i, hf | hf⟩ := exists_at tot_int l hu t
  · obtain ⟨p, hp, hpt⟩ := hf.mem
    exact absurd hpt (hm p hp)
  · exact get_none l t A c w hn hr hu i hf
end
end SortN
end Go.Proofs.Ytgmihjhmimngoaa
