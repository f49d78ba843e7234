/- Package sorted at string keys: Get, Put, Del, whatever the key. -/
import Derived.Test.YtolfockpiioncaaSortS3
namespace Go.Proofs.Ytolfockpiioncaa
open Go.RowKit
namespace SortS
section
variable (l : Ps) (t : ByteArray) (v : Int) (A : Option Addr) (c : Nat) (w : World) (hn : l.length ≤ 1000) (hr : Rd w w.heap.size 2 A l.length c (flat l)) (hu : Up ltS l)
include hn hr hu
theorem put_any :
    Calls Try.prog 11 #[.agg #[.slice A l.length c], .string t, .int .i64 v] w fun e w' => ∃ m, PutIs ltS l t v m ∧ NewMap m w e w' := by
  obtain ⟨i, hf | hf⟩ := exists_at tot_str l hu t
  · exact (put_found l t v A c w hn hr hu i hf).mono fun _ _ h => ⟨_, put_found_is tot_str hu v hf, h⟩
  · exact (put_none l t v A c w hn hr hu i hf).mono fun _ _ h => ⟨_, put_none_is tot_str hu v hf, h⟩
theorem del_any :
    Calls Try.prog 10 #[.agg #[.slice A l.length c], .string t] w fun e w' => ∃ m, DelIs ltS l t m ∧ NewMap m w e w' := by
  obtain ⟨i, hf | hf⟩ := exists_at tot_str l hu t
  · exact (del_found l t A c w hn hr hu i hf).mono fun _ _ h => ⟨_, del_found_is tot_str hu hf, h⟩
  · exact (del_none l t A c w hn hr hu i hf).mono fun _ _ h => ⟨_, del_none_is tot_str hu hf, h⟩
theorem get_has (hm : (t, v) ∈ l) :
    Calls Try.prog 31 #[.agg #[.slice A l.length c], .string t] w fun e w' => e = .returned (.tuple #[.int .i64 v, .bool true]) ∧ Below w.heap.size w w' := by
  obtain ⟨i, hf | hf⟩ := exists_at tot_str l hu t
  · refine get_found l t A c w hn hr hu i hf v fun h => ?_
    obtain ⟨k, hk, hkv⟩ := List.getElem_of_mem hm
    have : i = k := by
      have e1 := hf.2.2
      rcases Nat.lt_trichotomy i k with h1 | h1 | h1
      · have := hu i k h hk h1; rw [e1, hkv] at this; exact (tot_str.irr _ this).elim
      · exact h1
      · have := hu k i hk h h1; rw [e1, hkv] at this; exact (tot_str.irr _ this).elim
    subst this
    rw [hkv]
  · exact (hf.all tot_str hu _ hm rfl).elim
theorem get_not (hm : ∀ p ∈ l, p.1 ≠ t) :
    Calls Try.prog 31 #[.agg #[.slice A l.length c], .string t] w fun e w' => e = .returned (.tuple #[.int .i64 0, .bool false]) ∧ Below w.heap.size w w' := by
  obtain ⟨i, hf | hf⟩ := exists_at tot_str l hu t
  · obtain ⟨p, hp, hpt⟩ := hf.mem
    exact absurd hpt (hm p hp)
  · exact get_none l t A c w hn hr hu i hf
end
end SortS
end Go.Proofs.Ytolfockpiioncaa
