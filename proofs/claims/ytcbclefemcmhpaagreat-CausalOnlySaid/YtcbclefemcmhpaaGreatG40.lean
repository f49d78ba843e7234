/- Trees: kids of some keys, and the others: the document's (mathematics so far). -/
import Derived.Test.YtcbclefemcmhpaaGreatTreeBuild
import Derived.Test.YtcbclefemcmhpaaGreatG10
namespace Go.Proofs.YtcbclefemcmhpaaGreat
open Go.ChangeShapes Go.WideShapes Go.ChangeAt Go.RowKit
namespace Tr
open Sp Rw
/-- is a leaf below one of these keys -/
noncomputable def thoseB (l : List ByteArray) (x : Lf) : Bool := match x.1 with | [] => false | k :: _ => inB l k
theorem those_leaves (l : List ByteArray) (es : List E) (ks : List (ByteArray × T)) : (leaves (.mk es ks)).filter (thoseB l) = leaves (.mk [] (keepK (fun k => inB l k == true) ks)) := by
  have h1 : (es.map fun e => (([] : List ByteArray), e)).filter (thoseB l) = [] := by
    rw [List.filter_eq_nil_iff]
    intro x hx
    obtain ⟨e, _, rfl⟩ := List.mem_map.1 hx
    simp [thoseB]
  rw [leaves_mk, leaves_mk, List.filter_append, h1, List.nil_append, List.map_nil, List.nil_append, ← below_keep]
  refine List.filter_congr fun x hx => ?_
  unfold thoseB
  rcases x.1 with _ | ⟨k, p⟩
  · rfl
  · show inB l k = (inB l k == true)
    cases inB l k <;> rfl
theorem others_leaves (l : List ByteArray) (es : List E) (ks : List (ByteArray × T)) : (leaves (.mk es ks)).filter (fun x => !thoseB l x) = leaves (.mk es (keepK (fun k => inB l k == false) ks)) := by
  have h1 : (es.map fun e => (([] : List ByteArray), e)).filter (fun x => !thoseB l x) = es.map fun e => ([], e) := by
    rw [List.filter_eq_self]
    intro x hx
    obtain ⟨e, _, rfl⟩ := List.mem_map.1 hx
    simp [thoseB]
  rw [leaves_mk, leaves_mk, List.filter_append, h1, ← below_keep]
  congr 1
  refine List.filter_congr fun x hx => ?_
  obtain ⟨k, _, hx⟩ := List.mem_flatMap.1 hx
  obtain ⟨y, _, rfl⟩ := List.mem_map.1 hx
  show (!inB l k.1) = (inB l k.1 == false)
  cases inB l k.1 <;> rfl
theorem filter_succ {f : Lf → Bool} {ls : List Lf} {k : Nat} (h : k < ls.length) : (ls.take (k + 1)).filter f = (ls.take k).filter f ++ (if f ls[k] then [ls[k]] else []) := by
  rw [List.take_succ_eq_append_getElem h, List.filter_append]
  congr 1
  cases hf : f ls[k] <;> simp [hf]
end Tr
end Go.Proofs.YtcbclefemcmhpaaGreat
