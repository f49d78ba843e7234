/-
  NARROWER THAN 'FOR EVERY INPUT', by the rows' own cells (each row's printed sentence says how): CausalRight: loops · CausalJoins: loops · CausalLattice: loops · CausalLeast: loops · CausalOrder: loops · CausalTells: loops · CausalAll: loops · CausalOnly: loops · CausalEntry: loops · CausalOwn: loops.
  DERIVED. THE GIVEN ROWS OF THIS SEAT. 10 by the template 'for every input the law returns true; each argument reads behind the call as it read before'; 0 by the template 'total and deterministic' (their statements: YtcbclefemcmhpaaGreatTotals.lean).
  GIVEN WITH THE SEED: the statements are not yours to turn. If you find one false, say at which input.
  Laid BY PROGRAM, IN A SANDBOX (cutbox-rows.mjs): the forced cells as the released guide's own fill.sh prints them over the translation e968c0802d989228… (all of the seat's roots in one cut). By AI agents, Wed Nov 11 2026. No macro, syntax, notation, axiom, sorry.
-/
import Derived.Test.YtcbclefemcmhpaaGreatChecked
import GoSem.Claim
import GoSem.ClaimJoined
import GoSem.ClaimMapViews
import Derived.JoinedTies
import Derived.KernelRfl
namespace Go.Proofs.YtcbclefemcmhpaaGreat
/- THE CELL 'sum', in the pinned program and in every row, IS THE sha256 OF THE DUMP (.gsa) THAT YtcbclefemcmhpaaGreatProg.lean LOADS. Nothing in Lean hashes anything: it is a label: what it is worth is what the hold of that sum in a sandbox is worth. -/
noncomputable def Tryz.pinned : Pinned := { name := "ytcbclefemcmhpaagreat", sum := "e968c0802d9892284a8cee4071d28ce0de2b62589bd6f8b35f40bdb47e7378d9", checked := Tryz.checked }
namespace Rows
def none {H : Type} : Left H := { results := [], args := [] }

/-- 'tributarylaw09.CausalRight': WHATEVER THE INPUT: true; the input reads as it did. -/
def causalRightSpec : ChangeSpec := { name := "causalRight", fn := fun _ => fun
  | [d] => { results := [.lit (.bool true)], args := [d] }
  | _ => none }
def causalRightRow : OpenClaim := { program := "ytcbclefemcmhpaagreat", sum := "e968c0802d9892284a8cee4071d28ce0de2b62589bd6f8b35f40bdb47e7378d9", func := "tributary/tributarylaw09.CausalRight", spec := "causalRight", inPlace := ["internal/bytealg.abigen_runtime_cmpstring"], unfollowed := true, recurses := true, loops := true, apart := false }
def CausalRightSaid : Prop := causalRightRow.holds Tryz.pinned (OpenSpec.ofChange causalRightSpec)

/-- ITS FALSE NEIGHBOUR: 'it returns false'. Refute it at one input. -/
def causalRightWrong : ChangeSpec := { name := "causalRight", fn := fun _ => fun
  | [d] => { results := [.lit (.bool false)], args := [d] }
  | _ => none }
def CausalRightWrongFalsely : Prop := causalRightRow.holds Tryz.pinned (OpenSpec.ofChange causalRightWrong)

/-- 'tributarylaw09.CausalJoins': WHATEVER THE INPUT: true; the input reads as it did. -/
def causalJoinsSpec : ChangeSpec := { name := "causalJoins", fn := fun _ => fun
  | [d1, d2] => { results := [.lit (.bool true)], args := [d1, d2] }
  | _ => none }
def causalJoinsRow : OpenClaim := { program := "ytcbclefemcmhpaagreat", sum := "e968c0802d9892284a8cee4071d28ce0de2b62589bd6f8b35f40bdb47e7378d9", func := "tributary/tributarylaw09.CausalJoins", spec := "causalJoins", inPlace := ["internal/bytealg.abigen_runtime_cmpstring"], unfollowed := true, recurses := true, loops := true, apart := false }
def CausalJoinsSaid : Prop := causalJoinsRow.holds Tryz.pinned (OpenSpec.ofChange causalJoinsSpec)

/-- ITS FALSE NEIGHBOUR: 'it returns false'. Refute it at one input. -/
def causalJoinsWrong : ChangeSpec := { name := "causalJoins", fn := fun _ => fun
  | [d1, d2] => { results := [.lit (.bool false)], args := [d1, d2] }
  | _ => none }
def CausalJoinsWrongFalsely : Prop := causalJoinsRow.holds Tryz.pinned (OpenSpec.ofChange causalJoinsWrong)

/-- 'tributarylaw09.CausalLattice': WHATEVER THE INPUT: true; the input reads as it did. -/
def causalLatticeSpec : ChangeSpec := { name := "causalLattice", fn := fun _ => fun
  | [d1, d2, d3] => { results := [.lit (.bool true)], args := [d1, d2, d3] }
  | _ => none }
def causalLatticeRow : OpenClaim := { program := "ytcbclefemcmhpaagreat", sum := "e968c0802d9892284a8cee4071d28ce0de2b62589bd6f8b35f40bdb47e7378d9", func := "tributary/tributarylaw09.CausalLattice", spec := "causalLattice", inPlace := ["internal/bytealg.abigen_runtime_cmpstring"], unfollowed := true, recurses := true, loops := true, apart := false }
def CausalLatticeSaid : Prop := causalLatticeRow.holds Tryz.pinned (OpenSpec.ofChange causalLatticeSpec)

/-- ITS FALSE NEIGHBOUR: 'it returns false'. Refute it at one input. -/
def causalLatticeWrong : ChangeSpec := { name := "causalLattice", fn := fun _ => fun
  | [d1, d2, d3] => { results := [.lit (.bool false)], args := [d1, d2, d3] }
  | _ => none }
def CausalLatticeWrongFalsely : Prop := causalLatticeRow.holds Tryz.pinned (OpenSpec.ofChange causalLatticeWrong)

/-- 'tributarylaw09.CausalLeast': WHATEVER THE INPUT: true; the input reads as it did. -/
def causalLeastSpec : ChangeSpec := { name := "causalLeast", fn := fun _ => fun
  | [d1, d2, d3] => { results := [.lit (.bool true)], args := [d1, d2, d3] }
  | _ => none }
def causalLeastRow : OpenClaim := { program := "ytcbclefemcmhpaagreat", sum := "e968c0802d9892284a8cee4071d28ce0de2b62589bd6f8b35f40bdb47e7378d9", func := "tributary/tributarylaw09.CausalLeast", spec := "causalLeast", inPlace := ["internal/bytealg.abigen_runtime_cmpstring"], unfollowed := true, recurses := true, loops := true, apart := false }
def CausalLeastSaid : Prop := causalLeastRow.holds Tryz.pinned (OpenSpec.ofChange causalLeastSpec)

/-- ITS FALSE NEIGHBOUR: 'it returns false'. Refute it at one input. -/
def causalLeastWrong : ChangeSpec := { name := "causalLeast", fn := fun _ => fun
  | [d1, d2, d3] => { results := [.lit (.bool false)], args := [d1, d2, d3] }
  | _ => none }
def CausalLeastWrongFalsely : Prop := causalLeastRow.holds Tryz.pinned (OpenSpec.ofChange causalLeastWrong)

/-- 'tributarylaw09.CausalOrder': WHATEVER THE INPUT: true; the input reads as it did. -/
def causalOrderSpec : ChangeSpec := { name := "causalOrder", fn := fun _ => fun
  | [d1, d2, d3] => { results := [.lit (.bool true)], args := [d1, d2, d3] }
  | _ => none }
def causalOrderRow : OpenClaim := { program := "ytcbclefemcmhpaagreat", sum := "e968c0802d9892284a8cee4071d28ce0de2b62589bd6f8b35f40bdb47e7378d9", func := "tributary/tributarylaw09.CausalOrder", spec := "causalOrder", inPlace := ["internal/bytealg.abigen_runtime_cmpstring"], unfollowed := true, recurses := true, loops := true, apart := false }
def CausalOrderSaid : Prop := causalOrderRow.holds Tryz.pinned (OpenSpec.ofChange causalOrderSpec)

/-- ITS FALSE NEIGHBOUR: 'it returns false'. Refute it at one input. -/
def causalOrderWrong : ChangeSpec := { name := "causalOrder", fn := fun _ => fun
  | [d1, d2, d3] => { results := [.lit (.bool false)], args := [d1, d2, d3] }
  | _ => none }
def CausalOrderWrongFalsely : Prop := causalOrderRow.holds Tryz.pinned (OpenSpec.ofChange causalOrderWrong)

/-- 'tributarylaw09.CausalTells': WHATEVER THE INPUT: true; the input reads as it did. -/
def causalTellsSpec : ChangeSpec := { name := "causalTells", fn := fun _ => fun
  | [d1, d2] => { results := [.lit (.bool true)], args := [d1, d2] }
  | _ => none }
def causalTellsRow : OpenClaim := { program := "ytcbclefemcmhpaagreat", sum := "e968c0802d9892284a8cee4071d28ce0de2b62589bd6f8b35f40bdb47e7378d9", func := "tributary/tributarylaw09.CausalTells", spec := "causalTells", inPlace := ["internal/bytealg.abigen_runtime_cmpstring"], unfollowed := true, recurses := true, loops := true, apart := false }
def CausalTellsSaid : Prop := causalTellsRow.holds Tryz.pinned (OpenSpec.ofChange causalTellsSpec)

/-- ITS FALSE NEIGHBOUR: 'it returns false'. Refute it at one input. -/
def causalTellsWrong : ChangeSpec := { name := "causalTells", fn := fun _ => fun
  | [d1, d2] => { results := [.lit (.bool false)], args := [d1, d2] }
  | _ => none }
def CausalTellsWrongFalsely : Prop := causalTellsRow.holds Tryz.pinned (OpenSpec.ofChange causalTellsWrong)

/-- 'tributarylaw09.CausalAll': WHATEVER THE INPUT: true; the input reads as it did. -/
def causalAllSpec : ChangeSpec := { name := "causalAll", fn := fun _ => fun
  | [d] => { results := [.lit (.bool true)], args := [d] }
  | _ => none }
def causalAllRow : OpenClaim := { program := "ytcbclefemcmhpaagreat", sum := "e968c0802d9892284a8cee4071d28ce0de2b62589bd6f8b35f40bdb47e7378d9", func := "tributary/tributarylaw09.CausalAll", spec := "causalAll", inPlace := ["internal/bytealg.abigen_runtime_cmpstring"], unfollowed := true, recurses := true, loops := true, apart := false }
def CausalAllSaid : Prop := causalAllRow.holds Tryz.pinned (OpenSpec.ofChange causalAllSpec)

/-- ITS FALSE NEIGHBOUR: 'it returns false'. Refute it at one input. -/
def causalAllWrong : ChangeSpec := { name := "causalAll", fn := fun _ => fun
  | [d] => { results := [.lit (.bool false)], args := [d] }
  | _ => none }
def CausalAllWrongFalsely : Prop := causalAllRow.holds Tryz.pinned (OpenSpec.ofChange causalAllWrong)

/-- 'tributarylaw09.CausalOnly': WHATEVER THE INPUT: true; the input reads as it did. -/
def causalOnlySpec : ChangeSpec := { name := "causalOnly", fn := fun _ => fun
  | [d1, d2] => { results := [.lit (.bool true)], args := [d1, d2] }
  | _ => none }
def causalOnlyRow : OpenClaim := { program := "ytcbclefemcmhpaagreat", sum := "e968c0802d9892284a8cee4071d28ce0de2b62589bd6f8b35f40bdb47e7378d9", func := "tributary/tributarylaw09.CausalOnly", spec := "causalOnly", inPlace := ["internal/bytealg.abigen_runtime_cmpstring"], unfollowed := true, recurses := true, loops := true, apart := false }
def CausalOnlySaid : Prop := causalOnlyRow.holds Tryz.pinned (OpenSpec.ofChange causalOnlySpec)

/-- ITS FALSE NEIGHBOUR: 'it returns false'. Refute it at one input. -/
def causalOnlyWrong : ChangeSpec := { name := "causalOnly", fn := fun _ => fun
  | [d1, d2] => { results := [.lit (.bool false)], args := [d1, d2] }
  | _ => none }
def CausalOnlyWrongFalsely : Prop := causalOnlyRow.holds Tryz.pinned (OpenSpec.ofChange causalOnlyWrong)

/-- 'tributarylaw09.CausalEntry': WHATEVER THE INPUT: true; the input reads as it did. -/
def causalEntrySpec : ChangeSpec := { name := "causalEntry", fn := fun _ => fun
  | [d1, d2, d3, d4] => { results := [.lit (.bool true)], args := [d1, d2, d3, d4] }
  | _ => none }
def causalEntryRow : OpenClaim := { program := "ytcbclefemcmhpaagreat", sum := "e968c0802d9892284a8cee4071d28ce0de2b62589bd6f8b35f40bdb47e7378d9", func := "tributary/tributarylaw09.CausalEntry", spec := "causalEntry", inPlace := ["internal/bytealg.abigen_runtime_cmpstring"], unfollowed := true, recurses := true, loops := true, apart := false }
def CausalEntrySaid : Prop := causalEntryRow.holds Tryz.pinned (OpenSpec.ofChange causalEntrySpec)

/-- ITS FALSE NEIGHBOUR: 'it returns false'. Refute it at one input. -/
def causalEntryWrong : ChangeSpec := { name := "causalEntry", fn := fun _ => fun
  | [d1, d2, d3, d4] => { results := [.lit (.bool false)], args := [d1, d2, d3, d4] }
  | _ => none }
def CausalEntryWrongFalsely : Prop := causalEntryRow.holds Tryz.pinned (OpenSpec.ofChange causalEntryWrong)

/-- 'tributarylaw09.CausalOwn': WHATEVER THE INPUT: true; the input reads as it did. -/
def causalOwnSpec : ChangeSpec := { name := "causalOwn", fn := fun _ => fun
  | [d1, d2, d3] => { results := [.lit (.bool true)], args := [d1, d2, d3] }
  | _ => none }
def causalOwnRow : OpenClaim := { program := "ytcbclefemcmhpaagreat", sum := "e968c0802d9892284a8cee4071d28ce0de2b62589bd6f8b35f40bdb47e7378d9", func := "tributary/tributarylaw09.CausalOwn", spec := "causalOwn", inPlace := ["internal/bytealg.abigen_runtime_cmpstring"], unfollowed := true, recurses := true, loops := true, apart := false }
def CausalOwnSaid : Prop := causalOwnRow.holds Tryz.pinned (OpenSpec.ofChange causalOwnSpec)

/-- ITS FALSE NEIGHBOUR: 'it returns false'. Refute it at one input. -/
def causalOwnWrong : ChangeSpec := { name := "causalOwn", fn := fun _ => fun
  | [d1, d2, d3] => { results := [.lit (.bool false)], args := [d1, d2, d3] }
  | _ => none }
def CausalOwnWrongFalsely : Prop := causalOwnRow.holds Tryz.pinned (OpenSpec.ofChange causalOwnWrong)

/- THE SECOND FORM. 'bulk': how many values and letters a reading holds, each counted each time it is reached (what is shared counts as often as it is met; a slice's spare places count too). A statement '..UptoSaid' is the law's where the arguments, and the package variables that the reading takes, are together of bulk at most 1048576: NARROWER than '..Said'. Prove '..Said' where nothing that the law and all that it calls make is longer than what came in: it says more and counts as full. Else prove '..UptoSaid'. A law counts once. -/
mutual
def uptoBulk {H : Type} : DataW H → Nat
  | .lit (.string bytes) => bytes.length + 1
  | .lit _ => 1
  | .nil => 1
  | .ptr d => uptoBulk d + 1
  | .slice elems spare => uptoBulkAll elems + uptoBulkAll spare + 1
  | .agg parts => uptoBulkAll parts + 1
  | .iface _ d => uptoBulk d + 1
  | .map entries => uptoBulkEntries entries + 1
  | .held _ => 1
def uptoBulkAll {H : Type} : List (DataW H) → Nat
  | [] => 0
  | d :: r => uptoBulk d + uptoBulkAll r
def uptoBulkEntries {H : Type} : List (Lit × DataW H) → Nat
  | [] => 0
  | x :: r => uptoBulkEntry x + uptoBulkEntries r
def uptoBulkEntry {H : Type} : Lit × DataW H → Nat
  | (.string bytes, d) => bytes.length + uptoBulk d + 1
  | (_, d) => uptoBulk d + 1
 end
def uptoSmall : (H : Type) → List (DataW H) → Bool := fun _ ds => decide (uptoBulkAll ds ≤ 1048576)
def OpenSpec.upto (s : _root_.Go.ChangeSpec) : _root_.Go.OpenSpec := { _root_.Go.OpenSpec.ofChange s with cond := some uptoSmall }

/-- 'tributarylaw09.CausalRight', WHERE WHAT IT READS IS OF BULK AT MOST 1048576: true; the input reads as it did. -/
def causalRightUptoRow : OpenClaim := { program := "ytcbclefemcmhpaagreat", sum := "e968c0802d9892284a8cee4071d28ce0de2b62589bd6f8b35f40bdb47e7378d9", func := "tributary/tributarylaw09.CausalRight", spec := "causalRight", inPlace := ["internal/bytealg.abigen_runtime_cmpstring"], unfollowed := true, recurses := true, loops := true, apart := false, narrowed := true }
def CausalRightUptoSaid : Prop := causalRightUptoRow.holds Tryz.pinned (OpenSpec.upto causalRightSpec)

/-- 'tributarylaw09.CausalJoins', WHERE WHAT IT READS IS OF BULK AT MOST 1048576: true; the input reads as it did. -/
def causalJoinsUptoRow : OpenClaim := { program := "ytcbclefemcmhpaagreat", sum := "e968c0802d9892284a8cee4071d28ce0de2b62589bd6f8b35f40bdb47e7378d9", func := "tributary/tributarylaw09.CausalJoins", spec := "causalJoins", inPlace := ["internal/bytealg.abigen_runtime_cmpstring"], unfollowed := true, recurses := true, loops := true, apart := false, narrowed := true }
def CausalJoinsUptoSaid : Prop := causalJoinsUptoRow.holds Tryz.pinned (OpenSpec.upto causalJoinsSpec)

/-- 'tributarylaw09.CausalLattice', WHERE WHAT IT READS IS OF BULK AT MOST 1048576: true; the input reads as it did. -/
def causalLatticeUptoRow : OpenClaim := { program := "ytcbclefemcmhpaagreat", sum := "e968c0802d9892284a8cee4071d28ce0de2b62589bd6f8b35f40bdb47e7378d9", func := "tributary/tributarylaw09.CausalLattice", spec := "causalLattice", inPlace := ["internal/bytealg.abigen_runtime_cmpstring"], unfollowed := true, recurses := true, loops := true, apart := false, narrowed := true }
def CausalLatticeUptoSaid : Prop := causalLatticeUptoRow.holds Tryz.pinned (OpenSpec.upto causalLatticeSpec)

/-- 'tributarylaw09.CausalLeast', WHERE WHAT IT READS IS OF BULK AT MOST 1048576: true; the input reads as it did. -/
def causalLeastUptoRow : OpenClaim := { program := "ytcbclefemcmhpaagreat", sum := "e968c0802d9892284a8cee4071d28ce0de2b62589bd6f8b35f40bdb47e7378d9", func := "tributary/tributarylaw09.CausalLeast", spec := "causalLeast", inPlace := ["internal/bytealg.abigen_runtime_cmpstring"], unfollowed := true, recurses := true, loops := true, apart := false, narrowed := true }
def CausalLeastUptoSaid : Prop := causalLeastUptoRow.holds Tryz.pinned (OpenSpec.upto causalLeastSpec)

/-- 'tributarylaw09.CausalOrder', WHERE WHAT IT READS IS OF BULK AT MOST 1048576: true; the input reads as it did. -/
def causalOrderUptoRow : OpenClaim := { program := "ytcbclefemcmhpaagreat", sum := "e968c0802d9892284a8cee4071d28ce0de2b62589bd6f8b35f40bdb47e7378d9", func := "tributary/tributarylaw09.CausalOrder", spec := "causalOrder", inPlace := ["internal/bytealg.abigen_runtime_cmpstring"], unfollowed := true, recurses := true, loops := true, apart := false, narrowed := true }
def CausalOrderUptoSaid : Prop := causalOrderUptoRow.holds Tryz.pinned (OpenSpec.upto causalOrderSpec)

/-- 'tributarylaw09.CausalTells', WHERE WHAT IT READS IS OF BULK AT MOST 1048576: true; the input reads as it did. -/
def causalTellsUptoRow : OpenClaim := { program := "ytcbclefemcmhpaagreat", sum := "e968c0802d9892284a8cee4071d28ce0de2b62589bd6f8b35f40bdb47e7378d9", func := "tributary/tributarylaw09.CausalTells", spec := "causalTells", inPlace := ["internal/bytealg.abigen_runtime_cmpstring"], unfollowed := true, recurses := true, loops := true, apart := false, narrowed := true }
def CausalTellsUptoSaid : Prop := causalTellsUptoRow.holds Tryz.pinned (OpenSpec.upto causalTellsSpec)

/-- 'tributarylaw09.CausalAll', WHERE WHAT IT READS IS OF BULK AT MOST 1048576: true; the input reads as it did. -/
def causalAllUptoRow : OpenClaim := { program := "ytcbclefemcmhpaagreat", sum := "e968c0802d9892284a8cee4071d28ce0de2b62589bd6f8b35f40bdb47e7378d9", func := "tributary/tributarylaw09.CausalAll", spec := "causalAll", inPlace := ["internal/bytealg.abigen_runtime_cmpstring"], unfollowed := true, recurses := true, loops := true, apart := false, narrowed := true }
def CausalAllUptoSaid : Prop := causalAllUptoRow.holds Tryz.pinned (OpenSpec.upto causalAllSpec)

/-- 'tributarylaw09.CausalOnly', WHERE WHAT IT READS IS OF BULK AT MOST 1048576: true; the input reads as it did. -/
def causalOnlyUptoRow : OpenClaim := { program := "ytcbclefemcmhpaagreat", sum := "e968c0802d9892284a8cee4071d28ce0de2b62589bd6f8b35f40bdb47e7378d9", func := "tributary/tributarylaw09.CausalOnly", spec := "causalOnly", inPlace := ["internal/bytealg.abigen_runtime_cmpstring"], unfollowed := true, recurses := true, loops := true, apart := false, narrowed := true }
def CausalOnlyUptoSaid : Prop := causalOnlyUptoRow.holds Tryz.pinned (OpenSpec.upto causalOnlySpec)

/-- 'tributarylaw09.CausalEntry', WHERE WHAT IT READS IS OF BULK AT MOST 1048576: true; the input reads as it did. -/
def causalEntryUptoRow : OpenClaim := { program := "ytcbclefemcmhpaagreat", sum := "e968c0802d9892284a8cee4071d28ce0de2b62589bd6f8b35f40bdb47e7378d9", func := "tributary/tributarylaw09.CausalEntry", spec := "causalEntry", inPlace := ["internal/bytealg.abigen_runtime_cmpstring"], unfollowed := true, recurses := true, loops := true, apart := false, narrowed := true }
def CausalEntryUptoSaid : Prop := causalEntryUptoRow.holds Tryz.pinned (OpenSpec.upto causalEntrySpec)

/-- 'tributarylaw09.CausalOwn', WHERE WHAT IT READS IS OF BULK AT MOST 1048576: true; the input reads as it did. -/
def causalOwnUptoRow : OpenClaim := { program := "ytcbclefemcmhpaagreat", sum := "e968c0802d9892284a8cee4071d28ce0de2b62589bd6f8b35f40bdb47e7378d9", func := "tributary/tributarylaw09.CausalOwn", spec := "causalOwn", inPlace := ["internal/bytealg.abigen_runtime_cmpstring"], unfollowed := true, recurses := true, loops := true, apart := false, narrowed := true }
def CausalOwnUptoSaid : Prop := causalOwnUptoRow.holds Tryz.pinned (OpenSpec.upto causalOwnSpec)

end Rows
end Go.Proofs.YtcbclefemcmhpaaGreat
