/-
  NARROWER THAN 'FOR EVERY INPUT', by the rows' own cells (each row's printed sentence says how): RegisterWrites: loops · RegisterValues: loops · RegisterTurns: loops · RegisterBoth: loops.
  DERIVED. THE GIVEN ROWS OF THIS SEAT. 4 by the template 'for every input the law returns true; each argument reads behind the call as it read before'; 0 by the template 'total and deterministic' (their statements: YtnlojpolfkjkoaaGreatTotals.lean).
  GIVEN WITH THE SEED: the statements are not yours to turn. If you find one false, say at which input.
  Laid BY PROGRAM, IN A SANDBOX (cutbox-rows.mjs): the forced cells as the released guide's own fill.sh prints them over the translation 31359b2c870dd6f0… (all of the seat's roots in one cut). By AI agents, Wed Nov 11 2026. No macro, syntax, notation, axiom, sorry.
-/
import Derived.Test.YtnlojpolfkjkoaaGreatChecked
import GoSem.Claim
import GoSem.ClaimJoined
import GoSem.ClaimMapViews
import Derived.JoinedTies
import Derived.KernelRfl
namespace Go.Proofs.YtnlojpolfkjkoaaGreat
/- THE CELL 'sum', in the pinned program and in every row, IS THE sha256 OF THE DUMP (.gsa) THAT YtnlojpolfkjkoaaGreatProg.lean LOADS. Nothing in Lean hashes anything: it is a label: what it is worth is what the hold of that sum in a sandbox is worth. -/
noncomputable def Tryz.pinned : Pinned := { name := "ytnlojpolfkjkoaagreat", sum := "31359b2c870dd6f0091dd78a90ba427dfb6dc6a06f1999af413d7789396cf058", checked := Tryz.checked }
namespace Rows
def none {H : Type} : Left H := { results := [], args := [] }

/-- 'tributarylaw13.RegisterWrites': WHATEVER THE INPUT: true; the input reads as it did. -/
def registerWritesSpec : ChangeSpec := { name := "registerWrites", fn := fun _ => fun
  | [d1, d2, d3] => { results := [.lit (.bool true)], args := [d1, d2, d3] }
  | _ => none }
def registerWritesRow : OpenClaim := { program := "ytnlojpolfkjkoaagreat", sum := "31359b2c870dd6f0091dd78a90ba427dfb6dc6a06f1999af413d7789396cf058", func := "tributary/tributarylaw13.RegisterWrites", spec := "registerWrites", unfollowed := true, recurses := true, loops := true, apart := false }
def RegisterWritesSaid : Prop := registerWritesRow.holds Tryz.pinned (OpenSpec.ofChange registerWritesSpec)

/-- ITS FALSE NEIGHBOUR: 'it returns false'. Refute it at one input. -/
def registerWritesWrong : ChangeSpec := { name := "registerWrites", fn := fun _ => fun
  | [d1, d2, d3] => { results := [.lit (.bool false)], args := [d1, d2, d3] }
  | _ => none }
def RegisterWritesWrongFalsely : Prop := registerWritesRow.holds Tryz.pinned (OpenSpec.ofChange registerWritesWrong)

/-- 'tributarylaw13.RegisterValues': WHATEVER THE INPUT: true; the input reads as it did. -/
def registerValuesSpec : ChangeSpec := { name := "registerValues", fn := fun _ => fun
  | [d] => { results := [.lit (.bool true)], args := [d] }
  | _ => none }
def registerValuesRow : OpenClaim := { program := "ytnlojpolfkjkoaagreat", sum := "31359b2c870dd6f0091dd78a90ba427dfb6dc6a06f1999af413d7789396cf058", func := "tributary/tributarylaw13.RegisterValues", spec := "registerValues", unfollowed := true, recurses := true, loops := true, apart := false }
def RegisterValuesSaid : Prop := registerValuesRow.holds Tryz.pinned (OpenSpec.ofChange registerValuesSpec)

/-- ITS FALSE NEIGHBOUR: 'it returns false'. Refute it at one input. -/
def registerValuesWrong : ChangeSpec := { name := "registerValues", fn := fun _ => fun
  | [d] => { results := [.lit (.bool false)], args := [d] }
  | _ => none }
def RegisterValuesWrongFalsely : Prop := registerValuesRow.holds Tryz.pinned (OpenSpec.ofChange registerValuesWrong)

/-- 'tributarylaw13.RegisterTurns': WHATEVER THE INPUT: true; the input reads as it did. -/
def registerTurnsSpec : ChangeSpec := { name := "registerTurns", fn := fun _ => fun
  | [d1, d2, d3] => { results := [.lit (.bool true)], args := [d1, d2, d3] }
  | _ => none }
def registerTurnsRow : OpenClaim := { program := "ytnlojpolfkjkoaagreat", sum := "31359b2c870dd6f0091dd78a90ba427dfb6dc6a06f1999af413d7789396cf058", func := "tributary/tributarylaw13.RegisterTurns", spec := "registerTurns", inPlace := ["internal/bytealg.abigen_runtime_cmpstring"], unfollowed := true, recurses := true, loops := true, apart := false }
def RegisterTurnsSaid : Prop := registerTurnsRow.holds Tryz.pinned (OpenSpec.ofChange registerTurnsSpec)

/-- ITS FALSE NEIGHBOUR: 'it returns false'. Refute it at one input. -/
def registerTurnsWrong : ChangeSpec := { name := "registerTurns", fn := fun _ => fun
  | [d1, d2, d3] => { results := [.lit (.bool false)], args := [d1, d2, d3] }
  | _ => none }
def RegisterTurnsWrongFalsely : Prop := registerTurnsRow.holds Tryz.pinned (OpenSpec.ofChange registerTurnsWrong)

/-- 'tributarylaw13.RegisterBoth': WHATEVER THE INPUT: true; the input reads as it did. -/
def registerBothSpec : ChangeSpec := { name := "registerBoth", fn := fun _ => fun
  | [d1, d2, d3] => { results := [.lit (.bool true)], args := [d1, d2, d3] }
  | _ => none }
def registerBothRow : OpenClaim := { program := "ytnlojpolfkjkoaagreat", sum := "31359b2c870dd6f0091dd78a90ba427dfb6dc6a06f1999af413d7789396cf058", func := "tributary/tributarylaw13.RegisterBoth", spec := "registerBoth", inPlace := ["internal/bytealg.abigen_runtime_cmpstring"], unfollowed := true, recurses := true, loops := true, apart := false }
def RegisterBothSaid : Prop := registerBothRow.holds Tryz.pinned (OpenSpec.ofChange registerBothSpec)

/-- ITS FALSE NEIGHBOUR: 'it returns false'. Refute it at one input. -/
def registerBothWrong : ChangeSpec := { name := "registerBoth", fn := fun _ => fun
  | [d1, d2, d3] => { results := [.lit (.bool false)], args := [d1, d2, d3] }
  | _ => none }
def RegisterBothWrongFalsely : Prop := registerBothRow.holds Tryz.pinned (OpenSpec.ofChange registerBothWrong)

/- THE SECOND FORM. 'bulk': how many values and letters a reading holds, each counted each time it is reached (what is shared counts as often as it is met; a slice's spare places count too). A statement '..UptoSaid' is the law's where the arguments, and the package variables that the reading takes, are together of bulk at most 1048576: NARROWER than '..Said'. Prove '..Said' where nothing that the law and all that it calls make is longer than what came in: it says more and counts as full. Else prove '..UptoSaid'. A law counts once. -/
mutual
def uptoBulk {H : Type} : DataW H → Nat
  | .lit (.string bytes) => bytes.length + 1
  | .lit _ => 1
  | .nil => 1
  | .ptr d => uptoBulk d + 1
  | .slice elems spare => uptoBulkAll elems + uptoBulkAll spare + 1
  | .agg parts => uptoBulkAll parts + 1
  | .iface _ d => uptoBulk d + 1
  | .map entries => uptoBulkEntries entries + 1
  | .held _ => 1
def uptoBulkAll {H : Type} : List (DataW H) → Nat
  | [] => 0
  | d :: r => uptoBulk d + uptoBulkAll r
def uptoBulkEntries {H : Type} : List (Lit × DataW H) → Nat
  | [] => 0
  | x :: r => uptoBulkEntry x + uptoBulkEntries r
def uptoBulkEntry {H : Type} : Lit × DataW H → Nat
  | (.string bytes, d) => bytes.length + uptoBulk d + 1
  | (_, d) => uptoBulk d + 1
 end
def uptoSmall : (H : Type) → List (DataW H) → Bool := fun _ ds => decide (uptoBulkAll ds ≤ 1048576)
def OpenSpec.upto (s : _root_.Go.ChangeSpec) : _root_.Go.OpenSpec := { _root_.Go.OpenSpec.ofChange s with cond := some uptoSmall }

/-- 'tributarylaw13.RegisterWrites', WHERE WHAT IT READS IS OF BULK AT MOST 1048576: true; the input reads as it did. -/
def registerWritesUptoRow : OpenClaim := { program := "ytnlojpolfkjkoaagreat", sum := "31359b2c870dd6f0091dd78a90ba427dfb6dc6a06f1999af413d7789396cf058", func := "tributary/tributarylaw13.RegisterWrites", spec := "registerWrites", unfollowed := true, recurses := true, loops := true, apart := false, narrowed := true }
def RegisterWritesUptoSaid : Prop := registerWritesUptoRow.holds Tryz.pinned (OpenSpec.upto registerWritesSpec)

/-- 'tributarylaw13.RegisterValues', WHERE WHAT IT READS IS OF BULK AT MOST 1048576: true; the input reads as it did. -/
def registerValuesUptoRow : OpenClaim := { program := "ytnlojpolfkjkoaagreat", sum := "31359b2c870dd6f0091dd78a90ba427dfb6dc6a06f1999af413d7789396cf058", func := "tributary/tributarylaw13.RegisterValues", spec := "registerValues", unfollowed := true, recurses := true, loops := true, apart := false, narrowed := true }
def RegisterValuesUptoSaid : Prop := registerValuesUptoRow.holds Tryz.pinned (OpenSpec.upto registerValuesSpec)

/-- 'tributarylaw13.RegisterTurns', WHERE WHAT IT READS IS OF BULK AT MOST 1048576: true; the input reads as it did. -/
def registerTurnsUptoRow : OpenClaim := { program := "ytnlojpolfkjkoaagreat", sum := "31359b2c870dd6f0091dd78a90ba427dfb6dc6a06f1999af413d7789396cf058", func := "tributary/tributarylaw13.RegisterTurns", spec := "registerTurns", inPlace := ["internal/bytealg.abigen_runtime_cmpstring"], unfollowed := true, recurses := true, loops := true, apart := false, narrowed := true }
def RegisterTurnsUptoSaid : Prop := registerTurnsUptoRow.holds Tryz.pinned (OpenSpec.upto registerTurnsSpec)

/-- 'tributarylaw13.RegisterBoth', WHERE WHAT IT READS IS OF BULK AT MOST 1048576: true; the input reads as it did. -/
def registerBothUptoRow : OpenClaim := { program := "ytnlojpolfkjkoaagreat", sum := "31359b2c870dd6f0091dd78a90ba427dfb6dc6a06f1999af413d7789396cf058", func := "tributary/tributarylaw13.RegisterBoth", spec := "registerBoth", inPlace := ["internal/bytealg.abigen_runtime_cmpstring"], unfollowed := true, recurses := true, loops := true, apart := false, narrowed := true }
def RegisterBothUptoSaid : Prop := registerBothUptoRow.holds Tryz.pinned (OpenSpec.upto registerBothSpec)

end Rows
end Go.Proofs.YtnlojpolfkjkoaaGreat
