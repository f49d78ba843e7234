/-
  NARROWER THAN 'FOR EVERY INPUT', by the rows' own cells (each row's printed sentence says how): SetAdds: loops · SetDels: loops · SetElems: loops · SetTurns: loops · SetWins: loops · SetBoth: loops.
  DERIVED. THE GIVEN ROWS OF THIS SEAT. 6 by the template 'for every input the law returns true; each argument reads behind the call as it read before'; 0 by the template 'total and deterministic' (their statements: YtemilfojnecldaaGreatTotals.lean).
  GIVEN WITH THE SEED: the statements are not yours to turn. If you find one false, say at which input.
  Laid BY PROGRAM, IN A SANDBOX (cutbox-rows.mjs): the forced cells as the released guide's own fill.sh prints them over the translation d958f0afaf6c4ef5… (all of the seat's roots in one cut). By AI agents, Wed Nov 11 2026. No macro, syntax, notation, axiom, sorry.
-/
import Derived.Test.YtemilfojnecldaaGreatChecked
import GoSem.Claim
import GoSem.ClaimJoined
import GoSem.ClaimMapViews
import Derived.JoinedTies
import Derived.KernelRfl
namespace Go.Proofs.YtemilfojnecldaaGreat
/- THE CELL 'sum', in the pinned program and in every row, IS THE sha256 OF THE DUMP (.gsa) THAT YtemilfojnecldaaGreatProg.lean LOADS. Nothing in Lean hashes anything: it is a label: what it is worth is what the hold of that sum in a sandbox is worth. -/
noncomputable def Tryz.pinned : Pinned := { name := "ytemilfojnecldaagreat", sum := "d958f0afaf6c4ef586ba25892fcafcd9704b23419027381506ab5457847b31da", checked := Tryz.checked }
namespace Rows
def none {H : Type} : Left H := { results := [], args := [] }

/-- 'tributarylaw11.SetAdds': WHATEVER THE INPUT: true; the input reads as it did. -/
def setAddsSpec : ChangeSpec := { name := "setAdds", fn := fun _ => fun
  | [d1, d2, d3] => { results := [.lit (.bool true)], args := [d1, d2, d3] }
  | _ => none }
def setAddsRow : OpenClaim := { program := "ytemilfojnecldaagreat", sum := "d958f0afaf6c4ef586ba25892fcafcd9704b23419027381506ab5457847b31da", func := "tributary/tributarylaw11.SetAdds", spec := "setAdds", inPlace := ["internal/bytealg.abigen_runtime_cmpstring"], unfollowed := true, recurses := true, loops := true, apart := false }
def SetAddsSaid : Prop := setAddsRow.holds Tryz.pinned (OpenSpec.ofChange setAddsSpec)

/-- ITS FALSE NEIGHBOUR: 'it returns false'. Refute it at one input. -/
def setAddsWrong : ChangeSpec := { name := "setAdds", fn := fun _ => fun
  | [d1, d2, d3] => { results := [.lit (.bool false)], args := [d1, d2, d3] }
  | _ => none }
def SetAddsWrongFalsely : Prop := setAddsRow.holds Tryz.pinned (OpenSpec.ofChange setAddsWrong)

/-- 'tributarylaw11.SetDels': WHATEVER THE INPUT: true; the input reads as it did. -/
def setDelsSpec : ChangeSpec := { name := "setDels", fn := fun _ => fun
  | [d1, d2, d3] => { results := [.lit (.bool true)], args := [d1, d2, d3] }
  | _ => none }
def setDelsRow : OpenClaim := { program := "ytemilfojnecldaagreat", sum := "d958f0afaf6c4ef586ba25892fcafcd9704b23419027381506ab5457847b31da", func := "tributary/tributarylaw11.SetDels", spec := "setDels", inPlace := ["internal/bytealg.abigen_runtime_cmpstring"], unfollowed := true, recurses := true, loops := true, apart := false }
def SetDelsSaid : Prop := setDelsRow.holds Tryz.pinned (OpenSpec.ofChange setDelsSpec)

/-- ITS FALSE NEIGHBOUR: 'it returns false'. Refute it at one input. -/
def setDelsWrong : ChangeSpec := { name := "setDels", fn := fun _ => fun
  | [d1, d2, d3] => { results := [.lit (.bool false)], args := [d1, d2, d3] }
  | _ => none }
def SetDelsWrongFalsely : Prop := setDelsRow.holds Tryz.pinned (OpenSpec.ofChange setDelsWrong)

/-- 'tributarylaw11.SetElems': WHATEVER THE INPUT: true; the input reads as it did. -/
def setElemsSpec : ChangeSpec := { name := "setElems", fn := fun _ => fun
  | [d1, d2] => { results := [.lit (.bool true)], args := [d1, d2] }
  | _ => none }
def setElemsRow : OpenClaim := { program := "ytemilfojnecldaagreat", sum := "d958f0afaf6c4ef586ba25892fcafcd9704b23419027381506ab5457847b31da", func := "tributary/tributarylaw11.SetElems", spec := "setElems", inPlace := ["internal/bytealg.abigen_runtime_cmpstring"], unfollowed := true, recurses := true, loops := true, apart := false }
def SetElemsSaid : Prop := setElemsRow.holds Tryz.pinned (OpenSpec.ofChange setElemsSpec)

/-- ITS FALSE NEIGHBOUR: 'it returns false'. Refute it at one input. -/
def setElemsWrong : ChangeSpec := { name := "setElems", fn := fun _ => fun
  | [d1, d2] => { results := [.lit (.bool false)], args := [d1, d2] }
  | _ => none }
def SetElemsWrongFalsely : Prop := setElemsRow.holds Tryz.pinned (OpenSpec.ofChange setElemsWrong)

/-- 'tributarylaw11.SetTurns': WHATEVER THE INPUT: true; the input reads as it did. -/
def setTurnsSpec : ChangeSpec := { name := "setTurns", fn := fun _ => fun
  | [d1, d2, d3] => { results := [.lit (.bool true)], args := [d1, d2, d3] }
  | _ => none }
def setTurnsRow : OpenClaim := { program := "ytemilfojnecldaagreat", sum := "d958f0afaf6c4ef586ba25892fcafcd9704b23419027381506ab5457847b31da", func := "tributary/tributarylaw11.SetTurns", spec := "setTurns", inPlace := ["internal/bytealg.abigen_runtime_cmpstring"], unfollowed := true, recurses := true, loops := true, apart := false }
def SetTurnsSaid : Prop := setTurnsRow.holds Tryz.pinned (OpenSpec.ofChange setTurnsSpec)

/-- ITS FALSE NEIGHBOUR: 'it returns false'. Refute it at one input. -/
def setTurnsWrong : ChangeSpec := { name := "setTurns", fn := fun _ => fun
  | [d1, d2, d3] => { results := [.lit (.bool false)], args := [d1, d2, d3] }
  | _ => none }
def SetTurnsWrongFalsely : Prop := setTurnsRow.holds Tryz.pinned (OpenSpec.ofChange setTurnsWrong)

/-- 'tributarylaw11.SetWins': WHATEVER THE INPUT: true; the input reads as it did. -/
def setWinsSpec : ChangeSpec := { name := "setWins", fn := fun _ => fun
  | [d1, d2, d3, d4] => { results := [.lit (.bool true)], args := [d1, d2, d3, d4] }
  | _ => none }
def setWinsRow : OpenClaim := { program := "ytemilfojnecldaagreat", sum := "d958f0afaf6c4ef586ba25892fcafcd9704b23419027381506ab5457847b31da", func := "tributary/tributarylaw11.SetWins", spec := "setWins", inPlace := ["internal/bytealg.abigen_runtime_cmpstring"], unfollowed := true, recurses := true, loops := true, apart := false }
def SetWinsSaid : Prop := setWinsRow.holds Tryz.pinned (OpenSpec.ofChange setWinsSpec)

/-- ITS FALSE NEIGHBOUR: 'it returns false'. Refute it at one input. -/
def setWinsWrong : ChangeSpec := { name := "setWins", fn := fun _ => fun
  | [d1, d2, d3, d4] => { results := [.lit (.bool false)], args := [d1, d2, d3, d4] }
  | _ => none }
def SetWinsWrongFalsely : Prop := setWinsRow.holds Tryz.pinned (OpenSpec.ofChange setWinsWrong)

/-- 'tributarylaw11.SetBoth': WHATEVER THE INPUT: true; the input reads as it did. -/
def setBothSpec : ChangeSpec := { name := "setBoth", fn := fun _ => fun
  | [d1, d2, d3] => { results := [.lit (.bool true)], args := [d1, d2, d3] }
  | _ => none }
def setBothRow : OpenClaim := { program := "ytemilfojnecldaagreat", sum := "d958f0afaf6c4ef586ba25892fcafcd9704b23419027381506ab5457847b31da", func := "tributary/tributarylaw11.SetBoth", spec := "setBoth", inPlace := ["internal/bytealg.abigen_runtime_cmpstring"], unfollowed := true, recurses := true, loops := true, apart := false }
def SetBothSaid : Prop := setBothRow.holds Tryz.pinned (OpenSpec.ofChange setBothSpec)

/-- ITS FALSE NEIGHBOUR: 'it returns false'. Refute it at one input. -/
def setBothWrong : ChangeSpec := { name := "setBoth", fn := fun _ => fun
  | [d1, d2, d3] => { results := [.lit (.bool false)], args := [d1, d2, d3] }
  | _ => none }
def SetBothWrongFalsely : Prop := setBothRow.holds Tryz.pinned (OpenSpec.ofChange setBothWrong)

/- THE SECOND FORM. 'bulk': how many values and letters a reading holds, each counted each time it is reached (what is shared counts as often as it is met; a slice's spare places count too). A statement '..UptoSaid' is the law's where the arguments, and the package variables that the reading takes, are together of bulk at most 1048576: NARROWER than '..Said'. Prove '..Said' where nothing that the law and all that it calls make is longer than what came in: it says more and counts as full. Else prove '..UptoSaid'. A law counts once. -/
mutual
def uptoBulk {H : Type} : DataW H → Nat
  | .lit (.string bytes) => bytes.length + 1
  | .lit _ => 1
  | .nil => 1
  | .ptr d => uptoBulk d + 1
  | .slice elems spare => uptoBulkAll elems + uptoBulkAll spare + 1
  | .agg parts => uptoBulkAll parts + 1
  | .iface _ d => uptoBulk d + 1
  | .map entries => uptoBulkEntries entries + 1
  | .held _ => 1
def uptoBulkAll {H : Type} : List (DataW H) → Nat
  | [] => 0
  | d :: r => uptoBulk d + uptoBulkAll r
def uptoBulkEntries {H : Type} : List (Lit × DataW H) → Nat
  | [] => 0
  | x :: r => uptoBulkEntry x + uptoBulkEntries r
def uptoBulkEntry {H : Type} : Lit × DataW H → Nat
  | (.string bytes, d) => bytes.length + uptoBulk d + 1
  | (_, d) => uptoBulk d + 1
 end
def uptoSmall : (H : Type) → List (DataW H) → Bool := fun _ ds => decide (uptoBulkAll ds ≤ 1048576)
def OpenSpec.upto (s : _root_.Go.ChangeSpec) : _root_.Go.OpenSpec := { _root_.Go.OpenSpec.ofChange s with cond := some uptoSmall }

/-- 'tributarylaw11.SetAdds', WHERE WHAT IT READS IS OF BULK AT MOST 1048576: true; the input reads as it did. -/
def setAddsUptoRow : OpenClaim := { program := "ytemilfojnecldaagreat", sum := "d958f0afaf6c4ef586ba25892fcafcd9704b23419027381506ab5457847b31da", func := "tributary/tributarylaw11.SetAdds", spec := "setAdds", inPlace := ["internal/bytealg.abigen_runtime_cmpstring"], unfollowed := true, recurses := true, loops := true, apart := false, narrowed := true }
def SetAddsUptoSaid : Prop := setAddsUptoRow.holds Tryz.pinned (OpenSpec.upto setAddsSpec)

/-- 'tributarylaw11.SetDels', WHERE WHAT IT READS IS OF BULK AT MOST 1048576: true; the input reads as it did. -/
def setDelsUptoRow : OpenClaim := { program := "ytemilfojnecldaagreat", sum := "d958f0afaf6c4ef586ba25892fcafcd9704b23419027381506ab5457847b31da", func := "tributary/tributarylaw11.SetDels", spec := "setDels", inPlace := ["internal/bytealg.abigen_runtime_cmpstring"], unfollowed := true, recurses := true, loops := true, apart := false, narrowed := true }
def SetDelsUptoSaid : Prop := setDelsUptoRow.holds Tryz.pinned (OpenSpec.upto setDelsSpec)

/-- 'tributarylaw11.SetElems', WHERE WHAT IT READS IS OF BULK AT MOST 1048576: true; the input reads as it did. -/
def setElemsUptoRow : OpenClaim := { program := "ytemilfojnecldaagreat", sum := "d958f0afaf6c4ef586ba25892fcafcd9704b23419027381506ab5457847b31da", func := "tributary/tributarylaw11.SetElems", spec := "setElems", inPlace := ["internal/bytealg.abigen_runtime_cmpstring"], unfollowed := true, recurses := true, loops := true, apart := false, narrowed := true }
def SetElemsUptoSaid : Prop := setElemsUptoRow.holds Tryz.pinned (OpenSpec.upto setElemsSpec)

/-- 'tributarylaw11.SetTurns', WHERE WHAT IT READS IS OF BULK AT MOST 1048576: true; the input reads as it did. -/
def setTurnsUptoRow : OpenClaim := { program := "ytemilfojnecldaagreat", sum := "d958f0afaf6c4ef586ba25892fcafcd9704b23419027381506ab5457847b31da", func := "tributary/tributarylaw11.SetTurns", spec := "setTurns", inPlace := ["internal/bytealg.abigen_runtime_cmpstring"], unfollowed := true, recurses := true, loops := true, apart := false, narrowed := true }
def SetTurnsUptoSaid : Prop := setTurnsUptoRow.holds Tryz.pinned (OpenSpec.upto setTurnsSpec)

/-- 'tributarylaw11.SetWins', WHERE WHAT IT READS IS OF BULK AT MOST 1048576: true; the input reads as it did. -/
def setWinsUptoRow : OpenClaim := { program := "ytemilfojnecldaagreat", sum := "d958f0afaf6c4ef586ba25892fcafcd9704b23419027381506ab5457847b31da", func := "tributary/tributarylaw11.SetWins", spec := "setWins", inPlace := ["internal/bytealg.abigen_runtime_cmpstring"], unfollowed := true, recurses := true, loops := true, apart := false, narrowed := true }
def SetWinsUptoSaid : Prop := setWinsUptoRow.holds Tryz.pinned (OpenSpec.upto setWinsSpec)

/-- 'tributarylaw11.SetBoth', WHERE WHAT IT READS IS OF BULK AT MOST 1048576: true; the input reads as it did. -/
def setBothUptoRow : OpenClaim := { program := "ytemilfojnecldaagreat", sum := "d958f0afaf6c4ef586ba25892fcafcd9704b23419027381506ab5457847b31da", func := "tributary/tributarylaw11.SetBoth", spec := "setBoth", inPlace := ["internal/bytealg.abigen_runtime_cmpstring"], unfollowed := true, recurses := true, loops := true, apart := false, narrowed := true }
def SetBothUptoSaid : Prop := setBothUptoRow.holds Tryz.pinned (OpenSpec.upto setBothSpec)

end Rows
end Go.Proofs.YtemilfojnecldaaGreat
