/-
  NARROWER THAN 'FOR EVERY INPUT', by the rows' own cells (each row's printed sentence says how): FlagTurns: loops · FlagWins: loops.
  DERIVED. THE GIVEN ROWS OF THIS SEAT. 2 by the template 'for every input the law returns true; each argument reads behind the call as it read before'; 0 by the template 'total and deterministic' (their statements: YtochokcbjlknbaaGreatTotals.lean).
  GIVEN WITH THE SEED: the statements are not yours to turn. If you find one false, say at which input.
  Laid BY PROGRAM, IN A SANDBOX (cutbox-rows.mjs): the forced cells as the released guide's own fill.sh prints them over the translation d7997c0a8895a651… (all of the seat's roots in one cut). By AI agents, Wed Nov 11 2026. No macro, syntax, notation, axiom, sorry.
-/
import Derived.Test.YtochokcbjlknbaaGreatChecked
import GoSem.Claim
import GoSem.ClaimJoined
import GoSem.ClaimMapViews
import Derived.JoinedTies
import Derived.KernelRfl
namespace Go.Proofs.YtochokcbjlknbaaGreat
/- THE CELL 'sum', in the pinned program and in every row, IS THE sha256 OF THE DUMP (.gsa) THAT YtochokcbjlknbaaGreatProg.lean LOADS. Nothing in Lean hashes anything: it is a label: what it is worth is what the hold of that sum in a sandbox is worth. -/
noncomputable def Tryz.pinned : Pinned := { name := "ytochokcbjlknbaagreat", sum := "d7997c0a8895a651c9f7ec9de7515bd9a0f85c9dc1f986582809bfcadb8ab402", checked := Tryz.checked }
namespace Rows
def none {H : Type} : Left H := { results := [], args := [] }

/-- 'tributarylaw10.FlagTurns': WHATEVER THE INPUT: true; the input reads as it did. -/
def flagTurnsSpec : ChangeSpec := { name := "flagTurns", fn := fun _ => fun
  | [d1, d2] => { results := [.lit (.bool true)], args := [d1, d2] }
  | _ => none }
def flagTurnsRow : OpenClaim := { program := "ytochokcbjlknbaagreat", sum := "d7997c0a8895a651c9f7ec9de7515bd9a0f85c9dc1f986582809bfcadb8ab402", func := "tributary/tributarylaw10.FlagTurns", spec := "flagTurns", inPlace := ["internal/bytealg.abigen_runtime_cmpstring"], unfollowed := true, recurses := true, loops := true, apart := false }
def FlagTurnsSaid : Prop := flagTurnsRow.holds Tryz.pinned (OpenSpec.ofChange flagTurnsSpec)

/-- ITS FALSE NEIGHBOUR: 'it returns false'. Refute it at one input. -/
def flagTurnsWrong : ChangeSpec := { name := "flagTurns", fn := fun _ => fun
  | [d1, d2] => { results := [.lit (.bool false)], args := [d1, d2] }
  | _ => none }
def FlagTurnsWrongFalsely : Prop := flagTurnsRow.holds Tryz.pinned (OpenSpec.ofChange flagTurnsWrong)

/-- 'tributarylaw10.FlagWins': WHATEVER THE INPUT: true; the input reads as it did. -/
def flagWinsSpec : ChangeSpec := { name := "flagWins", fn := fun _ => fun
  | [d1, d2, d3] => { results := [.lit (.bool true)], args := [d1, d2, d3] }
  | _ => none }
def flagWinsRow : OpenClaim := { program := "ytochokcbjlknbaagreat", sum := "d7997c0a8895a651c9f7ec9de7515bd9a0f85c9dc1f986582809bfcadb8ab402", func := "tributary/tributarylaw10.FlagWins", spec := "flagWins", inPlace := ["internal/bytealg.abigen_runtime_cmpstring"], unfollowed := true, recurses := true, loops := true, apart := false }
def FlagWinsSaid : Prop := flagWinsRow.holds Tryz.pinned (OpenSpec.ofChange flagWinsSpec)

/-- ITS FALSE NEIGHBOUR: 'it returns false'. Refute it at one input. -/
def flagWinsWrong : ChangeSpec := { name := "flagWins", fn := fun _ => fun
  | [d1, d2, d3] => { results := [.lit (.bool false)], args := [d1, d2, d3] }
  | _ => none }
def FlagWinsWrongFalsely : Prop := flagWinsRow.holds Tryz.pinned (OpenSpec.ofChange flagWinsWrong)

/- THE SECOND FORM. 'bulk': how many values and letters a reading holds, each counted each time it is reached (what is shared counts as often as it is met; a slice's spare places count too). A statement '..UptoSaid' is the law's where the arguments, and the package variables that the reading takes, are together of bulk at most 1048576: NARROWER than '..Said'. Prove '..Said' where nothing that the law and all that it calls make is longer than what came in: it says more and counts as full. Else prove '..UptoSaid'. A law counts once. -/
mutual
def uptoBulk {H : Type} : DataW H → Nat
  | .lit (.string bytes) => bytes.length + 1
  | .lit _ => 1
  | .nil => 1
  | .ptr d => uptoBulk d + 1
  | .slice elems spare => uptoBulkAll elems + uptoBulkAll spare + 1
  | .agg parts => uptoBulkAll parts + 1
  | .iface _ d => uptoBulk d + 1
  | .map entries => uptoBulkEntries entries + 1
  | .held _ => 1
def uptoBulkAll {H : Type} : List (DataW H) → Nat
  | [] => 0
  | d :: r => uptoBulk d + uptoBulkAll r
def uptoBulkEntries {H : Type} : List (Lit × DataW H) → Nat
  | [] => 0
  | x :: r => uptoBulkEntry x + uptoBulkEntries r
def uptoBulkEntry {H : Type} : Lit × DataW H → Nat
  | (.string bytes, d) => bytes.length + uptoBulk d + 1
  | (_, d) => uptoBulk d + 1
 end
def uptoSmall : (H : Type) → List (DataW H) → Bool := fun _ ds => decide (uptoBulkAll ds ≤ 1048576)
def OpenSpec.upto (s : _root_.Go.ChangeSpec) : _root_.Go.OpenSpec := { _root_.Go.OpenSpec.ofChange s with cond := some uptoSmall }

/-- 'tributarylaw10.FlagTurns', WHERE WHAT IT READS IS OF BULK AT MOST 1048576: true; the input reads as it did. -/
def flagTurnsUptoRow : OpenClaim := { program := "ytochokcbjlknbaagreat", sum := "d7997c0a8895a651c9f7ec9de7515bd9a0f85c9dc1f986582809bfcadb8ab402", func := "tributary/tributarylaw10.FlagTurns", spec := "flagTurns", inPlace := ["internal/bytealg.abigen_runtime_cmpstring"], unfollowed := true, recurses := true, loops := true, apart := false, narrowed := true }
def FlagTurnsUptoSaid : Prop := flagTurnsUptoRow.holds Tryz.pinned (OpenSpec.upto flagTurnsSpec)

/-- 'tributarylaw10.FlagWins', WHERE WHAT IT READS IS OF BULK AT MOST 1048576: true; the input reads as it did. -/
def flagWinsUptoRow : OpenClaim := { program := "ytochokcbjlknbaagreat", sum := "d7997c0a8895a651c9f7ec9de7515bd9a0f85c9dc1f986582809bfcadb8ab402", func := "tributary/tributarylaw10.FlagWins", spec := "flagWins", inPlace := ["internal/bytealg.abigen_runtime_cmpstring"], unfollowed := true, recurses := true, loops := true, apart := false, narrowed := true }
def FlagWinsUptoSaid : Prop := flagWinsUptoRow.holds Tryz.pinned (OpenSpec.upto flagWinsSpec)

end Rows
end Go.Proofs.YtochokcbjlknbaaGreat
