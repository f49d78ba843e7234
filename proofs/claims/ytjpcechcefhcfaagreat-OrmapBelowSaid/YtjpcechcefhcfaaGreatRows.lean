/-
  NARROWER THAN 'FOR EVERY INPUT', by the rows' own cells (each row's printed sentence says how): OrmapUpdates: loops · OrmapResets: loops · OrmapKeys: loops · OrmapBelow: loops · OrmapKeeps: loops.
  DERIVED. THE GIVEN ROWS OF THIS SEAT. 5 by the template 'for every input the law returns true; each argument reads behind the call as it read before'; 0 by the template 'total and deterministic' (their statements: YtjpcechcefhcfaaGreatTotals.lean).
  GIVEN WITH THE SEED: the statements are not yours to turn. If you find one false, say at which input.
  Laid BY PROGRAM, IN A SANDBOX (cutbox-rows.mjs): the forced cells as the released guide's own fill.sh prints them over the translation 24e0bfc7ed9f6db9… (all of the seat's roots in one cut). By AI agents, Wed Nov 11 2026. No macro, syntax, notation, axiom, sorry.
-/
import Derived.Test.YtjpcechcefhcfaaGreatChecked
import GoSem.Claim
import GoSem.ClaimJoined
import GoSem.ClaimMapViews
import Derived.JoinedTies
import Derived.KernelRfl
namespace Go.Proofs.YtjpcechcefhcfaaGreat
/- THE CELL 'sum', in the pinned program and in every row, IS THE sha256 OF THE DUMP (.gsa) THAT YtjpcechcefhcfaaGreatProg.lean LOADS. Nothing in Lean hashes anything: it is a label: what it is worth is what the hold of that sum in a sandbox is worth. -/
noncomputable def Tryz.pinned : Pinned := { name := "ytjpcechcefhcfaagreat", sum := "24e0bfc7ed9f6db946f318e750e53e62a2cc172ba60d5529cb2ef5d62d21c31b", checked := Tryz.checked }
namespace Rows
def none {H : Type} : Left H := { results := [], args := [] }

/-- 'tributarylaw14.OrmapUpdates': WHATEVER THE INPUT: true; the input reads as it did. -/
def ormapUpdatesSpec : ChangeSpec := { name := "ormapUpdates", fn := fun _ => fun
  | [d1, d2, d3] => { results := [.lit (.bool true)], args := [d1, d2, d3] }
  | _ => none }
def ormapUpdatesRow : OpenClaim := { program := "ytjpcechcefhcfaagreat", sum := "24e0bfc7ed9f6db946f318e750e53e62a2cc172ba60d5529cb2ef5d62d21c31b", func := "tributary/tributarylaw14.OrmapUpdates", spec := "ormapUpdates", inPlace := ["internal/bytealg.abigen_runtime_cmpstring"], unfollowed := true, recurses := true, loops := true, apart := false }
def OrmapUpdatesSaid : Prop := ormapUpdatesRow.holds Tryz.pinned (OpenSpec.ofChange ormapUpdatesSpec)

/-- ITS FALSE NEIGHBOUR: 'it returns false'. Refute it at one input. -/
def ormapUpdatesWrong : ChangeSpec := { name := "ormapUpdates", fn := fun _ => fun
  | [d1, d2, d3] => { results := [.lit (.bool false)], args := [d1, d2, d3] }
  | _ => none }
def OrmapUpdatesWrongFalsely : Prop := ormapUpdatesRow.holds Tryz.pinned (OpenSpec.ofChange ormapUpdatesWrong)

/-- 'tributarylaw14.OrmapResets': WHATEVER THE INPUT: true; the input reads as it did. -/
def ormapResetsSpec : ChangeSpec := { name := "ormapResets", fn := fun _ => fun
  | [d1, d2] => { results := [.lit (.bool true)], args := [d1, d2] }
  | _ => none }
def ormapResetsRow : OpenClaim := { program := "ytjpcechcefhcfaagreat", sum := "24e0bfc7ed9f6db946f318e750e53e62a2cc172ba60d5529cb2ef5d62d21c31b", func := "tributary/tributarylaw14.OrmapResets", spec := "ormapResets", inPlace := ["internal/bytealg.abigen_runtime_cmpstring"], unfollowed := true, recurses := true, loops := true, apart := false }
def OrmapResetsSaid : Prop := ormapResetsRow.holds Tryz.pinned (OpenSpec.ofChange ormapResetsSpec)

/-- ITS FALSE NEIGHBOUR: 'it returns false'. Refute it at one input. -/
def ormapResetsWrong : ChangeSpec := { name := "ormapResets", fn := fun _ => fun
  | [d1, d2] => { results := [.lit (.bool false)], args := [d1, d2] }
  | _ => none }
def OrmapResetsWrongFalsely : Prop := ormapResetsRow.holds Tryz.pinned (OpenSpec.ofChange ormapResetsWrong)

/-- 'tributarylaw14.OrmapKeys': WHATEVER THE INPUT: true; the input reads as it did. -/
def ormapKeysSpec : ChangeSpec := { name := "ormapKeys", fn := fun _ => fun
  | [d] => { results := [.lit (.bool true)], args := [d] }
  | _ => none }
def ormapKeysRow : OpenClaim := { program := "ytjpcechcefhcfaagreat", sum := "24e0bfc7ed9f6db946f318e750e53e62a2cc172ba60d5529cb2ef5d62d21c31b", func := "tributary/tributarylaw14.OrmapKeys", spec := "ormapKeys", inPlace := ["internal/bytealg.abigen_runtime_cmpstring"], unfollowed := true, recurses := true, loops := true, apart := false }
def OrmapKeysSaid : Prop := ormapKeysRow.holds Tryz.pinned (OpenSpec.ofChange ormapKeysSpec)

/-- ITS FALSE NEIGHBOUR: 'it returns false'. Refute it at one input. -/
def ormapKeysWrong : ChangeSpec := { name := "ormapKeys", fn := fun _ => fun
  | [d] => { results := [.lit (.bool false)], args := [d] }
  | _ => none }
def OrmapKeysWrongFalsely : Prop := ormapKeysRow.holds Tryz.pinned (OpenSpec.ofChange ormapKeysWrong)

/-- 'tributarylaw14.OrmapBelow': WHATEVER THE INPUT: true; the input reads as it did. -/
def ormapBelowSpec : ChangeSpec := { name := "ormapBelow", fn := fun _ => fun
  | [d1, d2, d3] => { results := [.lit (.bool true)], args := [d1, d2, d3] }
  | _ => none }
def ormapBelowRow : OpenClaim := { program := "ytjpcechcefhcfaagreat", sum := "24e0bfc7ed9f6db946f318e750e53e62a2cc172ba60d5529cb2ef5d62d21c31b", func := "tributary/tributarylaw14.OrmapBelow", spec := "ormapBelow", inPlace := ["internal/bytealg.abigen_runtime_cmpstring"], unfollowed := true, recurses := true, loops := true, apart := false }
def OrmapBelowSaid : Prop := ormapBelowRow.holds Tryz.pinned (OpenSpec.ofChange ormapBelowSpec)

/-- ITS FALSE NEIGHBOUR: 'it returns false'. Refute it at one input. -/
def ormapBelowWrong : ChangeSpec := { name := "ormapBelow", fn := fun _ => fun
  | [d1, d2, d3] => { results := [.lit (.bool false)], args := [d1, d2, d3] }
  | _ => none }
def OrmapBelowWrongFalsely : Prop := ormapBelowRow.holds Tryz.pinned (OpenSpec.ofChange ormapBelowWrong)

/-- 'tributarylaw14.OrmapKeeps': WHATEVER THE INPUT: true; the input reads as it did. -/
def ormapKeepsSpec : ChangeSpec := { name := "ormapKeeps", fn := fun _ => fun
  | [d1, d2, d3, d4] => { results := [.lit (.bool true)], args := [d1, d2, d3, d4] }
  | _ => none }
def ormapKeepsRow : OpenClaim := { program := "ytjpcechcefhcfaagreat", sum := "24e0bfc7ed9f6db946f318e750e53e62a2cc172ba60d5529cb2ef5d62d21c31b", func := "tributary/tributarylaw14.OrmapKeeps", spec := "ormapKeeps", inPlace := ["internal/bytealg.abigen_runtime_cmpstring"], unfollowed := true, recurses := true, loops := true, apart := false }
def OrmapKeepsSaid : Prop := ormapKeepsRow.holds Tryz.pinned (OpenSpec.ofChange ormapKeepsSpec)

/-- ITS FALSE NEIGHBOUR: 'it returns false'. Refute it at one input. -/
def ormapKeepsWrong : ChangeSpec := { name := "ormapKeeps", fn := fun _ => fun
  | [d1, d2, d3, d4] => { results := [.lit (.bool false)], args := [d1, d2, d3, d4] }
  | _ => none }
def OrmapKeepsWrongFalsely : Prop := ormapKeepsRow.holds Tryz.pinned (OpenSpec.ofChange ormapKeepsWrong)

/- THE SECOND FORM. 'bulk': how many values and letters a reading holds, each counted each time it is reached (what is shared counts as often as it is met; a slice's spare places count too). A statement '..UptoSaid' is the law's where the arguments, and the package variables that the reading takes, are together of bulk at most 1048576: NARROWER than '..Said'. Prove '..Said' where nothing that the law and all that it calls make is longer than what came in: it says more and counts as full. Else prove '..UptoSaid'. A law counts once. -/
mutual
def uptoBulk {H : Type} : DataW H → Nat
  | .lit (.string bytes) => bytes.length + 1
  | .lit _ => 1
  | .nil => 1
  | .ptr d => uptoBulk d + 1
  | .slice elems spare => uptoBulkAll elems + uptoBulkAll spare + 1
  | .agg parts => uptoBulkAll parts + 1
  | .iface _ d => uptoBulk d + 1
  | .map entries => uptoBulkEntries entries + 1
  | .held _ => 1
def uptoBulkAll {H : Type} : List (DataW H) → Nat
  | [] => 0
  | d :: r => uptoBulk d + uptoBulkAll r
def uptoBulkEntries {H : Type} : List (Lit × DataW H) → Nat
  | [] => 0
  | x :: r => uptoBulkEntry x + uptoBulkEntries r
def uptoBulkEntry {H : Type} : Lit × DataW H → Nat
  | (.string bytes, d) => bytes.length + uptoBulk d + 1
  | (_, d) => uptoBulk d + 1
 end
def uptoSmall : (H : Type) → List (DataW H) → Bool := fun _ ds => decide (uptoBulkAll ds ≤ 1048576)
def OpenSpec.upto (s : _root_.Go.ChangeSpec) : _root_.Go.OpenSpec := { _root_.Go.OpenSpec.ofChange s with cond := some uptoSmall }

/-- 'tributarylaw14.OrmapUpdates', WHERE WHAT IT READS IS OF BULK AT MOST 1048576: true; the input reads as it did. -/
def ormapUpdatesUptoRow : OpenClaim := { program := "ytjpcechcefhcfaagreat", sum := "24e0bfc7ed9f6db946f318e750e53e62a2cc172ba60d5529cb2ef5d62d21c31b", func := "tributary/tributarylaw14.OrmapUpdates", spec := "ormapUpdates", inPlace := ["internal/bytealg.abigen_runtime_cmpstring"], unfollowed := true, recurses := true, loops := true, apart := false, narrowed := true }
def OrmapUpdatesUptoSaid : Prop := ormapUpdatesUptoRow.holds Tryz.pinned (OpenSpec.upto ormapUpdatesSpec)

/-- 'tributarylaw14.OrmapResets', WHERE WHAT IT READS IS OF BULK AT MOST 1048576: true; the input reads as it did. -/
def ormapResetsUptoRow : OpenClaim := { program := "ytjpcechcefhcfaagreat", sum := "24e0bfc7ed9f6db946f318e750e53e62a2cc172ba60d5529cb2ef5d62d21c31b", func := "tributary/tributarylaw14.OrmapResets", spec := "ormapResets", inPlace := ["internal/bytealg.abigen_runtime_cmpstring"], unfollowed := true, recurses := true, loops := true, apart := false, narrowed := true }
def OrmapResetsUptoSaid : Prop := ormapResetsUptoRow.holds Tryz.pinned (OpenSpec.upto ormapResetsSpec)

/-- 'tributarylaw14.OrmapKeys', WHERE WHAT IT READS IS OF BULK AT MOST 1048576: true; the input reads as it did. -/
def ormapKeysUptoRow : OpenClaim := { program := "ytjpcechcefhcfaagreat", sum := "24e0bfc7ed9f6db946f318e750e53e62a2cc172ba60d5529cb2ef5d62d21c31b", func := "tributary/tributarylaw14.OrmapKeys", spec := "ormapKeys", inPlace := ["internal/bytealg.abigen_runtime_cmpstring"], unfollowed := true, recurses := true, loops := true, apart := false, narrowed := true }
def OrmapKeysUptoSaid : Prop := ormapKeysUptoRow.holds Tryz.pinned (OpenSpec.upto ormapKeysSpec)

/-- 'tributarylaw14.OrmapBelow', WHERE WHAT IT READS IS OF BULK AT MOST 1048576: true; the input reads as it did. -/
def ormapBelowUptoRow : OpenClaim := { program := "ytjpcechcefhcfaagreat", sum := "24e0bfc7ed9f6db946f318e750e53e62a2cc172ba60d5529cb2ef5d62d21c31b", func := "tributary/tributarylaw14.OrmapBelow", spec := "ormapBelow", inPlace := ["internal/bytealg.abigen_runtime_cmpstring"], unfollowed := true, recurses := true, loops := true, apart := false, narrowed := true }
def OrmapBelowUptoSaid : Prop := ormapBelowUptoRow.holds Tryz.pinned (OpenSpec.upto ormapBelowSpec)

/-- 'tributarylaw14.OrmapKeeps', WHERE WHAT IT READS IS OF BULK AT MOST 1048576: true; the input reads as it did. -/
def ormapKeepsUptoRow : OpenClaim := { program := "ytjpcechcefhcfaagreat", sum := "24e0bfc7ed9f6db946f318e750e53e62a2cc172ba60d5529cb2ef5d62d21c31b", func := "tributary/tributarylaw14.OrmapKeeps", spec := "ormapKeeps", inPlace := ["internal/bytealg.abigen_runtime_cmpstring"], unfollowed := true, recurses := true, loops := true, apart := false, narrowed := true }
def OrmapKeepsUptoSaid : Prop := ormapKeepsUptoRow.holds Tryz.pinned (OpenSpec.upto ormapKeepsSpec)

end Rows
end Go.Proofs.YtjpcechcefhcfaaGreat
