/-
  NARROWER THAN 'FOR EVERY INPUT', by the rows' own cells (each row's printed sentence says how): OpApplies: loops · OpReads: loops · OpApart: loops.
  DERIVED. THE GIVEN ROWS OF THIS SEAT. 9 by the template 'for every input the law returns true; each argument reads behind the call as it read before'; 0 by the template 'total and deterministic' (their statements: YtgeafpaognhokaaGreatTotals.lean).
  GIVEN WITH THE SEED: the statements are not yours to turn. If you find one false, say at which input.
  Laid BY PROGRAM, IN A SANDBOX (cutbox-rows.mjs): the forced cells as the released guide's own fill.sh prints them over the translation 76974f6c190b762c… (all of the seat's roots in one cut). By AI agents, Wed Nov 11 2026. No macro, syntax, notation, axiom, sorry.
-/
import Derived.Test.YtgeafpaognhokaaGreatChecked
import GoSem.Claim
import GoSem.ClaimJoined
import GoSem.ClaimMapViews
import Derived.JoinedTies
import Derived.KernelRfl
namespace Go.Proofs.YtgeafpaognhokaaGreat
/- THE CELL 'sum', in the pinned program and in every row, IS THE sha256 OF THE DUMP (.gsa) THAT YtgeafpaognhokaaGreatProg.lean LOADS. Nothing in Lean hashes anything: it is a label: what it is worth is what the hold of that sum in a sandbox is worth. -/
noncomputable def Tryz.pinned : Pinned := { name := "ytgeafpaognhokaagreat", sum := "76974f6c190b762c4fb2dd41e3c05965e74ce586e2a2cdcbacaf0d2d61a7903e", checked := Tryz.checked }
namespace Rows
def none {H : Type} : Left H := { results := [], args := [] }

/-- 'tributarylaw15.OpKinds': WHATEVER THE INPUT: true; the input reads as it did. -/
def opKindsSpec : ChangeSpec := { name := "opKinds", fn := fun _ => fun
  | [d] => { results := [.lit (.bool true)], args := [d] }
  | _ => none }
def opKindsRow : OpenClaim := { program := "ytgeafpaognhokaagreat", sum := "76974f6c190b762c4fb2dd41e3c05965e74ce586e2a2cdcbacaf0d2d61a7903e", func := "tributary/tributarylaw15.OpKinds", spec := "opKinds", inPlace := ["internal/bytealg.IndexByteString", "internal/bytealg.abigen_runtime_cmpstring"], unfollowed := true, recurses := true, apart := false }
def OpKindsSaid : Prop := opKindsRow.holds Tryz.pinned (OpenSpec.ofChange opKindsSpec)

/-- ITS FALSE NEIGHBOUR: 'it returns false'. Refute it at one input. -/
def opKindsWrong : ChangeSpec := { name := "opKinds", fn := fun _ => fun
  | [d] => { results := [.lit (.bool false)], args := [d] }
  | _ => none }
def OpKindsWrongFalsely : Prop := opKindsRow.holds Tryz.pinned (OpenSpec.ofChange opKindsWrong)

/-- 'tributarylaw15.OpRight': WHATEVER THE INPUT: true; the input reads as it did. -/
def opRightSpec : ChangeSpec := { name := "opRight", fn := fun _ => fun
  | [d] => { results := [.lit (.bool true)], args := [d] }
  | _ => none }
def opRightRow : OpenClaim := { program := "ytgeafpaognhokaagreat", sum := "76974f6c190b762c4fb2dd41e3c05965e74ce586e2a2cdcbacaf0d2d61a7903e", func := "tributary/tributarylaw15.OpRight", spec := "opRight", inPlace := ["internal/bytealg.IndexByteString", "internal/bytealg.abigen_runtime_cmpstring"], unfollowed := true, recurses := true, apart := false }
def OpRightSaid : Prop := opRightRow.holds Tryz.pinned (OpenSpec.ofChange opRightSpec)

/-- ITS FALSE NEIGHBOUR: 'it returns false'. Refute it at one input. -/
def opRightWrong : ChangeSpec := { name := "opRight", fn := fun _ => fun
  | [d] => { results := [.lit (.bool false)], args := [d] }
  | _ => none }
def OpRightWrongFalsely : Prop := opRightRow.holds Tryz.pinned (OpenSpec.ofChange opRightWrong)

/-- 'tributarylaw15.OpApplies': WHATEVER THE INPUT: true; the input reads as it did. -/
def opAppliesSpec : ChangeSpec := { name := "opApplies", fn := fun _ => fun
  | [d1, d2, d3] => { results := [.lit (.bool true)], args := [d1, d2, d3] }
  | _ => none }
def opAppliesRow : OpenClaim := { program := "ytgeafpaognhokaagreat", sum := "76974f6c190b762c4fb2dd41e3c05965e74ce586e2a2cdcbacaf0d2d61a7903e", func := "tributary/tributarylaw15.OpApplies", spec := "opApplies", inPlace := ["internal/bytealg.IndexByteString", "internal/bytealg.abigen_runtime_cmpstring"], unfollowed := true, recurses := true, loops := true, apart := false }
def OpAppliesSaid : Prop := opAppliesRow.holds Tryz.pinned (OpenSpec.ofChange opAppliesSpec)

/-- ITS FALSE NEIGHBOUR: 'it returns false'. Refute it at one input. -/
def opAppliesWrong : ChangeSpec := { name := "opApplies", fn := fun _ => fun
  | [d1, d2, d3] => { results := [.lit (.bool false)], args := [d1, d2, d3] }
  | _ => none }
def OpAppliesWrongFalsely : Prop := opAppliesRow.holds Tryz.pinned (OpenSpec.ofChange opAppliesWrong)

/-- 'tributarylaw15.OpReads': WHATEVER THE INPUT: true; the input reads as it did. -/
def opReadsSpec : ChangeSpec := { name := "opReads", fn := fun _ => fun
  | [d1, d2] => { results := [.lit (.bool true)], args := [d1, d2] }
  | _ => none }
def opReadsRow : OpenClaim := { program := "ytgeafpaognhokaagreat", sum := "76974f6c190b762c4fb2dd41e3c05965e74ce586e2a2cdcbacaf0d2d61a7903e", func := "tributary/tributarylaw15.OpReads", spec := "opReads", inPlace := ["internal/bytealg.IndexByteString", "internal/bytealg.abigen_runtime_cmpstring"], unfollowed := true, recurses := true, loops := true, apart := false }
def OpReadsSaid : Prop := opReadsRow.holds Tryz.pinned (OpenSpec.ofChange opReadsSpec)

/-- ITS FALSE NEIGHBOUR: 'it returns false'. Refute it at one input. -/
def opReadsWrong : ChangeSpec := { name := "opReads", fn := fun _ => fun
  | [d1, d2] => { results := [.lit (.bool false)], args := [d1, d2] }
  | _ => none }
def OpReadsWrongFalsely : Prop := opReadsRow.holds Tryz.pinned (OpenSpec.ofChange opReadsWrong)

/-- 'tributarylaw15.OpSame': WHATEVER THE INPUT: true; the input reads as it did. -/
def opSameSpec : ChangeSpec := { name := "opSame", fn := fun _ => fun
  | [d1, d2] => { results := [.lit (.bool true)], args := [d1, d2] }
  | _ => none }
def opSameRow : OpenClaim := { program := "ytgeafpaognhokaagreat", sum := "76974f6c190b762c4fb2dd41e3c05965e74ce586e2a2cdcbacaf0d2d61a7903e", func := "tributary/tributarylaw15.OpSame", spec := "opSame", inPlace := ["internal/bytealg.IndexByteString", "internal/bytealg.abigen_runtime_cmpstring"], unfollowed := true, recurses := true, apart := false }
def OpSameSaid : Prop := opSameRow.holds Tryz.pinned (OpenSpec.ofChange opSameSpec)

/-- ITS FALSE NEIGHBOUR: 'it returns false'. Refute it at one input. -/
def opSameWrong : ChangeSpec := { name := "opSame", fn := fun _ => fun
  | [d1, d2] => { results := [.lit (.bool false)], args := [d1, d2] }
  | _ => none }
def OpSameWrongFalsely : Prop := opSameRow.holds Tryz.pinned (OpenSpec.ofChange opSameWrong)

/-- 'tributarylaw15.OpApart': WHATEVER THE INPUT: true; the input reads as it did. -/
def opApartSpec : ChangeSpec := { name := "opApart", fn := fun _ => fun
  | [d1, d2, d3, d4] => { results := [.lit (.bool true)], args := [d1, d2, d3, d4] }
  | _ => none }
def opApartRow : OpenClaim := { program := "ytgeafpaognhokaagreat", sum := "76974f6c190b762c4fb2dd41e3c05965e74ce586e2a2cdcbacaf0d2d61a7903e", func := "tributary/tributarylaw15.OpApart", spec := "opApart", inPlace := ["internal/bytealg.IndexByteString", "internal/bytealg.abigen_runtime_cmpstring"], unfollowed := true, recurses := true, loops := true, apart := false }
def OpApartSaid : Prop := opApartRow.holds Tryz.pinned (OpenSpec.ofChange opApartSpec)

/-- ITS FALSE NEIGHBOUR: 'it returns false'. Refute it at one input. -/
def opApartWrong : ChangeSpec := { name := "opApart", fn := fun _ => fun
  | [d1, d2, d3, d4] => { results := [.lit (.bool false)], args := [d1, d2, d3, d4] }
  | _ => none }
def OpApartWrongFalsely : Prop := opApartRow.holds Tryz.pinned (OpenSpec.ofChange opApartWrong)

/-- 'tributarylaw15.OpSpec': WHATEVER THE INPUT: true; the input reads as it did. -/
def opSpecSpec : ChangeSpec := { name := "opSpec", fn := fun _ => fun
  | [d1, d2] => { results := [.lit (.bool true)], args := [d1, d2] }
  | _ => none }
def opSpecRow : OpenClaim := { program := "ytgeafpaognhokaagreat", sum := "76974f6c190b762c4fb2dd41e3c05965e74ce586e2a2cdcbacaf0d2d61a7903e", func := "tributary/tributarylaw15.OpSpec", spec := "opSpec", inPlace := ["internal/bytealg.IndexByteString", "internal/bytealg.abigen_runtime_cmpstring"], unfollowed := true, recurses := true, apart := false }
def OpSpecSaid : Prop := opSpecRow.holds Tryz.pinned (OpenSpec.ofChange opSpecSpec)

/-- ITS FALSE NEIGHBOUR: 'it returns false'. Refute it at one input. -/
def opSpecWrong : ChangeSpec := { name := "opSpec", fn := fun _ => fun
  | [d1, d2] => { results := [.lit (.bool false)], args := [d1, d2] }
  | _ => none }
def OpSpecWrongFalsely : Prop := opSpecRow.holds Tryz.pinned (OpenSpec.ofChange opSpecWrong)

/-- 'tributarylaw15.OpMeets': WHATEVER THE INPUT: true; the input reads as it did. -/
def opMeetsSpec : ChangeSpec := { name := "opMeets", fn := fun _ => fun
  | [d] => { results := [.lit (.bool true)], args := [d] }
  | _ => none }
def opMeetsRow : OpenClaim := { program := "ytgeafpaognhokaagreat", sum := "76974f6c190b762c4fb2dd41e3c05965e74ce586e2a2cdcbacaf0d2d61a7903e", func := "tributary/tributarylaw15.OpMeets", spec := "opMeets", inPlace := ["internal/bytealg.IndexByteString", "internal/bytealg.abigen_runtime_cmpstring"], unfollowed := true, recurses := true, apart := false }
def OpMeetsSaid : Prop := opMeetsRow.holds Tryz.pinned (OpenSpec.ofChange opMeetsSpec)

/-- ITS FALSE NEIGHBOUR: 'it returns false'. Refute it at one input. -/
def opMeetsWrong : ChangeSpec := { name := "opMeets", fn := fun _ => fun
  | [d] => { results := [.lit (.bool false)], args := [d] }
  | _ => none }
def OpMeetsWrongFalsely : Prop := opMeetsRow.holds Tryz.pinned (OpenSpec.ofChange opMeetsWrong)

/-- 'tributarylaw15.OpGrows': WHATEVER THE INPUT: true; the input reads as it did. -/
def opGrowsSpec : ChangeSpec := { name := "opGrows", fn := fun _ => fun
  | [d] => { results := [.lit (.bool true)], args := [d] }
  | _ => none }
def opGrowsRow : OpenClaim := { program := "ytgeafpaognhokaagreat", sum := "76974f6c190b762c4fb2dd41e3c05965e74ce586e2a2cdcbacaf0d2d61a7903e", func := "tributary/tributarylaw15.OpGrows", spec := "opGrows", inPlace := ["internal/bytealg.IndexByteString", "internal/bytealg.abigen_runtime_cmpstring"], unfollowed := true, recurses := true, apart := false }
def OpGrowsSaid : Prop := opGrowsRow.holds Tryz.pinned (OpenSpec.ofChange opGrowsSpec)

/-- ITS FALSE NEIGHBOUR: 'it returns false'. Refute it at one input. -/
def opGrowsWrong : ChangeSpec := { name := "opGrows", fn := fun _ => fun
  | [d] => { results := [.lit (.bool false)], args := [d] }
  | _ => none }
def OpGrowsWrongFalsely : Prop := opGrowsRow.holds Tryz.pinned (OpenSpec.ofChange opGrowsWrong)

/- THE SECOND FORM. 'bulk': how many values and letters a reading holds, each counted each time it is reached (what is shared counts as often as it is met; a slice's spare places count too). A statement '..UptoSaid' is the law's where the arguments, and the package variables that the reading takes, are together of bulk at most 1048576: NARROWER than '..Said'. Prove '..Said' where nothing that the law and all that it calls make is longer than what came in: it says more and counts as full. Else prove '..UptoSaid'. A law counts once. -/
mutual
def uptoBulk {H : Type} : DataW H → Nat
  | .lit (.string bytes) => bytes.length + 1
  | .lit _ => 1
  | .nil => 1
  | .ptr d => uptoBulk d + 1
  | .slice elems spare => uptoBulkAll elems + uptoBulkAll spare + 1
  | .agg parts => uptoBulkAll parts + 1
  | .iface _ d => uptoBulk d + 1
  | .map entries => uptoBulkEntries entries + 1
  | .held _ => 1
def uptoBulkAll {H : Type} : List (DataW H) → Nat
  | [] => 0
  | d :: r => uptoBulk d + uptoBulkAll r
def uptoBulkEntries {H : Type} : List (Lit × DataW H) → Nat
  | [] => 0
  | x :: r => uptoBulkEntry x + uptoBulkEntries r
def uptoBulkEntry {H : Type} : Lit × DataW H → Nat
  | (.string bytes, d) => bytes.length + uptoBulk d + 1
  | (_, d) => uptoBulk d + 1
 end
def uptoSmall : (H : Type) → List (DataW H) → Bool := fun _ ds => decide (uptoBulkAll ds ≤ 1048576)
def OpenSpec.upto (s : _root_.Go.ChangeSpec) : _root_.Go.OpenSpec := { _root_.Go.OpenSpec.ofChange s with cond := some uptoSmall }

/-- 'tributarylaw15.OpKinds', WHERE WHAT IT READS IS OF BULK AT MOST 1048576: true; the input reads as it did. -/
def opKindsUptoRow : OpenClaim := { program := "ytgeafpaognhokaagreat", sum := "76974f6c190b762c4fb2dd41e3c05965e74ce586e2a2cdcbacaf0d2d61a7903e", func := "tributary/tributarylaw15.OpKinds", spec := "opKinds", inPlace := ["internal/bytealg.IndexByteString", "internal/bytealg.abigen_runtime_cmpstring"], unfollowed := true, recurses := true, apart := false, narrowed := true }
def OpKindsUptoSaid : Prop := opKindsUptoRow.holds Tryz.pinned (OpenSpec.upto opKindsSpec)

/-- 'tributarylaw15.OpRight', WHERE WHAT IT READS IS OF BULK AT MOST 1048576: true; the input reads as it did. -/
def opRightUptoRow : OpenClaim := { program := "ytgeafpaognhokaagreat", sum := "76974f6c190b762c4fb2dd41e3c05965e74ce586e2a2cdcbacaf0d2d61a7903e", func := "tributary/tributarylaw15.OpRight", spec := "opRight", inPlace := ["internal/bytealg.IndexByteString", "internal/bytealg.abigen_runtime_cmpstring"], unfollowed := true, recurses := true, apart := false, narrowed := true }
def OpRightUptoSaid : Prop := opRightUptoRow.holds Tryz.pinned (OpenSpec.upto opRightSpec)

/-- 'tributarylaw15.OpApplies', WHERE WHAT IT READS IS OF BULK AT MOST 1048576: true; the input reads as it did. -/
def opAppliesUptoRow : OpenClaim := { program := "ytgeafpaognhokaagreat", sum := "76974f6c190b762c4fb2dd41e3c05965e74ce586e2a2cdcbacaf0d2d61a7903e", func := "tributary/tributarylaw15.OpApplies", spec := "opApplies", inPlace := ["internal/bytealg.IndexByteString", "internal/bytealg.abigen_runtime_cmpstring"], unfollowed := true, recurses := true, loops := true, apart := false, narrowed := true }
def OpAppliesUptoSaid : Prop := opAppliesUptoRow.holds Tryz.pinned (OpenSpec.upto opAppliesSpec)

/-- 'tributarylaw15.OpReads', WHERE WHAT IT READS IS OF BULK AT MOST 1048576: true; the input reads as it did. -/
def opReadsUptoRow : OpenClaim := { program := "ytgeafpaognhokaagreat", sum := "76974f6c190b762c4fb2dd41e3c05965e74ce586e2a2cdcbacaf0d2d61a7903e", func := "tributary/tributarylaw15.OpReads", spec := "opReads", inPlace := ["internal/bytealg.IndexByteString", "internal/bytealg.abigen_runtime_cmpstring"], unfollowed := true, recurses := true, loops := true, apart := false, narrowed := true }
def OpReadsUptoSaid : Prop := opReadsUptoRow.holds Tryz.pinned (OpenSpec.upto opReadsSpec)

/-- 'tributarylaw15.OpSame', WHERE WHAT IT READS IS OF BULK AT MOST 1048576: true; the input reads as it did. -/
def opSameUptoRow : OpenClaim := { program := "ytgeafpaognhokaagreat", sum := "76974f6c190b762c4fb2dd41e3c05965e74ce586e2a2cdcbacaf0d2d61a7903e", func := "tributary/tributarylaw15.OpSame", spec := "opSame", inPlace := ["internal/bytealg.IndexByteString", "internal/bytealg.abigen_runtime_cmpstring"], unfollowed := true, recurses := true, apart := false, narrowed := true }
def OpSameUptoSaid : Prop := opSameUptoRow.holds Tryz.pinned (OpenSpec.upto opSameSpec)

/-- 'tributarylaw15.OpApart', WHERE WHAT IT READS IS OF BULK AT MOST 1048576: true; the input reads as it did. -/
def opApartUptoRow : OpenClaim := { program := "ytgeafpaognhokaagreat", sum := "76974f6c190b762c4fb2dd41e3c05965e74ce586e2a2cdcbacaf0d2d61a7903e", func := "tributary/tributarylaw15.OpApart", spec := "opApart", inPlace := ["internal/bytealg.IndexByteString", "internal/bytealg.abigen_runtime_cmpstring"], unfollowed := true, recurses := true, loops := true, apart := false, narrowed := true }
def OpApartUptoSaid : Prop := opApartUptoRow.holds Tryz.pinned (OpenSpec.upto opApartSpec)

/-- 'tributarylaw15.OpSpec', WHERE WHAT IT READS IS OF BULK AT MOST 1048576: true; the input reads as it did. -/
def opSpecUptoRow : OpenClaim := { program := "ytgeafpaognhokaagreat", sum := "76974f6c190b762c4fb2dd41e3c05965e74ce586e2a2cdcbacaf0d2d61a7903e", func := "tributary/tributarylaw15.OpSpec", spec := "opSpec", inPlace := ["internal/bytealg.IndexByteString", "internal/bytealg.abigen_runtime_cmpstring"], unfollowed := true, recurses := true, apart := false, narrowed := true }
def OpSpecUptoSaid : Prop := opSpecUptoRow.holds Tryz.pinned (OpenSpec.upto opSpecSpec)

/-- 'tributarylaw15.OpMeets', WHERE WHAT IT READS IS OF BULK AT MOST 1048576: true; the input reads as it did. -/
def opMeetsUptoRow : OpenClaim := { program := "ytgeafpaognhokaagreat", sum := "76974f6c190b762c4fb2dd41e3c05965e74ce586e2a2cdcbacaf0d2d61a7903e", func := "tributary/tributarylaw15.OpMeets", spec := "opMeets", inPlace := ["internal/bytealg.IndexByteString", "internal/bytealg.abigen_runtime_cmpstring"], unfollowed := true, recurses := true, apart := false, narrowed := true }
def OpMeetsUptoSaid : Prop := opMeetsUptoRow.holds Tryz.pinned (OpenSpec.upto opMeetsSpec)

/-- 'tributarylaw15.OpGrows', WHERE WHAT IT READS IS OF BULK AT MOST 1048576: true; the input reads as it did. -/
def opGrowsUptoRow : OpenClaim := { program := "ytgeafpaognhokaagreat", sum := "76974f6c190b762c4fb2dd41e3c05965e74ce586e2a2cdcbacaf0d2d61a7903e", func := "tributary/tributarylaw15.OpGrows", spec := "opGrows", inPlace := ["internal/bytealg.IndexByteString", "internal/bytealg.abigen_runtime_cmpstring"], unfollowed := true, recurses := true, apart := false, narrowed := true }
def OpGrowsUptoSaid : Prop := opGrowsUptoRow.holds Tryz.pinned (OpenSpec.upto opGrowsSpec)

end Rows
end Go.Proofs.YtgeafpaognhokaaGreat
