/- The library's contract of slices.Sort at whole numbers, laid at this program: the table of numbers, and that each function is the one that the contract speaks of. -/
import Derived.Shelf.SlGeneric
import Derived.Shelf.SortG.Plain
import Derived.Shelf.SortG.SortNone
import Derived.Ground.SlgnProg
import Derived.Test.YtfkkjgebemnhnaaWords
namespace Go.Proofs.Ytfkkjgebemnhnaa
open Go.Shelf
namespace Sp
def sortI_ren : Go.Shelf.Ren := ⟨fun | 53 => 65 | 64 => 75 | 63 => 74 | 78 => 87 | 79 => 88 | 70 => 78 | 71 => 79 | 72 => 80 | 73 => 81 | 74 => 82 | 75 => 83 | 59 => 84 | 76 => 85 | 77 => 86 | 88 => 89 | 89 => 90 | 90 => 91 | 91 => 92 | 92 => 93 | 68 => 94 | 96 => 95 | n => n, fun | 22 => 69 | 23 => 2 | 3 => 3 | 51 => 96 | 0 => 0 | 67 => 109 | 69 => 111 | 4 => 4 | 61 => 101 | 60 => 100 | 44 => 106 | 5 => 5 | 9 => 9 | 75 => 112 | 79 => 116 | 83 => 119 | 84 => 120 | n => n, fun | n => n⟩
theorem sortI : Go.Proofs.SlLaysN.n53 Try.prog sortI_ren := {
  mixed := by kernel_rfl
  f53 := ⟨Try.f65.name, by decide, Try.func65.trans (congrArg some (by kernel_rfl))⟩
  f59 := ⟨Try.f84.name, by decide, Try.func84.trans (congrArg some (by kernel_rfl))⟩
  f63 := ⟨Try.f74.name, by decide, Try.func74.trans (congrArg some (by kernel_rfl))⟩
  f64 := Try.func75.trans (congrArg some (by kernel_rfl))
  f68 := ⟨Try.f94.name, by decide, Try.func94.trans (congrArg some (by kernel_rfl))⟩
  f70 := ⟨Try.f78.name, by decide, Try.func78.trans (congrArg some (by kernel_rfl))⟩
  f71 := ⟨Try.f79.name, by decide, Try.func79.trans (congrArg some (by kernel_rfl))⟩
  f72 := ⟨Try.f80.name, by decide, Try.func80.trans (congrArg some (by kernel_rfl))⟩
  f73 := ⟨Try.f81.name, by decide, Try.func81.trans (congrArg some (by kernel_rfl))⟩
  f74 := ⟨Try.f82.name, by decide, Try.func82.trans (congrArg some (by kernel_rfl))⟩
  f75 := ⟨Try.f83.name, by decide, Try.func83.trans (congrArg some (by kernel_rfl))⟩
  f76 := ⟨Try.f85.name, by decide, Try.func85.trans (congrArg some (by kernel_rfl))⟩
  f77 := ⟨Try.f86.name, by decide, Try.func86.trans (congrArg some (by kernel_rfl))⟩
  f78 := Try.func87.trans (congrArg some (by kernel_rfl))
  f79 := Try.func88.trans (congrArg some (by kernel_rfl))
  f88 := ⟨Try.f89.name, by decide, Try.func89.trans (congrArg some (by kernel_rfl))⟩
  f89 := Try.func90.trans (congrArg some (by kernel_rfl))
  f90 := Try.func91.trans (congrArg some (by kernel_rfl))
  f91 := ⟨Try.f92.name, by decide, Try.func92.trans (congrArg some (by kernel_rfl))⟩
  f92 := ⟨Try.f93.name, by decide, Try.func93.trans (congrArg some (by kernel_rfl))⟩
  f96 := ⟨Try.f95.name, by decide, Try.func95.trans (congrArg some (by kernel_rfl))⟩
  t0 := Try.underlying0
  a0 := Try.isAgg0
  z0 := Try.sizeOf0
  v0 := Try.zeroValue0
  t3 := Try.underlying3
  a3 := Try.isAgg3
  z3 := Try.sizeOf3
  v3 := Try.zeroValue3
  t4 := Try.underlying4
  a4 := Try.isAgg4
  z4 := Try.sizeOf4
  v4 := Try.zeroValue4
  t5 := Try.underlying5
  a5 := Try.isAgg5
  z5 := Try.sizeOf5
  v5 := Try.zeroValue5
  t9 := Try.underlying9
  a9 := Try.isAgg9
  z9 := Try.sizeOf9
  v9 := Try.zeroValue9
  t22 := Try.underlying69
  a22 := Try.isAgg69
  z22 := Try.sizeOf69
  v22 := Try.zeroValue69
  t23 := Try.underlying2
  a23 := Try.isAgg2
  z23 := Try.sizeOf2
  v23 := Try.zeroValue2
  t44 := Try.underlying106
  a44 := Try.isAgg106
  z44 := Try.sizeOf106
  v44 := Try.zeroValue106
  t51 := Try.underlying96
  a51 := Try.isAgg96
  z51 := Try.sizeOf96
  v51 := Try.zeroValue96
  t60 := Try.underlying100
  a60 := Try.isAgg100
  z60 := Try.sizeOf100
  v60 := Try.zeroValue100
  t61 := Try.underlying101
  a61 := Try.isAgg101
  z61 := Try.sizeOf101
  v61 := Try.zeroValue101
  t67 := Try.underlying109
  a67 := Try.isAgg109
  z67 := Try.sizeOf109
  v67 := Try.zeroValue109
  t69 := Try.underlying111
  a69 := Try.isAgg111
  z69 := Try.sizeOf111
  v69 := Try.zeroValue111
  t75 := Try.underlying112
  a75 := Try.isAgg112
  z75 := Try.sizeOf112
  v75 := Try.zeroValue112
  t79 := Try.underlying116
  a79 := Try.isAgg116
  z79 := Try.sizeOf116
  v79 := Try.zeroValue116
  t83 := Try.underlying119
  a83 := Try.isAgg119
  z83 := Try.sizeOf119
  v83 := Try.zeroValue119
  t84 := Try.underlying120
  a84 := Try.isAgg120
  z84 := Try.sizeOf120
  v84 := Try.zeroValue120 }
end Sp
end Go.Proofs.Ytfkkjgebemnhnaa
