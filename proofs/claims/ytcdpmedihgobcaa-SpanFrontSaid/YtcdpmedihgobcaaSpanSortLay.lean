/- The library's contract of slices.Sort at whole numbers, laid at this program: the table of numbers, and that each function is the one that the contract speaks of. -/
import Derived.Shelf.SlGeneric
import Derived.Shelf.SortG.Plain
import Derived.Shelf.SortG.SortNone
import Derived.Ground.SlgnProg
import Derived.Test.YtcdpmedihgobcaaWords
namespace Go.Proofs.Ytcdpmedihgobcaa
open Go.Shelf
namespace Sp
def sortI_ren : Go.Shelf.Ren := ⟨fun | 53 => 32 | 64 => 43 | 63 => 42 | 78 => 55 | 79 => 56 | 70 => 46 | 71 => 47 | 72 => 48 | 73 => 49 | 74 => 50 | 75 => 51 | 59 => 52 | 76 => 53 | 77 => 54 | 88 => 57 | 89 => 58 | 90 => 59 | 91 => 60 | 92 => 61 | 68 => 62 | 96 => 63 | n => n, fun | 22 => 30 | 23 => 2 | 3 => 3 | 51 => 62 | 0 => 0 | 67 => 75 | 69 => 77 | 4 => 4 | 61 => 67 | 60 => 66 | 44 => 72 | 5 => 5 | 9 => 9 | 75 => 78 | 79 => 82 | 83 => 85 | 84 => 86 | n => n, fun | n => n⟩
theorem sortI : Go.Proofs.SlLaysN.n53 Try.prog sortI_ren := {
  mixed := by kernel_rfl
  f53 := ⟨Try.f32.name, by decide, Try.func32.trans (congrArg some (by kernel_rfl))⟩
  f59 := ⟨Try.f52.name, by decide, Try.func52.trans (congrArg some (by kernel_rfl))⟩
  f63 := ⟨Try.f42.name, by decide, Try.func42.trans (congrArg some (by kernel_rfl))⟩
  f64 := Try.func43.trans (congrArg some (by kernel_rfl))
  f68 := ⟨Try.f62.name, by decide, Try.func62.trans (congrArg some (by kernel_rfl))⟩
  f70 := ⟨Try.f46.name, by decide, Try.func46.trans (congrArg some (by kernel_rfl))⟩
  f71 := ⟨Try.f47.name, by decide, Try.func47.trans (congrArg some (by kernel_rfl))⟩
  f72 := ⟨Try.f48.name, by decide, Try.func48.trans (congrArg some (by kernel_rfl))⟩
  f73 := ⟨Try.f49.name, by decide, Try.func49.trans (congrArg some (by kernel_rfl))⟩
  f74 := ⟨Try.f50.name, by decide, Try.func50.trans (congrArg some (by kernel_rfl))⟩
  f75 := ⟨Try.f51.name, by decide, Try.func51.trans (congrArg some (by kernel_rfl))⟩
  f76 := ⟨Try.f53.name, by decide, Try.func53.trans (congrArg some (by kernel_rfl))⟩
  f77 := ⟨Try.f54.name, by decide, Try.func54.trans (congrArg some (by kernel_rfl))⟩
  f78 := Try.func55.trans (congrArg some (by kernel_rfl))
  f79 := Try.func56.trans (congrArg some (by kernel_rfl))
  f88 := ⟨Try.f57.name, by decide, Try.func57.trans (congrArg some (by kernel_rfl))⟩
  f89 := Try.func58.trans (congrArg some (by kernel_rfl))
  f90 := Try.func59.trans (congrArg some (by kernel_rfl))
  f91 := ⟨Try.f60.name, by decide, Try.func60.trans (congrArg some (by kernel_rfl))⟩
  f92 := ⟨Try.f61.name, by decide, Try.func61.trans (congrArg some (by kernel_rfl))⟩
  f96 := ⟨Try.f63.name, by decide, Try.func63.trans (congrArg some (by kernel_rfl))⟩
  t0 := Try.underlying0
  a0 := Try.isAgg0
  z0 := Try.sizeOf0
  v0 := Try.zeroValue0
  t3 := Try.underlying3
  a3 := Try.isAgg3
  z3 := Try.sizeOf3
  v3 := Try.zeroValue3
  t4 := Try.underlying4
  a4 := Try.isAgg4
  z4 := Try.sizeOf4
  v4 := Try.zeroValue4
  t5 := Try.underlying5
  a5 := Try.isAgg5
  z5 := Try.sizeOf5
  v5 := Try.zeroValue5
  t9 := Try.underlying9
  a9 := Try.isAgg9
  z9 := Try.sizeOf9
  v9 := Try.zeroValue9
  t22 := Try.underlying30
  a22 := Try.isAgg30
  z22 := Try.sizeOf30
  v22 := Try.zeroValue30
  t23 := Try.underlying2
  a23 := Try.isAgg2
  z23 := Try.sizeOf2
  v23 := Try.zeroValue2
  t44 := Try.underlying72
  a44 := Try.isAgg72
  z44 := Try.sizeOf72
  v44 := Try.zeroValue72
  t51 := Try.underlying62
  a51 := Try.isAgg62
  z51 := Try.sizeOf62
  v51 := Try.zeroValue62
  t60 := Try.underlying66
  a60 := Try.isAgg66
  z60 := Try.sizeOf66
  v60 := Try.zeroValue66
  t61 := Try.underlying67
  a61 := Try.isAgg67
  z61 := Try.sizeOf67
  v61 := Try.zeroValue67
  t67 := Try.underlying75
  a67 := Try.isAgg75
  z67 := Try.sizeOf75
  v67 := Try.zeroValue75
  t69 := Try.underlying77
  a69 := Try.isAgg77
  z69 := Try.sizeOf77
  v69 := Try.zeroValue77
  t75 := Try.underlying78
  a75 := Try.isAgg78
  z75 := Try.sizeOf78
  v75 := Try.zeroValue78
  t79 := Try.underlying82
  a79 := Try.isAgg82
  z79 := Try.sizeOf82
  v79 := Try.zeroValue82
  t83 := Try.underlying85
  a83 := Try.isAgg85
  z83 := Try.sizeOf85
  v83 := Try.zeroValue85
  t84 := Try.underlying86
  a84 := Try.isAgg86
  z84 := Try.sizeOf86
  v84 := Try.zeroValue86 }
end Sp
end Go.Proofs.Ytcdpmedihgobcaa
