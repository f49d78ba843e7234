/- The library's contract of slices.Sort at whole numbers, laid at this program: the table of numbers, and that each function is the one that the contract speaks of. -/
import Derived.Shelf.SlGeneric
import Derived.Shelf.SortG.Plain
import Derived.Shelf.SortG.SortNone
import Derived.Ground.SlgnProg
import Derived.Test.YtbfcbfadfnaebaaWords
namespace Go.Proofs.Ytbfcbfadfnaebaa
open Go.Shelf
namespace Sp
def sortI_ren : Go.Shelf.Ren := ⟨fun | 53 => 84 | 64 => 95 | 63 => 94 | 78 => 108 | 79 => 109 | 70 => 99 | 71 => 100 | 72 => 101 | 73 => 102 | 74 => 103 | 75 => 104 | 59 => 105 | 76 => 106 | 77 => 107 | 88 => 118 | 89 => 119 | 90 => 120 | 91 => 121 | 92 => 122 | 68 => 93 | 96 => 126 | n => n, fun | 22 => 89 | 23 => 2 | 3 => 3 | 51 => 101 | 0 => 0 | 67 => 139 | 69 => 141 | 4 => 4 | 61 => 132 | 60 => 131 | 44 => 71 | 5 => 5 | 9 => 9 | 75 => 147 | 79 => 151 | 83 => 155 | 84 => 156 | n => n, fun | n => n⟩
theorem sortI : Go.Proofs.SlLaysN.n53 Try.prog sortI_ren := {
  mixed := by kernel_rfl
  f53 := ⟨Try.f84.name, by decide, Try.func84.trans (congrArg some (by kernel_rfl))⟩
  f59 := ⟨Try.f105.name, by decide, Try.func105.trans (congrArg some (by kernel_rfl))⟩
  f63 := ⟨Try.f94.name, by decide, Try.func94.trans (congrArg some (by kernel_rfl))⟩
  f64 := Try.func95.trans (congrArg some (by kernel_rfl))
  f68 := ⟨Try.f93.name, by decide, Try.func93.trans (congrArg some (by kernel_rfl))⟩
  f70 := ⟨Try.f99.name, by decide, Try.func99.trans (congrArg some (by kernel_rfl))⟩
  f71 := ⟨Try.f100.name, by decide, Try.func100.trans (congrArg some (by kernel_rfl))⟩
  f72 := ⟨Try.f101.name, by decide, Try.func101.trans (congrArg some (by kernel_rfl))⟩
  f73 := ⟨Try.f102.name, by decide, Try.func102.trans (congrArg some (by kernel_rfl))⟩
  f74 := ⟨Try.f103.name, by decide, Try.func103.trans (congrArg some (by kernel_rfl))⟩
  f75 := ⟨Try.f104.name, by decide, Try.func104.trans (congrArg some (by kernel_rfl))⟩
  f76 := ⟨Try.f106.name, by decide, Try.func106.trans (congrArg some (by kernel_rfl))⟩
  f77 := ⟨Try.f107.name, by decide, Try.func107.trans (congrArg some (by kernel_rfl))⟩
  f78 := Try.func108.trans (congrArg some (by kernel_rfl))
  f79 := Try.func109.trans (congrArg some (by kernel_rfl))
  f88 := ⟨Try.f118.name, by decide, Try.func118.trans (congrArg some (by kernel_rfl))⟩
  f89 := Try.func119.trans (congrArg some (by kernel_rfl))
  f90 := Try.func120.trans (congrArg some (by kernel_rfl))
  f91 := ⟨Try.f121.name, by decide, Try.func121.trans (congrArg some (by kernel_rfl))⟩
  f92 := ⟨Try.f122.name, by decide, Try.func122.trans (congrArg some (by kernel_rfl))⟩
  f96 := ⟨Try.f126.name, by decide, Try.func126.trans (congrArg some (by kernel_rfl))⟩
  t0 := Try.underlying0
  a0 := Try.isAgg0
  z0 := Try.sizeOf0
  v0 := Try.zeroValue0
  t3 := Try.underlying3
  a3 := Try.isAgg3
  z3 := Try.sizeOf3
  v3 := Try.zeroValue3
  t4 := Try.underlying4
  a4 := Try.isAgg4
  z4 := Try.sizeOf4
  v4 := Try.zeroValue4
  t5 := Try.underlying5
  a5 := Try.isAgg5
  z5 := Try.sizeOf5
  v5 := Try.zeroValue5
  t9 := Try.underlying9
  a9 := Try.isAgg9
  z9 := Try.sizeOf9
  v9 := Try.zeroValue9
  t22 := Try.underlying89
  a22 := Try.isAgg89
  z22 := Try.sizeOf89
  v22 := Try.zeroValue89
  t23 := Try.underlying2
  a23 := Try.isAgg2
  z23 := Try.sizeOf2
  v23 := Try.zeroValue2
  t44 := Try.underlying71
  a44 := Try.isAgg71
  z44 := Try.sizeOf71
  v44 := Try.zeroValue71
  t51 := Try.underlying101
  a51 := Try.isAgg101
  z51 := Try.sizeOf101
  v51 := Try.zeroValue101
  t60 := Try.underlying131
  a60 := Try.isAgg131
  z60 := Try.sizeOf131
  v60 := Try.zeroValue131
  t61 := Try.underlying132
  a61 := Try.isAgg132
  z61 := Try.sizeOf132
  v61 := Try.zeroValue132
  t67 := Try.underlying139
  a67 := Try.isAgg139
  z67 := Try.sizeOf139
  v67 := Try.zeroValue139
  t69 := Try.underlying141
  a69 := Try.isAgg141
  z69 := Try.sizeOf141
  v69 := Try.zeroValue141
  t75 := Try.underlying147
  a75 := Try.isAgg147
  z75 := Try.sizeOf147
  v75 := Try.zeroValue147
  t79 := Try.underlying151
  a79 := Try.isAgg151
  z79 := Try.sizeOf151
  v79 := Try.zeroValue151
  t83 := Try.underlying155
  a83 := Try.isAgg155
  z83 := Try.sizeOf155
  v83 := Try.zeroValue155
  t84 := Try.underlying156
  a84 := Try.isAgg156
  z84 := Try.sizeOf156
  v84 := Try.zeroValue156 }
end Sp
end Go.Proofs.Ytbfcbfadfnaebaa
