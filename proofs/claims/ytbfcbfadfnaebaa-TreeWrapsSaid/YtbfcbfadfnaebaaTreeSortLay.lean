/- The library's contract of slices.Sort at texts, laid at this program: the table of numbers, and that each function is the one that the contract speaks of. -/
import Derived.Shelf.SlGeneric
import Derived.Shelf.SortG.Plain
import Derived.Shelf.SortG.SortNone
import Derived.Ground.SlgnProg
import Derived.Test.YtbfcbfadfnaebaaWords
namespace Go.Proofs.Ytbfcbfadfnaebaa
open Go.Shelf
namespace Tr
def sortS_lay_ren : Go.Shelf.Ren := ⟨fun | 54 => 88 | 64 => 95 | 65 => 97 | 78 => 108 | 79 => 109 | 80 => 110 | 81 => 111 | 82 => 112 | 83 => 113 | 84 => 114 | 85 => 115 | 61 => 90 | 86 => 116 | 87 => 117 | 93 => 123 | 89 => 119 | 90 => 120 | 94 => 124 | 95 => 125 | 69 => 98 | 97 => 127 | n => n, fun | 25 => 39 | 26 => 9 | 3 => 3 | 51 => 101 | 0 => 0 | 67 => 139 | 69 => 141 | 4 => 4 | 61 => 132 | 60 => 131 | 44 => 71 | 5 => 5 | 9 => 9 | 75 => 147 | 79 => 151 | 83 => 155 | 84 => 156 | n => n, fun | n => n⟩
theorem sortS_lay : Go.Proofs.SlLaysN.n54 Try.prog sortS_lay_ren := {
  mixed := by kernel_rfl
  f54 := ⟨Try.f88.name, by decide, Try.func88.trans (congrArg some (by kernel_rfl))⟩
  f61 := ⟨Try.f90.name, by decide, Try.func90.trans (congrArg some (by kernel_rfl))⟩
  f64 := Try.func95.trans (congrArg some (by kernel_rfl))
  f65 := ⟨Try.f97.name, by decide, Try.func97.trans (congrArg some (by kernel_rfl))⟩
  f69 := ⟨Try.f98.name, by decide, Try.func98.trans (congrArg some (by kernel_rfl))⟩
  f78 := Try.func108.trans (congrArg some (by kernel_rfl))
  f79 := Try.func109.trans (congrArg some (by kernel_rfl))
  f80 := ⟨Try.f110.name, by decide, Try.func110.trans (congrArg some (by kernel_rfl))⟩
  f81 := ⟨Try.f111.name, by decide, Try.func111.trans (congrArg some (by kernel_rfl))⟩
  f82 := ⟨Try.f112.name, by decide, Try.func112.trans (congrArg some (by kernel_rfl))⟩
  f83 := ⟨Try.f113.name, by decide, Try.func113.trans (congrArg some (by kernel_rfl))⟩
  f84 := ⟨Try.f114.name, by decide, Try.func114.trans (congrArg some (by kernel_rfl))⟩
  f85 := ⟨Try.f115.name, by decide, Try.func115.trans (congrArg some (by kernel_rfl))⟩
  f86 := ⟨Try.f116.name, by decide, Try.func116.trans (congrArg some (by kernel_rfl))⟩
  f87 := ⟨Try.f117.name, by decide, Try.func117.trans (congrArg some (by kernel_rfl))⟩
  f89 := Try.func119.trans (congrArg some (by kernel_rfl))
  f90 := Try.func120.trans (congrArg some (by kernel_rfl))
  f93 := ⟨Try.f123.name, by decide, Try.func123.trans (congrArg some (by kernel_rfl))⟩
  f94 := ⟨Try.f124.name, by decide, Try.func124.trans (congrArg some (by kernel_rfl))⟩
  f95 := ⟨Try.f125.name, by decide, Try.func125.trans (congrArg some (by kernel_rfl))⟩
  f97 := ⟨Try.f127.name, by decide, Try.func127.trans (congrArg some (by kernel_rfl))⟩
  t0 := Try.underlying0
  a0 := Try.isAgg0
  z0 := Try.sizeOf0
  v0 := Try.zeroValue0
  t3 := Try.underlying3
  a3 := Try.isAgg3
  z3 := Try.sizeOf3
  v3 := Try.zeroValue3
  t4 := Try.underlying4
  a4 := Try.isAgg4
  z4 := Try.sizeOf4
  v4 := Try.zeroValue4
  t5 := Try.underlying5
  a5 := Try.isAgg5
  z5 := Try.sizeOf5
  v5 := Try.zeroValue5
  t9 := Try.underlying9
  a9 := Try.isAgg9
  z9 := Try.sizeOf9
  v9 := Try.zeroValue9
  t25 := Try.underlying39
  a25 := Try.isAgg39
  z25 := Try.sizeOf39
  v25 := Try.zeroValue39
  t26 := Try.underlying9
  a26 := Try.isAgg9
  z26 := Try.sizeOf9
  v26 := Try.zeroValue9
  t44 := Try.underlying71
  a44 := Try.isAgg71
  z44 := Try.sizeOf71
  v44 := Try.zeroValue71
  t51 := Try.underlying101
  a51 := Try.isAgg101
  z51 := Try.sizeOf101
  v51 := Try.zeroValue101
  t60 := Try.underlying131
  a60 := Try.isAgg131
  z60 := Try.sizeOf131
  v60 := Try.zeroValue131
  t61 := Try.underlying132
  a61 := Try.isAgg132
  z61 := Try.sizeOf132
  v61 := Try.zeroValue132
  t67 := Try.underlying139
  a67 := Try.isAgg139
  z67 := Try.sizeOf139
  v67 := Try.zeroValue139
  t69 := Try.underlying141
  a69 := Try.isAgg141
  z69 := Try.sizeOf141
  v69 := Try.zeroValue141
  t75 := Try.underlying147
  a75 := Try.isAgg147
  z75 := Try.sizeOf147
  v75 := Try.zeroValue147
  t79 := Try.underlying151
  a79 := Try.isAgg151
  z79 := Try.sizeOf151
  v79 := Try.zeroValue151
  t83 := Try.underlying155
  a83 := Try.isAgg155
  z83 := Try.sizeOf155
  v83 := Try.zeroValue155
  t84 := Try.underlying156
  a84 := Try.isAgg156
  z84 := Try.sizeOf156
  v84 := Try.zeroValue156 }
end Tr
end Go.Proofs.Ytbfcbfadfnaebaa
