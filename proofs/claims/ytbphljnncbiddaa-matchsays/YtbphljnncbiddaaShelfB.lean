/-
  Contracts of the library at this program, laid by program.
-/
import Derived.Shelf.SlGeneric
import Derived.Shelf.SlSorted.Search
import Derived.Shelf.SlicesQ.Equal
import Derived.Shelf.Spec.SlicesGrow
import Derived.Ground.SlsoProg
import Derived.Ground.SlgqProg
import Derived.Ground.Names8Prog
import Derived.Test.YtbphljnncbiddaaProg
namespace Go.Proofs
open Go.Shelf
def Try.searchB_ren : Go.Shelf.Ren := ⟨fun | 16 => 102 | n => n, fun | 3 => 3 | 35 => 32 | 4 => 4 | 38 => 128 | n => n, fun | n => n⟩
theorem Try.searchB : Go.Proofs.SlLaysO.n16 Try.prog Try.searchB_ren := {
  mixed := by kernel_rfl
  f16 := Try.func102.trans (congrArg some (by kernel_rfl))
  t3 := Try.underlying3
  a3 := Try.isAgg3
  z3 := Try.sizeOf3
  v3 := Try.zeroValue3
  t4 := Try.underlying4
  a4 := Try.isAgg4
  z4 := Try.sizeOf4
  v4 := Try.zeroValue4
  t35 := Try.underlying32
  a35 := Try.isAgg32
  z35 := Try.sizeOf32
  v35 := Try.zeroValue32
  t38 := Try.underlying128
  a38 := Try.isAgg128
  z38 := Try.sizeOf128
  v38 := Try.zeroValue128 }
def Try.equalB_ren : Go.Shelf.Ren := ⟨fun | 8 => 84 | n => n, fun | 22 => 40 | 24 => 44 | 4 => 4 | 3 => 3 | 0 => 0 | n => n, fun | n => n⟩
theorem Try.equalB : Go.Proofs.SlLaysQ.n8 Try.prog Try.equalB_ren := {
  mixed := by kernel_rfl
  f8 := ⟨Try.f84.name, by decide, Try.func84.trans (congrArg some (by kernel_rfl))⟩
  t0 := Try.underlying0
  a0 := Try.isAgg0
  z0 := Try.sizeOf0
  v0 := Try.zeroValue0
  t3 := Try.underlying3
  a3 := Try.isAgg3
  z3 := Try.sizeOf3
  v3 := Try.zeroValue3
  t4 := Try.underlying4
  a4 := Try.isAgg4
  z4 := Try.sizeOf4
  v4 := Try.zeroValue4
  t22 := Try.underlying40
  a22 := Try.isAgg40
  z22 := Try.sizeOf40
  v22 := Try.zeroValue40 }
def Try.growB_ren : Go.Shelf.Ren := ⟨fun | 4 => 88 | n => n, fun | 22 => 40 | 25 => 44 | 3 => 3 | 4 => 4 | 9 => 9 | 20 => 20 | 0 => 0 | n => n, fun | n => n⟩
theorem Try.growB : Go.Proofs.Lays8.n4 Try.prog Try.growB_ren := {
  mixed := by kernel_rfl
  f4 := ⟨Try.f88.name, by decide, Try.func88.trans (congrArg some (by kernel_rfl))⟩
  t0 := Try.underlying0
  a0 := Try.isAgg0
  z0 := Try.sizeOf0
  v0 := Try.zeroValue0
  t3 := Try.underlying3
  a3 := Try.isAgg3
  z3 := Try.sizeOf3
  v3 := Try.zeroValue3
  t4 := Try.underlying4
  a4 := Try.isAgg4
  z4 := Try.sizeOf4
  v4 := Try.zeroValue4
  t9 := Try.underlying9
  a9 := Try.isAgg9
  z9 := Try.sizeOf9
  v9 := Try.zeroValue9
  t20 := Try.underlying20
  a20 := Try.isAgg20
  z20 := Try.sizeOf20
  v20 := Try.zeroValue20
  t22 := Try.underlying40
  a22 := Try.isAgg40
  z22 := Try.sizeOf40
  v22 := Try.zeroValue40 }
end Go.Proofs
