/- The contracts of the library on maps.Keys, laid over this program's maps of numbers and of nothing. -/
import Derived.Test.YtmhmkaginnddeaaSHG
import Derived.Shelf.SlIterI.Nil
namespace Go.Proofs.Ytmhmkaginnddeaa
set_option maxRecDepth 100000
open Go.RowKit Go.Shelf

def Try.keysIL_ren : Go.Shelf.Ren := ⟨fun | 7 => 36 | 10 => 48 | n => n, fun | 23 => 65 | 26 => 3 | 3 => 3 | 28 => 59 | 0 => 0 | 27 => 58 | 33 => 75 | 4 => 4 | n => n, fun | n => n⟩
theorem Try.keysIL : Go.Proofs.SlLaysZI.n7 Try.prog Try.keysIL_ren := {
  mixed := by kernel_rfl,
  f7 := ⟨Try.f36.name, by decide, Try.func36.trans (congrArg some (by kernel_rfl))⟩,
  f10 := ⟨Try.f48.name, by decide, Try.func48.trans (congrArg some (by kernel_rfl))⟩,
  t0 := Try.underlying0,
  a0 := Try.isAgg0,
  z0 := Try.sizeOf0,
  v0 := Try.zeroValue0,
  t4 := Try.underlying4,
  a4 := Try.isAgg4,
  z4 := Try.sizeOf4,
  v4 := Try.zeroValue4,
  t23 := Try.underlying65,
  a23 := Try.isAgg65,
  z23 := Try.sizeOf65,
  v23 := Try.zeroValue65,
  t26 := Try.underlying3,
  a26 := Try.isAgg3,
  z26 := Try.sizeOf3,
  v26 := Try.zeroValue3,
  t27 := Try.underlying58,
  a27 := Try.isAgg58,
  z27 := Try.sizeOf58,
  v27 := Try.zeroValue58,
  t28 := Try.underlying59,
  a28 := Try.isAgg59,
  z28 := Try.sizeOf59,
  v28 := Try.zeroValue59,
  t33 := Try.underlying75,
  a33 := Try.isAgg75,
  z33 := Try.sizeOf75,
  v33 := Try.zeroValue75 }
def Try.keysUL_ren : Go.Shelf.Ren := ⟨fun | 7 => 35 | 10 => 47 | n => n, fun | 23 => 57 | 26 => 3 | 3 => 61 | 28 => 59 | 0 => 0 | 27 => 58 | 33 => 75 | 4 => 4 | n => n, fun | n => n⟩
theorem Try.keysUL : Go.Proofs.SlLaysZI.n7 Try.prog Try.keysUL_ren := {
  mixed := by kernel_rfl,
  f7 := ⟨Try.f35.name, by decide, Try.func35.trans (congrArg some (by kernel_rfl))⟩,
  f10 := ⟨Try.f47.name, by decide, Try.func47.trans (congrArg some (by kernel_rfl))⟩,
  t0 := Try.underlying0,
  a0 := Try.isAgg0,
  z0 := Try.sizeOf0,
  v0 := Try.zeroValue0,
  t4 := Try.underlying4,
  a4 := Try.isAgg4,
  z4 := Try.sizeOf4,
  v4 := Try.zeroValue4,
  t23 := Try.underlying57,
  a23 := Try.isAgg57,
  z23 := Try.sizeOf57,
  v23 := Try.zeroValue57,
  t26 := Try.underlying3,
  a26 := Try.isAgg3,
  z26 := Try.sizeOf3,
  v26 := Try.zeroValue3,
  t27 := Try.underlying58,
  a27 := Try.isAgg58,
  z27 := Try.sizeOf58,
  v27 := Try.zeroValue58,
  t28 := Try.underlying59,
  a28 := Try.isAgg59,
  z28 := Try.sizeOf59,
  v28 := Try.zeroValue59,
  t33 := Try.underlying75,
  a33 := Try.isAgg75,
  z33 := Try.sizeOf75,
  v33 := Try.zeroValue75 }
end Go.Proofs.Ytmhmkaginnddeaa
