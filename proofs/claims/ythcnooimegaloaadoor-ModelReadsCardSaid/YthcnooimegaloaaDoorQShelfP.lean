/- Texts of the ring, joined, what is used of them. No condition but those in the statements. -/
import Derived.Test.YthcnooimegaloaaDoorProg
import Derived.Shelf.Slices.Delete
namespace Go.Proofs
open Go.Shelf
def Tryd.layDel_ren : Go.Shelf.Ren := ⟨fun | 23 => 47 | n => n, fun | 22 => 66 | 3 => 3 | 4 => 4 | 0 => 0 | n => n, fun | n => n⟩
theorem Tryd.layDel : Go.Proofs.Lays2.n23 Tryd.prog Tryd.layDel_ren := {
  mixed := by kernel_rfl
  f23 := Tryd.func47.trans (congrArg some (by kernel_rfl))
  t0 := Tryd.underlying0
  a0 := Tryd.isAgg0
  z0 := Tryd.sizeOf0
  v0 := Tryd.zeroValue0
  t3 := Tryd.underlying3
  a3 := Tryd.isAgg3
  z3 := Tryd.sizeOf3
  v3 := Tryd.zeroValue3
  t4 := Tryd.underlying4
  a4 := Tryd.isAgg4
  z4 := Tryd.sizeOf4
  v4 := Tryd.zeroValue4
  t22 := Tryd.underlying66
  a22 := Tryd.isAgg66
  z22 := Tryd.sizeOf66
  v22 := Tryd.zeroValue66
  i3 := by kernel_rfl }
end Go.Proofs
