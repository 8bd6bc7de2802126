import Derived.Test.YtafmbokfkbccaaaGreatDoorJN43
import Derived.Test.YtafmbokfkbccaaaGreatDoorCards
import Derived.SevenTiedAt
namespace Go.Proofs.YtafmbokfkbccaaaGreatDoor
open Go.ChangeShapes Go.WideShapes
theorem FJ:mapsRowed Tryz.prog=true:=by kernel_rfl
theorem CZ:Tryz.prog.stopsHeard=true:=by kernel_rfl
theorem Je:Tryz.prog.mayEnter=true:=by kernel_rfl
theorem Qi:true=Tryz.prog.looks []:=by kernel_rfl
theorem NC:Tryz.prog.mainIs=some (true, "e76fd24520ba4795eb7a2cecdf2239fb7aed378c08519b991bb398be843b7320".toList):=by kernel_rfl
theorem lt_of_cell {w:World} {b o:Nat} {v:Value} (h:w.cell? ⟨b,o,none⟩=some v):b<w.heap.size:=by
 by_cases hb:b<w.heap.size
 ·exact hb
 ·exfalso
  simp[World.cell?,Array.getElem?_eq_none (Nat.le_of_not_lt hb)] at h
end Go.Proofs.YtafmbokfkbccaaaGreatDoor
