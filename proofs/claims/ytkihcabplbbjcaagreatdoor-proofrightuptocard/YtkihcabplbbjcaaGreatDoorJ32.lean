/- Texts of this claim, one behind the other. -/
import Derived.Shelf.LaysM
import Derived.Test.YtkihcabplbbjcaaGreatDoorProg
import Derived.Test.YtkihcabplbbjcaaGreatDoorJ7
import Derived.Test.YtkihcabplbbjcaaGreatDoorRows
import Derived.HandedShaped
import Derived.LaidHandle
import Derived.LaidLaws
import Derived.LaidMore
import Derived.Test.YtkihcabplbbjcaaGreatDoorJ12
import Derived.Test.YtkihcabplbbjcaaGreatDoorJ14
/-
  DERIVED: THE SHELF's CONTRACTS AT THIS DUMP, IN PLAIN WORDS (tools/lay-plain.mjs out of 'TryzShpLay.lean', which tools/lay-shelf.mjs wrote): THE SAME DECLARATIONS UNDER THE SAME NAMES: 'import', 'namespace', 'open', 'def', 'theorem' AND NOTHING ELSE: no command of the shelf's: FOR A HAND-IN. Each laying: the table of numbers ('.._ren') and one theorem, a field a fact of the dump's own or the kernel's comparison; each contract: ONE APPLICATION.
-/
namespace Go.Proofs
open Go.Shelf
def Tryz.laysM145_ren : Go.Shelf.Ren := ⟨fun | 145 => 172 | 220 => 190 | 219 => 205 | 217 => 223 | 225 => 224 | 224 => 225 | 267 => 226 | 266 => 252 | 314 => 253 | n => n, fun | 9 => 9 | 4 => 4 | 59 => 232 | 3 => 3 | 5 => 5 | 46 => 169 | 146 => 297 | 51 => 275 | n => n, fun | 1 => 0 | n => n⟩
theorem Tryz.laysM145 : Go.Proofs.LaysM.n145 Tryz.prog Tryz.laysM145_ren := {
  mixed := by kernel_rfl
  f145 := Tryz.func172.trans (congrArg some (by kernel_rfl))
  f217 := Tryz.func223.trans (congrArg some (by kernel_rfl))
  f219 := Tryz.func205.trans (congrArg some (by kernel_rfl))
  f220 := Tryz.func190.trans (congrArg some (by kernel_rfl))
  f224 := Tryz.func225.trans (congrArg some (by kernel_rfl))
  f225 := Tryz.func224.trans (congrArg some (by kernel_rfl))
  f266 := Tryz.func252.trans (congrArg some (by kernel_rfl))
  f267 := Tryz.func226.trans (congrArg some (by kernel_rfl))
  f314 := Tryz.func253.trans (congrArg some (by kernel_rfl))
  t3 := Tryz.underlying3
  a3 := Tryz.isAgg3
  z3 := Tryz.sizeOf3
  v3 := Tryz.zeroValue3
  t4 := Tryz.underlying4
  a4 := Tryz.isAgg4
  z4 := Tryz.sizeOf4
  v4 := Tryz.zeroValue4
  t5 := Tryz.underlying5
  a5 := Tryz.isAgg5
  z5 := Tryz.sizeOf5
  v5 := Tryz.zeroValue5
  t9 := Tryz.underlying9
  a9 := Tryz.isAgg9
  z9 := Tryz.sizeOf9
  v9 := Tryz.zeroValue9
  t46 := Tryz.underlying169
  a46 := Tryz.isAgg169
  z46 := Tryz.sizeOf169
  v46 := Tryz.zeroValue169
  t51 := Tryz.underlying275
  a51 := Tryz.isAgg275
  z51 := Tryz.sizeOf275
  v51 := Tryz.zeroValue275
  t59 := Tryz.underlying232
  a59 := Tryz.isAgg232
  z59 := Tryz.sizeOf232
  v59 := Tryz.zeroValue232
  t146 := Tryz.underlying297
  a146 := Tryz.isAgg297
  z146 := Tryz.sizeOf297
  v146 := Tryz.zeroValue297
  g1 := by kernel_rfl
  i3 := by kernel_rfl
  i4 := by kernel_rfl
  i5 := by kernel_rfl
  i9 := by kernel_rfl
  i46 := by kernel_rfl
  i51 := by kernel_rfl
  i59 := by kernel_rfl
  i146 := by kernel_rfl
  m1 := by kernel_rfl
  s1_3 := fun w h => Go.Proofs.cell_of_shapedOpen_int (zero := #[.int .i64 0]) (t := 3) h (of_decide_eq_true (by kernel_rfl)) (by kernel_rfl) rfl (by kernel_rfl) (by kernel_rfl) Tryz.underlying3 }
end Go.Proofs

/- The wrap of a row that lists variables, the start's shape kept; and the variables that the rows of chapter 5 list. -/
namespace Go.Proofs.YtkihcabplbbjcaaGreatDoor
open Go.ChangeShapes Go.WideShapes Go.ChangeAt Go.RowKit

/-- The start's shape makes MaxLen an int. -/
theorem maxLenN (w : World) (h : w.ShapedOpen Tryz.prog) : ∃ m, w.cell? ⟨0, 0, none⟩ = some (.int .i64 m) := Tryz.laysM145.s1_3 w h

def laid5 : List (String × DataW Unit) := [("math/bits.deBruijn32tab", Rows.laid_math_bits_deBruijn32tab), ("math/bits.deBruijn64tab", Rows.laid_math_bits_deBruijn64tab), ("internal/strconv.uint64pow10", Rows.laid_internal_strconv_uint64pow10)]

end Go.Proofs.YtkihcabplbbjcaaGreatDoor

/- The document's answer: the walk of ref.Same, where the two lists hold the same. -/
namespace Go.Proofs.YtkihcabplbbjcaaGreatDoor
open Go.RowKit Go.Sort

end Go.Proofs.YtkihcabplbbjcaaGreatDoor

/- The document's answer: the walks of ref.Small, Sign, Word, Named, Wrong. -/
namespace Go.Proofs.YtkihcabplbbjcaaGreatDoor
open Go.RowKit Go.Sort

theorem bytesOf (s : ByteArray) (w : World) : ∃ cp arr fr, (convert 9 183 (.string s)).run Tryz.prog w = .ok (.slice (some ⟨w.heap.size, 0, none⟩) s.size cp) (w.drew.alloc (.cells arr 5 fr)) ∧
    ∀ (j : Nat) (h : j < s.size), (w.drew.alloc (.cells arr 5 fr)).cell? ⟨w.heap.size, j, none⟩ = some (.int .u8 (s[j].toNat : Int)) := by
  refine ⟨_, _, _, run_bytes_of_string (P := Tryz.prog) w 9 183 5 s Tryz.underlying9 Tryz.underlying183 Tryz.underlying5, fun j h => ?_⟩
  rw [show w.heap.size = w.drew.heap.size from rfl, World.cell?_alloc_mark]
  rw [bytesRow_at s _ j h]
  rfl

/-- Signs alone, not too many. -/
def wordB (s : ByteArray) : Bool := restB s 0 && decide (0 < s.size ∧ s.size ≤ 12)

/-- Texts as long as Go's may be. -/
def okF (f : FactD) : Prop := f.1.size ≤ 9223372036854775807 ∧ ∀ s ∈ f.2, s.size ≤ 9223372036854775807

end Go.Proofs.YtkihcabplbbjcaaGreatDoor
