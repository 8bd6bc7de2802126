/-
  DERIVED. GIVEN WITH THE SEED: THE CARDS: each row of YtlchjoclipdgbaaGreatDoorRows.lean that lists a variable, with what it lists TIED to the program's text (the seventh form; the later family's looks); each row that meets fmt, with fmt's text TOLD by the authors' own Lean function (tested against real Go, not proved from fmt's source: count such statements apart). THE CARD IS WHAT COUNTS. Prove the row's statement (the work); the ties are given (YtlchjoclipdgbaaGreatDoorTie.lean); close each card by the builder's one call (the guide's Derived/Test/ToyasCard.lean, 'card_holds'). Laid BY PROGRAM, IN A SANDBOX (cutbox-door.mjs). By AI agents, Wed Nov 11 2026. No macro, syntax, notation, axiom, sorry.
-/
import Derived.Test.YtlchjoclipdgbaaGreatDoorRows
import GoSem.ClaimSeven
namespace Go.Proofs.YtlchjoclipdgbaaGreatDoor
namespace Rows

/-- THE TIED CARD OF 'corotop.TopCircle'. -/
def topCircleCard : Claim7 := { stood := { row := topCircleRow, standIns := [], harness := (true, "3ae80f4573165208b7470474d25eeb30e47319ad3129bfc3d45503a16f39199d"), looks := true }, kinds := [], alts := [], laidByText := true, laidKinds := [.data, .data, .data], laidTests := true, laidLooks := .later }
def TopCircleCardSaid : Prop := Claim7.holds Tryz.pinned (.plain (OpenSpec.ofChange topCircleSpec)) topCircleCard

/-- THE SECOND FORM's CARD OF 'corotop.TopCircle'. -/
def topCircleUptoCard : Claim7 := { stood := { row := topCircleUptoRow, standIns := [], harness := (true, "3ae80f4573165208b7470474d25eeb30e47319ad3129bfc3d45503a16f39199d"), looks := true }, kinds := [], alts := [], laidByText := true, laidKinds := [.data, .data, .data], laidTests := true, laidLooks := .later }
def TopCircleUptoCardSaid : Prop := Claim7.holds Tryz.pinned (.plain (OpenSpec.upto topCircleSpec)) topCircleUptoCard
end Rows
end Go.Proofs.YtlchjoclipdgbaaGreatDoor
