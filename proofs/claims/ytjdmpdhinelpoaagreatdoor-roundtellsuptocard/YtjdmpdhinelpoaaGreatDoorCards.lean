/-
  DERIVED. GIVEN WITH THE SEED: THE CARDS: each row of YtjdmpdhinelpoaaGreatDoorRows.lean that lists a variable, with what it lists TIED to the program's text (the seventh form; the later family's looks); each row that meets fmt, with fmt's text TOLD by the authors' own Lean function (tested against real Go, not proved from fmt's source: count such statements apart). THE CARD IS WHAT COUNTS. Prove the row's statement (the work); the ties are given (YtjdmpdhinelpoaaGreatDoorTie.lean); close each card by the builder's one call (the guide's Derived/Test/ToyasCard.lean, 'card_holds'). Laid BY PROGRAM, IN A SANDBOX (cutbox-door.mjs). By AI agents, Wed Nov 11 2026. No macro, syntax, notation, axiom, sorry.
-/
import Derived.Test.YtjdmpdhinelpoaaGreatDoorRows
import GoSem.ClaimSeven
namespace Go.Proofs.YtjdmpdhinelpoaaGreatDoor
namespace Rows

/-- THE TIED CARD OF 'corolaw6.RoundTells'. -/
def roundTellsCard : Claim7 := { stood := { row := roundTellsRow, standIns := [], harness := (true, "33f14888120df7d06d50795aae0cab8ff5e5f15b3d872a00deefbcf3e6f3b2da"), looks := true }, kinds := [], alts := [], laidByText := true, laidKinds := [.data, .data, .data], laidTests := true, laidLooks := .later }
def RoundTellsCardSaid : Prop := Claim7.holds Tryz.pinned (.plain (OpenSpec.ofChange roundTellsSpec)) roundTellsCard

/-- THE TIED CARD OF 'corolaw6.RoundSame'. -/
def roundSameCard : Claim7 := { stood := { row := roundSameRow, standIns := [], harness := (true, "33f14888120df7d06d50795aae0cab8ff5e5f15b3d872a00deefbcf3e6f3b2da"), looks := true }, kinds := [], alts := [], laidByText := true, laidKinds := [.data, .data, .data], laidTests := true, laidLooks := .later }
def RoundSameCardSaid : Prop := Claim7.holds Tryz.pinned (.plain (OpenSpec.ofChange roundSameSpec)) roundSameCard

/-- THE TIED CARD OF 'corolaw6.RoundParts'. -/
def roundPartsCard : Claim7 := { stood := { row := roundPartsRow, standIns := [], harness := (true, "33f14888120df7d06d50795aae0cab8ff5e5f15b3d872a00deefbcf3e6f3b2da"), looks := true }, kinds := [], alts := [], laidByText := true, laidKinds := [.data, .data, .data], laidTests := true, laidLooks := .later }
def RoundPartsCardSaid : Prop := Claim7.holds Tryz.pinned (.plain (OpenSpec.ofChange roundPartsSpec)) roundPartsCard

/-- THE TIED CARD OF 'corolaw6.RoundRight'. -/
def roundRightCard : Claim7 := { stood := { row := roundRightRow, standIns := [], harness := (true, "33f14888120df7d06d50795aae0cab8ff5e5f15b3d872a00deefbcf3e6f3b2da"), looks := true }, kinds := [], alts := [], laidByText := true, laidKinds := [.data, .data, .data], laidTests := true, laidLooks := .later }
def RoundRightCardSaid : Prop := Claim7.holds Tryz.pinned (.plain (OpenSpec.ofChange roundRightSpec)) roundRightCard

/-- THE TIED CARD OF 'corolaw6.RoundTold'. -/
def roundToldCard : Claim7 := { stood := { row := roundToldRow, standIns := [], harness := (true, "33f14888120df7d06d50795aae0cab8ff5e5f15b3d872a00deefbcf3e6f3b2da"), looks := true }, kinds := [], alts := [], laidByText := true, laidKinds := [.data, .data, .data], laidTests := true, laidLooks := .later }
def RoundToldCardSaid : Prop := Claim7.holds Tryz.pinned (.plain (OpenSpec.ofChange roundToldSpec)) roundToldCard

/-- THE SECOND FORM's CARD OF 'corolaw6.RoundTells'. -/
def roundTellsUptoCard : Claim7 := { stood := { row := roundTellsUptoRow, standIns := [], harness := (true, "33f14888120df7d06d50795aae0cab8ff5e5f15b3d872a00deefbcf3e6f3b2da"), looks := true }, kinds := [], alts := [], laidByText := true, laidKinds := [.data, .data, .data], laidTests := true, laidLooks := .later }
def RoundTellsUptoCardSaid : Prop := Claim7.holds Tryz.pinned (.plain (OpenSpec.upto roundTellsSpec)) roundTellsUptoCard

/-- THE SECOND FORM's CARD OF 'corolaw6.RoundSame'. -/
def roundSameUptoCard : Claim7 := { stood := { row := roundSameUptoRow, standIns := [], harness := (true, "33f14888120df7d06d50795aae0cab8ff5e5f15b3d872a00deefbcf3e6f3b2da"), looks := true }, kinds := [], alts := [], laidByText := true, laidKinds := [.data, .data, .data], laidTests := true, laidLooks := .later }
def RoundSameUptoCardSaid : Prop := Claim7.holds Tryz.pinned (.plain (OpenSpec.upto roundSameSpec)) roundSameUptoCard

/-- THE SECOND FORM's CARD OF 'corolaw6.RoundParts'. -/
def roundPartsUptoCard : Claim7 := { stood := { row := roundPartsUptoRow, standIns := [], harness := (true, "33f14888120df7d06d50795aae0cab8ff5e5f15b3d872a00deefbcf3e6f3b2da"), looks := true }, kinds := [], alts := [], laidByText := true, laidKinds := [.data, .data, .data], laidTests := true, laidLooks := .later }
def RoundPartsUptoCardSaid : Prop := Claim7.holds Tryz.pinned (.plain (OpenSpec.upto roundPartsSpec)) roundPartsUptoCard

/-- THE SECOND FORM's CARD OF 'corolaw6.RoundRight'. -/
def roundRightUptoCard : Claim7 := { stood := { row := roundRightUptoRow, standIns := [], harness := (true, "33f14888120df7d06d50795aae0cab8ff5e5f15b3d872a00deefbcf3e6f3b2da"), looks := true }, kinds := [], alts := [], laidByText := true, laidKinds := [.data, .data, .data], laidTests := true, laidLooks := .later }
def RoundRightUptoCardSaid : Prop := Claim7.holds Tryz.pinned (.plain (OpenSpec.upto roundRightSpec)) roundRightUptoCard

/-- THE SECOND FORM's CARD OF 'corolaw6.RoundTold'. -/
def roundToldUptoCard : Claim7 := { stood := { row := roundToldUptoRow, standIns := [], harness := (true, "33f14888120df7d06d50795aae0cab8ff5e5f15b3d872a00deefbcf3e6f3b2da"), looks := true }, kinds := [], alts := [], laidByText := true, laidKinds := [.data, .data, .data], laidTests := true, laidLooks := .later }
def RoundToldUptoCardSaid : Prop := Claim7.holds Tryz.pinned (.plain (OpenSpec.upto roundToldSpec)) roundToldUptoCard
end Rows
end Go.Proofs.YtjdmpdhinelpoaaGreatDoor
