/-
  DERIVED. GIVEN WITH THE SEED: THE CARDS: each row of YtbohggoeebhdmaaGreatDoorRows.lean that lists a variable, with what it lists TIED to the program's text (the seventh form; the later family's looks); each row that meets fmt, with fmt's text TOLD by the authors' own Lean function (tested against real Go, not proved from fmt's source: count such statements apart). THE CARD IS WHAT COUNTS. Prove the row's statement (the work); the ties are given (YtbohggoeebhdmaaGreatDoorTie.lean); close each card by the builder's one call (the guide's Derived/Test/ToyasCard.lean, 'card_holds'). Laid BY PROGRAM, IN A SANDBOX (cutbox-door.mjs). By AI agents, Wed Nov 11 2026. No macro, syntax, notation, axiom, sorry.
-/
import Derived.Test.YtbohggoeebhdmaaGreatDoorRows
import GoSem.ClaimSeven
namespace Go.Proofs.YtbohggoeebhdmaaGreatDoor
namespace Rows

/-- THE TIED CARD OF 'corolaw5.NaiveTells'. -/
def naiveTellsCard : Claim7 := { stood := { row := naiveTellsRow, standIns := [], harness := (true, "689d0827a86e6b07d3e72e9d4fafeee1a9c618c9e516ed542380d8324eac388a"), looks := true }, kinds := [], alts := [], laidByText := true, laidKinds := [.data, .data, .data], laidTests := true, laidLooks := .later }
def NaiveTellsCardSaid : Prop := Claim7.holds Tryz.pinned (.plain (OpenSpec.ofChange naiveTellsSpec)) naiveTellsCard

/-- THE TIED CARD OF 'corolaw5.NaiveModel'. -/
def naiveModelCard : Claim7 := { stood := { row := naiveModelRow, standIns := [], harness := (true, "689d0827a86e6b07d3e72e9d4fafeee1a9c618c9e516ed542380d8324eac388a"), looks := true }, kinds := [], alts := [], laidByText := true, laidKinds := [.data, .data, .data], laidTests := true, laidLooks := .later }
def NaiveModelCardSaid : Prop := Claim7.holds Tryz.pinned (.plain (OpenSpec.ofChange naiveModelSpec)) naiveModelCard

/-- THE TIED CARD OF 'corolaw5.NaiveNeeded'. -/
def naiveNeededCard : Claim7 := { stood := { row := naiveNeededRow, standIns := [], harness := (true, "689d0827a86e6b07d3e72e9d4fafeee1a9c618c9e516ed542380d8324eac388a"), looks := true }, kinds := [], alts := [], laidByText := true, laidKinds := [.data, .data, .data], laidTests := true, laidLooks := .later }
def NaiveNeededCardSaid : Prop := Claim7.holds Tryz.pinned (.plain (OpenSpec.ofChange naiveNeededSpec)) naiveNeededCard

/-- THE TIED CARD OF 'corolaw5.NaiveLeast'. -/
def naiveLeastCard : Claim7 := { stood := { row := naiveLeastRow, standIns := [], harness := (true, "689d0827a86e6b07d3e72e9d4fafeee1a9c618c9e516ed542380d8324eac388a"), looks := true }, kinds := [], alts := [], laidByText := true, laidKinds := [.data, .data, .data], laidTests := true, laidLooks := .later }
def NaiveLeastCardSaid : Prop := Claim7.holds Tryz.pinned (.plain (OpenSpec.ofChange naiveLeastSpec)) naiveLeastCard

/-- THE TIED CARD OF 'corolaw5.NaiveRules'. -/
def naiveRulesCard : Claim7 := { stood := { row := naiveRulesRow, standIns := [], harness := (true, "689d0827a86e6b07d3e72e9d4fafeee1a9c618c9e516ed542380d8324eac388a"), looks := true }, kinds := [], alts := [], laidByText := true, laidKinds := [.data, .data, .data], laidTests := true, laidLooks := .later }
def NaiveRulesCardSaid : Prop := Claim7.holds Tryz.pinned (.plain (OpenSpec.ofChange naiveRulesSpec)) naiveRulesCard

/-- THE TIED CARD OF 'corolaw5.NaiveHeads'. -/
def naiveHeadsCard : Claim7 := { stood := { row := naiveHeadsRow, standIns := [], harness := (true, "689d0827a86e6b07d3e72e9d4fafeee1a9c618c9e516ed542380d8324eac388a"), looks := true }, kinds := [], alts := [], laidByText := true, laidKinds := [.data, .data, .data], laidTests := true, laidLooks := .later }
def NaiveHeadsCardSaid : Prop := Claim7.holds Tryz.pinned (.plain (OpenSpec.ofChange naiveHeadsSpec)) naiveHeadsCard

/-- THE SECOND FORM's CARD OF 'corolaw5.NaiveTells'. -/
def naiveTellsUptoCard : Claim7 := { stood := { row := naiveTellsUptoRow, standIns := [], harness := (true, "689d0827a86e6b07d3e72e9d4fafeee1a9c618c9e516ed542380d8324eac388a"), looks := true }, kinds := [], alts := [], laidByText := true, laidKinds := [.data, .data, .data], laidTests := true, laidLooks := .later }
def NaiveTellsUptoCardSaid : Prop := Claim7.holds Tryz.pinned (.plain (OpenSpec.upto naiveTellsSpec)) naiveTellsUptoCard

/-- THE SECOND FORM's CARD OF 'corolaw5.NaiveModel'. -/
def naiveModelUptoCard : Claim7 := { stood := { row := naiveModelUptoRow, standIns := [], harness := (true, "689d0827a86e6b07d3e72e9d4fafeee1a9c618c9e516ed542380d8324eac388a"), looks := true }, kinds := [], alts := [], laidByText := true, laidKinds := [.data, .data, .data], laidTests := true, laidLooks := .later }
def NaiveModelUptoCardSaid : Prop := Claim7.holds Tryz.pinned (.plain (OpenSpec.upto naiveModelSpec)) naiveModelUptoCard

/-- THE SECOND FORM's CARD OF 'corolaw5.NaiveNeeded'. -/
def naiveNeededUptoCard : Claim7 := { stood := { row := naiveNeededUptoRow, standIns := [], harness := (true, "689d0827a86e6b07d3e72e9d4fafeee1a9c618c9e516ed542380d8324eac388a"), looks := true }, kinds := [], alts := [], laidByText := true, laidKinds := [.data, .data, .data], laidTests := true, laidLooks := .later }
def NaiveNeededUptoCardSaid : Prop := Claim7.holds Tryz.pinned (.plain (OpenSpec.upto naiveNeededSpec)) naiveNeededUptoCard

/-- THE SECOND FORM's CARD OF 'corolaw5.NaiveLeast'. -/
def naiveLeastUptoCard : Claim7 := { stood := { row := naiveLeastUptoRow, standIns := [], harness := (true, "689d0827a86e6b07d3e72e9d4fafeee1a9c618c9e516ed542380d8324eac388a"), looks := true }, kinds := [], alts := [], laidByText := true, laidKinds := [.data, .data, .data], laidTests := true, laidLooks := .later }
def NaiveLeastUptoCardSaid : Prop := Claim7.holds Tryz.pinned (.plain (OpenSpec.upto naiveLeastSpec)) naiveLeastUptoCard

/-- THE SECOND FORM's CARD OF 'corolaw5.NaiveRules'. -/
def naiveRulesUptoCard : Claim7 := { stood := { row := naiveRulesUptoRow, standIns := [], harness := (true, "689d0827a86e6b07d3e72e9d4fafeee1a9c618c9e516ed542380d8324eac388a"), looks := true }, kinds := [], alts := [], laidByText := true, laidKinds := [.data, .data, .data], laidTests := true, laidLooks := .later }
def NaiveRulesUptoCardSaid : Prop := Claim7.holds Tryz.pinned (.plain (OpenSpec.upto naiveRulesSpec)) naiveRulesUptoCard

/-- THE SECOND FORM's CARD OF 'corolaw5.NaiveHeads'. -/
def naiveHeadsUptoCard : Claim7 := { stood := { row := naiveHeadsUptoRow, standIns := [], harness := (true, "689d0827a86e6b07d3e72e9d4fafeee1a9c618c9e516ed542380d8324eac388a"), looks := true }, kinds := [], alts := [], laidByText := true, laidKinds := [.data, .data, .data], laidTests := true, laidLooks := .later }
def NaiveHeadsUptoCardSaid : Prop := Claim7.holds Tryz.pinned (.plain (OpenSpec.upto naiveHeadsSpec)) naiveHeadsUptoCard
end Rows
end Go.Proofs.YtbohggoeebhdmaaGreatDoor
