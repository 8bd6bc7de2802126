/-
  DERIVED. GIVEN WITH THE SEED: THE CARDS: each row of YtkihcabplbbjcaaGreatDoorRows.lean that lists a variable, with what it lists TIED to the program's text (the seventh form; the later family's looks); each row that meets fmt, with fmt's text TOLD by the authors' own Lean function (tested against real Go, not proved from fmt's source: count such statements apart). THE CARD IS WHAT COUNTS. Prove the row's statement (the work); the ties are given (YtkihcabplbbjcaaGreatDoorTie.lean); close each card by the builder's one call (the guide's Derived/Test/ToyasCard.lean, 'card_holds'). Laid BY PROGRAM, IN A SANDBOX (cutbox-door.mjs). By AI agents, Wed Nov 11 2026. No macro, syntax, notation, axiom, sorry.
-/
import Derived.Test.YtkihcabplbbjcaaGreatDoorRows
import GoSem.ClaimSeven
namespace Go.Proofs.YtkihcabplbbjcaaGreatDoor
namespace Rows

/-- THE TIED CARD OF 'corolaw7.ProofTells'. -/
def proofTellsCard : Claim7 := { stood := { row := proofTellsRow, standIns := [], harness := (true, "5b3e2793bb897a9326804d85f8b9299d792b35c9cd1c09ee0e48bbcb79e18074"), looks := true }, kinds := [], alts := [], laidByText := true, laidKinds := [.data, .data, .data], laidTests := true, laidLooks := .later }
def ProofTellsCardSaid : Prop := Claim7.holds Tryz.pinned (.plain (OpenSpec.ofChange proofTellsSpec)) proofTellsCard

/-- THE TIED CARD OF 'corolaw7.ProofRight'. -/
def proofRightCard : Claim7 := { stood := { row := proofRightRow, standIns := [], harness := (true, "5b3e2793bb897a9326804d85f8b9299d792b35c9cd1c09ee0e48bbcb79e18074"), looks := true }, kinds := [], alts := [], laidByText := true, laidKinds := [.data, .data, .data], laidTests := true, laidLooks := .later }
def ProofRightCardSaid : Prop := Claim7.holds Tryz.pinned (.plain (OpenSpec.ofChange proofRightSpec)) proofRightCard

/-- THE TIED CARD OF 'corolaw7.ProofAll'. -/
def proofAllCard : Claim7 := { stood := { row := proofAllRow, standIns := [], harness := (true, "5b3e2793bb897a9326804d85f8b9299d792b35c9cd1c09ee0e48bbcb79e18074"), looks := true }, kinds := [], alts := [], laidByText := true, laidKinds := [.data, .data, .data], laidTests := true, laidLooks := .later }
def ProofAllCardSaid : Prop := Claim7.holds Tryz.pinned (.plain (OpenSpec.ofChange proofAllSpec)) proofAllCard

/-- THE TIED CARD OF 'corolaw7.ProofBent'. -/
def proofBentCard : Claim7 := { stood := { row := proofBentRow, standIns := [], harness := (true, "5b3e2793bb897a9326804d85f8b9299d792b35c9cd1c09ee0e48bbcb79e18074"), looks := true }, kinds := [], alts := [], laidByText := true, laidKinds := [.data, .data, .data], laidTests := true, laidLooks := .later }
def ProofBentCardSaid : Prop := Claim7.holds Tryz.pinned (.plain (OpenSpec.ofChange proofBentSpec)) proofBentCard

/-- THE SECOND FORM's CARD OF 'corolaw7.ProofTells'. -/
def proofTellsUptoCard : Claim7 := { stood := { row := proofTellsUptoRow, standIns := [], harness := (true, "5b3e2793bb897a9326804d85f8b9299d792b35c9cd1c09ee0e48bbcb79e18074"), looks := true }, kinds := [], alts := [], laidByText := true, laidKinds := [.data, .data, .data], laidTests := true, laidLooks := .later }
def ProofTellsUptoCardSaid : Prop := Claim7.holds Tryz.pinned (.plain (OpenSpec.upto proofTellsSpec)) proofTellsUptoCard

/-- THE SECOND FORM's CARD OF 'corolaw7.ProofRight'. -/
def proofRightUptoCard : Claim7 := { stood := { row := proofRightUptoRow, standIns := [], harness := (true, "5b3e2793bb897a9326804d85f8b9299d792b35c9cd1c09ee0e48bbcb79e18074"), looks := true }, kinds := [], alts := [], laidByText := true, laidKinds := [.data, .data, .data], laidTests := true, laidLooks := .later }
def ProofRightUptoCardSaid : Prop := Claim7.holds Tryz.pinned (.plain (OpenSpec.upto proofRightSpec)) proofRightUptoCard

/-- THE SECOND FORM's CARD OF 'corolaw7.ProofAll'. -/
def proofAllUptoCard : Claim7 := { stood := { row := proofAllUptoRow, standIns := [], harness := (true, "5b3e2793bb897a9326804d85f8b9299d792b35c9cd1c09ee0e48bbcb79e18074"), looks := true }, kinds := [], alts := [], laidByText := true, laidKinds := [.data, .data, .data], laidTests := true, laidLooks := .later }
def ProofAllUptoCardSaid : Prop := Claim7.holds Tryz.pinned (.plain (OpenSpec.upto proofAllSpec)) proofAllUptoCard

/-- THE SECOND FORM's CARD OF 'corolaw7.ProofBent'. -/
def proofBentUptoCard : Claim7 := { stood := { row := proofBentUptoRow, standIns := [], harness := (true, "5b3e2793bb897a9326804d85f8b9299d792b35c9cd1c09ee0e48bbcb79e18074"), looks := true }, kinds := [], alts := [], laidByText := true, laidKinds := [.data, .data, .data], laidTests := true, laidLooks := .later }
def ProofBentUptoCardSaid : Prop := Claim7.holds Tryz.pinned (.plain (OpenSpec.upto proofBentSpec)) proofBentUptoCard
end Rows
end Go.Proofs.YtkihcabplbbjcaaGreatDoor
