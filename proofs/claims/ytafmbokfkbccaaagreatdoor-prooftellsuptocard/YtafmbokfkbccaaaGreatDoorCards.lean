/-
  DERIVED. GIVEN WITH THE SEED: THE CARDS: each row of YtafmbokfkbccaaaGreatDoorRows.lean that lists a variable, with what it lists TIED to the program's text (the seventh form; the later family's looks); each row that meets fmt, with fmt's text TOLD by the authors' own Lean function (tested against real Go, not proved from fmt's source: count such statements apart). THE CARD IS WHAT COUNTS. Prove the row's statement (the work); the ties are given (YtafmbokfkbccaaaGreatDoorTie.lean); close each card by the builder's one call (the guide's Derived/Test/ToyasCard.lean, 'card_holds'). Laid BY PROGRAM, IN A SANDBOX (cutbox-door.mjs). By AI agents, Wed Nov 11 2026. No macro, syntax, notation, axiom, sorry.
-/
import Derived.Test.YtafmbokfkbccaaaGreatDoorRows
import GoSem.ClaimSeven
namespace Go.Proofs.YtafmbokfkbccaaaGreatDoor
namespace Rows

/-- THE TIED CARD OF 'corolaw7.ProofTells'. -/
def proofTellsCard : Claim7 := { stood := { row := proofTellsRow, standIns := [], harness := (true, "e76fd24520ba4795eb7a2cecdf2239fb7aed378c08519b991bb398be843b7320"), looks := true }, kinds := [], alts := [], laidByText := true, laidKinds := [.data, .data, .data], laidTests := true, laidLooks := .later }
def ProofTellsCardSaid : Prop := Claim7.holds Tryz.pinned (.plain (OpenSpec.ofChange proofTellsSpec)) proofTellsCard

/-- THE TIED CARD OF 'corolaw7.ProofBent'. -/
def proofBentCard : Claim7 := { stood := { row := proofBentRow, standIns := [], harness := (true, "e76fd24520ba4795eb7a2cecdf2239fb7aed378c08519b991bb398be843b7320"), looks := true }, kinds := [], alts := [], laidByText := true, laidKinds := [.data, .data, .data], laidTests := true, laidLooks := .later }
def ProofBentCardSaid : Prop := Claim7.holds Tryz.pinned (.plain (OpenSpec.ofChange proofBentSpec)) proofBentCard

/-- THE TIED CARD OF 'corolaw8.DeskTells'. -/
def deskTellsCard : Claim7 := { stood := { row := deskTellsRow, standIns := [], harness := (true, "e76fd24520ba4795eb7a2cecdf2239fb7aed378c08519b991bb398be843b7320"), looks := true }, kinds := [], alts := [], laidByText := true, laidKinds := [.data, .data, .data], laidTests := true, laidLooks := .later }
def DeskTellsCardSaid : Prop := Claim7.holds Tryz.pinned (.plain (OpenSpec.ofChange deskTellsSpec)) deskTellsCard

/-- THE TIED CARD OF 'corolaw8.DeskTurns'. -/
def deskTurnsCard : Claim7 := { stood := { row := deskTurnsRow, standIns := [], harness := (true, "e76fd24520ba4795eb7a2cecdf2239fb7aed378c08519b991bb398be843b7320"), looks := true }, kinds := [], alts := [], laidByText := true, laidKinds := [.data, .data, .data], laidTests := true, laidLooks := .later }
def DeskTurnsCardSaid : Prop := Claim7.holds Tryz.pinned (.plain (OpenSpec.ofChange deskTurnsSpec)) deskTurnsCard

/-- THE TIED CARD OF 'corolaw8.DeskResumes'. -/
def deskResumesCard : Claim7 := { stood := { row := deskResumesRow, standIns := [], harness := (true, "e76fd24520ba4795eb7a2cecdf2239fb7aed378c08519b991bb398be843b7320"), looks := true }, kinds := [], alts := [], laidByText := true, laidKinds := [.data, .data, .data], laidTests := true, laidLooks := .later }
def DeskResumesCardSaid : Prop := Claim7.holds Tryz.pinned (.plain (OpenSpec.ofChange deskResumesSpec)) deskResumesCard

/-- THE TIED CARD OF 'corolaw8.DeskAsks'. -/
def deskAsksCard : Claim7 := { stood := { row := deskAsksRow, standIns := [], harness := (true, "e76fd24520ba4795eb7a2cecdf2239fb7aed378c08519b991bb398be843b7320"), looks := true }, kinds := [], alts := [], laidByText := true, laidKinds := [.data, .data, .data], laidTests := true, laidLooks := .later }
def DeskAsksCardSaid : Prop := Claim7.holds Tryz.pinned (.plain (OpenSpec.ofChange deskAsksSpec)) deskAsksCard

/-- THE TIED CARD OF 'corolaw8.DeskDone'. -/
def deskDoneCard : Claim7 := { stood := { row := deskDoneRow, standIns := [], harness := (true, "e76fd24520ba4795eb7a2cecdf2239fb7aed378c08519b991bb398be843b7320"), looks := true }, kinds := [], alts := [], laidByText := true, laidKinds := [.data, .data, .data], laidTests := true, laidLooks := .later }
def DeskDoneCardSaid : Prop := Claim7.holds Tryz.pinned (.plain (OpenSpec.ofChange deskDoneSpec)) deskDoneCard

/-- THE TIED CARD OF 'corolaw8.DeskRefused'. -/
def deskRefusedCard : Claim7 := { stood := { row := deskRefusedRow, standIns := [], harness := (true, "e76fd24520ba4795eb7a2cecdf2239fb7aed378c08519b991bb398be843b7320"), looks := true }, kinds := [], alts := [], laidByText := true, laidKinds := [.data, .data, .data], laidTests := true, laidLooks := .later }
def DeskRefusedCardSaid : Prop := Claim7.holds Tryz.pinned (.plain (OpenSpec.ofChange deskRefusedSpec)) deskRefusedCard

/-- THE TIED CARD OF 'corotop.TopRoads'. -/
def topRoadsCard : Claim7 := { stood := { row := topRoadsRow, standIns := [], harness := (true, "e76fd24520ba4795eb7a2cecdf2239fb7aed378c08519b991bb398be843b7320"), looks := true }, kinds := [], alts := [], laidByText := true, laidKinds := [.data, .data, .data], laidTests := true, laidLooks := .later }
def TopRoadsCardSaid : Prop := Claim7.holds Tryz.pinned (.plain (OpenSpec.ofChange topRoadsSpec)) topRoadsCard

/-- THE TIED CARD OF 'corotop.TopWhy'. -/
def topWhyCard : Claim7 := { stood := { row := topWhyRow, standIns := [], harness := (true, "e76fd24520ba4795eb7a2cecdf2239fb7aed378c08519b991bb398be843b7320"), looks := true }, kinds := [], alts := [], laidByText := true, laidKinds := [.data, .data, .data], laidTests := true, laidLooks := .later }
def TopWhyCardSaid : Prop := Claim7.holds Tryz.pinned (.plain (OpenSpec.ofChange topWhySpec)) topWhyCard

/-- THE TIED CARD OF 'corotop.TopDesk'. -/
def topDeskCard : Claim7 := { stood := { row := topDeskRow, standIns := [], harness := (true, "e76fd24520ba4795eb7a2cecdf2239fb7aed378c08519b991bb398be843b7320"), looks := true }, kinds := [], alts := [], laidByText := true, laidKinds := [.data, .data, .data], laidTests := true, laidLooks := .later }
def TopDeskCardSaid : Prop := Claim7.holds Tryz.pinned (.plain (OpenSpec.ofChange topDeskSpec)) topDeskCard

/-- THE SECOND FORM's CARD OF 'corolaw7.ProofTells'. -/
def proofTellsUptoCard : Claim7 := { stood := { row := proofTellsUptoRow, standIns := [], harness := (true, "e76fd24520ba4795eb7a2cecdf2239fb7aed378c08519b991bb398be843b7320"), looks := true }, kinds := [], alts := [], laidByText := true, laidKinds := [.data, .data, .data], laidTests := true, laidLooks := .later }
def ProofTellsUptoCardSaid : Prop := Claim7.holds Tryz.pinned (.plain (OpenSpec.upto proofTellsSpec)) proofTellsUptoCard

/-- THE SECOND FORM's CARD OF 'corolaw7.ProofBent'. -/
def proofBentUptoCard : Claim7 := { stood := { row := proofBentUptoRow, standIns := [], harness := (true, "e76fd24520ba4795eb7a2cecdf2239fb7aed378c08519b991bb398be843b7320"), looks := true }, kinds := [], alts := [], laidByText := true, laidKinds := [.data, .data, .data], laidTests := true, laidLooks := .later }
def ProofBentUptoCardSaid : Prop := Claim7.holds Tryz.pinned (.plain (OpenSpec.upto proofBentSpec)) proofBentUptoCard

/-- THE SECOND FORM's CARD OF 'corolaw8.DeskTells'. -/
def deskTellsUptoCard : Claim7 := { stood := { row := deskTellsUptoRow, standIns := [], harness := (true, "e76fd24520ba4795eb7a2cecdf2239fb7aed378c08519b991bb398be843b7320"), looks := true }, kinds := [], alts := [], laidByText := true, laidKinds := [.data, .data, .data], laidTests := true, laidLooks := .later }
def DeskTellsUptoCardSaid : Prop := Claim7.holds Tryz.pinned (.plain (OpenSpec.upto deskTellsSpec)) deskTellsUptoCard

/-- THE SECOND FORM's CARD OF 'corolaw8.DeskTurns'. -/
def deskTurnsUptoCard : Claim7 := { stood := { row := deskTurnsUptoRow, standIns := [], harness := (true, "e76fd24520ba4795eb7a2cecdf2239fb7aed378c08519b991bb398be843b7320"), looks := true }, kinds := [], alts := [], laidByText := true, laidKinds := [.data, .data, .data], laidTests := true, laidLooks := .later }
def DeskTurnsUptoCardSaid : Prop := Claim7.holds Tryz.pinned (.plain (OpenSpec.upto deskTurnsSpec)) deskTurnsUptoCard

/-- THE SECOND FORM's CARD OF 'corolaw8.DeskResumes'. -/
def deskResumesUptoCard : Claim7 := { stood := { row := deskResumesUptoRow, standIns := [], harness := (true, "e76fd24520ba4795eb7a2cecdf2239fb7aed378c08519b991bb398be843b7320"), looks := true }, kinds := [], alts := [], laidByText := true, laidKinds := [.data, .data, .data], laidTests := true, laidLooks := .later }
def DeskResumesUptoCardSaid : Prop := Claim7.holds Tryz.pinned (.plain (OpenSpec.upto deskResumesSpec)) deskResumesUptoCard

/-- THE SECOND FORM's CARD OF 'corolaw8.DeskAsks'. -/
def deskAsksUptoCard : Claim7 := { stood := { row := deskAsksUptoRow, standIns := [], harness := (true, "e76fd24520ba4795eb7a2cecdf2239fb7aed378c08519b991bb398be843b7320"), looks := true }, kinds := [], alts := [], laidByText := true, laidKinds := [.data, .data, .data], laidTests := true, laidLooks := .later }
def DeskAsksUptoCardSaid : Prop := Claim7.holds Tryz.pinned (.plain (OpenSpec.upto deskAsksSpec)) deskAsksUptoCard

/-- THE SECOND FORM's CARD OF 'corolaw8.DeskDone'. -/
def deskDoneUptoCard : Claim7 := { stood := { row := deskDoneUptoRow, standIns := [], harness := (true, "e76fd24520ba4795eb7a2cecdf2239fb7aed378c08519b991bb398be843b7320"), looks := true }, kinds := [], alts := [], laidByText := true, laidKinds := [.data, .data, .data], laidTests := true, laidLooks := .later }
def DeskDoneUptoCardSaid : Prop := Claim7.holds Tryz.pinned (.plain (OpenSpec.upto deskDoneSpec)) deskDoneUptoCard

/-- THE SECOND FORM's CARD OF 'corolaw8.DeskRefused'. -/
def deskRefusedUptoCard : Claim7 := { stood := { row := deskRefusedUptoRow, standIns := [], harness := (true, "e76fd24520ba4795eb7a2cecdf2239fb7aed378c08519b991bb398be843b7320"), looks := true }, kinds := [], alts := [], laidByText := true, laidKinds := [.data, .data, .data], laidTests := true, laidLooks := .later }
def DeskRefusedUptoCardSaid : Prop := Claim7.holds Tryz.pinned (.plain (OpenSpec.upto deskRefusedSpec)) deskRefusedUptoCard

/-- THE SECOND FORM's CARD OF 'corotop.TopRoads'. -/
def topRoadsUptoCard : Claim7 := { stood := { row := topRoadsUptoRow, standIns := [], harness := (true, "e76fd24520ba4795eb7a2cecdf2239fb7aed378c08519b991bb398be843b7320"), looks := true }, kinds := [], alts := [], laidByText := true, laidKinds := [.data, .data, .data], laidTests := true, laidLooks := .later }
def TopRoadsUptoCardSaid : Prop := Claim7.holds Tryz.pinned (.plain (OpenSpec.upto topRoadsSpec)) topRoadsUptoCard

/-- THE SECOND FORM's CARD OF 'corotop.TopWhy'. -/
def topWhyUptoCard : Claim7 := { stood := { row := topWhyUptoRow, standIns := [], harness := (true, "e76fd24520ba4795eb7a2cecdf2239fb7aed378c08519b991bb398be843b7320"), looks := true }, kinds := [], alts := [], laidByText := true, laidKinds := [.data, .data, .data], laidTests := true, laidLooks := .later }
def TopWhyUptoCardSaid : Prop := Claim7.holds Tryz.pinned (.plain (OpenSpec.upto topWhySpec)) topWhyUptoCard

/-- THE SECOND FORM's CARD OF 'corotop.TopDesk'. -/
def topDeskUptoCard : Claim7 := { stood := { row := topDeskUptoRow, standIns := [], harness := (true, "e76fd24520ba4795eb7a2cecdf2239fb7aed378c08519b991bb398be843b7320"), looks := true }, kinds := [], alts := [], laidByText := true, laidKinds := [.data, .data, .data], laidTests := true, laidLooks := .later }
def TopDeskUptoCardSaid : Prop := Claim7.holds Tryz.pinned (.plain (OpenSpec.upto topDeskSpec)) topDeskUptoCard
end Rows
end Go.Proofs.YtafmbokfkbccaaaGreatDoor
