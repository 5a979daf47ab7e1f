/-
  DERIVED. GIVEN WITH THE SEED: THE CARDS: each row of YtelcpclbmliagaaGreatDoorRows.lean that lists a variable, with what it lists TIED to the program's text (the seventh form; the later family's looks); each row that meets fmt, with fmt's text TOLD by the authors' own Lean function (tested against real Go, not proved from fmt's source: count such statements apart). THE CARD IS WHAT COUNTS. Prove the row's statement (the work); the ties are given (YtelcpclbmliagaaGreatDoorTie.lean); close each card by the builder's one call (the guide's Derived/Test/ToyasCard.lean, 'card_holds'). Laid BY PROGRAM, IN A SANDBOX (cutbox-door.mjs). By AI agents, Wed Nov 11 2026. No macro, syntax, notation, axiom, sorry.
-/
import Derived.Test.YtelcpclbmliagaaGreatDoorRows
import GoSem.ClaimSeven
namespace Go.Proofs.YtelcpclbmliagaaGreatDoor
namespace Rows

/-- THE TIED CARD OF 'presslaw3.LinkRight'. -/
def linkRightCard : Claim7 := { stood := { row := linkRightRow, standIns := [], harness := (true, "016d9ca5bc43e2dfe1747f6726878b186fb155a9ce6a85774ce0f4f2655beeb2"), looks := true }, kinds := [], alts := [], laidByText := true, laidKinds := [.data, .data, .data, .sentinel, .sentinel], laidTests := true, laidLooks := .later }
def LinkRightCardSaid : Prop := Claim7.holds Tryz.pinned (.plain (OpenSpec.ofChange linkRightSpec)) linkRightCard

/-- THE TIED CARD OF 'presslaw3.LinkBarred'. -/
def linkBarredCard : Claim7 := { stood := { row := linkBarredRow, standIns := [], harness := (true, "016d9ca5bc43e2dfe1747f6726878b186fb155a9ce6a85774ce0f4f2655beeb2"), looks := true }, kinds := [], alts := [], laidByText := true, laidKinds := [.data, .data, .data, .sentinel, .sentinel], laidTests := true, laidLooks := .later }
def LinkBarredCardSaid : Prop := Claim7.holds Tryz.pinned (.plain (OpenSpec.ofChange linkBarredSpec)) linkBarredCard

/-- THE TIED CARD OF 'presslaw4.BodyTells'. -/
def bodyTellsCard : Claim7 := { stood := { row := bodyTellsRow, standIns := [], harness := (true, "016d9ca5bc43e2dfe1747f6726878b186fb155a9ce6a85774ce0f4f2655beeb2"), looks := true }, kinds := [], alts := [], laidByText := true, laidKinds := [.data, .pinned], laidTests := true, laidLooks := .later }
def BodyTellsCardSaid : Prop := Claim7.holds Tryz.pinned (.plain (OpenSpec.ofChange bodyTellsSpec)) bodyTellsCard

/-- THE TIED CARD OF 'presslaw4.BodyThree'. -/
def bodyThreeCard : Claim7 := { stood := { row := bodyThreeRow, standIns := [], harness := (true, "016d9ca5bc43e2dfe1747f6726878b186fb155a9ce6a85774ce0f4f2655beeb2"), looks := true }, kinds := [], alts := [], laidByText := true, laidKinds := [.data, .pinned], laidTests := true, laidLooks := .later }
def BodyThreeCardSaid : Prop := Claim7.holds Tryz.pinned (.plain (OpenSpec.ofChange bodyThreeSpec)) bodyThreeCard

/-- THE SECOND FORM's CARD OF 'presslaw3.LinkRight'. -/
def linkRightUptoCard : Claim7 := { stood := { row := linkRightUptoRow, standIns := [], harness := (true, "016d9ca5bc43e2dfe1747f6726878b186fb155a9ce6a85774ce0f4f2655beeb2"), looks := true }, kinds := [], alts := [], laidByText := true, laidKinds := [.data, .data, .data, .sentinel, .sentinel], laidTests := true, laidLooks := .later }
def LinkRightUptoCardSaid : Prop := Claim7.holds Tryz.pinned (.plain (OpenSpec.upto linkRightSpec)) linkRightUptoCard

/-- THE SECOND FORM's CARD OF 'presslaw3.LinkBarred'. -/
def linkBarredUptoCard : Claim7 := { stood := { row := linkBarredUptoRow, standIns := [], harness := (true, "016d9ca5bc43e2dfe1747f6726878b186fb155a9ce6a85774ce0f4f2655beeb2"), looks := true }, kinds := [], alts := [], laidByText := true, laidKinds := [.data, .data, .data, .sentinel, .sentinel], laidTests := true, laidLooks := .later }
def LinkBarredUptoCardSaid : Prop := Claim7.holds Tryz.pinned (.plain (OpenSpec.upto linkBarredSpec)) linkBarredUptoCard

/-- THE SECOND FORM's CARD OF 'presslaw4.BodyTells'. -/
def bodyTellsUptoCard : Claim7 := { stood := { row := bodyTellsUptoRow, standIns := [], harness := (true, "016d9ca5bc43e2dfe1747f6726878b186fb155a9ce6a85774ce0f4f2655beeb2"), looks := true }, kinds := [], alts := [], laidByText := true, laidKinds := [.data, .pinned], laidTests := true, laidLooks := .later }
def BodyTellsUptoCardSaid : Prop := Claim7.holds Tryz.pinned (.plain (OpenSpec.upto bodyTellsSpec)) bodyTellsUptoCard

/-- THE SECOND FORM's CARD OF 'presslaw4.BodyThree'. -/
def bodyThreeUptoCard : Claim7 := { stood := { row := bodyThreeUptoRow, standIns := [], harness := (true, "016d9ca5bc43e2dfe1747f6726878b186fb155a9ce6a85774ce0f4f2655beeb2"), looks := true }, kinds := [], alts := [], laidByText := true, laidKinds := [.data, .pinned], laidTests := true, laidLooks := .later }
def BodyThreeUptoCardSaid : Prop := Claim7.holds Tryz.pinned (.plain (OpenSpec.upto bodyThreeSpec)) bodyThreeUptoCard
end Rows
end Go.Proofs.YtelcpclbmliagaaGreatDoor
