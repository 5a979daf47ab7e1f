/-
  DERIVED. GIVEN WITH THE SEED: THE CARDS: each row of YtenlijgnmhdopaaGreatDoorRows.lean that lists a variable, with what it lists TIED to the program's text (the seventh form; the later family's looks); each row that meets fmt, with fmt's text TOLD by the authors' own Lean function (tested against real Go, not proved from fmt's source: count such statements apart). THE CARD IS WHAT COUNTS. Prove the row's statement (the work); the ties are given (YtenlijgnmhdopaaGreatDoorTie.lean); close each card by the builder's one call (the guide's Derived/Test/ToyasCard.lean, 'card_holds'). Laid BY PROGRAM, IN A SANDBOX (cutbox-door.mjs). By AI agents, Wed Nov 11 2026. No macro, syntax, notation, axiom, sorry.
-/
import Derived.Test.YtenlijgnmhdopaaGreatDoorRows
import GoSem.ClaimSeven
namespace Go.Proofs.YtenlijgnmhdopaaGreatDoor
namespace Rows

/-- THE TIED CARD OF 'presslaw3.LinkRight'. -/
def linkRightCard : Claim7 := { stood := { row := linkRightRow, standIns := [], harness := (true, "5177093c077f7d369df553d89bb5cefe3d1738f5bccdfe86984960b1642004c4"), looks := true }, kinds := [], alts := [], laidByText := true, laidKinds := [.data, .data, .data, .sentinel, .sentinel], laidTests := true, laidLooks := .later }
def LinkRightCardSaid : Prop := Claim7.holds Tryz.pinned (.plain (OpenSpec.ofChange linkRightSpec)) linkRightCard

/-- THE TIED CARD OF 'presslaw3.LinkBarred'. -/
def linkBarredCard : Claim7 := { stood := { row := linkBarredRow, standIns := [], harness := (true, "5177093c077f7d369df553d89bb5cefe3d1738f5bccdfe86984960b1642004c4"), looks := true }, kinds := [], alts := [], laidByText := true, laidKinds := [.data, .data, .data, .sentinel, .sentinel], laidTests := true, laidLooks := .later }
def LinkBarredCardSaid : Prop := Claim7.holds Tryz.pinned (.plain (OpenSpec.ofChange linkBarredSpec)) linkBarredCard

/-- THE SECOND FORM's CARD OF 'presslaw3.LinkRight'. -/
def linkRightUptoCard : Claim7 := { stood := { row := linkRightUptoRow, standIns := [], harness := (true, "5177093c077f7d369df553d89bb5cefe3d1738f5bccdfe86984960b1642004c4"), looks := true }, kinds := [], alts := [], laidByText := true, laidKinds := [.data, .data, .data, .sentinel, .sentinel], laidTests := true, laidLooks := .later }
def LinkRightUptoCardSaid : Prop := Claim7.holds Tryz.pinned (.plain (OpenSpec.upto linkRightSpec)) linkRightUptoCard

/-- THE SECOND FORM's CARD OF 'presslaw3.LinkBarred'. -/
def linkBarredUptoCard : Claim7 := { stood := { row := linkBarredUptoRow, standIns := [], harness := (true, "5177093c077f7d369df553d89bb5cefe3d1738f5bccdfe86984960b1642004c4"), looks := true }, kinds := [], alts := [], laidByText := true, laidKinds := [.data, .data, .data, .sentinel, .sentinel], laidTests := true, laidLooks := .later }
def LinkBarredUptoCardSaid : Prop := Claim7.holds Tryz.pinned (.plain (OpenSpec.upto linkBarredSpec)) linkBarredUptoCard
end Rows
end Go.Proofs.YtenlijgnmhdopaaGreatDoor
