/-
  DERIVED. GIVEN WITH THE SEED: THE CARDS: each row of YtcagbdokbnpdfaaGreatDoorRows.lean that lists a variable, with what it lists TIED to the program's text (the seventh form; the later family's looks); each row that meets fmt, with fmt's text TOLD by the authors' own Lean function (tested against real Go, not proved from fmt's source: count such statements apart). THE CARD IS WHAT COUNTS. Prove the row's statement (the work); the ties are given (YtcagbdokbnpdfaaGreatDoorTie.lean); close each card by the builder's one call (the guide's Derived/Test/ToyasCard.lean, 'card_holds'). Laid BY PROGRAM, IN A SANDBOX (cutbox-door.mjs). By AI agents, Wed Nov 11 2026. No macro, syntax, notation, axiom, sorry.
-/
import Derived.Test.YtcagbdokbnpdfaaGreatDoorRows
import GoSem.ClaimSeven
namespace Go.Proofs.YtcagbdokbnpdfaaGreatDoor
namespace Rows

/-- THE TIED CARD OF 'presslaw5.CodecTells'. -/
def codecTellsCard : Claim7 := { stood := { row := codecTellsRow, standIns := [], harness := (true, "c5a5d0bda75a26bb0c9bce5972d68136d0ac344189c6aae305dc0f4d66fa55b8"), looks := false }, kinds := [], alts := [], laidByText := true, laidKinds := [.data, .pinned], laidTests := true, laidLooks := .later }
def CodecTellsCardSaid : Prop := Claim7.holds Tryz.pinned (.plain (OpenSpec.ofChange codecTellsSpec)) codecTellsCard

/-- THE TIED CARD OF 'presslaw5.CodecTurns'. -/
def codecTurnsCard : Claim7 := { stood := { row := codecTurnsRow, standIns := [], harness := (true, "c5a5d0bda75a26bb0c9bce5972d68136d0ac344189c6aae305dc0f4d66fa55b8"), looks := false }, kinds := [], alts := [], laidByText := true, laidKinds := [.data, .pinned], laidTests := true, laidLooks := .later }
def CodecTurnsCardSaid : Prop := Claim7.holds Tryz.pinned (.plain (OpenSpec.ofChange codecTurnsSpec)) codecTurnsCard

/-- THE TIED CARD OF 'presslaw5.CodecJoined'. -/
def codecJoinedCard : Claim7 := { stood := { row := codecJoinedRow, standIns := [], harness := (true, "c5a5d0bda75a26bb0c9bce5972d68136d0ac344189c6aae305dc0f4d66fa55b8"), looks := false }, kinds := [], alts := [], laidByText := true, laidKinds := [.data, .pinned], laidTests := true, laidLooks := .later }
def CodecJoinedCardSaid : Prop := Claim7.holds Tryz.pinned (.plain (OpenSpec.ofChange codecJoinedSpec)) codecJoinedCard

/-- THE TIED CARD OF 'presslaw5.CodecUnpacked'. -/
def codecUnpackedCard : Claim7 := { stood := { row := codecUnpackedRow, standIns := [], harness := (true, "c5a5d0bda75a26bb0c9bce5972d68136d0ac344189c6aae305dc0f4d66fa55b8"), looks := false }, kinds := [], alts := [], laidByText := true, laidKinds := [.data, .pinned], laidTests := true, laidLooks := .later }
def CodecUnpackedCardSaid : Prop := Claim7.holds Tryz.pinned (.plain (OpenSpec.ofChange codecUnpackedSpec)) codecUnpackedCard

/-- THE TIED CARD OF 'presslaw5.CodecUnknown'. -/
def codecUnknownCard : Claim7 := { stood := { row := codecUnknownRow, standIns := [], harness := (true, "c5a5d0bda75a26bb0c9bce5972d68136d0ac344189c6aae305dc0f4d66fa55b8"), looks := false }, kinds := [], alts := [], laidByText := true, laidKinds := [.data, .pinned], laidTests := true, laidLooks := .later }
def CodecUnknownCardSaid : Prop := Claim7.holds Tryz.pinned (.plain (OpenSpec.ofChange codecUnknownSpec)) codecUnknownCard

/-- THE SECOND FORM's CARD OF 'presslaw5.CodecTells'. -/
def codecTellsUptoCard : Claim7 := { stood := { row := codecTellsUptoRow, standIns := [], harness := (true, "c5a5d0bda75a26bb0c9bce5972d68136d0ac344189c6aae305dc0f4d66fa55b8"), looks := false }, kinds := [], alts := [], laidByText := true, laidKinds := [.data, .pinned], laidTests := true, laidLooks := .later }
def CodecTellsUptoCardSaid : Prop := Claim7.holds Tryz.pinned (.plain (OpenSpec.upto codecTellsSpec)) codecTellsUptoCard

/-- THE SECOND FORM's CARD OF 'presslaw5.CodecTurns'. -/
def codecTurnsUptoCard : Claim7 := { stood := { row := codecTurnsUptoRow, standIns := [], harness := (true, "c5a5d0bda75a26bb0c9bce5972d68136d0ac344189c6aae305dc0f4d66fa55b8"), looks := false }, kinds := [], alts := [], laidByText := true, laidKinds := [.data, .pinned], laidTests := true, laidLooks := .later }
def CodecTurnsUptoCardSaid : Prop := Claim7.holds Tryz.pinned (.plain (OpenSpec.upto codecTurnsSpec)) codecTurnsUptoCard

/-- THE SECOND FORM's CARD OF 'presslaw5.CodecJoined'. -/
def codecJoinedUptoCard : Claim7 := { stood := { row := codecJoinedUptoRow, standIns := [], harness := (true, "c5a5d0bda75a26bb0c9bce5972d68136d0ac344189c6aae305dc0f4d66fa55b8"), looks := false }, kinds := [], alts := [], laidByText := true, laidKinds := [.data, .pinned], laidTests := true, laidLooks := .later }
def CodecJoinedUptoCardSaid : Prop := Claim7.holds Tryz.pinned (.plain (OpenSpec.upto codecJoinedSpec)) codecJoinedUptoCard

/-- THE SECOND FORM's CARD OF 'presslaw5.CodecUnpacked'. -/
def codecUnpackedUptoCard : Claim7 := { stood := { row := codecUnpackedUptoRow, standIns := [], harness := (true, "c5a5d0bda75a26bb0c9bce5972d68136d0ac344189c6aae305dc0f4d66fa55b8"), looks := false }, kinds := [], alts := [], laidByText := true, laidKinds := [.data, .pinned], laidTests := true, laidLooks := .later }
def CodecUnpackedUptoCardSaid : Prop := Claim7.holds Tryz.pinned (.plain (OpenSpec.upto codecUnpackedSpec)) codecUnpackedUptoCard

/-- THE SECOND FORM's CARD OF 'presslaw5.CodecUnknown'. -/
def codecUnknownUptoCard : Claim7 := { stood := { row := codecUnknownUptoRow, standIns := [], harness := (true, "c5a5d0bda75a26bb0c9bce5972d68136d0ac344189c6aae305dc0f4d66fa55b8"), looks := false }, kinds := [], alts := [], laidByText := true, laidKinds := [.data, .pinned], laidTests := true, laidLooks := .later }
def CodecUnknownUptoCardSaid : Prop := Claim7.holds Tryz.pinned (.plain (OpenSpec.upto codecUnknownSpec)) codecUnknownUptoCard
end Rows
end Go.Proofs.YtcagbdokbnpdfaaGreatDoor
