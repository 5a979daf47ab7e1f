/-
  DERIVED. GIVEN WITH THE SEED: THE CARDS: each row of YtenlijgnmhdopaaDoorRows.lean that lists a variable, with what it lists TIED to the program's text (the seventh form; the later family's looks); each row that meets fmt, with fmt's text TOLD by the authors' own Lean function (tested against real Go, not proved from fmt's source: count such statements apart). THE CARD IS WHAT COUNTS. Prove the row's statement (the work); the ties are given (YtenlijgnmhdopaaDoorTie.lean); close each card by the builder's one call (the guide's Derived/Test/ToyasCard.lean, 'card_holds'). Laid BY PROGRAM, IN A SANDBOX (cutbox-door.mjs). By AI agents, Wed Nov 11 2026. No macro, syntax, notation, axiom, sorry.
-/
import Derived.Test.YtenlijgnmhdopaaDoorRows
import GoSem.ClaimSeven
namespace Go.Proofs.YtenlijgnmhdopaaDoor
namespace Rows

/-- THE TIED CARD OF 'presslaw2.SyntaxAgain'. -/
def syntaxAgainCard : Claim7 := { stood := { row := syntaxAgainRow, standIns := [], harness := (true, "3a83e8271de5db9ca328b4793543edde4ec71a2553f7a914b60eec2da05b21d6"), looks := true }, kinds := [], alts := [], laidByText := true, laidKinds := [.data, .data, .data, .sentinel, .sentinel], laidTests := true, laidLooks := .later }
def SyntaxAgainCardSaid : Prop := Claim7.holds Tryd.pinned (.plain (OpenSpec.ofChange syntaxAgainSpec)) syntaxAgainCard

/-- THE TIED CARD OF 'presslaw2.SyntaxGaps'. -/
def syntaxGapsCard : Claim7 := { stood := { row := syntaxGapsRow, standIns := [], harness := (true, "3a83e8271de5db9ca328b4793543edde4ec71a2553f7a914b60eec2da05b21d6"), looks := true }, kinds := [], alts := [], laidByText := true, laidKinds := [.data, .data, .data, .sentinel, .sentinel], laidTests := true, laidLooks := .later }
def SyntaxGapsCardSaid : Prop := Claim7.holds Tryd.pinned (.plain (OpenSpec.ofChange syntaxGapsSpec)) syntaxGapsCard

/-- THE SECOND FORM's CARD OF 'presslaw2.SyntaxAgain'. -/
def syntaxAgainUptoCard : Claim7 := { stood := { row := syntaxAgainUptoRow, standIns := [], harness := (true, "3a83e8271de5db9ca328b4793543edde4ec71a2553f7a914b60eec2da05b21d6"), looks := true }, kinds := [], alts := [], laidByText := true, laidKinds := [.data, .data, .data, .sentinel, .sentinel], laidTests := true, laidLooks := .later }
def SyntaxAgainUptoCardSaid : Prop := Claim7.holds Tryd.pinned (.plain (OpenSpec.upto syntaxAgainSpec)) syntaxAgainUptoCard

/-- THE SECOND FORM's CARD OF 'presslaw2.SyntaxGaps'. -/
def syntaxGapsUptoCard : Claim7 := { stood := { row := syntaxGapsUptoRow, standIns := [], harness := (true, "3a83e8271de5db9ca328b4793543edde4ec71a2553f7a914b60eec2da05b21d6"), looks := true }, kinds := [], alts := [], laidByText := true, laidKinds := [.data, .data, .data, .sentinel, .sentinel], laidTests := true, laidLooks := .later }
def SyntaxGapsUptoCardSaid : Prop := Claim7.holds Tryd.pinned (.plain (OpenSpec.upto syntaxGapsSpec)) syntaxGapsUptoCard
end Rows
end Go.Proofs.YtenlijgnmhdopaaDoor
