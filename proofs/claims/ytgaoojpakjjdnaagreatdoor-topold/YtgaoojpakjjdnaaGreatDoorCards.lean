/-
  DERIVED. GIVEN WITH THE SEED: THE CARDS: each row of YtgaoojpakjjdnaaGreatDoorRows.lean that lists a variable, with what it lists TIED to the program's text (the seventh form; the later family's looks); each row that meets fmt, with fmt's text TOLD by the authors' own Lean function (tested against real Go, not proved from fmt's source: count such statements apart). THE CARD IS WHAT COUNTS. Prove the row's statement (the work); the ties are given (YtgaoojpakjjdnaaGreatDoorTie.lean); close each card by the builder's one call (the guide's Derived/Test/ToyasCard.lean, 'card_holds'). Laid BY PROGRAM, IN A SANDBOX (cutbox-door.mjs). By AI agents, Wed Nov 11 2026. No macro, syntax, notation, axiom, sorry.
-/
import Derived.Test.YtgaoojpakjjdnaaGreatDoorRows
import GoSem.ClaimSeven
namespace Go.Proofs.YtgaoojpakjjdnaaGreatDoor
namespace Rows

/-- THE TIED CARD OF 'presstop.TopOld'. -/
def topOldCard : Claim7 := { stood := { row := topOldRow, standIns := [], harness := (true, "25d874f9fcbfc4f2aac681d2f02a44f8c9c80ee58b9382cd59ad9f467d7f1456"), looks := true }, kinds := [], alts := [], laidByText := true, laidKinds := [.data, .data, .data, .data, .sentinel, .sentinel, .pinned], laidTests := true, laidLooks := .later }
def TopOldCardSaid : Prop := Claim7.holds Tryz.pinned (.plain (OpenSpec.ofChange topOldSpec)) topOldCard

/-- THE TIED CARD OF 'presstop.TopText'. -/
def topTextCard : Claim7 := { stood := { row := topTextRow, standIns := [], harness := (true, "25d874f9fcbfc4f2aac681d2f02a44f8c9c80ee58b9382cd59ad9f467d7f1456"), looks := true }, kinds := [], alts := [], laidByText := true, laidKinds := [.data, .data, .data, .data, .sentinel, .sentinel, .pinned], laidTests := true, laidLooks := .later }
def TopTextCardSaid : Prop := Claim7.holds Tryz.pinned (.plain (OpenSpec.ofChange topTextSpec)) topTextCard

/-- THE TIED CARD OF 'presstop.TopUser'. -/
def topUserCard : Claim7 := { stood := { row := topUserRow, standIns := [], harness := (true, "25d874f9fcbfc4f2aac681d2f02a44f8c9c80ee58b9382cd59ad9f467d7f1456"), looks := true }, kinds := [], alts := [], laidByText := true, laidKinds := [.data, .data, .data, .data, .sentinel, .sentinel, .pinned], laidTests := true, laidLooks := .later }
def TopUserCardSaid : Prop := Claim7.holds Tryz.pinned (.plain (OpenSpec.ofChange topUserSpec)) topUserCard

/-- THE TIED CARD OF 'presstop.TopDeep'. -/
def topDeepCard : Claim7 := { stood := { row := topDeepRow, standIns := [], harness := (true, "25d874f9fcbfc4f2aac681d2f02a44f8c9c80ee58b9382cd59ad9f467d7f1456"), looks := true }, kinds := [], alts := [], laidByText := true, laidKinds := [.data, .data, .data, .data, .sentinel, .sentinel, .pinned], laidTests := true, laidLooks := .later }
def TopDeepCardSaid : Prop := Claim7.holds Tryz.pinned (.plain (OpenSpec.ofChange topDeepSpec)) topDeepCard

/-- THE SECOND FORM's CARD OF 'presstop.TopOld'. -/
def topOldUptoCard : Claim7 := { stood := { row := topOldUptoRow, standIns := [], harness := (true, "25d874f9fcbfc4f2aac681d2f02a44f8c9c80ee58b9382cd59ad9f467d7f1456"), looks := true }, kinds := [], alts := [], laidByText := true, laidKinds := [.data, .data, .data, .data, .sentinel, .sentinel, .pinned], laidTests := true, laidLooks := .later }
def TopOldUptoCardSaid : Prop := Claim7.holds Tryz.pinned (.plain (OpenSpec.upto topOldSpec)) topOldUptoCard

/-- THE SECOND FORM's CARD OF 'presstop.TopText'. -/
def topTextUptoCard : Claim7 := { stood := { row := topTextUptoRow, standIns := [], harness := (true, "25d874f9fcbfc4f2aac681d2f02a44f8c9c80ee58b9382cd59ad9f467d7f1456"), looks := true }, kinds := [], alts := [], laidByText := true, laidKinds := [.data, .data, .data, .data, .sentinel, .sentinel, .pinned], laidTests := true, laidLooks := .later }
def TopTextUptoCardSaid : Prop := Claim7.holds Tryz.pinned (.plain (OpenSpec.upto topTextSpec)) topTextUptoCard

/-- THE SECOND FORM's CARD OF 'presstop.TopUser'. -/
def topUserUptoCard : Claim7 := { stood := { row := topUserUptoRow, standIns := [], harness := (true, "25d874f9fcbfc4f2aac681d2f02a44f8c9c80ee58b9382cd59ad9f467d7f1456"), looks := true }, kinds := [], alts := [], laidByText := true, laidKinds := [.data, .data, .data, .data, .sentinel, .sentinel, .pinned], laidTests := true, laidLooks := .later }
def TopUserUptoCardSaid : Prop := Claim7.holds Tryz.pinned (.plain (OpenSpec.upto topUserSpec)) topUserUptoCard

/-- THE SECOND FORM's CARD OF 'presstop.TopDeep'. -/
def topDeepUptoCard : Claim7 := { stood := { row := topDeepUptoRow, standIns := [], harness := (true, "25d874f9fcbfc4f2aac681d2f02a44f8c9c80ee58b9382cd59ad9f467d7f1456"), looks := true }, kinds := [], alts := [], laidByText := true, laidKinds := [.data, .data, .data, .data, .sentinel, .sentinel, .pinned], laidTests := true, laidLooks := .later }
def TopDeepUptoCardSaid : Prop := Claim7.holds Tryz.pinned (.plain (OpenSpec.upto topDeepSpec)) topDeepUptoCard
end Rows
end Go.Proofs.YtgaoojpakjjdnaaGreatDoor
