/-
  DERIVED. GIVEN WITH THE SEED: THE CARDS: each row of YtkeejkpeniinkaaGreatDoorRows.lean that lists a variable, with what it lists TIED to the program's text (the seventh form; the later family's looks); each row that meets fmt, with fmt's text TOLD by the authors' own Lean function (tested against real Go, not proved from fmt's source: count such statements apart). THE CARD IS WHAT COUNTS. Prove the row's statement (the work); the ties are given (YtkeejkpeniinkaaGreatDoorTie.lean); close each card by the builder's one call (the guide's Derived/Test/ToyasCard.lean, 'card_holds'). Laid BY PROGRAM, IN A SANDBOX (cutbox-door.mjs). By AI agents, Wed Nov 11 2026. No macro, syntax, notation, axiom, sorry.
-/
import Derived.Test.YtkeejkpeniinkaaGreatDoorRows
import GoSem.ClaimSeven
namespace Go.Proofs.YtkeejkpeniinkaaGreatDoor
namespace Rows

/-- THE TIED CARD OF 'laws.FnLinText'. -/
def fnLinTextCard : Claim7 := { stood := { row := fnLinTextRow, standIns := [], harness := (true, "c0badfc9bb296496416f84459de50a2eaa50af06a544f3bdb5fb30911c7ee636"), looks := true }, kinds := [], alts := [], laidByText := true, laidKinds := [.data, .data, .data, .data, .sentinel, .sentinel, .sentinel, .pinned], laidTests := true, laidLooks := .later }
def FnLinTextCardSaid : Prop := Claim7.holds Tryz.pinned (.plain (OpenSpec.ofChange fnLinTextSpec)) fnLinTextCard

/-- THE TIED CARD OF 'laws.FnExactParseLin'. -/
def fnExactParseLinCard : Claim7 := { stood := { row := fnExactParseLinRow, standIns := [], harness := (true, "c0badfc9bb296496416f84459de50a2eaa50af06a544f3bdb5fb30911c7ee636"), looks := true }, kinds := [], alts := [], laidByText := true, laidKinds := [.data, .data, .data, .data, .sentinel, .sentinel, .sentinel, .pinned], laidTests := true, laidLooks := .later }
def FnExactParseLinCardSaid : Prop := Claim7.holds Tryz.pinned (.plain (OpenSpec.ofChange fnExactParseLinSpec)) fnExactParseLinCard

/-- THE TIED CARD OF 'laws.FnExactParseConstraint'. -/
def fnExactParseConstraintCard : Claim7 := { stood := { row := fnExactParseConstraintRow, standIns := [], harness := (true, "c0badfc9bb296496416f84459de50a2eaa50af06a544f3bdb5fb30911c7ee636"), looks := true }, kinds := [], alts := [], laidByText := true, laidKinds := [.data, .data, .data, .data, .sentinel, .sentinel, .sentinel, .pinned], laidTests := true, laidLooks := .later }
def FnExactParseConstraintCardSaid : Prop := Claim7.holds Tryz.pinned (.plain (OpenSpec.ofChange fnExactParseConstraintSpec)) fnExactParseConstraintCard

/-- THE SECOND FORM's CARD OF 'laws.FnLinText'. -/
def fnLinTextUptoCard : Claim7 := { stood := { row := fnLinTextUptoRow, standIns := [], harness := (true, "c0badfc9bb296496416f84459de50a2eaa50af06a544f3bdb5fb30911c7ee636"), looks := true }, kinds := [], alts := [], laidByText := true, laidKinds := [.data, .data, .data, .data, .sentinel, .sentinel, .sentinel, .pinned], laidTests := true, laidLooks := .later }
def FnLinTextUptoCardSaid : Prop := Claim7.holds Tryz.pinned (.plain (OpenSpec.upto fnLinTextSpec)) fnLinTextUptoCard

/-- THE SECOND FORM's CARD OF 'laws.FnExactParseLin'. -/
def fnExactParseLinUptoCard : Claim7 := { stood := { row := fnExactParseLinUptoRow, standIns := [], harness := (true, "c0badfc9bb296496416f84459de50a2eaa50af06a544f3bdb5fb30911c7ee636"), looks := true }, kinds := [], alts := [], laidByText := true, laidKinds := [.data, .data, .data, .data, .sentinel, .sentinel, .sentinel, .pinned], laidTests := true, laidLooks := .later }
def FnExactParseLinUptoCardSaid : Prop := Claim7.holds Tryz.pinned (.plain (OpenSpec.upto fnExactParseLinSpec)) fnExactParseLinUptoCard

/-- THE SECOND FORM's CARD OF 'laws.FnExactParseConstraint'. -/
def fnExactParseConstraintUptoCard : Claim7 := { stood := { row := fnExactParseConstraintUptoRow, standIns := [], harness := (true, "c0badfc9bb296496416f84459de50a2eaa50af06a544f3bdb5fb30911c7ee636"), looks := true }, kinds := [], alts := [], laidByText := true, laidKinds := [.data, .data, .data, .data, .sentinel, .sentinel, .sentinel, .pinned], laidTests := true, laidLooks := .later }
def FnExactParseConstraintUptoCardSaid : Prop := Claim7.holds Tryz.pinned (.plain (OpenSpec.upto fnExactParseConstraintSpec)) fnExactParseConstraintUptoCard
end Rows
end Go.Proofs.YtkeejkpeniinkaaGreatDoor
