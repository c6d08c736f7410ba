/-
  DERIVED. GIVEN WITH THE SEED: THE CARDS: each row of YtkeejkpeniinkaaDoorRows.lean that lists a variable, with what it lists TIED to the program's text (the seventh form; the later family's looks); each row that meets fmt, with fmt's text TOLD by the authors' own Lean function (tested against real Go, not proved from fmt's source: count such statements apart). THE CARD IS WHAT COUNTS. Prove the row's statement (the work); the ties are given (YtkeejkpeniinkaaDoorTie.lean); close each card by the builder's one call (the guide's Derived/Test/ToyasCard.lean, 'card_holds'). Laid BY PROGRAM, IN A SANDBOX (cutbox-door.mjs). By AI agents, Wed Nov 11 2026. No macro, syntax, notation, axiom, sorry.
-/
import Derived.Test.YtkeejkpeniinkaaDoorRows
import GoSem.ClaimSeven
namespace Go.Proofs.YtkeejkpeniinkaaDoor
namespace Rows

/-- THE TIED CARD OF 'laws.FnExactFormatLin'. -/
def fnExactFormatLinCard : Claim7 := { stood := { row := fnExactFormatLinRow, standIns := [], harness := (true, "b7ef9ea44a9e4d3830e388aec6cf4717f5f65c6d1ccb0f13542eebfc68f6105f"), looks := false }, kinds := [], alts := [], laidByText := true, laidKinds := [.data, .data, .data], laidTests := true, laidLooks := .later }
def FnExactFormatLinCardSaid : Prop := Claim7.holds Tryd.pinned (.plain (OpenSpec.ofChange fnExactFormatLinSpec)) fnExactFormatLinCard

/-- THE TIED CARD OF 'laws.FnExactFormatConstraint'. -/
def fnExactFormatConstraintCard : Claim7 := { stood := { row := fnExactFormatConstraintRow, standIns := [], harness := (true, "b7ef9ea44a9e4d3830e388aec6cf4717f5f65c6d1ccb0f13542eebfc68f6105f"), looks := false }, kinds := [], alts := [], laidByText := true, laidKinds := [.data, .data, .data], laidTests := true, laidLooks := .later }
def FnExactFormatConstraintCardSaid : Prop := Claim7.holds Tryd.pinned (.plain (OpenSpec.ofChange fnExactFormatConstraintSpec)) fnExactFormatConstraintCard

/-- THE SECOND FORM's CARD OF 'laws.FnExactFormatLin'. -/
def fnExactFormatLinUptoCard : Claim7 := { stood := { row := fnExactFormatLinUptoRow, standIns := [], harness := (true, "b7ef9ea44a9e4d3830e388aec6cf4717f5f65c6d1ccb0f13542eebfc68f6105f"), looks := false }, kinds := [], alts := [], laidByText := true, laidKinds := [.data, .data, .data], laidTests := true, laidLooks := .later }
def FnExactFormatLinUptoCardSaid : Prop := Claim7.holds Tryd.pinned (.plain (OpenSpec.upto fnExactFormatLinSpec)) fnExactFormatLinUptoCard

/-- THE SECOND FORM's CARD OF 'laws.FnExactFormatConstraint'. -/
def fnExactFormatConstraintUptoCard : Claim7 := { stood := { row := fnExactFormatConstraintUptoRow, standIns := [], harness := (true, "b7ef9ea44a9e4d3830e388aec6cf4717f5f65c6d1ccb0f13542eebfc68f6105f"), looks := false }, kinds := [], alts := [], laidByText := true, laidKinds := [.data, .data, .data], laidTests := true, laidLooks := .later }
def FnExactFormatConstraintUptoCardSaid : Prop := Claim7.holds Tryd.pinned (.plain (OpenSpec.upto fnExactFormatConstraintSpec)) fnExactFormatConstraintUptoCard
end Rows
end Go.Proofs.YtkeejkpeniinkaaDoor
