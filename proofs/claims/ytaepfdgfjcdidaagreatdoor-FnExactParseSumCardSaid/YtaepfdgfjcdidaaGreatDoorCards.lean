/-
  DERIVED. GIVEN WITH THE SEED: THE CARDS: each row of YtaepfdgfjcdidaaGreatDoorRows.lean that lists a variable, with what it lists TIED to the program's text (the seventh form; the later family's looks); each row that meets fmt, with fmt's text TOLD by the authors' own Lean function (tested against real Go, not proved from fmt's source: count such statements apart). THE CARD IS WHAT COUNTS. Prove the row's statement (the work); the ties are given (YtaepfdgfjcdidaaGreatDoorTie.lean); close each card by the builder's one call (the guide's Derived/Test/ToyasCard.lean, 'card_holds'). Laid BY PROGRAM, IN A SANDBOX (cutbox-door.mjs). By AI agents, Wed Nov 11 2026. No macro, syntax, notation, axiom, sorry.
-/
import Derived.Test.YtaepfdgfjcdidaaGreatDoorRows
import GoSem.ClaimSeven
namespace Go.Proofs.YtaepfdgfjcdidaaGreatDoor
namespace Rows

/-- THE TIED CARD OF 'laws.FnArgs'. -/
def fnArgsCard : Claim7 := { stood := { row := fnArgsRow, standIns := [], harness := (true, "9f2e0584fe6ea7b72f2ace26d92c4302cc6670b883ea50a9c6ecec8819f545f1"), looks := true }, kinds := [], alts := [], laidByText := true, laidKinds := [.data, .data, .data, .data, .sentinel, .sentinel, .sentinel, .pinned], laidTests := true, laidLooks := .later }
def FnArgsCardSaid : Prop := Claim7.holds Tryz.pinned (.plain (OpenSpec.ofChange fnArgsSpec)) fnArgsCard

/-- THE TIED CARD OF 'laws.FnSums'. -/
def fnSumsCard : Claim7 := { stood := { row := fnSumsRow, standIns := [], harness := (true, "9f2e0584fe6ea7b72f2ace26d92c4302cc6670b883ea50a9c6ecec8819f545f1"), looks := true }, kinds := [], alts := [], laidByText := true, laidKinds := [.data, .data, .data, .data, .sentinel, .sentinel, .sentinel, .pinned], laidTests := true, laidLooks := .later }
def FnSumsCardSaid : Prop := Claim7.holds Tryz.pinned (.plain (OpenSpec.ofChange fnSumsSpec)) fnSumsCard

/-- THE TIED CARD OF 'laws.FnExactParseSum'. -/
def fnExactParseSumCard : Claim7 := { stood := { row := fnExactParseSumRow, standIns := [], harness := (true, "9f2e0584fe6ea7b72f2ace26d92c4302cc6670b883ea50a9c6ecec8819f545f1"), looks := true }, kinds := [], alts := [], laidByText := true, laidKinds := [.data, .data, .data, .data, .sentinel, .sentinel, .sentinel, .pinned], laidTests := true, laidLooks := .later }
def FnExactParseSumCardSaid : Prop := Claim7.holds Tryz.pinned (.plain (OpenSpec.ofChange fnExactParseSumSpec)) fnExactParseSumCard

/-- THE TIED CARD OF 'laws.FnExactParseArg'. -/
def fnExactParseArgCard : Claim7 := { stood := { row := fnExactParseArgRow, standIns := [], harness := (true, "9f2e0584fe6ea7b72f2ace26d92c4302cc6670b883ea50a9c6ecec8819f545f1"), looks := true }, kinds := [], alts := [], laidByText := true, laidKinds := [.data, .data, .data, .data, .sentinel, .sentinel, .sentinel, .pinned], laidTests := true, laidLooks := .later }
def FnExactParseArgCardSaid : Prop := Claim7.holds Tryz.pinned (.plain (OpenSpec.ofChange fnExactParseArgSpec)) fnExactParseArgCard

/-- THE SECOND FORM's CARD OF 'laws.FnArgs'. -/
def fnArgsUptoCard : Claim7 := { stood := { row := fnArgsUptoRow, standIns := [], harness := (true, "9f2e0584fe6ea7b72f2ace26d92c4302cc6670b883ea50a9c6ecec8819f545f1"), looks := true }, kinds := [], alts := [], laidByText := true, laidKinds := [.data, .data, .data, .data, .sentinel, .sentinel, .sentinel, .pinned], laidTests := true, laidLooks := .later }
def FnArgsUptoCardSaid : Prop := Claim7.holds Tryz.pinned (.plain (OpenSpec.upto fnArgsSpec)) fnArgsUptoCard

/-- THE SECOND FORM's CARD OF 'laws.FnSums'. -/
def fnSumsUptoCard : Claim7 := { stood := { row := fnSumsUptoRow, standIns := [], harness := (true, "9f2e0584fe6ea7b72f2ace26d92c4302cc6670b883ea50a9c6ecec8819f545f1"), looks := true }, kinds := [], alts := [], laidByText := true, laidKinds := [.data, .data, .data, .data, .sentinel, .sentinel, .sentinel, .pinned], laidTests := true, laidLooks := .later }
def FnSumsUptoCardSaid : Prop := Claim7.holds Tryz.pinned (.plain (OpenSpec.upto fnSumsSpec)) fnSumsUptoCard

/-- THE SECOND FORM's CARD OF 'laws.FnExactParseSum'. -/
def fnExactParseSumUptoCard : Claim7 := { stood := { row := fnExactParseSumUptoRow, standIns := [], harness := (true, "9f2e0584fe6ea7b72f2ace26d92c4302cc6670b883ea50a9c6ecec8819f545f1"), looks := true }, kinds := [], alts := [], laidByText := true, laidKinds := [.data, .data, .data, .data, .sentinel, .sentinel, .sentinel, .pinned], laidTests := true, laidLooks := .later }
def FnExactParseSumUptoCardSaid : Prop := Claim7.holds Tryz.pinned (.plain (OpenSpec.upto fnExactParseSumSpec)) fnExactParseSumUptoCard

/-- THE SECOND FORM's CARD OF 'laws.FnExactParseArg'. -/
def fnExactParseArgUptoCard : Claim7 := { stood := { row := fnExactParseArgUptoRow, standIns := [], harness := (true, "9f2e0584fe6ea7b72f2ace26d92c4302cc6670b883ea50a9c6ecec8819f545f1"), looks := true }, kinds := [], alts := [], laidByText := true, laidKinds := [.data, .data, .data, .data, .sentinel, .sentinel, .sentinel, .pinned], laidTests := true, laidLooks := .later }
def FnExactParseArgUptoCardSaid : Prop := Claim7.holds Tryz.pinned (.plain (OpenSpec.upto fnExactParseArgSpec)) fnExactParseArgUptoCard
end Rows
end Go.Proofs.YtaepfdgfjcdidaaGreatDoor
