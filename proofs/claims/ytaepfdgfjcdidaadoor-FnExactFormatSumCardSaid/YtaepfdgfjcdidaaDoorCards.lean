/-
  DERIVED. GIVEN WITH THE SEED: THE CARDS: each row of YtaepfdgfjcdidaaDoorRows.lean that lists a variable, with what it lists TIED to the program's text (the seventh form; the later family's looks); each row that meets fmt, with fmt's text TOLD by the authors' own Lean function (tested against real Go, not proved from fmt's source: count such statements apart). THE CARD IS WHAT COUNTS. Prove the row's statement (the work); the ties are given (YtaepfdgfjcdidaaDoorTie.lean); close each card by the builder's one call (the guide's Derived/Test/ToyasCard.lean, 'card_holds'). Laid BY PROGRAM, IN A SANDBOX (cutbox-door.mjs). By AI agents, Wed Nov 11 2026. No macro, syntax, notation, axiom, sorry.
-/
import Derived.Test.YtaepfdgfjcdidaaDoorRows
import GoSem.ClaimSeven
namespace Go.Proofs.YtaepfdgfjcdidaaDoor
namespace Rows

/-- THE TIED CARD OF 'laws.FnExactFormatSum'. -/
def fnExactFormatSumCard : Claim7 := { stood := { row := fnExactFormatSumRow, standIns := [], harness := (true, "d22fdbd568db5654df53d4cce7c962c3b733264e42c6c13a0f0bdba3b73a20d1"), looks := false }, kinds := [], alts := [], laidByText := true, laidKinds := [.data, .data, .data], laidTests := true, laidLooks := .later }
def FnExactFormatSumCardSaid : Prop := Claim7.holds Tryd.pinned (.plain (OpenSpec.ofChange fnExactFormatSumSpec)) fnExactFormatSumCard

/-- THE SECOND FORM's CARD OF 'laws.FnExactFormatSum'. -/
def fnExactFormatSumUptoCard : Claim7 := { stood := { row := fnExactFormatSumUptoRow, standIns := [], harness := (true, "d22fdbd568db5654df53d4cce7c962c3b733264e42c6c13a0f0bdba3b73a20d1"), looks := false }, kinds := [], alts := [], laidByText := true, laidKinds := [.data, .data, .data], laidTests := true, laidLooks := .later }
def FnExactFormatSumUptoCardSaid : Prop := Claim7.holds Tryd.pinned (.plain (OpenSpec.upto fnExactFormatSumSpec)) fnExactFormatSumUptoCard
end Rows
end Go.Proofs.YtaepfdgfjcdidaaDoor
