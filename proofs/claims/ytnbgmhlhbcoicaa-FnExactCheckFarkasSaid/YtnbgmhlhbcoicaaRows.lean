/-
  No cell of these rows narrows 'for every input' (looked for: loops, veiled, ifaces, maps, wideKeys, modest, calm, conditions, laid).
  DERIVED. THE GIVEN ROWS OF THIS SEAT. 7 by the template 'for every input the law returns true; each argument reads behind the call as it read before'; 0 by the template 'total and deterministic' (their statements: YtnbgmhlhbcoicaaTotals.lean).
  GIVEN WITH THE SEED: the statements are not yours to turn. If you find one false, say at which input.
  Laid BY PROGRAM, IN A SANDBOX (cutbox-rows.mjs): the forced cells as the released guide's own fill.sh prints them over the translation 998943e5e4c8d485… (all of the seat's roots in one cut). By AI agents, Wed Nov 11 2026. No macro, syntax, notation, axiom, sorry.
-/
import Derived.Test.YtnbgmhlhbcoicaaChecked
import GoSem.Claim
import GoSem.ClaimJoined
import GoSem.ClaimMapViews
import Derived.JoinedTies
import Derived.KernelRfl
namespace Go.Proofs.Ytnbgmhlhbcoicaa
/- THE CELL 'sum', in the pinned program and in every row, IS THE sha256 OF THE DUMP (.gsa) THAT YtnbgmhlhbcoicaaProg.lean LOADS. Nothing in Lean hashes anything: it is a label: what it is worth is what the hold of that sum in a sandbox is worth. -/
noncomputable def Try.pinned : Pinned := { name := "ytnbgmhlhbcoicaa", sum := "998943e5e4c8d485c4ed3f552946dcc9daf4b629ad286fea867b69a107dda72f", checked := Try.checked }
namespace Rows
def none {H : Type} : Left H := { results := [], args := [] }

/-- 'laws.FnFarkas': WHATEVER THE INPUT: true; the input reads as it did. -/
def fnFarkasSpec : ChangeSpec := { name := "fnFarkas", fn := fun _ => fun
  | [d] => { results := [.lit (.bool true)], args := [d] }
  | _ => none }
def fnFarkasRow : OpenClaim := { program := "ytnbgmhlhbcoicaa", sum := "998943e5e4c8d485c4ed3f552946dcc9daf4b629ad286fea867b69a107dda72f", func := "loop.example/g00515/laws.FnFarkas", spec := "fnFarkas", unfollowed := true, recurses := true, apart := false }
def FnFarkasSaid : Prop := fnFarkasRow.holds Try.pinned (OpenSpec.ofChange fnFarkasSpec)

/-- ITS FALSE NEIGHBOUR: 'it returns false'. Refute it at one input. -/
def fnFarkasWrong : ChangeSpec := { name := "fnFarkas", fn := fun _ => fun
  | [d] => { results := [.lit (.bool false)], args := [d] }
  | _ => none }
def FnFarkasWrongFalsely : Prop := fnFarkasRow.holds Try.pinned (OpenSpec.ofChange fnFarkasWrong)

/-- 'laws.FnCombined': WHATEVER THE INPUT: true; the input reads as it did. -/
def fnCombinedSpec : ChangeSpec := { name := "fnCombined", fn := fun _ => fun
  | [d] => { results := [.lit (.bool true)], args := [d] }
  | _ => none }
def fnCombinedRow : OpenClaim := { program := "ytnbgmhlhbcoicaa", sum := "998943e5e4c8d485c4ed3f552946dcc9daf4b629ad286fea867b69a107dda72f", func := "loop.example/g00515/laws.FnCombined", spec := "fnCombined", unfollowed := true, recurses := true, apart := false }
def FnCombinedSaid : Prop := fnCombinedRow.holds Try.pinned (OpenSpec.ofChange fnCombinedSpec)

/-- ITS FALSE NEIGHBOUR: 'it returns false'. Refute it at one input. -/
def fnCombinedWrong : ChangeSpec := { name := "fnCombined", fn := fun _ => fun
  | [d] => { results := [.lit (.bool false)], args := [d] }
  | _ => none }
def FnCombinedWrongFalsely : Prop := fnCombinedRow.holds Try.pinned (OpenSpec.ofChange fnCombinedWrong)

/-- 'laws.FnExactIsConstant': WHATEVER THE INPUT: true; the input reads as it did. -/
def fnExactIsConstantSpec : ChangeSpec := { name := "fnExactIsConstant", fn := fun _ => fun
  | [d] => { results := [.lit (.bool true)], args := [d] }
  | _ => none }
def fnExactIsConstantRow : OpenClaim := { program := "ytnbgmhlhbcoicaa", sum := "998943e5e4c8d485c4ed3f552946dcc9daf4b629ad286fea867b69a107dda72f", func := "loop.example/g00515/laws.FnExactIsConstant", spec := "fnExactIsConstant", unfollowed := true, recurses := true, apart := false }
def FnExactIsConstantSaid : Prop := fnExactIsConstantRow.holds Try.pinned (OpenSpec.ofChange fnExactIsConstantSpec)

/-- ITS FALSE NEIGHBOUR: 'it returns false'. Refute it at one input. -/
def fnExactIsConstantWrong : ChangeSpec := { name := "fnExactIsConstant", fn := fun _ => fun
  | [d] => { results := [.lit (.bool false)], args := [d] }
  | _ => none }
def FnExactIsConstantWrongFalsely : Prop := fnExactIsConstantRow.holds Try.pinned (OpenSpec.ofChange fnExactIsConstantWrong)

/-- 'laws.FnExactCombineRows': WHATEVER THE INPUT: true; the input reads as it did. -/
def fnExactCombineRowsSpec : ChangeSpec := { name := "fnExactCombineRows", fn := fun _ => fun
  | [d1, d2] => { results := [.lit (.bool true)], args := [d1, d2] }
  | _ => none }
def fnExactCombineRowsRow : OpenClaim := { program := "ytnbgmhlhbcoicaa", sum := "998943e5e4c8d485c4ed3f552946dcc9daf4b629ad286fea867b69a107dda72f", func := "loop.example/g00515/laws.FnExactCombineRows", spec := "fnExactCombineRows", unfollowed := true, recurses := true, apart := false }
def FnExactCombineRowsSaid : Prop := fnExactCombineRowsRow.holds Try.pinned (OpenSpec.ofChange fnExactCombineRowsSpec)

/-- ITS FALSE NEIGHBOUR: 'it returns false'. Refute it at one input. -/
def fnExactCombineRowsWrong : ChangeSpec := { name := "fnExactCombineRows", fn := fun _ => fun
  | [d1, d2] => { results := [.lit (.bool false)], args := [d1, d2] }
  | _ => none }
def FnExactCombineRowsWrongFalsely : Prop := fnExactCombineRowsRow.holds Try.pinned (OpenSpec.ofChange fnExactCombineRowsWrong)

/-- 'laws.FnExactCheckFarkas': WHATEVER THE INPUT: true; the input reads as it did. -/
def fnExactCheckFarkasSpec : ChangeSpec := { name := "fnExactCheckFarkas", fn := fun _ => fun
  | [d1, d2, d3] => { results := [.lit (.bool true)], args := [d1, d2, d3] }
  | _ => none }
def fnExactCheckFarkasRow : OpenClaim := { program := "ytnbgmhlhbcoicaa", sum := "998943e5e4c8d485c4ed3f552946dcc9daf4b629ad286fea867b69a107dda72f", func := "loop.example/g00515/laws.FnExactCheckFarkas", spec := "fnExactCheckFarkas", unfollowed := true, recurses := true, apart := false }
def FnExactCheckFarkasSaid : Prop := fnExactCheckFarkasRow.holds Try.pinned (OpenSpec.ofChange fnExactCheckFarkasSpec)

/-- ITS FALSE NEIGHBOUR: 'it returns false'. Refute it at one input. -/
def fnExactCheckFarkasWrong : ChangeSpec := { name := "fnExactCheckFarkas", fn := fun _ => fun
  | [d1, d2, d3] => { results := [.lit (.bool false)], args := [d1, d2, d3] }
  | _ => none }
def FnExactCheckFarkasWrongFalsely : Prop := fnExactCheckFarkasRow.holds Try.pinned (OpenSpec.ofChange fnExactCheckFarkasWrong)

/-- 'laws.FnExactCheckEmpty': WHATEVER THE INPUT: true; the input reads as it did. -/
def fnExactCheckEmptySpec : ChangeSpec := { name := "fnExactCheckEmpty", fn := fun _ => fun
  | [d1, d2] => { results := [.lit (.bool true)], args := [d1, d2] }
  | _ => none }
def fnExactCheckEmptyRow : OpenClaim := { program := "ytnbgmhlhbcoicaa", sum := "998943e5e4c8d485c4ed3f552946dcc9daf4b629ad286fea867b69a107dda72f", func := "loop.example/g00515/laws.FnExactCheckEmpty", spec := "fnExactCheckEmpty", unfollowed := true, recurses := true, apart := false }
def FnExactCheckEmptySaid : Prop := fnExactCheckEmptyRow.holds Try.pinned (OpenSpec.ofChange fnExactCheckEmptySpec)

/-- ITS FALSE NEIGHBOUR: 'it returns false'. Refute it at one input. -/
def fnExactCheckEmptyWrong : ChangeSpec := { name := "fnExactCheckEmpty", fn := fun _ => fun
  | [d1, d2] => { results := [.lit (.bool false)], args := [d1, d2] }
  | _ => none }
def FnExactCheckEmptyWrongFalsely : Prop := fnExactCheckEmptyRow.holds Try.pinned (OpenSpec.ofChange fnExactCheckEmptyWrong)

/-- 'laws.FnExactEqualFarkas': WHATEVER THE INPUT: true; the input reads as it did. -/
def fnExactEqualFarkasSpec : ChangeSpec := { name := "fnExactEqualFarkas", fn := fun _ => fun
  | [d1, d2] => { results := [.lit (.bool true)], args := [d1, d2] }
  | _ => none }
def fnExactEqualFarkasRow : OpenClaim := { program := "ytnbgmhlhbcoicaa", sum := "998943e5e4c8d485c4ed3f552946dcc9daf4b629ad286fea867b69a107dda72f", func := "loop.example/g00515/laws.FnExactEqualFarkas", spec := "fnExactEqualFarkas", apart := false }
def FnExactEqualFarkasSaid : Prop := fnExactEqualFarkasRow.holds Try.pinned (OpenSpec.ofChange fnExactEqualFarkasSpec)

/-- ITS FALSE NEIGHBOUR: 'it returns false'. Refute it at one input. -/
def fnExactEqualFarkasWrong : ChangeSpec := { name := "fnExactEqualFarkas", fn := fun _ => fun
  | [d1, d2] => { results := [.lit (.bool false)], args := [d1, d2] }
  | _ => none }
def FnExactEqualFarkasWrongFalsely : Prop := fnExactEqualFarkasRow.holds Try.pinned (OpenSpec.ofChange fnExactEqualFarkasWrong)

/- THE SECOND FORM. 'bulk': how many values and letters a reading holds, each counted each time it is reached (what is shared counts as often as it is met; a slice's spare places count too). A statement '..UptoSaid' is the law's where the arguments, and the package variables that the reading takes, are together of bulk at most 1048576: NARROWER than '..Said'. Prove '..Said' where nothing that the law and all that it calls make is longer than what came in: it says more and counts as full. Else prove '..UptoSaid'. A law counts once. -/
mutual
def uptoBulk {H : Type} : DataW H → Nat
  | .lit (.string bytes) => bytes.length + 1
  | .lit _ => 1
  | .nil => 1
  | .ptr d => uptoBulk d + 1
  | .slice elems spare => uptoBulkAll elems + uptoBulkAll spare + 1
  | .agg parts => uptoBulkAll parts + 1
  | .iface _ d => uptoBulk d + 1
  | .map entries => uptoBulkEntries entries + 1
  | .held _ => 1
def uptoBulkAll {H : Type} : List (DataW H) → Nat
  | [] => 0
  | d :: r => uptoBulk d + uptoBulkAll r
def uptoBulkEntries {H : Type} : List (Lit × DataW H) → Nat
  | [] => 0
  | x :: r => uptoBulkEntry x + uptoBulkEntries r
def uptoBulkEntry {H : Type} : Lit × DataW H → Nat
  | (.string bytes, d) => bytes.length + uptoBulk d + 1
  | (_, d) => uptoBulk d + 1
 end
def uptoSmall : (H : Type) → List (DataW H) → Bool := fun _ ds => decide (uptoBulkAll ds ≤ 1048576)
def OpenSpec.upto (s : _root_.Go.ChangeSpec) : _root_.Go.OpenSpec := { _root_.Go.OpenSpec.ofChange s with cond := some uptoSmall }

/-- 'laws.FnFarkas', WHERE WHAT IT READS IS OF BULK AT MOST 1048576: true; the input reads as it did. -/
def fnFarkasUptoRow : OpenClaim := { program := "ytnbgmhlhbcoicaa", sum := "998943e5e4c8d485c4ed3f552946dcc9daf4b629ad286fea867b69a107dda72f", func := "loop.example/g00515/laws.FnFarkas", spec := "fnFarkas", unfollowed := true, recurses := true, apart := false, narrowed := true }
def FnFarkasUptoSaid : Prop := fnFarkasUptoRow.holds Try.pinned (OpenSpec.upto fnFarkasSpec)

/-- 'laws.FnCombined', WHERE WHAT IT READS IS OF BULK AT MOST 1048576: true; the input reads as it did. -/
def fnCombinedUptoRow : OpenClaim := { program := "ytnbgmhlhbcoicaa", sum := "998943e5e4c8d485c4ed3f552946dcc9daf4b629ad286fea867b69a107dda72f", func := "loop.example/g00515/laws.FnCombined", spec := "fnCombined", unfollowed := true, recurses := true, apart := false, narrowed := true }
def FnCombinedUptoSaid : Prop := fnCombinedUptoRow.holds Try.pinned (OpenSpec.upto fnCombinedSpec)

/-- 'laws.FnExactIsConstant', WHERE WHAT IT READS IS OF BULK AT MOST 1048576: true; the input reads as it did. -/
def fnExactIsConstantUptoRow : OpenClaim := { program := "ytnbgmhlhbcoicaa", sum := "998943e5e4c8d485c4ed3f552946dcc9daf4b629ad286fea867b69a107dda72f", func := "loop.example/g00515/laws.FnExactIsConstant", spec := "fnExactIsConstant", unfollowed := true, recurses := true, apart := false, narrowed := true }
def FnExactIsConstantUptoSaid : Prop := fnExactIsConstantUptoRow.holds Try.pinned (OpenSpec.upto fnExactIsConstantSpec)

/-- 'laws.FnExactCombineRows', WHERE WHAT IT READS IS OF BULK AT MOST 1048576: true; the input reads as it did. -/
def fnExactCombineRowsUptoRow : OpenClaim := { program := "ytnbgmhlhbcoicaa", sum := "998943e5e4c8d485c4ed3f552946dcc9daf4b629ad286fea867b69a107dda72f", func := "loop.example/g00515/laws.FnExactCombineRows", spec := "fnExactCombineRows", unfollowed := true, recurses := true, apart := false, narrowed := true }
def FnExactCombineRowsUptoSaid : Prop := fnExactCombineRowsUptoRow.holds Try.pinned (OpenSpec.upto fnExactCombineRowsSpec)

/-- 'laws.FnExactCheckFarkas', WHERE WHAT IT READS IS OF BULK AT MOST 1048576: true; the input reads as it did. -/
def fnExactCheckFarkasUptoRow : OpenClaim := { program := "ytnbgmhlhbcoicaa", sum := "998943e5e4c8d485c4ed3f552946dcc9daf4b629ad286fea867b69a107dda72f", func := "loop.example/g00515/laws.FnExactCheckFarkas", spec := "fnExactCheckFarkas", unfollowed := true, recurses := true, apart := false, narrowed := true }
def FnExactCheckFarkasUptoSaid : Prop := fnExactCheckFarkasUptoRow.holds Try.pinned (OpenSpec.upto fnExactCheckFarkasSpec)

/-- 'laws.FnExactCheckEmpty', WHERE WHAT IT READS IS OF BULK AT MOST 1048576: true; the input reads as it did. -/
def fnExactCheckEmptyUptoRow : OpenClaim := { program := "ytnbgmhlhbcoicaa", sum := "998943e5e4c8d485c4ed3f552946dcc9daf4b629ad286fea867b69a107dda72f", func := "loop.example/g00515/laws.FnExactCheckEmpty", spec := "fnExactCheckEmpty", unfollowed := true, recurses := true, apart := false, narrowed := true }
def FnExactCheckEmptyUptoSaid : Prop := fnExactCheckEmptyUptoRow.holds Try.pinned (OpenSpec.upto fnExactCheckEmptySpec)

/-- 'laws.FnExactEqualFarkas', WHERE WHAT IT READS IS OF BULK AT MOST 1048576: true; the input reads as it did. -/
def fnExactEqualFarkasUptoRow : OpenClaim := { program := "ytnbgmhlhbcoicaa", sum := "998943e5e4c8d485c4ed3f552946dcc9daf4b629ad286fea867b69a107dda72f", func := "loop.example/g00515/laws.FnExactEqualFarkas", spec := "fnExactEqualFarkas", apart := false, narrowed := true }
def FnExactEqualFarkasUptoSaid : Prop := fnExactEqualFarkasUptoRow.holds Try.pinned (OpenSpec.upto fnExactEqualFarkasSpec)

end Rows
end Go.Proofs.Ytnbgmhlhbcoicaa
