/-
  No cell of these rows narrows 'for every input' (looked for: loops, veiled, ifaces, maps, wideKeys, modest, calm, conditions, laid).
  DERIVED. THE GIVEN ROWS OF THIS SEAT. 10 by the template 'for every input the law returns true; each argument reads behind the call as it read before'; 0 by the template 'total and deterministic' (their statements: YtjhjbnfdnecidaaTotals.lean).
  GIVEN WITH THE SEED: the statements are not yours to turn. If you find one false, say at which input.
  Laid BY PROGRAM, IN A SANDBOX (cutbox-rows.mjs): the forced cells as the released guide's own fill.sh prints them over the translation bf07bbdbf9f410a4… (all of the seat's roots in one cut). By AI agents, Wed Nov 11 2026. No macro, syntax, notation, axiom, sorry.
-/
import Derived.Test.YtjhjbnfdnecidaaChecked
import GoSem.Claim
import GoSem.ClaimJoined
import GoSem.ClaimMapViews
import Derived.JoinedTies
import Derived.KernelRfl
namespace Go.Proofs.Ytjhjbnfdnecidaa
/- THE CELL 'sum', in the pinned program and in every row, IS THE sha256 OF THE DUMP (.gsa) THAT YtjhjbnfdnecidaaProg.lean LOADS. Nothing in Lean hashes anything: it is a label: what it is worth is what the hold of that sum in a sandbox is worth. -/
noncomputable def Try.pinned : Pinned := { name := "ytjhjbnfdnecidaa", sum := "bf07bbdbf9f410a4c57e74417f65e492f320ec4dd1a506627d8b5965a8dc6ebb", checked := Try.checked }
namespace Rows
def none {H : Type} : Left H := { results := [], args := [] }

/-- 'laws.FnLinear': WHATEVER THE INPUT: true; the input reads as it did. -/
def fnLinearSpec : ChangeSpec := { name := "fnLinear", fn := fun _ => fun
  | [d] => { results := [.lit (.bool true)], args := [d] }
  | _ => none }
def fnLinearRow : OpenClaim := { program := "ytjhjbnfdnecidaa", sum := "bf07bbdbf9f410a4c57e74417f65e492f320ec4dd1a506627d8b5965a8dc6ebb", func := "loop.example/g00515/laws.FnLinear", spec := "fnLinear", unfollowed := true, recurses := true, apart := false }
def FnLinearSaid : Prop := fnLinearRow.holds Try.pinned (OpenSpec.ofChange fnLinearSpec)

/-- ITS FALSE NEIGHBOUR: 'it returns false'. Refute it at one input. -/
def fnLinearWrong : ChangeSpec := { name := "fnLinear", fn := fun _ => fun
  | [d] => { results := [.lit (.bool false)], args := [d] }
  | _ => none }
def FnLinearWrongFalsely : Prop := fnLinearRow.holds Try.pinned (OpenSpec.ofChange fnLinearWrong)

/-- 'laws.FnTightened': WHATEVER THE INPUT: true; the input reads as it did. -/
def fnTightenedSpec : ChangeSpec := { name := "fnTightened", fn := fun _ => fun
  | [d] => { results := [.lit (.bool true)], args := [d] }
  | _ => none }
def fnTightenedRow : OpenClaim := { program := "ytjhjbnfdnecidaa", sum := "bf07bbdbf9f410a4c57e74417f65e492f320ec4dd1a506627d8b5965a8dc6ebb", func := "loop.example/g00515/laws.FnTightened", spec := "fnTightened", apart := false }
def FnTightenedSaid : Prop := fnTightenedRow.holds Try.pinned (OpenSpec.ofChange fnTightenedSpec)

/-- ITS FALSE NEIGHBOUR: 'it returns false'. Refute it at one input. -/
def fnTightenedWrong : ChangeSpec := { name := "fnTightened", fn := fun _ => fun
  | [d] => { results := [.lit (.bool false)], args := [d] }
  | _ => none }
def FnTightenedWrongFalsely : Prop := fnTightenedRow.holds Try.pinned (OpenSpec.ofChange fnTightenedWrong)

/-- 'laws.FnSimpleLins': WHATEVER THE INPUT: true; the input reads as it did. -/
def fnSimpleLinsSpec : ChangeSpec := { name := "fnSimpleLins", fn := fun _ => fun
  | [d] => { results := [.lit (.bool true)], args := [d] }
  | _ => none }
def fnSimpleLinsRow : OpenClaim := { program := "ytjhjbnfdnecidaa", sum := "bf07bbdbf9f410a4c57e74417f65e492f320ec4dd1a506627d8b5965a8dc6ebb", func := "loop.example/g00515/laws.FnSimpleLins", spec := "fnSimpleLins", apart := false }
def FnSimpleLinsSaid : Prop := fnSimpleLinsRow.holds Try.pinned (OpenSpec.ofChange fnSimpleLinsSpec)

/-- ITS FALSE NEIGHBOUR: 'it returns false'. Refute it at one input. -/
def fnSimpleLinsWrong : ChangeSpec := { name := "fnSimpleLins", fn := fun _ => fun
  | [d] => { results := [.lit (.bool false)], args := [d] }
  | _ => none }
def FnSimpleLinsWrongFalsely : Prop := fnSimpleLinsRow.holds Try.pinned (OpenSpec.ofChange fnSimpleLinsWrong)

/-- 'laws.FnExactIsValidLin': WHATEVER THE INPUT: true; the input reads as it did. -/
def fnExactIsValidLinSpec : ChangeSpec := { name := "fnExactIsValidLin", fn := fun _ => fun
  | [d1, d2] => { results := [.lit (.bool true)], args := [d1, d2] }
  | _ => none }
def fnExactIsValidLinRow : OpenClaim := { program := "ytjhjbnfdnecidaa", sum := "bf07bbdbf9f410a4c57e74417f65e492f320ec4dd1a506627d8b5965a8dc6ebb", func := "loop.example/g00515/laws.FnExactIsValidLin", spec := "fnExactIsValidLin", apart := false }
def FnExactIsValidLinSaid : Prop := fnExactIsValidLinRow.holds Try.pinned (OpenSpec.ofChange fnExactIsValidLinSpec)

/-- ITS FALSE NEIGHBOUR: 'it returns false'. Refute it at one input. -/
def fnExactIsValidLinWrong : ChangeSpec := { name := "fnExactIsValidLin", fn := fun _ => fun
  | [d1, d2] => { results := [.lit (.bool false)], args := [d1, d2] }
  | _ => none }
def FnExactIsValidLinWrongFalsely : Prop := fnExactIsValidLinRow.holds Try.pinned (OpenSpec.ofChange fnExactIsValidLinWrong)

/-- 'laws.FnExactConstLin': WHATEVER THE INPUT: true; the input reads as it did. -/
def fnExactConstLinSpec : ChangeSpec := { name := "fnExactConstLin", fn := fun _ => fun
  | [d1, d2] => { results := [.lit (.bool true)], args := [d1, d2] }
  | _ => none }
def fnExactConstLinRow : OpenClaim := { program := "ytjhjbnfdnecidaa", sum := "bf07bbdbf9f410a4c57e74417f65e492f320ec4dd1a506627d8b5965a8dc6ebb", func := "loop.example/g00515/laws.FnExactConstLin", spec := "fnExactConstLin", apart := false }
def FnExactConstLinSaid : Prop := fnExactConstLinRow.holds Try.pinned (OpenSpec.ofChange fnExactConstLinSpec)

/-- ITS FALSE NEIGHBOUR: 'it returns false'. Refute it at one input. -/
def fnExactConstLinWrong : ChangeSpec := { name := "fnExactConstLin", fn := fun _ => fun
  | [d1, d2] => { results := [.lit (.bool false)], args := [d1, d2] }
  | _ => none }
def FnExactConstLinWrongFalsely : Prop := fnExactConstLinRow.holds Try.pinned (OpenSpec.ofChange fnExactConstLinWrong)

/-- 'laws.FnExactVarLin': WHATEVER THE INPUT: true; the input reads as it did. -/
def fnExactVarLinSpec : ChangeSpec := { name := "fnExactVarLin", fn := fun _ => fun
  | [d1, d2] => { results := [.lit (.bool true)], args := [d1, d2] }
  | _ => none }
def fnExactVarLinRow : OpenClaim := { program := "ytjhjbnfdnecidaa", sum := "bf07bbdbf9f410a4c57e74417f65e492f320ec4dd1a506627d8b5965a8dc6ebb", func := "loop.example/g00515/laws.FnExactVarLin", spec := "fnExactVarLin", apart := false }
def FnExactVarLinSaid : Prop := fnExactVarLinRow.holds Try.pinned (OpenSpec.ofChange fnExactVarLinSpec)

/-- ITS FALSE NEIGHBOUR: 'it returns false'. Refute it at one input. -/
def fnExactVarLinWrong : ChangeSpec := { name := "fnExactVarLin", fn := fun _ => fun
  | [d1, d2] => { results := [.lit (.bool false)], args := [d1, d2] }
  | _ => none }
def FnExactVarLinWrongFalsely : Prop := fnExactVarLinRow.holds Try.pinned (OpenSpec.ofChange fnExactVarLinWrong)

/-- 'laws.FnExactAddScaled': WHATEVER THE INPUT: true; the input reads as it did. -/
def fnExactAddScaledSpec : ChangeSpec := { name := "fnExactAddScaled", fn := fun _ => fun
  | [d1, d2, d3] => { results := [.lit (.bool true)], args := [d1, d2, d3] }
  | _ => none }
def fnExactAddScaledRow : OpenClaim := { program := "ytjhjbnfdnecidaa", sum := "bf07bbdbf9f410a4c57e74417f65e492f320ec4dd1a506627d8b5965a8dc6ebb", func := "loop.example/g00515/laws.FnExactAddScaled", spec := "fnExactAddScaled", unfollowed := true, recurses := true, apart := false }
def FnExactAddScaledSaid : Prop := fnExactAddScaledRow.holds Try.pinned (OpenSpec.ofChange fnExactAddScaledSpec)

/-- ITS FALSE NEIGHBOUR: 'it returns false'. Refute it at one input. -/
def fnExactAddScaledWrong : ChangeSpec := { name := "fnExactAddScaled", fn := fun _ => fun
  | [d1, d2, d3] => { results := [.lit (.bool false)], args := [d1, d2, d3] }
  | _ => none }
def FnExactAddScaledWrongFalsely : Prop := fnExactAddScaledRow.holds Try.pinned (OpenSpec.ofChange fnExactAddScaledWrong)

/-- 'laws.FnExactEvalLin': WHATEVER THE INPUT: true; the input reads as it did. -/
def fnExactEvalLinSpec : ChangeSpec := { name := "fnExactEvalLin", fn := fun _ => fun
  | [d1, d2] => { results := [.lit (.bool true)], args := [d1, d2] }
  | _ => none }
def fnExactEvalLinRow : OpenClaim := { program := "ytjhjbnfdnecidaa", sum := "bf07bbdbf9f410a4c57e74417f65e492f320ec4dd1a506627d8b5965a8dc6ebb", func := "loop.example/g00515/laws.FnExactEvalLin", spec := "fnExactEvalLin", apart := false }
def FnExactEvalLinSaid : Prop := fnExactEvalLinRow.holds Try.pinned (OpenSpec.ofChange fnExactEvalLinSpec)

/-- ITS FALSE NEIGHBOUR: 'it returns false'. Refute it at one input. -/
def fnExactEvalLinWrong : ChangeSpec := { name := "fnExactEvalLin", fn := fun _ => fun
  | [d1, d2] => { results := [.lit (.bool false)], args := [d1, d2] }
  | _ => none }
def FnExactEvalLinWrongFalsely : Prop := fnExactEvalLinRow.holds Try.pinned (OpenSpec.ofChange fnExactEvalLinWrong)

/-- 'laws.FnExactTightenLin': WHATEVER THE INPUT: true; the input reads as it did. -/
def fnExactTightenLinSpec : ChangeSpec := { name := "fnExactTightenLin", fn := fun _ => fun
  | [d] => { results := [.lit (.bool true)], args := [d] }
  | _ => none }
def fnExactTightenLinRow : OpenClaim := { program := "ytjhjbnfdnecidaa", sum := "bf07bbdbf9f410a4c57e74417f65e492f320ec4dd1a506627d8b5965a8dc6ebb", func := "loop.example/g00515/laws.FnExactTightenLin", spec := "fnExactTightenLin", apart := false }
def FnExactTightenLinSaid : Prop := fnExactTightenLinRow.holds Try.pinned (OpenSpec.ofChange fnExactTightenLinSpec)

/-- ITS FALSE NEIGHBOUR: 'it returns false'. Refute it at one input. -/
def fnExactTightenLinWrong : ChangeSpec := { name := "fnExactTightenLin", fn := fun _ => fun
  | [d] => { results := [.lit (.bool false)], args := [d] }
  | _ => none }
def FnExactTightenLinWrongFalsely : Prop := fnExactTightenLinRow.holds Try.pinned (OpenSpec.ofChange fnExactTightenLinWrong)

/-- 'laws.FnExactEqualLin': WHATEVER THE INPUT: true; the input reads as it did. -/
def fnExactEqualLinSpec : ChangeSpec := { name := "fnExactEqualLin", fn := fun _ => fun
  | [d1, d2] => { results := [.lit (.bool true)], args := [d1, d2] }
  | _ => none }
def fnExactEqualLinRow : OpenClaim := { program := "ytjhjbnfdnecidaa", sum := "bf07bbdbf9f410a4c57e74417f65e492f320ec4dd1a506627d8b5965a8dc6ebb", func := "loop.example/g00515/laws.FnExactEqualLin", spec := "fnExactEqualLin", apart := false }
def FnExactEqualLinSaid : Prop := fnExactEqualLinRow.holds Try.pinned (OpenSpec.ofChange fnExactEqualLinSpec)

/-- ITS FALSE NEIGHBOUR: 'it returns false'. Refute it at one input. -/
def fnExactEqualLinWrong : ChangeSpec := { name := "fnExactEqualLin", fn := fun _ => fun
  | [d1, d2] => { results := [.lit (.bool false)], args := [d1, d2] }
  | _ => none }
def FnExactEqualLinWrongFalsely : Prop := fnExactEqualLinRow.holds Try.pinned (OpenSpec.ofChange fnExactEqualLinWrong)

/- THE SECOND FORM. 'bulk': how many values and letters a reading holds, each counted each time it is reached (what is shared counts as often as it is met; a slice's spare places count too). A statement '..UptoSaid' is the law's where the arguments, and the package variables that the reading takes, are together of bulk at most 1048576: NARROWER than '..Said'. Prove '..Said' where nothing that the law and all that it calls make is longer than what came in: it says more and counts as full. Else prove '..UptoSaid'. A law counts once. -/
mutual
def uptoBulk {H : Type} : DataW H → Nat
  | .lit (.string bytes) => bytes.length + 1
  | .lit _ => 1
  | .nil => 1
  | .ptr d => uptoBulk d + 1
  | .slice elems spare => uptoBulkAll elems + uptoBulkAll spare + 1
  | .agg parts => uptoBulkAll parts + 1
  | .iface _ d => uptoBulk d + 1
  | .map entries => uptoBulkEntries entries + 1
  | .held _ => 1
def uptoBulkAll {H : Type} : List (DataW H) → Nat
  | [] => 0
  | d :: r => uptoBulk d + uptoBulkAll r
def uptoBulkEntries {H : Type} : List (Lit × DataW H) → Nat
  | [] => 0
  | x :: r => uptoBulkEntry x + uptoBulkEntries r
def uptoBulkEntry {H : Type} : Lit × DataW H → Nat
  | (.string bytes, d) => bytes.length + uptoBulk d + 1
  | (_, d) => uptoBulk d + 1
 end
def uptoSmall : (H : Type) → List (DataW H) → Bool := fun _ ds => decide (uptoBulkAll ds ≤ 1048576)
def OpenSpec.upto (s : _root_.Go.ChangeSpec) : _root_.Go.OpenSpec := { _root_.Go.OpenSpec.ofChange s with cond := some uptoSmall }

/-- 'laws.FnLinear', WHERE WHAT IT READS IS OF BULK AT MOST 1048576: true; the input reads as it did. -/
def fnLinearUptoRow : OpenClaim := { program := "ytjhjbnfdnecidaa", sum := "bf07bbdbf9f410a4c57e74417f65e492f320ec4dd1a506627d8b5965a8dc6ebb", func := "loop.example/g00515/laws.FnLinear", spec := "fnLinear", unfollowed := true, recurses := true, apart := false, narrowed := true }
def FnLinearUptoSaid : Prop := fnLinearUptoRow.holds Try.pinned (OpenSpec.upto fnLinearSpec)

/-- 'laws.FnTightened', WHERE WHAT IT READS IS OF BULK AT MOST 1048576: true; the input reads as it did. -/
def fnTightenedUptoRow : OpenClaim := { program := "ytjhjbnfdnecidaa", sum := "bf07bbdbf9f410a4c57e74417f65e492f320ec4dd1a506627d8b5965a8dc6ebb", func := "loop.example/g00515/laws.FnTightened", spec := "fnTightened", apart := false, narrowed := true }
def FnTightenedUptoSaid : Prop := fnTightenedUptoRow.holds Try.pinned (OpenSpec.upto fnTightenedSpec)

/-- 'laws.FnSimpleLins', WHERE WHAT IT READS IS OF BULK AT MOST 1048576: true; the input reads as it did. -/
def fnSimpleLinsUptoRow : OpenClaim := { program := "ytjhjbnfdnecidaa", sum := "bf07bbdbf9f410a4c57e74417f65e492f320ec4dd1a506627d8b5965a8dc6ebb", func := "loop.example/g00515/laws.FnSimpleLins", spec := "fnSimpleLins", apart := false, narrowed := true }
def FnSimpleLinsUptoSaid : Prop := fnSimpleLinsUptoRow.holds Try.pinned (OpenSpec.upto fnSimpleLinsSpec)

/-- 'laws.FnExactIsValidLin', WHERE WHAT IT READS IS OF BULK AT MOST 1048576: true; the input reads as it did. -/
def fnExactIsValidLinUptoRow : OpenClaim := { program := "ytjhjbnfdnecidaa", sum := "bf07bbdbf9f410a4c57e74417f65e492f320ec4dd1a506627d8b5965a8dc6ebb", func := "loop.example/g00515/laws.FnExactIsValidLin", spec := "fnExactIsValidLin", apart := false, narrowed := true }
def FnExactIsValidLinUptoSaid : Prop := fnExactIsValidLinUptoRow.holds Try.pinned (OpenSpec.upto fnExactIsValidLinSpec)

/-- 'laws.FnExactConstLin', WHERE WHAT IT READS IS OF BULK AT MOST 1048576: true; the input reads as it did. -/
def fnExactConstLinUptoRow : OpenClaim := { program := "ytjhjbnfdnecidaa", sum := "bf07bbdbf9f410a4c57e74417f65e492f320ec4dd1a506627d8b5965a8dc6ebb", func := "loop.example/g00515/laws.FnExactConstLin", spec := "fnExactConstLin", apart := false, narrowed := true }
def FnExactConstLinUptoSaid : Prop := fnExactConstLinUptoRow.holds Try.pinned (OpenSpec.upto fnExactConstLinSpec)

/-- 'laws.FnExactVarLin', WHERE WHAT IT READS IS OF BULK AT MOST 1048576: true; the input reads as it did. -/
def fnExactVarLinUptoRow : OpenClaim := { program := "ytjhjbnfdnecidaa", sum := "bf07bbdbf9f410a4c57e74417f65e492f320ec4dd1a506627d8b5965a8dc6ebb", func := "loop.example/g00515/laws.FnExactVarLin", spec := "fnExactVarLin", apart := false, narrowed := true }
def FnExactVarLinUptoSaid : Prop := fnExactVarLinUptoRow.holds Try.pinned (OpenSpec.upto fnExactVarLinSpec)

/-- 'laws.FnExactAddScaled', WHERE WHAT IT READS IS OF BULK AT MOST 1048576: true; the input reads as it did. -/
def fnExactAddScaledUptoRow : OpenClaim := { program := "ytjhjbnfdnecidaa", sum := "bf07bbdbf9f410a4c57e74417f65e492f320ec4dd1a506627d8b5965a8dc6ebb", func := "loop.example/g00515/laws.FnExactAddScaled", spec := "fnExactAddScaled", unfollowed := true, recurses := true, apart := false, narrowed := true }
def FnExactAddScaledUptoSaid : Prop := fnExactAddScaledUptoRow.holds Try.pinned (OpenSpec.upto fnExactAddScaledSpec)

/-- 'laws.FnExactEvalLin', WHERE WHAT IT READS IS OF BULK AT MOST 1048576: true; the input reads as it did. -/
def fnExactEvalLinUptoRow : OpenClaim := { program := "ytjhjbnfdnecidaa", sum := "bf07bbdbf9f410a4c57e74417f65e492f320ec4dd1a506627d8b5965a8dc6ebb", func := "loop.example/g00515/laws.FnExactEvalLin", spec := "fnExactEvalLin", apart := false, narrowed := true }
def FnExactEvalLinUptoSaid : Prop := fnExactEvalLinUptoRow.holds Try.pinned (OpenSpec.upto fnExactEvalLinSpec)

/-- 'laws.FnExactTightenLin', WHERE WHAT IT READS IS OF BULK AT MOST 1048576: true; the input reads as it did. -/
def fnExactTightenLinUptoRow : OpenClaim := { program := "ytjhjbnfdnecidaa", sum := "bf07bbdbf9f410a4c57e74417f65e492f320ec4dd1a506627d8b5965a8dc6ebb", func := "loop.example/g00515/laws.FnExactTightenLin", spec := "fnExactTightenLin", apart := false, narrowed := true }
def FnExactTightenLinUptoSaid : Prop := fnExactTightenLinUptoRow.holds Try.pinned (OpenSpec.upto fnExactTightenLinSpec)

/-- 'laws.FnExactEqualLin', WHERE WHAT IT READS IS OF BULK AT MOST 1048576: true; the input reads as it did. -/
def fnExactEqualLinUptoRow : OpenClaim := { program := "ytjhjbnfdnecidaa", sum := "bf07bbdbf9f410a4c57e74417f65e492f320ec4dd1a506627d8b5965a8dc6ebb", func := "loop.example/g00515/laws.FnExactEqualLin", spec := "fnExactEqualLin", apart := false, narrowed := true }
def FnExactEqualLinUptoSaid : Prop := fnExactEqualLinUptoRow.holds Try.pinned (OpenSpec.upto fnExactEqualLinSpec)

end Rows
end Go.Proofs.Ytjhjbnfdnecidaa
