/-
  No cell of these rows narrows 'for every input' (looked for: loops, veiled, ifaces, maps, wideKeys, modest, calm, conditions, laid).
  DERIVED. THE GIVEN ROWS OF THIS SEAT. 4 by the template 'for every input the law returns true; each argument reads behind the call as it read before'; 0 by the template 'total and deterministic' (their statements: YtaepfdgfjcdidaaTotals.lean).
  GIVEN WITH THE SEED: the statements are not yours to turn. If you find one false, say at which input.
  Laid BY PROGRAM, IN A SANDBOX (cutbox-rows.mjs): the forced cells as the released guide's own fill.sh prints them over the translation 8975dcc48311a34f… (all of the seat's roots in one cut). By AI agents, Wed Nov 11 2026. No macro, syntax, notation, axiom, sorry.
-/
import Derived.Test.YtaepfdgfjcdidaaChecked
import GoSem.Claim
import GoSem.ClaimJoined
import GoSem.ClaimMapViews
import Derived.JoinedTies
import Derived.KernelRfl
namespace Go.Proofs.Ytaepfdgfjcdidaa
/- THE CELL 'sum', in the pinned program and in every row, IS THE sha256 OF THE DUMP (.gsa) THAT YtaepfdgfjcdidaaProg.lean LOADS. Nothing in Lean hashes anything: it is a label: what it is worth is what the hold of that sum in a sandbox is worth. -/
noncomputable def Try.pinned : Pinned := { name := "ytaepfdgfjcdidaa", sum := "8975dcc48311a34ff55f0cff6b5ad83d3d48d1e24dd96b88e1934fcdac9b2b99", checked := Try.checked }
namespace Rows
def none {H : Type} : Left H := { results := [], args := [] }

/-- 'laws.FnExactIsValidSum': WHATEVER THE INPUT: true; the input reads as it did. -/
def fnExactIsValidSumSpec : ChangeSpec := { name := "fnExactIsValidSum", fn := fun _ => fun
  | [d] => { results := [.lit (.bool true)], args := [d] }
  | _ => none }
def fnExactIsValidSumRow : OpenClaim := { program := "ytaepfdgfjcdidaa", sum := "8975dcc48311a34ff55f0cff6b5ad83d3d48d1e24dd96b88e1934fcdac9b2b99", func := "loop.example/g00515/laws.FnExactIsValidSum", spec := "fnExactIsValidSum", unfollowed := true, recurses := true, apart := false }
def FnExactIsValidSumSaid : Prop := fnExactIsValidSumRow.holds Try.pinned (OpenSpec.ofChange fnExactIsValidSumSpec)

/-- ITS FALSE NEIGHBOUR: 'it returns false'. Refute it at one input. -/
def fnExactIsValidSumWrong : ChangeSpec := { name := "fnExactIsValidSum", fn := fun _ => fun
  | [d] => { results := [.lit (.bool false)], args := [d] }
  | _ => none }
def FnExactIsValidSumWrongFalsely : Prop := fnExactIsValidSumRow.holds Try.pinned (OpenSpec.ofChange fnExactIsValidSumWrong)

/-- 'laws.FnExactIsValidArg': WHATEVER THE INPUT: true; the input reads as it did. -/
def fnExactIsValidArgSpec : ChangeSpec := { name := "fnExactIsValidArg", fn := fun _ => fun
  | [d] => { results := [.lit (.bool true)], args := [d] }
  | _ => none }
def fnExactIsValidArgRow : OpenClaim := { program := "ytaepfdgfjcdidaa", sum := "8975dcc48311a34ff55f0cff6b5ad83d3d48d1e24dd96b88e1934fcdac9b2b99", func := "loop.example/g00515/laws.FnExactIsValidArg", spec := "fnExactIsValidArg", unfollowed := true, recurses := true, apart := false }
def FnExactIsValidArgSaid : Prop := fnExactIsValidArgRow.holds Try.pinned (OpenSpec.ofChange fnExactIsValidArgSpec)

/-- ITS FALSE NEIGHBOUR: 'it returns false'. Refute it at one input. -/
def fnExactIsValidArgWrong : ChangeSpec := { name := "fnExactIsValidArg", fn := fun _ => fun
  | [d] => { results := [.lit (.bool false)], args := [d] }
  | _ => none }
def FnExactIsValidArgWrongFalsely : Prop := fnExactIsValidArgRow.holds Try.pinned (OpenSpec.ofChange fnExactIsValidArgWrong)

/-- 'laws.FnExactNamesOf': WHATEVER THE INPUT: true; the input reads as it did. -/
def fnExactNamesOfSpec : ChangeSpec := { name := "fnExactNamesOf", fn := fun _ => fun
  | [d] => { results := [.lit (.bool true)], args := [d] }
  | _ => none }
def fnExactNamesOfRow : OpenClaim := { program := "ytaepfdgfjcdidaa", sum := "8975dcc48311a34ff55f0cff6b5ad83d3d48d1e24dd96b88e1934fcdac9b2b99", func := "loop.example/g00515/laws.FnExactNamesOf", spec := "fnExactNamesOf", recurses := true, apart := false }
def FnExactNamesOfSaid : Prop := fnExactNamesOfRow.holds Try.pinned (OpenSpec.ofChange fnExactNamesOfSpec)

/-- ITS FALSE NEIGHBOUR: 'it returns false'. Refute it at one input. -/
def fnExactNamesOfWrong : ChangeSpec := { name := "fnExactNamesOf", fn := fun _ => fun
  | [d] => { results := [.lit (.bool false)], args := [d] }
  | _ => none }
def FnExactNamesOfWrongFalsely : Prop := fnExactNamesOfRow.holds Try.pinned (OpenSpec.ofChange fnExactNamesOfWrong)

/-- 'laws.FnExactEqualArg': WHATEVER THE INPUT: true; the input reads as it did. -/
def fnExactEqualArgSpec : ChangeSpec := { name := "fnExactEqualArg", fn := fun _ => fun
  | [d1, d2] => { results := [.lit (.bool true)], args := [d1, d2] }
  | _ => none }
def fnExactEqualArgRow : OpenClaim := { program := "ytaepfdgfjcdidaa", sum := "8975dcc48311a34ff55f0cff6b5ad83d3d48d1e24dd96b88e1934fcdac9b2b99", func := "loop.example/g00515/laws.FnExactEqualArg", spec := "fnExactEqualArg", unfollowed := true, recurses := true, apart := false }
def FnExactEqualArgSaid : Prop := fnExactEqualArgRow.holds Try.pinned (OpenSpec.ofChange fnExactEqualArgSpec)

/-- ITS FALSE NEIGHBOUR: 'it returns false'. Refute it at one input. -/
def fnExactEqualArgWrong : ChangeSpec := { name := "fnExactEqualArg", fn := fun _ => fun
  | [d1, d2] => { results := [.lit (.bool false)], args := [d1, d2] }
  | _ => none }
def FnExactEqualArgWrongFalsely : Prop := fnExactEqualArgRow.holds Try.pinned (OpenSpec.ofChange fnExactEqualArgWrong)

/- THE SECOND FORM. 'bulk': how many values and letters a reading holds, each counted each time it is reached (what is shared counts as often as it is met; a slice's spare places count too). A statement '..UptoSaid' is the law's where the arguments, and the package variables that the reading takes, are together of bulk at most 1048576: NARROWER than '..Said'. Prove '..Said' where nothing that the law and all that it calls make is longer than what came in: it says more and counts as full. Else prove '..UptoSaid'. A law counts once. -/
mutual
def uptoBulk {H : Type} : DataW H → Nat
  | .lit (.string bytes) => bytes.length + 1
  | .lit _ => 1
  | .nil => 1
  | .ptr d => uptoBulk d + 1
  | .slice elems spare => uptoBulkAll elems + uptoBulkAll spare + 1
  | .agg parts => uptoBulkAll parts + 1
  | .iface _ d => uptoBulk d + 1
  | .map entries => uptoBulkEntries entries + 1
  | .held _ => 1
def uptoBulkAll {H : Type} : List (DataW H) → Nat
  | [] => 0
  | d :: r => uptoBulk d + uptoBulkAll r
def uptoBulkEntries {H : Type} : List (Lit × DataW H) → Nat
  | [] => 0
  | x :: r => uptoBulkEntry x + uptoBulkEntries r
def uptoBulkEntry {H : Type} : Lit × DataW H → Nat
  | (.string bytes, d) => bytes.length + uptoBulk d + 1
  | (_, d) => uptoBulk d + 1
 end
def uptoSmall : (H : Type) → List (DataW H) → Bool := fun _ ds => decide (uptoBulkAll ds ≤ 1048576)
def OpenSpec.upto (s : _root_.Go.ChangeSpec) : _root_.Go.OpenSpec := { _root_.Go.OpenSpec.ofChange s with cond := some uptoSmall }

/-- 'laws.FnExactIsValidSum', WHERE WHAT IT READS IS OF BULK AT MOST 1048576: true; the input reads as it did. -/
def fnExactIsValidSumUptoRow : OpenClaim := { program := "ytaepfdgfjcdidaa", sum := "8975dcc48311a34ff55f0cff6b5ad83d3d48d1e24dd96b88e1934fcdac9b2b99", func := "loop.example/g00515/laws.FnExactIsValidSum", spec := "fnExactIsValidSum", unfollowed := true, recurses := true, apart := false, narrowed := true }
def FnExactIsValidSumUptoSaid : Prop := fnExactIsValidSumUptoRow.holds Try.pinned (OpenSpec.upto fnExactIsValidSumSpec)

/-- 'laws.FnExactIsValidArg', WHERE WHAT IT READS IS OF BULK AT MOST 1048576: true; the input reads as it did. -/
def fnExactIsValidArgUptoRow : OpenClaim := { program := "ytaepfdgfjcdidaa", sum := "8975dcc48311a34ff55f0cff6b5ad83d3d48d1e24dd96b88e1934fcdac9b2b99", func := "loop.example/g00515/laws.FnExactIsValidArg", spec := "fnExactIsValidArg", unfollowed := true, recurses := true, apart := false, narrowed := true }
def FnExactIsValidArgUptoSaid : Prop := fnExactIsValidArgUptoRow.holds Try.pinned (OpenSpec.upto fnExactIsValidArgSpec)

/-- 'laws.FnExactNamesOf', WHERE WHAT IT READS IS OF BULK AT MOST 1048576: true; the input reads as it did. -/
def fnExactNamesOfUptoRow : OpenClaim := { program := "ytaepfdgfjcdidaa", sum := "8975dcc48311a34ff55f0cff6b5ad83d3d48d1e24dd96b88e1934fcdac9b2b99", func := "loop.example/g00515/laws.FnExactNamesOf", spec := "fnExactNamesOf", recurses := true, apart := false, narrowed := true }
def FnExactNamesOfUptoSaid : Prop := fnExactNamesOfUptoRow.holds Try.pinned (OpenSpec.upto fnExactNamesOfSpec)

/-- 'laws.FnExactEqualArg', WHERE WHAT IT READS IS OF BULK AT MOST 1048576: true; the input reads as it did. -/
def fnExactEqualArgUptoRow : OpenClaim := { program := "ytaepfdgfjcdidaa", sum := "8975dcc48311a34ff55f0cff6b5ad83d3d48d1e24dd96b88e1934fcdac9b2b99", func := "loop.example/g00515/laws.FnExactEqualArg", spec := "fnExactEqualArg", unfollowed := true, recurses := true, apart := false, narrowed := true }
def FnExactEqualArgUptoSaid : Prop := fnExactEqualArgUptoRow.holds Try.pinned (OpenSpec.upto fnExactEqualArgSpec)

end Rows
end Go.Proofs.Ytaepfdgfjcdidaa
