import Derived.Test.YtiilopfhlmeaoaaGreatDoorDraw9
import Derived.Test.YtiilopfhlmeaoaaGreatDoorArgFmtA
/-
  The draws of the ninth chapter: a sum, and a text that may be one.
-/
namespace Go.Proofs.YtiilopfhlmeaoaaGreatDoor
open Go.RowKit
namespace Draw
open RowK Mem LinM ArgM TextM CutI
/-- A text of at most so many bytes. -/
def TextD (m : Nat) (w : World) (e : Ending) (w' : World) : Prop := ∃ s : ByteArray, s.size ≤ m ∧ e = .returned (.string s) ∧ Below w.heap.size w w'
end Draw
end Go.Proofs.YtiilopfhlmeaoaaGreatDoor
