import Derived.Test.YtcdlgebbmcdadaaGreatDoorArgImpl2
import Derived.Test.YtcdlgebbmcdadaaGreatDoorSortSpec1
import Derived.Test.YtcdlgebbmcdadaaGreatDoorProg
import Derived.Test.YtcdlgebbmcdadaaGreatDoorStrRow
import Derived.Test.YtcdlgebbmcdadaaGreatDoorArgMath
import Derived.Deep.QuietTactic
import Derived.BigQuiet
import Derived.Deep.RegionLaw
import Derived.Lib.Hide
import Derived.Sort.Walk0
import Derived.Test.YtcdlgebbmcdadaaGreatDoorNameOps
import Derived.Laws.AppendOwn
/-
  The names of an argument, of the program and of the model.
-/
namespace Go.Proofs.YtcdlgebbmcdadaaGreatDoor
open Go.RowKit
namespace ArgI
open RowK Mem ArgM

/-- The names so far, in a row of the call's own. -/
def Names9 (w : World) (c : Nat) (A : Option Addr) (p : Bool) (s : ByteArray) (n : Nat) (v : Value) (ss : List ByteArray) (wr : World) : Prop :=
  wr.ownsRow (w.heap.size + 1) 9 1 v ss.length (ss.map Value.string) ∧ Below w.heap.size w wr ∧ Lvar wr w.heap.size #[Value.bool p, Value.slice A n c, Value.string s]
theorem Names9.alloc {w wr : World} {c n : Nat} {A : Option Addr} {p : Bool} {s : ByteArray} {v : Value} {ss : List ByteArray} (h : Names9 w c A p s n v ss wr) (o : Obj) : Names9 w c A p s n v ss (wr.alloc o) :=
  ⟨h.1.alloc _, h.2.1.alloc h.2.1.size _, h.2.2.alloc o⟩

end ArgI
end Go.Proofs.YtcdlgebbmcdadaaGreatDoor
