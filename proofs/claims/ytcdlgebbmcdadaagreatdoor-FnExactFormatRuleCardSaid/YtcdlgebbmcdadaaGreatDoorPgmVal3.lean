import Derived.Test.YtcdlgebbmcdadaaGreatDoorPgmVal
import Derived.Deep.RegionHeld3
import Derived.BigQuiet
import Derived.Test.YtcdlgebbmcdadaaGreatDoorAppend4
/-
  Programs: validity of rules, of the program (made by tools/s10v.py): the patterns of a rule.
-/
namespace Go.Proofs.YtcdlgebbmcdadaaGreatDoor
open Go.RowKit
namespace ProgI
open RowK Mem
theorem own_below {B k n : Nat} {e : TypeId} {v : Value} {xs : List Value} {w w' : World} (h : w.ownsRow B e k v n xs) (hb : Below w.heap.size w w') : w'.ownsRow B e k v n xs :=
  h.kept (row := none) ⟨hb.os, hb.tape, hb.output, hb.size, fun j hj _ => hb.block j hj⟩ (by cases hv : v.ownBlock <;> simp)
end ProgI
end Go.Proofs.YtcdlgebbmcdadaaGreatDoor
