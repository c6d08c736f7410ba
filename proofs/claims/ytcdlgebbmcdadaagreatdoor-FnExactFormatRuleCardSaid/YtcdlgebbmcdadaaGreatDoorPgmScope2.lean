import Derived.Test.YtcdlgebbmcdadaaGreatDoorPgmScope
import Derived.Test.YtcdlgebbmcdadaaGreatDoorRepUni
import Derived.Test.YtcdlgebbmcdadaaGreatDoorUFunction
import Derived.Test.YtcdlgebbmcdadaaGreatDoorURule
import Derived.Deep.RegionHeld3
import Derived.Test.YtcdlgebbmcdadaaGreatDoorSysOwn
import Derived.Test.YtcdlgebbmcdadaaGreatDoorLinSpec
import Derived.Test.YtcdlgebbmcdadaaGreatDoorLinImpl
import Derived.Test.YtcdlgebbmcdadaaGreatDoorShelf
import Derived.RegionTactic
import Derived.ChangeAlike
import Derived.Deep.AppendLies
import Derived.Test.YtcdlgebbmcdadaaGreatDoorRepGen
import Derived.Test.YtcdlgebbmcdadaaGreatDoorArgMath
import Derived.Test.YtcdlgebbmcdadaaGreatDoorAppend3
import Derived.Deep.DeepCutAuto
import Derived.Deep.RegionLaw
import Derived.Handy
/-
  Scopes as closures that extend each other (the program).
-/
namespace Go.Proofs.YtcdlgebbmcdadaaGreatDoor
open Go.RowKit
namespace ProgI
open RowK Mem

/-- Strings in a row of the call's own. -/
def GaveW (w : World) (ss : List ByteArray) (e : Ending) (w' : World) : Prop := ∃ v, e = .returned v ∧ w'.ownsRow w.heap.size 9 1 v ss.length (ss.map Value.string) ∧ Below w.heap.size w w'
/-- A scope: a closure that hands back these names, each time in new memory. -/
def Scoped (w : World) (v : Value) (ss : List ByteArray) : Prop :=
  ∃ F lb, v = .func (.func F) #[] lb ∧ (∀ args W, (callFunc F args).run Tryz.prog W = .ok (.enter F args) W) ∧ ∀ W, Below w.heap.size w W → Calls Tryz.prog F lb W (GaveW W ss)
theorem Scoped.below {w w' : World} {v : Value} {ss : List ByteArray} (h : Scoped w v ss) (hb : Below w.heap.size w w') : Scoped w' v ss := by
  obtain ⟨F, lb, h1, h2, h3⟩ := h
  exact ⟨F, lb, h1, h2, fun W h => h3 W (hb.trans (h.mono hb.size))⟩

end ProgI
end Go.Proofs.YtcdlgebbmcdadaaGreatDoor
