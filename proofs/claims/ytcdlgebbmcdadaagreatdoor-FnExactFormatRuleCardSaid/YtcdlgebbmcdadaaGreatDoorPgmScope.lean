import Derived.Test.YtcdlgebbmcdadaaGreatDoorRepUni
import Derived.Test.YtcdlgebbmcdadaaGreatDoorUFunction
import Derived.Test.YtcdlgebbmcdadaaGreatDoorURule
import Derived.Deep.RegionLaw
import Derived.Deep.RegionHeld3
import Derived.Test.YtcdlgebbmcdadaaGreatDoorSysOwn
import Derived.Test.YtcdlgebbmcdadaaGreatDoorLinSpec
import Derived.Test.YtcdlgebbmcdadaaGreatDoorLinImpl
import Derived.Test.YtcdlgebbmcdadaaGreatDoorShelf
import Derived.RegionTactic
import Derived.ChangeAlike
import Derived.Deep.AppendLies
import Derived.Test.YtcdlgebbmcdadaaGreatDoorRepGen
import Derived.Test.YtcdlgebbmcdadaaGreatDoorArgMath
import Derived.Test.YtcdlgebbmcdadaaGreatDoorAppend4
/-
  The names that are visible: those of patterns; scopes as closures (the program).
-/
namespace Go.Proofs.YtcdlgebbmcdadaaGreatDoor
open Go.RowKit
namespace ProgI
open RowK Mem

def Names10 (w : World) (v : Value) (done : List ByteArray) (wr : World) : Prop := wr.ownsRow w.heap.size 9 1 v done.length (done.map Value.string) ∧ Below w.heap.size w wr
/-- Strings in new memory. -/
def GaveS (w : World) (ss : List ByteArray) (e : Ending) (w' : World) : Prop := ∃ A c, e = .returned (.slice A ss.length c) ∧ OwnS Rep.str w.heap.size w'.heap.size w' A ss.length c ss ∧ Below w.heap.size w w'
theorem gave_own {w w' : World} {v : Value} {ss : List ByteArray} (h : w'.ownsRow w.heap.size 9 1 v ss.length (ss.map Value.string)) (hb : Below w.heap.size w w') : GaveS w ss (.returned v) w' := by
  obtain ⟨B, d, e, h1, h2, h3, h4⟩ := StrK.of_own h
  have hr := strs_close (q := true) h1 (fun _ => h2) h4
  refine ⟨B, d, by rw [e], ⟨Nat.le_refl _, _, hr, fpS_nodup _ _, fun b hb' => ⟨?_, (Rep.slice Rep.str).lt hr b hb'⟩⟩, hb⟩
  unfold fpS at hb'
  split at hb'
  · cases hb'
  · cases hB : B with
    | none => rw [hB] at hb'; cases hb'
    | some a =>
      rw [hB] at hb'
      simp at hb'
      rw [hb']
      exact h3 a hB

end ProgI
end Go.Proofs.YtcdlgebbmcdadaaGreatDoor
