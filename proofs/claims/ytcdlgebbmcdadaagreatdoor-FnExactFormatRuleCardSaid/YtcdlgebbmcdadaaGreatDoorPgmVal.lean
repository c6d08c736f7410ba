import Derived.Test.YtcdlgebbmcdadaaGreatDoorPgmScope2
import Derived.Test.YtcdlgebbmcdadaaGreatDoorRepUni
import Derived.Test.YtcdlgebbmcdadaaGreatDoorUFunction
import Derived.Test.YtcdlgebbmcdadaaGreatDoorURule
import Derived.Deep.RegionHeld3
import Derived.Test.YtcdlgebbmcdadaaGreatDoorSysOwn
import Derived.Test.YtcdlgebbmcdadaaGreatDoorLinSpec
import Derived.Test.YtcdlgebbmcdadaaGreatDoorLinImpl
import Derived.Test.YtcdlgebbmcdadaaGreatDoorShelf
import Derived.RegionTactic
import Derived.ChangeAlike
import Derived.Deep.AppendLies
import Derived.Test.YtcdlgebbmcdadaaGreatDoorRepGen
import Derived.Test.YtcdlgebbmcdadaaGreatDoorArgMath
import Derived.Test.YtcdlgebbmcdadaaGreatDoorAppend3
import Derived.Deep.DeepCutAuto
import Derived.Test.YtcdlgebbmcdadaaGreatDoorArgNames
import Derived.Test.YtcdlgebbmcdadaaGreatDoorSortSpec1
import Derived.Test.YtcdlgebbmcdadaaGreatDoorArgImpl2
import Derived.Test.YtcdlgebbmcdadaaGreatDoorPgmArg2
import Derived.Handy
import Derived.Deep.RegionLaw
/-
  Programs: validity of rules, of the program (made by tools/s10v.py): patterns, visible arguments.
-/
namespace Go.Proofs.YtcdlgebbmcdadaaGreatDoor
open Go.RowKit
namespace ProgI
open RowK Mem
theorem ssl_small {xs : List SumT} {n : Nat} (h : xs.length + szs szSum xs ≤ n) : xs.length + szs ssl xs ≤ n := by
  have : szs ssl xs ≤ szs szSum xs := ssl_le xs
  omega
theorem sums_small {z0 : Bool} {x1 : List SumT} {z2 : ByteArray} (h : szArgU (z0, x1, z2) ≤ 10000000) : ∀ x ∈ x1, ∀ t ∈ x.2, t.2.size ≤ 9223372036854775807 := fun x hx t ht => by
  simp only [szArgU] at h
  have h1 := szs_mem (sz := szSum) hx
  have h2 : t.2.size ≤ szSum x := by
    have h3 := szs_mem (sz := tsz) ht
    have e : tsz t = t.2.size := rfl
    show t.2.size ≤ termsSize x.2
    unfold termsSize
    omega
  omega
end ProgI
end Go.Proofs.YtcdlgebbmcdadaaGreatDoor
