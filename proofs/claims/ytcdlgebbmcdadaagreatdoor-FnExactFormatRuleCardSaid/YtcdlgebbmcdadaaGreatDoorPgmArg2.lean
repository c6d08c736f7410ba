import Derived.Test.YtcdlgebbmcdadaaGreatDoorPgmScope2
import Derived.Test.YtcdlgebbmcdadaaGreatDoorRepUni
import Derived.Test.YtcdlgebbmcdadaaGreatDoorUFunction
import Derived.Test.YtcdlgebbmcdadaaGreatDoorURule
import Derived.Deep.RegionLaw
import Derived.Deep.RegionHeld3
import Derived.Test.YtcdlgebbmcdadaaGreatDoorSysOwn
import Derived.Test.YtcdlgebbmcdadaaGreatDoorLinSpec
import Derived.Test.YtcdlgebbmcdadaaGreatDoorLinImpl
import Derived.Test.YtcdlgebbmcdadaaGreatDoorShelf
import Derived.RegionTactic
import Derived.ChangeAlike
import Derived.Deep.AppendLies
import Derived.Test.YtcdlgebbmcdadaaGreatDoorRepGen
import Derived.Test.YtcdlgebbmcdadaaGreatDoorArgMath
import Derived.Test.YtcdlgebbmcdadaaGreatDoorAppend3
import Derived.Deep.DeepCutAuto
import Derived.Test.YtcdlgebbmcdadaaGreatDoorArithSpec
import Derived.Test.YtcdlgebbmcdadaaGreatDoorStrKeep
/-
  Rules as arguments of a law; strings as a result; how long a scope is.
-/
namespace Go.Proofs.YtcdlgebbmcdadaaGreatDoor
open Go.RowKit
namespace Mem
open RowK ProgI
theorem own_SR {lo hi n c : Nat} {w : World} {A : Option Addr} {ss : List ByteArray} (h : OwnS Rep.str lo hi w A n c ss) : StrK.SR lo hi w A ss := by
  obtain ⟨h0, fp, h1, _, h3⟩ := h
  obtain ⟨r1, f1, _, _, rfl⟩ := strs_open h1
  refine ⟨r1, f1 rfl, h0, fun a e => h3 a.block ?_⟩
  unfold StrK.blk at e
  unfold fpS
  split at e
  · cases e
  · rename_i hne
    rw [if_neg hne, e]
    simp
theorem arg_rule {w : World} {A1 A2 A3 A5 : Option Addr} {c1 c2 c3 c5 : Nat} {z0 : ByteArray} {x1 : List PatternT} {x2 : List SumT} {x3 : List CallT} {z4 : Bool} {x5 : List SumT} {z6 : ByteArray}
    (h : ArgR rule w [.string z0, .slice A1 x1.length c1, .slice A2 x2.length c2, .slice A3 x3.length c3, .bool z4, .slice A5 x5.length c5, .string z6] (z0, x1, x2, x3, z4, x5, z6)) :
    ArgS pat w A1 x1.length c1 x1 ∧ ArgS Mem.sum w A2 x2.length c2 x2 ∧ ArgS call w A3 x3.length c3 x3 ∧ ArgS Mem.sum w A5 x5.length c5 x5 := by
  obtain ⟨q, fp, h⟩ := h
  obtain ⟨f1, f2, f3, f5, _, h1, h2, h3, h5⟩ := rule_parts h
  exact ⟨⟨q, f1, h1⟩, ⟨q, f2, h2⟩, ⟨q, f3, h3⟩, q, f5, h5⟩
end Mem
end Go.Proofs.YtcdlgebbmcdadaaGreatDoor
