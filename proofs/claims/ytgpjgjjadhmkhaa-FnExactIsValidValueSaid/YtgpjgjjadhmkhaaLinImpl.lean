import Derived.Test.YtgpjgjjadhmkhaaProg
import Derived.Test.YtgpjgjjadhmkhaaArithSpec
import Derived.Test.YtgpjgjjadhmkhaaLinMath
import Derived.Test.YtgpjgjjadhmkhaaRepGen
import Derived.WalkKit
import Derived.Lib.Hide
import Derived.Deep.QuietTactic
import Derived.BigQuiet
import Derived.IntWalk
/-
  The program's linear expressions: validity, constants, variables, values.
-/
namespace Go.Proofs.Ytgpjgjjadhmkhaa
open Go.RowKit
namespace LinI
open RowK LinM

/-- A linear expression in new memory. -/
def Gave (w : World) (z : Int) (zs : List Int) (e : Ending) (w' : World) : Prop :=
  ∃ A c, e = .returned (.agg #[.int .i64 z, .slice A zs.length c]) ∧ Row w.heap.size w'.heap.size w' A (IntK.iv zs) ∧ Free w' A zs.length ∧ Below w.heap.size w w'

/-- .. whose capacity is known. -/
def GaveC (w : World) (z : Int) (zs : List Int) (e : Ending) (w' : World) : Prop :=
  ∃ A c, e = .returned (.agg #[.int .i64 z, .slice A zs.length c]) ∧ Row w.heap.size w'.heap.size w' A (IntK.iv zs) ∧ Free w' A zs.length ∧ Below w.heap.size w w' ∧ zs.length ≤ c
theorem GaveC.gave {w w' : World} {z : Int} {zs : List Int} {e : Ending} (h : GaveC w z zs e w') : Gave w z zs e w' := by
  obtain ⟨A, c, h1, h2, h3, h4, _⟩ := h
  exact ⟨A, c, h1, h2, h3, h4⟩

/-- What make has made. -/
theorem made (w : World) (n : Nat) (hn : n ≤ 1000000000000) : Row w.heap.size (w.alloc (.cells (madeCells #[.int .i64 0] n) 3)).heap.size (w.alloc (.cells (madeCells #[.int .i64 0] n) 3)) (some ⟨w.heap.size, 0, none⟩) (IntK.iv (List.replicate n 0)) ∧ Free (w.alloc (.cells (madeCells #[.int .i64 0] n) 3)) (some ⟨w.heap.size, 0, none⟩) n := by
  obtain ⟨A, c, e, h1, h2, _, _⟩ := of_own (IntK.made_own n hn w)
  injection e with e1 e2 e3
  subst e1
  have hr : IntK.iv (List.replicate n 0) = List.replicate n (.int .i64 0) := by simp [IntK.iv]
  rw [hr]
  rw [List.length_replicate] at h2
  exact ⟨h1, h2⟩

/-- The constant zero: what is known of it, so that the list can stay a name. -/
theorem constL_zero (n : Int) : (constL 0 n).1 = 0 ∧ (constL 0 n).2 = List.replicate (if cntB n = true then n.toNat else 0) 0 := by
  unfold constL
  by_cases h : cntB n = true
  · rw [if_pos ⟨h, by decide⟩, if_pos h]; exact ⟨rfl, rfl⟩
  · rw [if_neg (by simp [h]), if_neg h]; exact ⟨rfl, rfl⟩

end LinI
end Go.Proofs.Ytgpjgjjadhmkhaa
