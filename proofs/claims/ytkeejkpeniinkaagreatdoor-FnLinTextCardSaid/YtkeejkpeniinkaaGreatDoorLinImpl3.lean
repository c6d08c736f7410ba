import Derived.Test.YtkeejkpeniinkaaGreatDoorLinImpl
import Derived.Test.YtkeejkpeniinkaaGreatDoorLinImpl2
import Derived.Deep.RegionHeld3
/-
  The program's linear expressions: scaled sums.
-/
namespace Go.Proofs.YtkeejkpeniinkaaGreatDoor
open Go.RowKit
namespace LinI
open RowK LinM ArithM

/-- A linear expression in new memory, or none. -/
def GaveO (w : World) (r : Option (Int × List Int)) (e : Ending) (w' : World) : Prop :=
  ∃ A c, e = .returned (.tuple #[.agg #[.int .i64 (r.getD (0, [])).1, .slice A (r.getD (0, [])).2.length c], .bool r.isSome]) ∧ Row w.heap.size w'.heap.size w' A (IntK.iv (r.getD (0, [])).2) ∧ Free w' A (r.getD (0, [])).2.length ∧ Below w.heap.size w w'

/-- .. whose capacity is known. -/
def GaveOC (w : World) (r : Option (Int × List Int)) (e : Ending) (w' : World) : Prop :=
  ∃ A c, e = .returned (.tuple #[.agg #[.int .i64 (r.getD (0, [])).1, .slice A (r.getD (0, [])).2.length c], .bool r.isSome]) ∧ Row w.heap.size w'.heap.size w' A (IntK.iv (r.getD (0, [])).2) ∧ Free w' A (r.getD (0, [])).2.length ∧ Below w.heap.size w w' ∧ (r.getD (0, [])).2.length ≤ c
theorem GaveOC.gave {w w' : World} {r : Option (Int × List Int)} {e : Ending} (h : GaveOC w r e w') : GaveO w r e w' := by
  obtain ⟨A, c, h1, h2, h3, h4, _⟩ := h
  exact ⟨A, c, h1, h2, h3, h4⟩
theorem gaveOC_none {w w' : World} (hb : Below w.heap.size w w') : GaveOC w none (.returned (.tuple #[.agg #[.int .i64 0, .slice none 0 0], .bool false])) w' :=
  ⟨none, 0, rfl, row_nil _ _ _ _, free_zero _ _, hb, Nat.le_refl _⟩

theorem addS_len (z : Int) (zs : List Int) (k u : Int) (us : List Int) : ((addS z zs k u us).getD (0, [])).2.length ≤ 8 := by
  unfold addS
  split
  · rename_i h
    have h1 := vldB_iff.1 h.1
    have h2 := vldB_iff.1 h.2
    rw [addPs_eq]
    cases addP z k u with
    | none => simp
    | some a =>
      simp only [Option.bind_some]
      split
      · simp only [Option.map_some, Option.getD_some]
        rw [pureS_len k zs us (by omega)]
        omega
      · simp
  · simp
theorem gaveO_none {w w' : World} (hb : Below w.heap.size w w') : GaveO w none (.returned (.tuple #[.agg #[.int .i64 0, .slice none 0 0], .bool false])) w' :=
  ⟨none, 0, rfl, row_nil _ _ _ _, free_zero _ _, hb⟩

/-- The sum so far. -/
def Sofar (k : Int) (zs us rs : List Int) : Prop := ∀ j (h1 : j < zs.length) (h2 : j < us.length) (h3 : j < rs.length), addP zs[j] k us[j] = some rs[j]
theorem sofar_snoc {k : Int} {zs us rs : List Int} (h : Sofar k zs us rs) (h1 : rs.length < zs.length) (h2 : rs.length < us.length) (x : Int) (hx : addP zs[rs.length] k us[rs.length] = some x) : Sofar k zs us (rs ++ [x]) := fun j h1 h2 h3 => by
  by_cases e : j < rs.length
  · rw [List.getElem_append_left e]; exact h j h1 h2 e
  · have e2 : j = rs.length := by simp at h3; omega
    subst e2
    simpa using hx
theorem row_snoc (rs : List Int) (n : Nat) (h : rs.length < n) (x : Int) : (rs ++ List.replicate (n - rs.length) 0).set rs.length x = (rs ++ [x]) ++ List.replicate (n - (rs ++ [x]).length) 0 := by
  rw [List.set_append_right _ _ (Nat.le_refl _), Nat.sub_self, show n - rs.length = (n - (rs.length + 1)) + 1 by omega, List.replicate_succ, List.set_cons_zero, List.append_assoc]
  simp

end LinI
end Go.Proofs.YtkeejkpeniinkaaGreatDoor
