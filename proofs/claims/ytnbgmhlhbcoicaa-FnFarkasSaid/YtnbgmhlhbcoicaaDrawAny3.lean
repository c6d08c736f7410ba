import Derived.Test.YtnbgmhlhbcoicaaDrawInt
/-
  One of the integers of the third chapter, drawn.
-/
namespace Go.Proofs.Ytnbgmhlhbcoicaa
open Go.RowKit
namespace Draw

def threes : List Int := [0, 1, -1, 2, 5, -6, 12, 1000000, -1000001, 1000000000, -1000000000, 1000000001, 40000, 9223372036854775807, -9223372036854775808]

def OneThree (w : World) (g : Nat) (A : Option Addr) (n c : Nat) (e : Ending) (w' : World) : Prop := ∃ x ∈ threes, e = .returned (.int .i64 x) ∧ Left w g A n c w'

set_option maxHeartbeats 1000000 in
set_option maxRecDepth 100000 in
theorem any3 (g : Nat) (A : Option Addr) (n c : Nat) (w : World) (hC : Cur w g A n c) :
    Calls Try.prog 81 #[.pointer (some ⟨g, 0, none⟩)] w (OneThree w g A n c) := by
  go_enter Try.func81, Try.ntmps81
  go_wp2_with fail
  have hba : Below w.heap.size w (w.alloc (.cells (threes.map (Value.int .i64)).toArray 3)) := (Below.refl _ _).alloc (Nat.le_refl _) _
  refine ((pickInt g A n c (some ⟨w.heap.size, 0, none⟩) 15 15 threes rfl (by decide) (by omega) _ (hC.keep hba) (irow_new w threes 3) (fun b e => by injection e with e; subst e; have := hC.lt; show w.heap.size ≠ g; omega))).mono ?_
  rintro e w2 ⟨y, hy, rfl, hL2⟩
  go_wp2
  go_ret
  exact ⟨y, hy, rfl, left_keep hC.lt hba hL2⟩

theorem threes_range : ∀ x ∈ threes, -9223372036854775808 ≤ x ∧ x ≤ 9223372036854775807 := by decide
end Draw
end Go.Proofs.Ytnbgmhlhbcoicaa
