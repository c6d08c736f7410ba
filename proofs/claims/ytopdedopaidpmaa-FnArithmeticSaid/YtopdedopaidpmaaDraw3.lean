/-
  The draws of the third chapter: two integers.
-/
import Derived.Test.YtopdedopaidpmaaDrawInt
namespace Go.Proofs.Ytopdedopaidpmaa
open Go.RowKit
namespace Draw

def threes : List Int := [0, 1, -1, 2, 5, -6, 12, 1000000, -1000001, 1000000000, -1000000000, 1000000001, 40000, 9223372036854775807, -9223372036854775808]

def OneThree (w : World) (g : Nat) (A : Option Addr) (n c : Nat) (e : Ending) (w' : World) : Prop := ∃ x ∈ threes, e = .returned (.int .i64 x) ∧ Left w g A n c w'

set_option maxHeartbeats 1000000 in
set_option maxRecDepth 100000 in
theorem any3 (g : Nat) (A : Option Addr) (n c : Nat) (w : World) (hC : Cur w g A n c) :
    Calls Try.prog 28 #[.pointer (some ⟨g, 0, none⟩)] w (OneThree w g A n c) := by
  go_enter Try.func28, Try.ntmps28
  go_wp2_with fail
  have hba : Below w.heap.size w (w.alloc (.cells (threes.map (Value.int .i64)).toArray 3)) := (Below.refl _ _).alloc (Nat.le_refl _) _
  refine ((pickInt g A n c (some ⟨w.heap.size, 0, none⟩) 15 15 threes rfl (by decide) (by omega) _ (hC.keep hba) (irow_new w threes 3) (fun b e => by injection e with e; subst e; have := hC.lt; show w.heap.size ≠ g; omega))).mono ?_
  rintro e w2 ⟨y, hy, rfl, hL2⟩
  go_wp2
  go_ret
  exact ⟨y, hy, rfl, left_keep hC.lt hba hL2⟩

/-- Two of them. -/
def TwoThree (w : World) (e : Ending) (w' : World) : Prop := ∃ x ∈ threes, ∃ y ∈ threes, e = .returned (.tuple #[.int .i64 x, .int .i64 y]) ∧ Below w.heap.size w w'

set_option maxHeartbeats 1000000 in
set_option maxRecDepth 100000 in
theorem two3 (A : Option Addr) (n c : Nat) (hn : n ≤ 1048576) (w : World) (hc : Code w A n) :
    Calls Try.prog 21 #[.slice A n c] w (TwoThree w) := by
  go_enter Try.func21, Try.ntmps21
  go_wp2_with fail
  refine (new A n c hn _ hc).mono ?_
  rintro e w1 ⟨g, rfl, hC, hg, hb⟩
  go_wp2_with fail
  refine (any3 g A n c _ hC).mono ?_
  rintro e w2 ⟨x, hx, rfl, hL⟩
  have hb2 := below_left hb hg hL
  go_wp2_with fail
  refine (any3 g A n c _ hL.1).mono ?_
  rintro e w3 ⟨y, hy, rfl, hL2⟩
  have hb3 := below_left hb2 hg hL2
  go_wp2
  go_ret2
  exact ⟨x, hx, y, hy, rfl, hb3⟩

set_option maxHeartbeats 1000000 in
set_option maxRecDepth 100000 in
theorem drawAddLimited (A : Option Addr) (n c : Nat) (hn : n ≤ 1048576) (w : World) (hc : Code w A n) :
    Calls Try.prog 10 #[.slice A n c] w (TwoThree w) := by
  go_enter Try.func10, Try.ntmps10
  go_wp2_with fail
  refine (two3 A n c hn _ hc).mono ?_
  rintro e w2 ⟨x, hx, y, hy, rfl, hb⟩
  go_wp2
  go_ret2
  exact ⟨x, hx, y, hy, rfl, hb⟩
end Draw
end Go.Proofs.Ytopdedopaidpmaa
