import Derived.Test.YtnbgmhlhbcoicaaDraw
/-
  Drawn bools.
-/
namespace Go.Proofs.Ytnbgmhlhbcoicaa
open Go.RowKit
namespace Draw

def SomeBool (w : World) (g : Nat) (A : Option Addr) (n c : Nat) (e : Ending) (w' : World) : Prop := ∃ b : Bool, e = .returned (.bool b) ∧ Left w g A n c w'

set_option maxHeartbeats 400000 in
theorem once (g : Nat) (A : Option Addr) (n c : Nat) (m : Int) (hm : m ≤ 1000000000) (w : World) (hC : Cur w g A n c) :
    Calls Try.prog 46 #[.pointer (some ⟨g, 0, none⟩), .int .i64 m] w (SomeBool w g A n c) := by
  go_enter Try.func46, Try.ntmps46
  go_wp2_with fail
  refine (below g A n c m hm _ hC).mono ?_
  rintro e w1 ⟨x, hx0, _, _, rfl, hL⟩
  go_wp2
  go_ret
  exact ⟨_, rfl, hL⟩

end Draw
end Go.Proofs.Ytnbgmhlhbcoicaa
