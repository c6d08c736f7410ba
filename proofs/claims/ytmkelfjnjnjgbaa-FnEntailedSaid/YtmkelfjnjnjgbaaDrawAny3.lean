import Derived.Test.YtmkelfjnjnjgbaaDraw
/-
  One of several integers, drawn.
-/
namespace Go.Proofs.Ytmkelfjnjnjgbaa
open Go.RowKit
namespace Draw
/-- The slice with this address holds these integers. -/
def IRow (w : World) (A : Option Addr) (xs : List Int) : Prop :=
  xs ≠ [] → ∃ b o, A = some ⟨b, o, none⟩ ∧ b < w.heap.size ∧ ∀ j x, xs[j]? = some x → w.cell? ⟨b, o + j, none⟩ = some (.int .i64 x)
theorem irow_new (w : World) (xs : List Int) (T : TypeId) : IRow (w.alloc (.cells (xs.map (Value.int .i64)).toArray T)) (some ⟨w.heap.size, 0, none⟩) xs := fun _ =>
  ⟨w.heap.size, 0, rfl, by simp, fun j x hj => by
    rw [World.cell?_alloc_at _ _ _ _ rfl]
    simp [hj]⟩
theorem IRow.only {w w' : World} {A B : Option Addr} {xs : List Int} (h : IRow w A xs) (ho : StrK.Only w w' B) (hne : ∀ a b, A = some a → B = some b → a.block ≠ b.block) : IRow w' A xs := fun hn => by
  obtain ⟨b, o, rfl, hlt, hc⟩ := h hn
  refine ⟨b, o, rfl, Nat.lt_of_lt_of_le hlt ho.size, fun j s hj => ?_⟩
  exact StrK.cell_only (hc j s hj) ho (fun y e => hne _ y rfl e)

/-- One of the integers. -/
def OneInt (xs : List Int) (w : World) (g : Nat) (A : Option Addr) (n c : Nat) (e : Ending) (w' : World) : Prop := ∃ x ∈ xs, e = .returned (.int .i64 x) ∧ Left w g A n c w'

set_option maxHeartbeats 400000 in
theorem pickInt (g : Nat) (A : Option Addr) (n c : Nat) (B : Option Addr) (k d : Nat) (xs : List Int) (hk : xs.length = k) (hne : xs ≠ []) (hmax : k ≤ 1000000) (w : World) (hC : Cur w g A n c) (hB : IRow w B xs) (hg : ∀ b, B = some b → b.block ≠ g) :
    Calls Try.prog 67 #[.pointer (some ⟨g, 0, none⟩), .slice B k d] w (OneInt xs w g A n c) := by
  have hpos : 0 < xs.length := List.length_pos_iff.2 hne
  subst hk
  go_enter Try.func67, Try.ntmps67
  go_wp2_with fail
  refine (below g A n c xs.length (by omega) _ hC).mono ?_
  rintro e w1 ⟨x, hx0, hx1, _, rfl, hL⟩
  obtain ⟨j, rfl⟩ := Int.eq_ofNat_of_zero_le hx0
  have hj : j < xs.length := by have := hx1 (by omega); omega
  obtain ⟨b, o, rfl, hbl, hcell⟩ := hB.only hL.2 (fun a y e e' => by injection e' with e'; subst e'; exact hg a e) hne
  have hc := hcell j xs[j] (List.getElem?_eq_getElem hj)
  have hmem : xs[j] ∈ xs := List.getElem_mem _
  generalize xs[j] = s at *
  have hj1 : (j : Int) < (xs.length : Int) := by omega
  clear hx1 hcell
  go_wp2
  go_ret
  exact ⟨s, hmem, rfl, hL⟩

end Draw
end Go.Proofs.Ytmkelfjnjnjgbaa

/-
  Drawn bools.
-/
namespace Go.Proofs.Ytmkelfjnjnjgbaa
open Go.RowKit
namespace Draw

def SomeBool (w : World) (g : Nat) (A : Option Addr) (n c : Nat) (e : Ending) (w' : World) : Prop := ∃ b : Bool, e = .returned (.bool b) ∧ Left w g A n c w'

set_option maxHeartbeats 400000 in
theorem once (g : Nat) (A : Option Addr) (n c : Nat) (m : Int) (hm : m ≤ 1000000000) (w : World) (hC : Cur w g A n c) :
    Calls Try.prog 54 #[.pointer (some ⟨g, 0, none⟩), .int .i64 m] w (SomeBool w g A n c) := by
  go_enter Try.func54, Try.ntmps54
  go_wp2_with fail
  refine (below g A n c m hm _ hC).mono ?_
  rintro e w1 ⟨x, hx0, _, _, rfl, hL⟩
  go_wp2
  go_ret
  exact ⟨_, rfl, hL⟩

end Draw
end Go.Proofs.Ytmkelfjnjnjgbaa

/-
  One of the integers of the third chapter, drawn.
-/
namespace Go.Proofs.Ytmkelfjnjnjgbaa
open Go.RowKit
namespace Draw

def threes : List Int := [0, 1, -1, 2, 5, -6, 12, 1000000, -1000001, 1000000000, -1000000000, 1000000001, 40000, 9223372036854775807, -9223372036854775808]

def OneThree (w : World) (g : Nat) (A : Option Addr) (n c : Nat) (e : Ending) (w' : World) : Prop := ∃ x ∈ threes, e = .returned (.int .i64 x) ∧ Left w g A n c w'

set_option maxHeartbeats 1000000 in
set_option maxRecDepth 100000 in
theorem any3 (g : Nat) (A : Option Addr) (n c : Nat) (w : World) (hC : Cur w g A n c) :
    Calls Try.prog 88 #[.pointer (some ⟨g, 0, none⟩)] w (OneThree w g A n c) := by
  go_enter Try.func88, Try.ntmps88
  go_wp2_with fail
  have hba : Below w.heap.size w (w.alloc (.cells (threes.map (Value.int .i64)).toArray 3)) := (Below.refl _ _).alloc (Nat.le_refl _) _
  refine ((pickInt g A n c (some ⟨w.heap.size, 0, none⟩) 15 15 threes rfl (by decide) (by omega) _ (hC.keep hba) (irow_new w threes 3) (fun b e => by injection e with e; subst e; have := hC.lt; show w.heap.size ≠ g; omega))).mono ?_
  rintro e w2 ⟨y, hy, rfl, hL2⟩
  go_wp2
  go_ret
  exact ⟨y, hy, rfl, left_keep hC.lt hba hL2⟩

theorem threes_range : ∀ x ∈ threes, -9223372036854775808 ≤ x ∧ x ≤ 9223372036854775807 := by decide
end Draw
end Go.Proofs.Ytmkelfjnjnjgbaa
