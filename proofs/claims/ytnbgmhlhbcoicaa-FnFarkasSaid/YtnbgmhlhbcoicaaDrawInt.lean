import Derived.Test.YtnbgmhlhbcoicaaDraw
/-
  One of several integers, drawn.
-/
namespace Go.Proofs.Ytnbgmhlhbcoicaa
open Go.RowKit
namespace Draw
/-- The slice with this address holds these integers. -/
def IRow (w : World) (A : Option Addr) (xs : List Int) : Prop :=
  xs ≠ [] → ∃ b o, A = some ⟨b, o, none⟩ ∧ b < w.heap.size ∧ ∀ j x, xs[j]? = some x → w.cell? ⟨b, o + j, none⟩ = some (.int .i64 x)
theorem irow_new (w : World) (xs : List Int) (T : TypeId) : IRow (w.alloc (.cells (xs.map (Value.int .i64)).toArray T)) (some ⟨w.heap.size, 0, none⟩) xs := fun _ =>
  ⟨w.heap.size, 0, rfl, by simp, fun j x hj => by
    rw [World.cell?_alloc_at _ _ _ _ rfl]
    simp [hj]⟩
theorem IRow.only {w w' : World} {A B : Option Addr} {xs : List Int} (h : IRow w A xs) (ho : StrK.Only w w' B) (hne : ∀ a b, A = some a → B = some b → a.block ≠ b.block) : IRow w' A xs := fun hn => by
  obtain ⟨b, o, rfl, hlt, hc⟩ := h hn
  refine ⟨b, o, rfl, Nat.lt_of_lt_of_le hlt ho.size, fun j s hj => ?_⟩
  exact StrK.cell_only (hc j s hj) ho (fun y e => hne _ y rfl e)

/-- One of the integers. -/
def OneInt (xs : List Int) (w : World) (g : Nat) (A : Option Addr) (n c : Nat) (e : Ending) (w' : World) : Prop := ∃ x ∈ xs, e = .returned (.int .i64 x) ∧ Left w g A n c w'

set_option maxHeartbeats 400000 in
theorem pickInt (g : Nat) (A : Option Addr) (n c : Nat) (B : Option Addr) (k d : Nat) (xs : List Int) (hk : xs.length = k) (hne : xs ≠ []) (hmax : k ≤ 1000000) (w : World) (hC : Cur w g A n c) (hB : IRow w B xs) (hg : ∀ b, B = some b → b.block ≠ g) :
    Calls Try.prog 69 #[.pointer (some ⟨g, 0, none⟩), .slice B k d] w (OneInt xs w g A n c) := by
  have hpos : 0 < xs.length := List.length_pos_iff.2 hne
  subst hk
  go_enter Try.func69, Try.ntmps69
  go_wp2_with fail
  refine (below g A n c xs.length (by omega) _ hC).mono ?_
  rintro e w1 ⟨x, hx0, hx1, _, rfl, hL⟩
  obtain ⟨j, rfl⟩ := Int.eq_ofNat_of_zero_le hx0
  have hj : j < xs.length := by have := hx1 (by omega); omega
  obtain ⟨b, o, rfl, hbl, hcell⟩ := hB.only hL.2 (fun a y e e' => by injection e' with e'; subst e'; exact hg a e) hne
  have hc := hcell j xs[j] (List.getElem?_eq_getElem hj)
  have hmem : xs[j] ∈ xs := List.getElem_mem _
  generalize xs[j] = s at *
  have hj1 : (j : Int) < (xs.length : Int) := by omega
  clear hx1 hcell
  go_wp2
  go_ret
  exact ⟨s, hmem, rfl, hL⟩

end Draw
end Go.Proofs.Ytnbgmhlhbcoicaa
