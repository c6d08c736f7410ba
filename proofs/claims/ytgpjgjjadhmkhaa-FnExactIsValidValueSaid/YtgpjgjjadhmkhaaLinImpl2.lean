import Derived.Test.YtgpjgjjadhmkhaaLinImpl
import Derived.Deep.RegionHeld3
/-
  The program's linear expressions: copies and tightened constraints.
-/
namespace Go.Proofs.Ytgpjgjjadhmkhaa
open Go.RowKit
namespace LinI
open RowK LinM ArithM

/-- A slice of integers in new memory. -/
def GaveInts (w : World) (zs : List Int) (e : Ending) (w' : World) : Prop :=
  ∃ A c, e = .returned (.slice A zs.length c) ∧ Row w.heap.size w'.heap.size w' A (IntK.iv zs) ∧ Free w' A zs.length ∧ Below w.heap.size w w'

theorem gave_own {w w' : World} {zs : List Int} {v : Value} (h : w'.ownsRow w.heap.size 3 1 v zs.length (IntK.iv zs)) (hb : Below w.heap.size w w') : GaveInts w zs (.returned v) w' := by
  obtain ⟨A, c, e, h1, h2, _, _⟩ := of_own h
  rw [IntK.iv_len] at h2
  exact ⟨A, c, by rw [e], h1, h2, hb⟩

/-- Behind a row was made, only blocks below it were written. -/
theorem keep_row {w w1 W : World} {lo hi mid : Nat} {A : Option Addr} {zs : List Int} (b0 : Below w.heap.size w w1) (r : Row lo hi w1 A (IntK.iv zs)) (f : Free w1 A zs.length) (hm : Mod w.heap.size mid w1 W) (h1 : mid ≤ lo) (h2 : w.heap.size ≤ lo) (h3 : hi ≤ w1.heap.size) :
    Row w.heap.size W.heap.size W A (IntK.iv zs) ∧ Free W A zs.length ∧ Below w.heap.size w W :=
  ⟨(r.keep hm (Or.inr h1)).wider h2 (Nat.le_trans h3 hm.size) (Nat.le_refl _), f.keep r (by rw [IntK.iv_len]; exact Nat.le_refl _) hm (Or.inr h1), below_mod b0 hm (Nat.le_refl _) b0.size⟩

theorem tight_eq (z : Int) (zs : List Int) (h : ¬ (vldB z zs zs.length = true ∧ 2 ≤ gcds zs)) : tightL z zs = (z, zs) := if_neg h
theorem tight_div (z : Int) (zs : List Int) (h : vldB z zs zs.length = true) (h2 : 2 ≤ gcds zs) : tightL z zs = (floorL z (gcds zs), zs.map fun x => x.tdiv (gcds zs)) := if_pos ⟨h, h2⟩

theorem tight_len (z : Int) (zs : List Int) : (tightL z zs).2.length = zs.length := by unfold tightL; split <;> simp

theorem store_iv {lo hi : Nat} {w : World} {b o : Nat} {zs : List Int} (h : Row lo hi w (some ⟨b, o, none⟩) (IntK.iv zs)) {k : Nat} (hk : k < zs.length) (x : Int) : Row lo hi (w.setCell ⟨b, o + k, none⟩ (.int .i64 x)) (some ⟨b, o, none⟩) (IntK.iv (zs.set k x)) := by
  have := h.store (k := k) (by rw [IntK.iv_len]; exact hk) (.int .i64 x)
  rwa [show (IntK.iv zs).set k (.int .i64 x) = IntK.iv (zs.set k x) by simp [IntK.iv, List.map_set]] at this

end LinI
end Go.Proofs.Ytgpjgjjadhmkhaa
