import Derived.Test.YtbdpohcababccaaGreatLinImpl
import Derived.Test.YtbdpohcababccaaGreatShelf
import Derived.Deep.RegionHeld3
/-
  The program's linear expressions: copies and tightened constraints.
-/
namespace Go.Proofs.YtbdpohcababccaaGreat
open Go.RowKit
namespace LinI
open RowK LinM ArithM

/-- A slice of integers in new memory. -/
def GaveInts (w : World) (zs : List Int) (e : Ending) (w' : World) : Prop :=
  ∃ A c, e = .returned (.slice A zs.length c) ∧ Row w.heap.size w'.heap.size w' A (IntK.iv zs) ∧ Free w' A zs.length ∧ Below w.heap.size w w'

theorem gave_own {w w' : World} {zs : List Int} {v : Value} (h : w'.ownsRow w.heap.size 3 1 v zs.length (IntK.iv zs)) (hb : Below w.heap.size w w') : GaveInts w zs (.returned v) w' := by
  obtain ⟨A, c, e, h1, h2, _, _⟩ := of_own h
  rw [IntK.iv_len] at h2
  exact ⟨A, c, by rw [e], h1, h2, hb⟩

/-- Behind a row was made, only blocks below it were written. -/
theorem keep_row {w w1 W : World} {lo hi mid : Nat} {A : Option Addr} {zs : List Int} (b0 : Below w.heap.size w w1) (r : Row lo hi w1 A (IntK.iv zs)) (f : Free w1 A zs.length) (hm : Mod w.heap.size mid w1 W) (h1 : mid ≤ lo) (h2 : w.heap.size ≤ lo) (h3 : hi ≤ w1.heap.size) :
    Row w.heap.size W.heap.size W A (IntK.iv zs) ∧ Free W A zs.length ∧ Below w.heap.size w W :=
  ⟨(r.keep hm (Or.inr h1)).wider h2 (Nat.le_trans h3 hm.size) (Nat.le_refl _), f.keep r (by rw [IntK.iv_len]; exact Nat.le_refl _) hm (Or.inr h1), below_mod b0 hm (Nat.le_refl _) b0.size⟩

theorem clone (lo hi : Nat) (A : Option Addr) (c : Nat) (zs : List Int) (w : World) (hA : Row lo hi w A (IntK.iv zs)) (hl : zs.length ≤ 1000000000) :
    Calls Tryz.prog 128 #[.slice A zs.length c] w (GaveInts w zs) := by
  by_cases hn : zs = []
  · subst hn
    cases A with
    | none =>
      refine (Tryz.slices_Clone_int_nil _ _ _).mono ?_
      rintro e w' ⟨rfl, rfl⟩
      exact ⟨none, 0, rfl, row_nil _ _ _ _, free_zero _ _, Below.refl _ _⟩
    | some a =>
      refine (Tryz.slices_Clone_int_zero a c w).mono ?_
      rintro e w' ⟨v, rfl, h, _, hb⟩
      exact gave_own (zs := []) h hb
  · obtain ⟨b, o, rfl, hlt, hc⟩ := hA (by simpa [IntK.iv] using hn)
    refine (Tryz.slices_Clone_int b o zs.length c zs w (Nat.le_refl _) (by omega) (fun j hj => ?_)).mono ?_
    · rw [hc j (.int .i64 zs[j]) (by rw [List.getElem?_eq_getElem (by rw [IntK.iv_len]; exact hj), IntK.iv_get hj])]
      simp [List.getD, List.getElem?_eq_getElem hj]
    · rintro e w' ⟨v, rfl, h, _, hb⟩
      rw [List.take_length] at h
      exact gave_own h hb

set_option maxHeartbeats 1000000 in
set_option maxRecDepth 100000 in
theorem copy (lo hi : Nat) (z : Int) (A : Option Addr) (c : Nat) (zs : List Int) (w : World) (hA : Row lo hi w A (IntK.iv zs)) (hl : zs.length ≤ 1000000000) :
    Calls Tryz.prog 86 #[.agg #[.int .i64 z, .slice A zs.length c]] w (Gave w z zs) := by
  have CL := Lib.hid (fun W (h : Below w.heap.size w W) => clone lo hi A c zs W (hA.below h) hl)
  go_enter Tryz.func86, Tryz.ntmps86
  go_wp2_with fail
  go_region_held3 (fun w' => w'.cell? ⟨w.heap.size, 0, none⟩ = some (.int .i64 z) ∧ w'.cell? ⟨w.heap.size, 1, none⟩ = some (.slice A zs.length c)) (first | go_keep | (refine ⟨?_, ?_⟩ <;> (rw [b1.cell (by simp; omega)]; simp; done)))
    ((go_at_call 128; refine (CL.out _ (((Below.refl _ _).alloc (Nat.le_refl _) _).alloc (by simp) _).drew).mono ?_; rintro e w1 ⟨A1, c1, rfl, r1, f1, b1⟩; (obtain ⟨hc1, hf1⟩ := LinK.bcell b1)))
  have b0 : Below w.heap.size w w1 := ((((Below.refl _ _).alloc (Nat.le_refl _) _).alloc (by simp) _).drew).trans (b1.mono (by simp; omega))
  have hsz := b1.size
  have hz1 : w.heap.size + 1 < w1.heap.size := by simp at hsz; omega
  have hk := keep_row (mid := w.heap.size + 2) b0 r1 f1 ((Mod.set w1 (p := ⟨w.heap.size + 1, 0, none⟩) (by simp) (by simp) (.int .i64 z)).trans (Mod.set _ (p := ⟨w.heap.size + 1, 1, none⟩) (by simp) (by simp) (.slice A1 zs.length c1))) (by simp) (by simp; omega) (Nat.le_refl _)
  go_wp2
  exact bodyPost_ret (v := .agg #[.int .i64 z, .slice A1 zs.length c1]) (by simp [results, Tryz.results86, go_sem, hc1]) rfl ⟨A1, c1, rfl, hk⟩

theorem tight_eq (z : Int) (zs : List Int) (h : ¬ (vldB z zs zs.length = true ∧ 2 ≤ gcds zs)) : tightL z zs = (z, zs) := if_neg h
theorem tight_div (z : Int) (zs : List Int) (h : vldB z zs zs.length = true) (h2 : 2 ≤ gcds zs) : tightL z zs = (floorL z (gcds zs), zs.map fun x => x.tdiv (gcds zs)) := if_pos ⟨h, h2⟩

theorem tight_len (z : Int) (zs : List Int) : (tightL z zs).2.length = zs.length := by unfold tightL; split <;> simp

theorem store_iv {lo hi : Nat} {w : World} {b o : Nat} {zs : List Int} (h : Row lo hi w (some ⟨b, o, none⟩) (IntK.iv zs)) {k : Nat} (hk : k < zs.length) (x : Int) : Row lo hi (w.setCell ⟨b, o + k, none⟩ (.int .i64 x)) (some ⟨b, o, none⟩) (IntK.iv (zs.set k x)) := by
  have := h.store (k := k) (by rw [IntK.iv_len]; exact hk) (.int .i64 x)
  rwa [show (IntK.iv zs).set k (.int .i64 x) = IntK.iv (zs.set k x) by simp [IntK.iv, List.map_set]] at this

end LinI
end Go.Proofs.YtbdpohcababccaaGreat
