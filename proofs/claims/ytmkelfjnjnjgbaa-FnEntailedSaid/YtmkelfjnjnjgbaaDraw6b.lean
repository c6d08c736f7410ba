import Derived.Test.YtmkelfjnjnjgbaaLinSpec
/-
  The model's ConstLin, its capacity known.
-/
namespace Go.Proofs.Ytmkelfjnjnjgbaa
open Go.RowKit
namespace LinS
open RowK LinM

set_option maxHeartbeats 1000000 in
set_option maxRecDepth 100000 in
theorem constC (k n : Int) (w : World) :
    Calls Try.prog 46 #[.int .i64 k, .int .i64 n] w (LinI.GaveC w (constL k n).1 (constL k n).2) := by
  have IC := Lib.hid ArithS.in3
  have CN := Lib.hid cnt
  by_cases h1 : cntB n = true
  · by_cases h2 : ArithM.inC k = true
    · have hm : constL k n = (k, List.replicate n.toNat 0) := by simp [constL, h1, h2]
      rw [hm]
      clear hm
      have hb := cntB_iff.1 h1
      obtain ⟨m, rfl⟩ : ∃ m : Nat, n = (m : Int) := ⟨n.toNat, by omega⟩
      rw [Int.toNat_natCast]
      have hmk := IntK.run_mk m (by omega)
      have hro := Lib.hid (fun W => LinI.made W m (by omega))
      clear hb
      go_enter Try.func46, Try.ntmps46
      go_wp2_with fail
      refine (CN.out _ _).mono ?_
      rintro e w1 ⟨rfl, rfl⟩
      simp only [h1]
      go_wp2_with fail
      refine (IC.out k _).mono ?_
      rintro e w1 ⟨rfl, rfl⟩
      simp only [h2]
      go_wp2
      have hr := hro.out (w.alloc (Obj.cells #[Value.int IntKind.i64 k, Value.slice (some { block := w.heap.size + 1, off := 0 }) m m] 29))
      refine bodyPost_ret (v := .agg #[.int .i64 k, .slice (some ⟨w.heap.size + 1, 0, none⟩) m m]) (by simp [results, Try.results46, go_sem]) rfl ⟨some ⟨w.heap.size + 1, 0, none⟩, m, by simp, ?_, ?_, ((Below.refl _ _).alloc (Nat.le_refl _) _).alloc (by simp) _, by simp⟩
      · have h := hr.1
        simp only [World.size_alloc] at h ⊢
        exact h.wider (by omega) (by omega) (by simp)
      · have h := hr.2
        simp only [World.size_alloc, List.length_replicate] at h ⊢
        exact h
    · have hm : constL k n = (0, []) := by simp [constL, h2]
      simp only [Bool.not_eq_true] at h2
      rw [hm]
      clear hm
      go_enter Try.func46, Try.ntmps46
      go_wp2_with fail
      refine (CN.out _ _).mono ?_
      rintro e w1 ⟨rfl, rfl⟩
      simp only [h1]
      go_wp2_with fail
      refine (IC.out k _).mono ?_
      rintro e w1 ⟨rfl, rfl⟩
      simp only [h2]
      go_wp2
      exact bodyPost_ret (v := .agg #[.int .i64 0, .slice none 0 0]) (by simp [results, Try.results46, go_sem]) rfl ⟨none, 0, rfl, row_nil _ _ _ _, free_zero _ _, (Below.refl _ _).alloc (Nat.le_refl _) _, Nat.le_refl _⟩
  · have hm : constL k n = (0, []) := by simp [constL, h1]
    simp only [Bool.not_eq_true] at h1
    rw [hm]
    clear hm
    go_enter Try.func46, Try.ntmps46
    go_wp2_with fail
    refine (CN.out _ _).mono ?_
    rintro e w1 ⟨rfl, rfl⟩
    simp only [h1]
    go_wp2
    exact bodyPost_ret (v := .agg #[.int .i64 0, .slice none 0 0]) (by simp [results, Try.results46, go_sem]) rfl ⟨none, 0, rfl, row_nil _ _ _ _, free_zero _ _, (Below.refl _ _).alloc (Nat.le_refl _) _, Nat.le_refl _⟩
end LinS
end Go.Proofs.Ytmkelfjnjnjgbaa
