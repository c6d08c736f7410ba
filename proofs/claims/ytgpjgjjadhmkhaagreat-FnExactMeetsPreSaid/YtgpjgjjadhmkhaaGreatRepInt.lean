import Derived.Test.YtgpjgjjadhmkhaaGreatRepUni
/-
  Slices of integers in the laws' helpers' one form.
-/
namespace Go.Proofs.YtgpjgjjadhmkhaaGreat
open Go.RowKit
namespace Mem
open RowK
def szInt (_ : Int) : Nat := 0
def WfInt (z : Int) : Prop := (Lit.int .i64 z).wf = true
theorem szInts : ∀ xs : List Int, szs szInt xs = 0
  | [] => rfl
  | x :: xs => by rw [szs_cons, szInts xs]; rfl
theorem ints_row {q : Bool} {w : World} {fp : List Nat} {A : Option Addr} {c : Nat} {xs : List Int} (h : (Rep.slice Rep.int).rep q w fp [.slice A xs.length c] xs) :
    ∃ lo hi, xs.length ≤ c ∧ Row lo hi w A (IntK.iv xs) ∧ (q = true → Free w A xs.length) ∧ ((xs = [] ∧ fp = []) ∨ (xs ≠ [] ∧ ∃ b o, A = some ⟨b, o, none⟩ ∧ fp = [b] ∧ lo = b ∧ hi = b + 1 ∧ b < w.heap.size)) := by
  obtain ⟨A', c', e, hc, ⟨rfl, rfl⟩ | ⟨b, o, es, rfl, hv, hne, rfl, hl, he, hr, hf⟩⟩ := h
  · injection e with e _
    injection e with e1 e2 e3
    subst e1; subst e3
    exact ⟨0, 0, hc, row_nil _ _ _ _, fun _ => free_zero _ _, Or.inl ⟨rfl, rfl⟩⟩
  · injection e with e _
    injection e with e1 e2 e3
    subst e1; subst e3
    obtain ⟨h1, h2⟩ := int_cells he
    rw [h1, ← hv] at hr hf
    rw [h2]
    refine ⟨b, b + 1, hc, hr, fun hq => by have := hf hq; rwa [IntK.iv_len] at this, Or.inr ⟨fun e => hne ?_, b, o, rfl, rfl, rfl, rfl, hl⟩⟩
    rw [hv] at e
    exact List.eq_nil_of_length_eq_zero (by rw [← vals_len, e]; rfl)
theorem copyIntSU (q : Bool) (fp : List Nat) (A : Option Addr) (c : Nat) (xs : List Int) (w : World) (hA : (Rep.slice Rep.int).rep q w fp [.slice A xs.length c] xs) (hl : xs.length + szs szInt xs ≤ 100000000) :
    Calls Tryz.prog 102 #[.slice A xs.length c] w (CopiedU Rep.int w xs) := by
  obtain ⟨lo, hi, hc, hr, _, _⟩ := ints_row hA
  refine (IntK.copy lo hi A c xs w hr (by omega)).mono fun e w' ⟨B, he, r1, f1, hb⟩ => ⟨B, he, ?_, hb⟩
  obtain ⟨fp2, k1, k2, k3⟩ := ints_close (q := true) r1 (fun _ => f1) (Nat.le_refl _)
  exact ⟨Nat.le_refl _, fp2, k1, k2, k3⟩
theorem sizeIntSU (_q : Bool) (_fp : List Nat) (A : Option Addr) (c L : Nat) (xs : List Int) (w : World) (_hA : (Rep.slice Rep.int).rep _q w _fp [.slice A xs.length c] xs) (hL : L ≤ 1000000000) (hl : xs.length ≤ 9223372036854775807) (_hs : ∀ x ∈ xs, WfInt x) :
    Calls Tryz.prog 99 #[.slice A xs.length c, .int .i64 L] w fun e w' => e = .returned (.int .i64 (IntK.leftOf L (xs.length + szs szInt xs))) ∧ Below w.heap.size w w' := by
  rw [szInts]
  exact (IntK.size A c L xs.length w (by omega) hl).mono fun e w' ⟨he, hw⟩ => ⟨he, by subst hw; exact Below.refl _ _⟩
theorem eqIntSU (q q2 : Bool) (fp gp : List Nat) (A B : Option Addr) (c d : Nat) (xs : List Int) (w : World) (hA : (Rep.slice Rep.int).rep q w fp [.slice A xs.length c] xs) (hB : (Rep.slice Rep.int).rep q2 w gp [.slice B xs.length d] xs) (hl : xs.length + szs szInt xs ≤ 100000000) :
    Calls Tryz.prog 103 #[.slice A xs.length c, .slice B xs.length d] w fun e w' => e = .returned (.bool true) ∧ Below w.heap.size w w' := by
  obtain ⟨lo, hi, _, hr, _, _⟩ := ints_row hA
  obtain ⟨lo2, hi2, _, hr2, _, _⟩ := ints_row hB
  exact IntK.eq_same lo hi lo2 hi2 A B c d xs w hr hr2 (by omega)
end Mem
end Go.Proofs.YtgpjgjjadhmkhaaGreat
