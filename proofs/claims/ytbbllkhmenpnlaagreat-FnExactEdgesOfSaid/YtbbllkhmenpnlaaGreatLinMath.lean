import Derived.Test.YtbbllkhmenpnlaaGreatArithSpec
/-
  Plain facts on linear expressions: validity, values, scaled sums, tightened constraints.
-/
namespace Go.Proofs.YtbbllkhmenpnlaaGreat
namespace LinM
open ArithM

/-- Are there expressions of n variables? -/
def cntB (n : Int) : Bool := decide (0 ≤ n) && decide (n ≤ 8)
theorem cntB_iff {n : Int} : cntB n = true ↔ 0 ≤ n ∧ n ≤ 8 := by simp [cntB]
/-- Is the expression one of n variables within the limits? -/
def vldB (z : Int) (zs : List Int) (n : Int) : Bool := (cntB n && decide ((zs.length : Int) = n)) && (inC z && zs.all inC)

theorem vldB_iff {z : Int} {zs : List Int} {n : Int} : vldB z zs n = true ↔ (0 ≤ n ∧ n ≤ 8) ∧ (zs.length : Int) = n ∧ inC z = true ∧ ∀ x ∈ zs, inC x = true := by
 simp only [vldB, Bool.and_eq_true, cntB_iff, decide_eq_true_eq, List.all_eq_true]
 constructor
 ·rintro ⟨⟨h1, h2⟩, h3, h4⟩; exact ⟨h1, h2, h3, h4⟩
 ·rintro ⟨h1, h2, h3, h4⟩; exact ⟨⟨h1, h2⟩, h3, h4⟩
theorem vldB_false_head {z : Int} {zs : List Int} {n : Int} (h : cntB n = false ∨ (zs.length : Int) ≠ n ∨ inC z = false) : vldB z zs n = false := by
 rcases h with h | h | h <;> simp [vldB, h]
theorem all_get {zs : List Int} (h : ∀ x ∈ zs, inC x = true) (k : Nat) (hk : k < zs.length) : inC zs[k] = true := h _ (List.getElem_mem hk)

end LinM
end Go.Proofs.YtbbllkhmenpnlaaGreat
