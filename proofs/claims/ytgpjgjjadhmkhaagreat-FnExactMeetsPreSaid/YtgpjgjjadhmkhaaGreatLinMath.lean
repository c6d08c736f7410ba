import Derived.Test.YtgpjgjjadhmkhaaGreatArithSpec
/-
  Plain facts on linear expressions: validity, values, scaled sums, tightened constraints.
-/
namespace Go.Proofs.YtgpjgjjadhmkhaaGreat
namespace LinM
open ArithM

/-- Are there expressions of n variables? -/
def cntB (n : Int) : Bool := decide (0 ≤ n) && decide (n ≤ 8)
theorem cntB_iff {n : Int} : cntB n = true ↔ 0 ≤ n ∧ n ≤ 8 := by simp [cntB]
/-- Is the expression one of n variables within the limits? -/
def vldB (z : Int) (zs : List Int) (n : Int) : Bool := (cntB n && decide ((zs.length : Int) = n)) && (inC z && zs.all inC)

theorem vldB_iff {z : Int} {zs : List Int} {n : Int} : vldB z zs n = true ↔ (0 ≤ n ∧ n ≤ 8) ∧ (zs.length : Int) = n ∧ inC z = true ∧ ∀ x ∈ zs, inC x = true := by
  simp only [vldB, Bool.and_eq_true, cntB_iff, decide_eq_true_eq, List.all_eq_true]
  constructor
  · rintro ⟨⟨h1, h2⟩, h3, h4⟩; exact ⟨h1, h2, h3, h4⟩
  · rintro ⟨h1, h2, h3, h4⟩; exact ⟨⟨h1, h2⟩, h3, h4⟩
theorem vldB_false_head {z : Int} {zs : List Int} {n : Int} (h : cntB n = false ∨ (zs.length : Int) ≠ n ∨ inC z = false) : vldB z zs n = false := by
  rcases h with h | h | h <;> simp [vldB, h]
theorem all_get {zs : List Int} (h : ∀ x ∈ zs, inC x = true) (k : Nat) (hk : k < zs.length) : inC zs[k] = true := h _ (List.getElem_mem hk)

/-- The sum of the products. -/
def dot : List Int → List Int → Int
  | x :: xs, y :: ys => x * y + dot xs ys
  | _, _ => 0
theorem dot_take (zs : List Int) : ∀ (vs : List Int) (k : Nat) (h1 : k < zs.length) (h2 : k < vs.length), dot (zs.take (k + 1)) (vs.take (k + 1)) = dot (zs.take k) (vs.take k) + zs[k] * vs[k] := by
  induction zs with
  | nil => intro vs k h1; simp at h1
  | cons x xs ih =>
    intro vs k h1 h2
    cases vs with
    | nil => simp at h2
    | cons y ys =>
      cases k with
      | zero => simp [dot]
      | succ k =>
        simp only [List.take_succ_cons, dot, List.getElem_cons_succ]
        rw [ih ys k (by simpa using h1) (by simpa using h2)]
        omega

theorem mul_bd {x y a b : Int} (h1 : -a ≤ x ∧ x ≤ a) (h2 : -b ≤ y ∧ y ≤ b) : -(a * b) ≤ x * y ∧ x * y ≤ a * b := by
  have ha : 0 ≤ a := by omega
  have hb : 0 ≤ b := by omega
  have h : (x * y).natAbs ≤ (a * b).natAbs := by
    rw [Int.natAbs_mul, Int.natAbs_mul]
    exact Nat.mul_le_mul (by omega) (by omega)
  have hab : 0 ≤ a * b := Int.mul_nonneg ha hb
  omega

theorem dot_bound : ∀ (zs vs : List Int), (∀ x ∈ zs, inC x = true) → (∀ y ∈ vs, inF y = true) → -(zs.length * 1000000000000000) ≤ dot zs vs ∧ dot zs vs ≤ zs.length * 1000000000000000
  | [], vs, _, _ => by simp [dot]
  | x :: xs, [], _, _ => by simp only [dot, List.length_cons]; omega
  | x :: xs, y :: ys, h1, h2 => by
    have ih := dot_bound xs ys (fun a ha => h1 a (List.mem_cons_of_mem _ ha)) (fun a ha => h2 a (List.mem_cons_of_mem _ ha))
    have hx := inC_iff.1 (h1 x List.mem_cons_self)
    have hy := inF_iff.1 (h2 y List.mem_cons_self)
    have hm := mul_bd hx hy
    simp only [dot, List.length_cons]
    generalize x * y = p at *
    omega

/-- The value, where the expression is valid and the values fit. -/
def evalL (z : Int) (zs vs : List Int) : Option Int := if vldB z zs vs.length = true ∧ vs.all inF = true then some (z + dot zs vs) else none

end LinM
end Go.Proofs.YtgpjgjjadhmkhaaGreat
