import Derived.Test.YtgpjgjjadhmkhaaDraw
import Derived.Test.YtgpjgjjadhmkhaaRepGen
import Derived.Test.YtgpjgjjadhmkhaaLinMath
/-
  The helper of the laws that takes numbers out of a code; what is known of drawn expressions.
-/
namespace Go.Proofs.Ytgpjgjjadhmkhaa
open Go.RowKit
namespace Draw
open RowK

/-- A number of a code, reckoned small. -/
def vals (lo hi : Int) (vs : List Int) : Prop := ∀ x ∈ vs, lo ≤ x ∧ x ≤ hi
theorem vals_snoc {lo hi : Int} {vs : List Int} (h : vals lo hi vs) {y : Int} (h1 : lo ≤ y ∧ y ≤ hi) : vals lo hi (vs ++ [y]) := fun x hx => by
  rcases List.mem_append.1 hx with h2 | h2
  · exact h x h2
  · rw [List.mem_singleton.1 h2]; exact h1
theorem vals_fit {lo hi : Int} {vs : List Int} (h : vals lo hi vs) (h1 : -1000000 ≤ lo) (h2 : hi ≤ 1000000) : vs.all ArithM.inF = true := by
  rw [List.all_eq_true]
  intro x hx
  have := h x hx
  exact ArithM.inF_iff.2 ⟨by omega, by omega⟩
end Draw
namespace LinM
open ArithM
/-- The value of a scaled sum. -/
theorem dot_addPs (k : Int) : ∀ (zs us cs vs : List Int), addPs k zs us = some cs → zs.length = us.length → dot cs vs = dot zs vs + k * dot us vs
  | [], [], cs, vs, h, _ => by simp [addPs] at h; subst h; simp [dot]
  | [], _ :: _, _, _, _, hl => by simp at hl
  | _ :: _, [], _, _, _, hl => by simp at hl
  | x :: xs, y :: ys, cs, vs, h, hl => by
    simp only [addPs, Option.bind_eq_some_iff, Option.map_eq_some_iff] at h
    obtain ⟨a, ha, r, hr, rfl⟩ := h
    obtain ⟨_, _, rfl⟩ := addP_some ha
    cases vs with
    | nil => simp [dot]
    | cons v vs =>
      have ih := dot_addPs k xs ys r vs hr (by simpa using hl)
      simp only [dot, ih]
      rw [Int.add_mul, Int.mul_add, Int.mul_assoc]
      omega
theorem addPs_inC (k : Int) : ∀ (zs us cs : List Int), addPs k zs us = some cs → ∀ x ∈ cs, inC x = true
  | [], us, cs, h => by simp [addPs] at h; subst h; intro x hx; cases hx
  | _ :: _, [], cs, h => by simp [addPs] at h; subst h; intro x hx; cases hx
  | x :: xs, y :: ys, cs, h => by
    simp only [addPs, Option.bind_eq_some_iff, Option.map_eq_some_iff] at h
    obtain ⟨a, ha, r, hr, rfl⟩ := h
    intro z hz
    rcases List.mem_cons.1 hz with h1 | h1
    · rw [h1]; exact (addP_some ha).2.1
    · exact addPs_inC k xs ys r hr z h1
/-- .. all that the law on scaled sums asks. -/
theorem addS_eval {z k u zc : Int} {zs us cs vs : List Int} (h : addS z zs k u us = some (zc, cs)) (hl : vs.length = zs.length) (hf : vs.all inF = true) :
    ∃ x y t : Int, evalL z zs vs = some x ∧ evalL u us vs = some y ∧ evalL zc cs vs = some t ∧ t = x + k * y ∧ (-9000000000000000 ≤ x ∧ x ≤ 9000000000000000) ∧ (-9000000000000000 ≤ t ∧ t ≤ 9000000000000000) := by
  unfold addS at h
  split at h
  · rename_i hv
    simp only [Option.bind_eq_some_iff, Option.map_eq_some_iff] at h
    obtain ⟨c0, h0, cs', h1, he⟩ := h
    injection he with e1 e2
    subst e1; subst e2
    have v1 := vldB_iff.1 hv.1
    have v2 := vldB_iff.1 hv.2
    have hlu : zs.length = us.length := by omega
    have hcl := addPs_len k zs us cs' hlu h1
    obtain ⟨_, hc0, hce⟩ := addP_some h0
    have hvc : vldB c0 cs' vs.length = true := vldB_iff.2 ⟨by rw [hl]; exact v1.1, by omega, hc0, addPs_inC k zs us cs' h1⟩
    have hva : vldB z zs vs.length = true := by rw [hl]; exact hv.1
    have hvb : vldB u us vs.length = true := by rw [hl]; exact hv.2
    refine ⟨_, _, _, by rw [evalL, if_pos ⟨hva, hf⟩], by rw [evalL, if_pos ⟨hvb, hf⟩], by rw [evalL, if_pos ⟨hvc, hf⟩], ?_, ?_, ?_⟩
    · rw [dot_addPs k zs us cs' vs h1 hlu, hce, Int.mul_add]; omega
    · have b := dot_bound zs vs v1.2.2.2 (by simpa [List.all_eq_true] using hf)
      have c := inC_iff.1 v1.2.2.1
      have := v1.1.2
      omega
    · have b := dot_bound cs' vs (addPs_inC k zs us cs' h1) (by simpa [List.all_eq_true] using hf)
      have c := inC_iff.1 hc0
      have := v1.1.2
      omega
  · cases h
end LinM
end Go.Proofs.Ytgpjgjjadhmkhaa
