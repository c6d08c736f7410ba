/-
  Plain facts on tightened constraints: tightening twice, and the same solutions.
-/
import Derived.Test.YtjhjbnfdnecidaaLinImpl2
namespace Go.Proofs.Ytjhjbnfdnecidaa
namespace LinM
open ArithM

/-- The common divisor of a number and a list. -/
def gcdN (a : Nat) (zs : List Int) : Nat := zs.foldl (fun a x => Nat.gcd a x.natAbs) a
theorem gcdN_dvd : ∀ (zs : List Int) (a : Nat), gcdN a zs ∣ a ∧ ∀ x ∈ zs, gcdN a zs ∣ x.natAbs
  | [], a => ⟨Nat.dvd_refl _, fun x h => by cases h⟩
  | x :: xs, a => by
    have ih := gcdN_dvd xs (Nat.gcd a x.natAbs)
    show gcdN (Nat.gcd a x.natAbs) xs ∣ a ∧ ∀ y ∈ x :: xs, gcdN (Nat.gcd a x.natAbs) xs ∣ y.natAbs
    refine ⟨Nat.dvd_trans ih.1 (Nat.gcd_dvd_left _ _), fun y hy => ?_⟩
    rcases List.mem_cons.1 hy with rfl | h
    · exact Nat.dvd_trans ih.1 (Nat.gcd_dvd_right _ _)
    · exact ih.2 y h
theorem gcdN_mul (g : Nat) : ∀ (zs : List Int) (a : Nat), gcdN (a * g) (zs.map fun x => x * (g : Int)) = gcdN a zs * g
  | [], a => rfl
  | x :: xs, a => by
    have ih := gcdN_mul g xs (Nat.gcd a x.natAbs)
    show gcdN (Nat.gcd (a * g) (x * (g : Int)).natAbs) (xs.map fun x => x * (g : Int)) = gcdN (Nat.gcd a x.natAbs) xs * g
    rw [Int.natAbs_mul, Int.natAbs_natCast, Nat.gcd_mul_right, ih]
theorem fold_gcd : ∀ (zs : List Int) (a : Nat), a ≤ 1000000000 → (∀ x ∈ zs, inC x = true) → zs.foldl gcdL (a : Int) = (gcdN a zs : Int)
  | [], a, _, _ => rfl
  | x :: xs, a, ha, h => by
    have hx := h x List.mem_cons_self
    have ha' : inC (a : Int) = true := inC_iff.2 ⟨by omega, by omega⟩
    have e : gcdL (a : Int) x = ((Nat.gcd a x.natAbs : Nat) : Int) := by
      rw [gcdL, if_pos ⟨ha', hx⟩, Int.natAbs_natCast]
    have hb := gcdL_le ha' hx (by omega)
    show xs.foldl gcdL (gcdL (a : Int) x) = (gcdN (Nat.gcd a x.natAbs) xs : Int)
    rw [e] at hb ⊢
    exact fold_gcd xs _ (by omega) (fun y hy => h y (List.mem_cons_of_mem _ hy))
theorem gcds_eq (zs : List Int) (h : ∀ x ∈ zs, inC x = true) : gcds zs = (gcdN 0 zs : Int) := fold_gcd zs 0 (by omega) h

theorem div_back (zs : List Int) (g : Nat) (h : ∀ x ∈ zs, g ∣ x.natAbs) : (zs.map fun x => x.tdiv g).map (fun x => x * (g : Int)) = zs := by
  rw [List.map_map]
  conv => rhs; rw [← List.map_id zs]
  refine List.map_congr_left (fun x hx => ?_)
  exact Int.tdiv_mul_cancel (Int.ofNat_dvd_left.2 (h x hx))
theorem dot_scale (g : Int) : ∀ (ys vs : List Int), dot (ys.map fun x => x * g) vs = dot ys vs * g
  | [], _ => by simp [dot]
  | _ :: _, [] => by simp [dot]
  | x :: xs, v :: vs => by
    have ih := dot_scale g xs vs
    simp only [List.map_cons, dot, ih, Int.add_mul]
    rw [Int.mul_right_comm]

/-- What a tightened constraint is: nothing has changed, or all has been divided by the common divisor. -/
theorem tight_cases (z : Int) (zs : List Int) : tightL z zs = (z, zs) ∨ ∃ g : Nat, 2 ≤ g ∧ g ≤ 1000000000 ∧ vldB z zs zs.length = true ∧ (gcdN 0 zs = g) ∧ tightL z zs = (z / (g : Int), zs.map fun x => x.tdiv g) := by
  by_cases h : vldB z zs zs.length = true ∧ 2 ≤ gcds zs
  · have hv := vldB_iff.1 h.1
    have he := gcds_eq zs hv.2.2.2
    have hb := gcds_bound zs hv.2.2.2
    refine Or.inr ⟨gcdN 0 zs, by omega, by omega, h.1, rfl, ?_⟩
    rw [tightL, if_pos h, he, floorL, if_neg (by omega)]
  · exact Or.inl (by rw [tightL, if_neg h])
theorem floor_inC {z : Int} {g : Nat} (hz : inC z = true) (hg : 2 ≤ g) : inC (z / (g : Int)) = true := by
  rw [inC_iff] at hz ⊢
  exact ⟨Int.le_ediv_of_mul_le (by omega) (by omega), Int.ediv_le_of_le_mul (by omega) (by omega)⟩
theorem tight_inC {z : Int} {zs : List Int} (h : vldB z zs zs.length = true) : vldB (tightL z zs).1 (tightL z zs).2 zs.length = true := by
  rcases tight_cases z zs with e | ⟨g, h2, h3, hv, _, e⟩
  · rw [e]; exact h
  · rw [e]
    have v := vldB_iff.1 hv
    refine vldB_iff.2 ⟨v.1, by simp, floor_inC v.2.2.1 h2, fun x hx => ?_⟩
    obtain ⟨y, hy, rfl⟩ := List.mem_map.1 hx
    exact inC_iff.2 (tdiv_bound (v.2.2.2 y hy) (by omega))

/-- Tightening twice is tightening once. -/
theorem tight_idem (z : Int) (zs : List Int) : tightL (tightL z zs).1 (tightL z zs).2 = tightL z zs := by
  rcases tight_cases z zs with e | ⟨g, h2, h3, hv, hg, e⟩
  · rw [e]; exact e
  · have hi := tight_inC hv
    rw [e] at hi ⊢
    have v := (vldB_iff.1 hi).2.2.2
    have hd := gcdN_dvd zs 0
    rw [hg] at hd
    have hm := gcdN_mul g (zs.map fun x => x.tdiv g) 0
    rw [div_back zs g hd.2, Nat.zero_mul, hg] at hm
    have h1 : gcdN 0 (zs.map fun x => x.tdiv g) = 1 := by
      have : gcdN 0 (zs.map fun x => x.tdiv g) * g = 1 * g := by omega
      exact Nat.eq_of_mul_eq_mul_right (by omega) this
    have h4 := gcds_eq _ v
    rw [h1] at h4
    exact if_neg (fun h => by have := h.2; simp only [h4] at this; omega)

/-- The values of both are negative, or none is. -/
theorem tight_eval {z : Int} {zs vs : List Int} (h : vldB z zs zs.length = true) (hl : vs.length = zs.length) (hf : vs.all inF = true) :
    ∃ x y, evalL z zs vs = some x ∧ evalL (tightL z zs).1 (tightL z zs).2 vs = some y ∧ (0 ≤ x ↔ 0 ≤ y) := by
  have hi := tight_inC h
  refine ⟨_, _, by rw [evalL, if_pos ⟨by rw [hl]; exact h, hf⟩], by rw [evalL, if_pos ⟨by rw [hl]; exact hi, hf⟩], ?_⟩
  rcases tight_cases z zs with e | ⟨g, h2, h3, hv, hg, e⟩
  · rw [e]
  · rw [e]
    have hd := gcdN_dvd zs 0
    rw [hg] at hd
    have hs := dot_scale g (zs.map fun x => x.tdiv g) vs
    rw [div_back zs g hd.2] at hs
    rw [hs]
    show 0 ≤ z + dot (zs.map fun x => x.tdiv g) vs * (g : Int) ↔ 0 ≤ z / (g : Int) + dot (zs.map fun x => x.tdiv g) vs
    rw [← Int.add_mul_ediv_right z _ (show (g : Int) ≠ 0 by omega)]
    exact (Int.ediv_nonneg_iff_of_pos (by omega)).symm
theorem tight_range {z : Int} {zs : List Int} (h0 : -9223372036854775808 ≤ z) (h1 : z ≤ 9223372036854775807) : -9223372036854775808 ≤ (tightL z zs).1 ∧ (tightL z zs).1 ≤ 9223372036854775807 := by
  unfold tightL
  split
  · exact floorL_bounds h0 h1
  · exact ⟨h0, h1⟩
end LinM
end Go.Proofs.Ytjhjbnfdnecidaa
