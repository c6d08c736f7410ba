import Derived.Test.YtnbgmhlhbcoicaaFarkMath
/-
  Certificates of implication, reckoned: the limits of a combination.
-/
namespace Go.Proofs.Ytnbgmhlhbcoicaa
namespace FarkM
open LinM ArithM

theorem addS_range {a b : Int × List Int} {k : Int} {x : Int × List Int} (h : addS a.1 a.2 k x.1 x.2 = some b) : inC b.1 = true := by
  unfold addS at h
  split at h
  · obtain ⟨c, hc, h2⟩ := Option.bind_eq_some_iff.1 h
    obtain ⟨cs, _, rfl⟩ := Option.map_eq_some_iff.1 h2
    exact (addP_some hc).2.1
  · cases h
theorem comb_range : ∀ {ms : List Int} {xs : List (Int × List Int)} {a b : Int × List Int}, inC a.1 = true → comb a ms xs = some b → inC b.1 = true
  | [], xs, a, b, ha, h => by rw [comb_nil] at h; injection h with h; subst h; exact ha
  | m :: ms, [], a, b, ha, h => by injection h with h; subst h; exact ha
  | m :: ms, x :: xs, a, b, ha, h => by
    rw [comb_cons] at h
    split at h
    · cases h
    · obtain ⟨c, hc, hb⟩ := Option.bind_eq_some_iff.1 h
      exact comb_range (addS_range hc) hb
theorem combR_range (N : Int) (xs : List (Int × List Int)) (ms : List Int) : -1000000000 ≤ ((combR N xs ms).getD (0, [])).1 ∧ ((combR N xs ms).getD (0, [])).1 ≤ 1000000000 := by
  cases h : combR N xs ms with
  | none => simp
  | some b =>
    rw [Option.getD_some]
    unfold combR at h
    split at h
    · refine inC_iff.1 (comb_range ?_ h)
      unfold constL
      split <;> (show inC 0 = true; decide)
    · cases h
end FarkM
end Go.Proofs.Ytnbgmhlhbcoicaa
