import Derived.Test.YtgpjgjjadhmkhaaProg
import Derived.WalkKit
import Derived.DeepKeys
/-
  The program's arrays of integers: comparison.
-/
namespace Go.Proofs.Ytgpjgjjadhmkhaa
open Go.RowKit
namespace LinI
theorem run_items (xs ys : Array Value) (w : World) : ∀ (ps qs : List Int) (k : Nat), ps.length = qs.length → (∀ (j : Nat) (a : Int), ps[j]? = some a → xs[k + j]? = some (.int .i64 a)) → (∀ (j : Nat) (b : Int), qs[j]? = some b → ys[k + j]? = some (.int .i64 b)) →
    (Op.eqItems 9999 3 1 xs ys (List.range' k ps.length)).run Try.prog w = .ok (decide (ps = qs)) w
  | [], [], k, _, _, _ => by simp [Op.eqItems]
  | [], _ :: _, _, h, _, _ => by simp at h
  | _ :: _, [], _, h, _, _ => by simp at h
  | a :: ps, b :: qs, k, hl, ha, hb => by
    have hk : Try.prog.plainKey 3 = true := by kernel_rfl
    have hu := Try.underlying3
    have p1 : (part 3 xs (k * 1)).run Try.prog w = .ok (.int .i64 a) w := run_part_plain w hk (by rw [Nat.mul_one]; exact ha 0 a rfl)
    have p2 : (part 3 ys (k * 1)).run Try.prog w = .ok (.int .i64 b) w := run_part_plain w hk (by rw [Nat.mul_one]; exact hb 0 b rfl)
    have he : (Op.equalIn 9999 3 (.int .i64 a) (.int .i64 b)).run Try.prog w = .ok (a == b) w := run_equalIn_int w 9998 _ _ _ a b hu
    have ih := run_items xs ys w ps qs (k + 1) (by simpa using hl) (fun j x hj => by rw [Nat.add_assoc, Nat.add_comm 1 j]; exact ha (j + 1) x (by simpa using hj)) (fun j x hj => by rw [Nat.add_assoc, Nat.add_comm 1 j]; exact hb (j + 1) x (by simpa using hj))
    rw [List.length_cons, List.range'_succ]
    simp only [Op.eqItems, Sem.run_bind, p1, p2, he, Result.andThen_ok]
    by_cases h : a = b
    · subst h
      simpa using ih
    · simp [h]
end LinI
end Go.Proofs.Ytgpjgjjadhmkhaa
