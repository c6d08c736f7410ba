import Derived.Test.YtmkelfjnjnjgbaaProg
import Derived.WalkKit
import Derived.DeepKeys
import Derived.Test.YtmkelfjnjnjgbaaLinImpl2
import Derived.Laws.CopyOwn
import Derived.Deep.RegionHeld3
/-
  The program's arrays of integers: comparison.
-/
namespace Go.Proofs.Ytmkelfjnjnjgbaa
open Go.RowKit
namespace LinI
theorem run_items (xs ys : Array Value) (w : World) : ∀ (ps qs : List Int) (k : Nat), ps.length = qs.length → (∀ (j : Nat) (a : Int), ps[j]? = some a → xs[k + j]? = some (.int .i64 a)) → (∀ (j : Nat) (b : Int), qs[j]? = some b → ys[k + j]? = some (.int .i64 b)) →
    (Op.eqItems 9999 3 1 xs ys (List.range' k ps.length)).run Try.prog w = .ok (decide (ps = qs)) w
  | [], [], k, _, _, _ => by simp [Op.eqItems]
  | [], _ :: _, _, h, _, _ => by simp at h
  | _ :: _, [], _, h, _, _ => by simp at h
  | a :: ps, b :: qs, k, hl, ha, hb => by
    have hk : Try.prog.plainKey 3 = true := by kernel_rfl
    have hu := Try.underlying3
    have p1 : (part 3 xs (k * 1)).run Try.prog w = .ok (.int .i64 a) w := run_part_plain w hk (by rw [Nat.mul_one]; exact ha 0 a rfl)
    have p2 : (part 3 ys (k * 1)).run Try.prog w = .ok (.int .i64 b) w := run_part_plain w hk (by rw [Nat.mul_one]; exact hb 0 b rfl)
    have he : (Op.equalIn 9999 3 (.int .i64 a) (.int .i64 b)).run Try.prog w = .ok (a == b) w := run_equalIn_int w 9998 _ _ _ a b hu
    have ih := run_items xs ys w ps qs (k + 1) (by simpa using hl) (fun j x hj => by rw [Nat.add_assoc, Nat.add_comm 1 j]; exact ha (j + 1) x (by simpa using hj)) (fun j x hj => by rw [Nat.add_assoc, Nat.add_comm 1 j]; exact hb (j + 1) x (by simpa using hj))
    rw [List.length_cons, List.range'_succ]
    simp only [Op.eqItems, Sem.run_bind, p1, p2, he, Result.andThen_ok]
    by_cases h : a = b
    · subst h
      simpa using ih
    · simp [h]
end LinI
end Go.Proofs.Ytmkelfjnjnjgbaa

/-
  The program's linear expressions: equality.
-/
namespace Go.Proofs.Ytmkelfjnjnjgbaa
open Go.RowKit
namespace LinI
open RowK LinM ArithM

/-- The first eight numbers, with zeros behind. -/
def l8 (zs : List Int) : List Int := [zs.getD 0 0, zs.getD 1 0, zs.getD 2 0, zs.getD 3 0, zs.getD 4 0, zs.getD 5 0, zs.getD 6 0, zs.getD 7 0]
def arr8 (zs : List Int) : List Value := (l8 zs).map (Value.int .i64)
theorem l8_len (zs : List Int) : (l8 zs).length = 8 := rfl
theorem l8_eq {zs us : List Int} (k : Nat) (h : l8 (zs.drop k) = l8 (us.drop k)) (hp : ∀ j, j < k → zs.getD j 0 = us.getD j 0) : ∀ j, j < k + 8 → zs.getD j 0 = us.getD j 0 := fun j hj => by
  simp only [l8, drop_getD, List.cons.injEq] at h
  by_cases h1 : j < k
  · exact hp j h1
  · obtain ⟨i, rfl⟩ : ∃ i, j = k + i := ⟨j - k, by omega⟩
    have hi : i = 0 ∨ i = 1 ∨ i = 2 ∨ i = 3 ∨ i = 4 ∨ i = 5 ∨ i = 6 ∨ i = 7 := by omega
    rcases hi with rfl | rfl | rfl | rfl | rfl | rfl | rfl | rfl
    · exact h.1
    · exact h.2.1
    · exact h.2.2.1
    · exact h.2.2.2.1
    · exact h.2.2.2.2.1
    · exact h.2.2.2.2.2.1
    · exact h.2.2.2.2.2.2.1
    · exact h.2.2.2.2.2.2.2.1
theorem splice8 (zs : List Int) : splice [.int .i64 0, .int .i64 0, .int .i64 0, .int .i64 0, .int .i64 0, .int .i64 0, .int .i64 0, .int .i64 0] 0 (IntK.iv (zs.take 8)) = arr8 zs := by
  unfold arr8 l8 splice IntK.iv
  rcases zs with _ | ⟨a, zs⟩; · rfl
  rcases zs with _ | ⟨a, zs⟩; · rfl
  rcases zs with _ | ⟨a, zs⟩; · rfl
  rcases zs with _ | ⟨a, zs⟩; · rfl
  rcases zs with _ | ⟨a, zs⟩; · rfl
  rcases zs with _ | ⟨a, zs⟩; · rfl
  rcases zs with _ | ⟨a, zs⟩; · rfl
  rcases zs with _ | ⟨a, zs⟩; · rfl
  simp

end LinI
end Go.Proofs.Ytmkelfjnjnjgbaa
