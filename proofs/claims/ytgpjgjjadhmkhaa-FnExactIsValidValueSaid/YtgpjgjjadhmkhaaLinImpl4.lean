import Derived.Test.YtgpjgjjadhmkhaaLinImpl
import Derived.Test.YtgpjgjjadhmkhaaArrEq
import Derived.Laws.CopyOwn
import Derived.Deep.RegionHeld3
/-
  The program's linear expressions: equality.
-/
namespace Go.Proofs.Ytgpjgjjadhmkhaa
open Go.RowKit
namespace LinI
open RowK LinM ArithM

/-- The first eight numbers, with zeros behind. -/
def l8 (zs : List Int) : List Int := [zs.getD 0 0, zs.getD 1 0, zs.getD 2 0, zs.getD 3 0, zs.getD 4 0, zs.getD 5 0, zs.getD 6 0, zs.getD 7 0]
def arr8 (zs : List Int) : List Value := (l8 zs).map (Value.int .i64)
theorem l8_len (zs : List Int) : (l8 zs).length = 8 := rfl
theorem l8_eq {zs us : List Int} (k : Nat) (h : l8 (zs.drop k) = l8 (us.drop k)) (hp : ∀ j, j < k → zs.getD j 0 = us.getD j 0) : ∀ j, j < k + 8 → zs.getD j 0 = us.getD j 0 := fun j hj => by
  simp only [l8, drop_getD, List.cons.injEq] at h
  by_cases h1 : j < k
  · exact hp j h1
  · obtain ⟨i, rfl⟩ : ∃ i, j = k + i := ⟨j - k, by omega⟩
    have hi : i = 0 ∨ i = 1 ∨ i = 2 ∨ i = 3 ∨ i = 4 ∨ i = 5 ∨ i = 6 ∨ i = 7 := by omega
    rcases hi with rfl | rfl | rfl | rfl | rfl | rfl | rfl | rfl
    · exact h.1
    · exact h.2.1
    · exact h.2.2.1
    · exact h.2.2.2.1
    · exact h.2.2.2.2.1
    · exact h.2.2.2.2.2.1
    · exact h.2.2.2.2.2.2.1
    · exact h.2.2.2.2.2.2.2.1
theorem splice8 (zs : List Int) : splice [.int .i64 0, .int .i64 0, .int .i64 0, .int .i64 0, .int .i64 0, .int .i64 0, .int .i64 0, .int .i64 0] 0 (IntK.iv (zs.take 8)) = arr8 zs := by
  unfold arr8 l8 splice IntK.iv
  rcases zs with _ | ⟨a, zs⟩; · rfl
  rcases zs with _ | ⟨a, zs⟩; · rfl
  rcases zs with _ | ⟨a, zs⟩; · rfl
  rcases zs with _ | ⟨a, zs⟩; · rfl
  rcases zs with _ | ⟨a, zs⟩; · rfl
  rcases zs with _ | ⟨a, zs⟩; · rfl
  rcases zs with _ | ⟨a, zs⟩; · rfl
  rcases zs with _ | ⟨a, zs⟩; · rfl
  simp

end LinI
end Go.Proofs.Ytgpjgjjadhmkhaa
