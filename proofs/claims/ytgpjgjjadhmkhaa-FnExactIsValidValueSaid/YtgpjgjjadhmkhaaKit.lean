import Derived.Test.YtgpjgjjadhmkhaaProg
import Derived.WalkKit
import Derived.WalkSpells
import Derived.WalkLawsBesides
/-
  Small facts on operations that the walks of this program come to: a byte turned into a string; two strings joined.
-/
namespace Go.Proofs.Ytgpjgjjadhmkhaa
open Go.RowKit
namespace Kit

theorem size_mk (l : List UInt8) : (ByteArray.mk l.toArray).size = l.length := by show l.toArray.size = _; simp

/-- A string of one byte, and another behind it. -/
theorem add1 (W : World) (b : UInt8) (l : List UInt8) (h : l.length ≤ 1000000) :
    Sem.run Try.prog (Op.stringOp .add ⟨#[b]⟩ ⟨l.toArray⟩) W = .ok (.string ⟨(b :: l).toArray⟩) W := by
  have e : (ByteArray.mk #[b]) = ⟨[b].toArray⟩ := rfl
  rw [e, run_string_add_sum W _ _ (by rw [size_mk, size_mk]; simp; omega), ByteArray.mk_append_mk]
  simp
end Kit
end Go.Proofs.Ytgpjgjjadhmkhaa
