import Derived.Test.YtbbllkhmenpnlaaGreatProg
import Derived.WalkKit
import Derived.WalkSpells
import Derived.WalkLawsBesides
/-
  Small facts on operations that the walks of this program come to: a byte turned into a string; two strings joined.
-/
namespace Go.Proofs.YtbbllkhmenpnlaaGreat
open Go.RowKit
namespace Kit

/-- string([]byte{x}) at the block that has just been made. -/
theorem conv1 (W : World) (x : Int) :
  Sem.run Tryz.prog (convert 22 9 (.slice (some ⟨W.heap.size, 0, none⟩) 1 1)) (W.alloc (.cells #[.int .u8 x] 5)) = .ok (.string ⟨#[UInt8.ofNat x.toNat]⟩) (W.alloc (.cells #[.int .u8 x] 5)) := by
 rw [run_convert_bytes_string _ 22 9 5 _ 1 1 Tryz.underlying22 Tryz.underlying5 Tryz.underlying9]
 have hl := run_loadCells_list (P := Tryz.prog) (W.alloc (.cells #[.int .u8 x] 5)) ⟨W.heap.size, 0, none⟩ [.int .u8 x] (fun j v hj => by
  cases j with
  | zero =>
   obtain rfl : Value.int .u8 x = v := by simpa using hj
   simp only [Addr.add, Nat.add_zero, if_true]
   rw [World.cell?_alloc_at _ _ _ _ rfl]; rfl
  | succ j => simp at hj)
 rw [run_bytesToString _ _ 1 1 [x] hl]
 rfl

theorem size_mk (l : List UInt8) : (ByteArray.mk l.toArray).size = l.length := by show l.toArray.size = _; simp

/-- A string of one byte, and another behind it. -/
theorem add1 (W : World) (b : UInt8) (l : List UInt8) (h : l.length ≤ 1000000) :
  Sem.run Tryz.prog (Op.stringOp .add ⟨#[b]⟩ ⟨l.toArray⟩) W = .ok (.string ⟨(b :: l).toArray⟩) W := by
 have e : (ByteArray.mk #[b]) = ⟨[b].toArray⟩ := rfl
 rw [e, run_string_add_sum W _ _ (by rw [size_mk, size_mk]; simp; omega), ByteArray.mk_append_mk]
 simp
end Kit
end Go.Proofs.YtbbllkhmenpnlaaGreat
