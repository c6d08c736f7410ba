import Derived.Test.YtcdlgebbmcdadaaGreatDoorProg
import Derived.Test.YtcdlgebbmcdadaaGreatDoorStrRow
import Derived.Lib.Hide
import Derived.Lib.Split
import Derived.Lib.CountLaws
import Derived.Test.YtcdlgebbmcdadaaGreatDoorKit
import Derived.Test.YtcdlgebbmcdadaaGreatDoorFmtSpec
import Derived.Deep.RegionHeld3
import Derived.Lib.Join
/-
  The helpers that copy a slice of strings and reckon its size.
-/
namespace Go.Proofs.YtcdlgebbmcdadaaGreatDoor
open Go.RowKit
namespace StrK

theorem strInfo : (Tryz.prog.info? 9).map (fun i => (i.zero, i.size, i.bytes)) = some (some (.string ByteArray.empty), 1, 16) := by kernel_rfl

/-- What has been copied behind k rounds. -/
def part (ss : List ByteArray) (k : Nat) : List Value := (ss.take k).map Value.string ++ List.replicate (ss.length - k) (Value.string ByteArray.empty)
theorem part_zero (ss : List ByteArray) : part ss 0 = List.replicate ss.length (Value.string ByteArray.empty) := by simp [part]
theorem part_all (ss : List ByteArray) : part ss ss.length = ss.map Value.string := by simp [part]
theorem part_set (ss : List ByteArray) (k : Nat) (h : k < ss.length) : (part ss k).set k (Value.string ss[k]) = part ss (k + 1) := by
  unfold part
  rw [List.set_append_right _ _ (by simp; omega), List.length_map, List.length_take, Nat.min_eq_left (by omega), Nat.sub_self, show ss.length - k = (ss.length - (k + 1)) + 1 by omega, List.replicate_succ, List.set_cons_zero, List.take_add_one, List.getElem?_eq_getElem h, List.map_append, List.append_assoc]
  rfl

end StrK
end Go.Proofs.YtcdlgebbmcdadaaGreatDoor

/-
  Marks, where the slice may be empty: what is written is a block of the slice alone ('blk'); rows that stay.
-/
namespace Go.Proofs.YtcdlgebbmcdadaaGreatDoor
open Go.RowKit
namespace StrK

/-- The block of a slice that holds something. -/
def blk (A : Option Addr) (ss : List ByteArray) : Option Addr := if ss = [] then none else A

theorem blk_lt {w : World} {A : Option Addr} {ss : List ByteArray} (h : SRow w A ss) : ∀ b, blk A ss = some b → b.block < w.heap.size := fun b e => by
  unfold blk at e
  split at e
  · cases e
  · rename_i hn
    obtain ⟨g, o, rfl, hlt, _⟩ := h hn
    injection e with e; subst e; exact hlt
theorem blk_ge {B : Nat} {A : Option Addr} {ss : List ByteArray} (h : ∀ a, A = some a → B ≤ a.block) : ∀ b, blk A ss = some b → B ≤ b.block := fun b e => by
  unfold blk at e
  split at e
  · cases e
  · exact h b e

end StrK
end Go.Proofs.YtcdlgebbmcdadaaGreatDoor

/-
  How much a list of strings holds: plain mathematics.
-/
namespace Go.Proofs.YtcdlgebbmcdadaaGreatDoor
namespace StrK

/-- Elements and bytes. -/
def bytesOf (ss : List ByteArray) : Nat := (ss.map ByteArray.size).sum
theorem bytesOf_take (ss : List ByteArray) (k : Nat) (h : k < ss.length) : bytesOf (ss.take (k + 1)) = bytesOf (ss.take k) + ss[k].size := by
  unfold bytesOf
  rw [List.take_add_one, List.getElem?_eq_getElem h, List.map_append, List.sum_append]
  simp
end StrK
end Go.Proofs.YtcdlgebbmcdadaaGreatDoor
