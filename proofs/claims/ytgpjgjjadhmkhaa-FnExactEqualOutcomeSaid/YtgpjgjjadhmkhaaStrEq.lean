import Derived.Test.YtgpjgjjadhmkhaaProg
import Derived.Test.YtgpjgjjadhmkhaaStrRow
import Derived.Lib.Hide
import Derived.Lib.Split
import Derived.Lib.CountLaws
import Derived.Test.YtgpjgjjadhmkhaaStrMark
import Derived.Lib.Join
import Derived.Deep.QuietTactic
import Derived.BigQuiet
/-
  The helpers that copy a slice of strings and reckon its size.
-/
namespace Go.Proofs.Ytgpjgjjadhmkhaa
open Go.RowKit
namespace StrK

theorem strInfo : (Try.prog.info? 9).map (fun i => (i.zero, i.size, i.bytes)) = some (some (.string ByteArray.empty), 1, 16) := by kernel_rfl

def Copied (w : World) (ss : List ByteArray) (e : Ending) (w' : World) : Prop :=
  ∃ A, e = .returned (.slice A ss.length ss.length) ∧ SRow w' A ss ∧ Free w' A ss.length ∧ Below w.heap.size w w' ∧ (∀ a, A = some a → w.heap.size ≤ a.block)

/-- What has been copied behind k rounds. -/
def part (ss : List ByteArray) (k : Nat) : List Value := (ss.take k).map Value.string ++ List.replicate (ss.length - k) (Value.string ByteArray.empty)
theorem part_zero (ss : List ByteArray) : part ss 0 = List.replicate ss.length (Value.string ByteArray.empty) := by simp [part]
theorem part_all (ss : List ByteArray) : part ss ss.length = ss.map Value.string := by simp [part]
theorem part_set (ss : List ByteArray) (k : Nat) (h : k < ss.length) : (part ss k).set k (Value.string ss[k]) = part ss (k + 1) := by
  unfold part
  rw [List.set_append_right _ _ (by simp; omega), List.length_map, List.length_take, Nat.min_eq_left (by omega), Nat.sub_self, show ss.length - k = (ss.length - (k + 1)) + 1 by omega, List.replicate_succ, List.set_cons_zero, List.take_add_one, List.getElem?_eq_getElem h, List.map_append, List.append_assoc]
  rfl

end StrK
end Go.Proofs.Ytgpjgjjadhmkhaa

/-
  Marks, where the slice may be empty: what is written is a block of the slice alone ('blk'); rows that stay.
-/
namespace Go.Proofs.Ytgpjgjjadhmkhaa
open Go.RowKit
namespace StrK

/-- The block of a slice that holds something. -/
def blk (A : Option Addr) (ss : List ByteArray) : Option Addr := if ss = [] then none else A

theorem blk_lt {w : World} {A : Option Addr} {ss : List ByteArray} (h : SRow w A ss) : ∀ b, blk A ss = some b → b.block < w.heap.size := fun b e => by
  unfold blk at e
  split at e
  · cases e
  · rename_i hn
    obtain ⟨g, o, rfl, hlt, _⟩ := h hn
    injection e with e; subst e; exact hlt
theorem blk_ge {B : Nat} {A : Option Addr} {ss : List ByteArray} (h : ∀ a, A = some a → B ≤ a.block) : ∀ b, blk A ss = some b → B ≤ b.block := fun b e => by
  unfold blk at e
  split at e
  · cases e
  · exact h b e

/-- A row that is younger than what was written stays. -/
theorem SRow.only_earlier {w w' : World} {A B : Option Addr} {ss : List ByteArray} {n : Nat} (h : SRow w A ss) (ho : Only w w' B) (hA : ∀ a, A = some a → n ≤ a.block) (hB : ∀ b, B = some b → b.block < n) : SRow w' A ss :=
  h.only ho (fun a b ea eb => by have h1 := hA a ea; have h2 := hB b eb; omega)
theorem Free.only_earlier {w w' : World} {A B : Option Addr} {ss : List ByteArray} {n : Nat} (h : Free w A ss.length) (hr : SRow w A ss) (ho : Only w w' B) (hA : ∀ a, A = some a → n ≤ a.block) (hB : ∀ b, B = some b → b.block < n) : Free w' A ss.length := fun hn b o e j hj => by
  obtain ⟨b', o', e', hlt, _⟩ := hr (fun e => by rw [e] at hn; simp at hn)
  rw [e'] at e
  injection e with e; injection e with e1 e2; subst e1; subst e2
  have hf := h hn _ _ e' j hj
  unfold World.frozen? at hf ⊢
  rw [ho.block b' hlt (fun e => by
    cases hB' : B with
    | none => rw [hB'] at e; cases e
    | some y =>
      rw [hB'] at e; injection e with e
      have h1 : n ≤ b' := hA _ e'
      have h2 : y.block < n := hB _ hB'
      have e3 : b' = y.block := e
      omega)]
  exact hf
/-- A row that was there at w0 stays where what was written is younger. -/
theorem SRow.only_later_ {w0 w w' : World} {A B : Option Addr} {ss : List ByteArray} (h : SRow w A ss) (h0 : SRow w0 A ss) (ho : Only w w' B) (hB : ∀ b, B = some b → w0.heap.size ≤ b.block) : SRow w' A ss := h0.only_later h ho hB
theorem below_blk {B0 : Nat} {w w1 w2 : World} {B : Option Addr} {ss : List ByteArray} (h : Below B0 w w1) (ho : Only w1 w2 (blk B ss)) (hB : B0 ≤ w1.heap.size) (hr : ∀ b, B = some b → B0 ≤ b.block) : Below B0 w w2 :=
  below_only h ho hB (blk_ge hr)
end StrK
end Go.Proofs.Ytgpjgjjadhmkhaa

/-
  How much a list of strings holds: plain mathematics.
-/
namespace Go.Proofs.Ytgpjgjjadhmkhaa
namespace StrK

/-- Elements and bytes. -/
def bytesOf (ss : List ByteArray) : Nat := (ss.map ByteArray.size).sum
def total (ss : List ByteArray) : Nat := ss.length + bytesOf ss
/-- What is left of L; -1 where there is less than nothing. -/
def leftOf (L t : Nat) : Int := if t ≤ L then (L : Int) - t else -1

theorem bytesOf_take (ss : List ByteArray) (k : Nat) (h : k < ss.length) : bytesOf (ss.take (k + 1)) = bytesOf (ss.take k) + ss[k].size := by
  unfold bytesOf
  rw [List.take_add_one, List.getElem?_eq_getElem h, List.map_append, List.sum_append]
  simp
theorem bytesOf_le (ss : List ByteArray) (k : Nat) : bytesOf (ss.take k) ≤ bytesOf ss := by
  unfold bytesOf
  conv => rhs; rw [← List.take_append_drop k ss, List.map_append, List.sum_append]
  omega

end StrK
end Go.Proofs.Ytgpjgjjadhmkhaa

/-
  The helper that reckons how much a slice of strings holds.
-/
namespace Go.Proofs.Ytgpjgjjadhmkhaa
open Go.RowKit
namespace StrK

end StrK
end Go.Proofs.Ytgpjgjjadhmkhaa

/-
  The helper that compares two slices of strings.
-/
namespace Go.Proofs.Ytgpjgjjadhmkhaa
open Go.RowKit
namespace StrK

end StrK
end Go.Proofs.Ytgpjgjjadhmkhaa
