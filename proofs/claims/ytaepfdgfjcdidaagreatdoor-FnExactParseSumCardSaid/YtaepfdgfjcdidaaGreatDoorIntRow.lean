import Derived.Test.YtaepfdgfjcdidaaGreatDoorProg
import Derived.Test.YtaepfdgfjcdidaaGreatDoorRowss
import Derived.Lib.Hide
import Derived.Lib.Split
import Derived.Lib.CountLaws
import Derived.Deep.QuietTactic
import Derived.BigQuiet
/-
  The laws' helpers on slices of integers: copy, size, comparison, marks.
-/
namespace Go.Proofs.YtaepfdgfjcdidaaGreatDoor
open Go.RowKit
namespace IntK
open RowK

/-- The cells of a slice of integers. -/
def iv (zs : List Int) : List Value := zs.map (Value.int .i64)
theorem iv_len (zs : List Int) : (iv zs).length = zs.length := by simp [iv]
theorem iv_get {zs : List Int} {k : Nat} (h : k < zs.length) (h' : k < (iv zs).length) : (iv zs)[k] = .int .i64 zs[k] := by simp [iv]
theorem iv_nil : iv [] = [] := rfl

theorem at_ {lo hi : Nat} {w : World} {A : Option Addr} {zs : List Int} (h : Row lo hi w A (iv zs)) {k : Nat} (hk : k < zs.length) : ∃ b o, A = some ⟨b, o, none⟩ ∧ (lo ≤ b ∧ b < hi ∧ hi ≤ w.heap.size) ∧ w.cell? ⟨b, o + k, none⟩ = some (.int .i64 zs[k]) := by
  obtain ⟨b, o, e, h1, h2⟩ := h.at_ (k := k) (by rw [iv_len]; exact hk)
  exact ⟨b, o, e, h1, by rw [h2, iv_get hk]⟩

theorem at_below {lo hi : Nat} {w w' : World} {A : Option Addr} {zs : List Int} (h : Row lo hi w A (iv zs)) (hb : Below w.heap.size w w') {k : Nat} (hk : k < zs.length) : ∃ b o, A = some ⟨b, o, none⟩ ∧ (lo ≤ b ∧ b < hi ∧ hi ≤ w.heap.size) ∧ w'.cell? ⟨b, o + k, none⟩ = some (.int .i64 zs[k]) := by
  obtain ⟨b, o, e, h1, h2⟩ := at_ h hk
  exact ⟨b, o, e, h1, by rw [hb.cell (p := ⟨b, o + k, none⟩) (by show b < _; omega)]; exact h2⟩

/-- A slice of integers in the stretch from lo to hi that may be written. -/
def Own (lo hi : Nat) (w : World) (A : Option Addr) (zs : List Int) : Prop := Row lo hi w A (iv zs) ∧ Free w A zs.length
theorem Own.keep {lo hi lo' hi' : Nat} {w w' : World} {A : Option Addr} {zs : List Int} (h : Own lo hi w A zs) (hm : Mod lo' hi' w w') (hd : hi ≤ lo' ∨ hi' ≤ lo) : Own lo hi w' A zs := ⟨h.1.keep hm hd, h.2.keep h.1 (by rw [iv_len]; exact Nat.le_refl _) hm hd⟩
theorem Own.below {lo hi : Nat} {w w' : World} {A : Option Addr} {zs : List Int} (h : Own lo hi w A zs) (hb : Below w.heap.size w w') : Own lo hi w' A zs := ⟨h.1.below hb, h.2.below h.1 (by rw [iv_len]; exact Nat.le_refl _) hb⟩

theorem intInfo : (Tryz.prog.info? 3).map (fun i => (i.zero, i.size, i.bytes)) = some (some (.int .i64 0), 1, 8) := by kernel_rfl

/-- What has been copied behind k rounds. -/
def part (zs : List Int) (k : Nat) : List Value := iv (zs.take k) ++ List.replicate (zs.length - k) (Value.int .i64 0)
theorem part_zero (zs : List Int) : part zs 0 = List.replicate zs.length (Value.int .i64 0) := by simp [part, iv]
theorem part_all (zs : List Int) : part zs zs.length = iv zs := by simp [part]
theorem part_len (zs : List Int) (k : Nat) (h : k ≤ zs.length) : (part zs k).length = zs.length := by simp [part, iv]; omega
theorem part_set (zs : List Int) (k : Nat) (h : k < zs.length) : (part zs k).set k (Value.int .i64 zs[k]) = part zs (k + 1) := by
  unfold part iv
  rw [List.set_append_right _ _ (by simp; omega), List.length_map, List.length_take, Nat.min_eq_left (by omega), Nat.sub_self, show zs.length - k = (zs.length - (k + 1)) + 1 by omega, List.replicate_succ, List.set_cons_zero, List.take_add_one, List.getElem?_eq_getElem h, List.map_append, List.append_assoc]
  rfl

/-- make([]int, n): the value and the world. -/
theorem run_mk (n : Nat) (hn : n ≤ 1000000000000) (u : World) : (Instr.makeSlice 66 (.int .i64 (n : Int)) (.int .i64 (n : Int))).run Tryz.prog u =
    .ok (.slice (some ⟨u.heap.size, 0, none⟩) n n) (u.alloc (.cells (madeCells #[.int .i64 0] n) 3)) := by
  obtain ⟨i0, hi, hz0, hz1, hz2⟩ := info_parts intInfo
  have h := run_make (P := Tryz.prog) u 66 3 i0 (.int .i64 0) Tryz.underlying66 hi hz0 .i64 .i64 (n : Int) (n : Int) (by omega) (Int.le_refl _) (by rw [hz2]; omega) (by omega)
  simpa [hz1, Value.cells] using h
theorem made_own (n : Nat) (hn : n ≤ 1000000000000) (w : World) : (w.alloc (.cells (madeCells #[.int .i64 0] n) 3)).ownsRow w.heap.size 3 1 (.slice (some ⟨w.heap.size, 0, none⟩) n n) n (List.replicate n (.int .i64 0)) := by
  refine ⟨by simp, Or.inr ⟨w.heap.size, n, _, rfl, Nat.le_refl _, heap_alloc_new _ _, Nat.le_refl _, by unfold maxLen; omega, by rw [size_madeCells, Nat.mul_one], ?_⟩⟩
  rw [toList_madeCells_one]
  simp

def Copied (w : World) (zs : List Int) (e : Ending) (w' : World) : Prop :=
  ∃ A, e = .returned (.slice A zs.length zs.length) ∧ Row w.heap.size w'.heap.size w' A (iv zs) ∧ Free w' A zs.length ∧ Below w.heap.size w w'

/-- What is left of L behind n more; -1 where n is more. -/
def leftOf (L n : Nat) : Int := if n ≤ L then (L : Int) - n else -1

/-- The marks from k on. -/
def marks (k n : Nat) : List Int := (List.range n).map fun j => ((k + j : Nat) : Int)
theorem marks_length (k n : Nat) : (marks k n).length = n := by simp [marks]
theorem marks_at {k n j : Nat} (_h : j < n) (h' : j < (marks k n).length) : (marks k n)[j] = ((k : Int) + j) := by simp [marks]

end IntK
end Go.Proofs.YtaepfdgfjcdidaaGreatDoor
