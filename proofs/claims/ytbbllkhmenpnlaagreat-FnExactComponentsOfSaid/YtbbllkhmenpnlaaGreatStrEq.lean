import Derived.Test.YtbbllkhmenpnlaaGreatProg
import Derived.Test.YtbbllkhmenpnlaaGreatStrRow
import Derived.Lib.Hide
import Derived.Lib.Split
import Derived.Lib.CountLaws
import Derived.Test.YtbbllkhmenpnlaaGreatStrMark
import Derived.Lib.Join
import Derived.Deep.QuietTactic
import Derived.BigQuiet
/-
  The helpers that copy a slice of strings and reckon its size.
-/
namespace Go.Proofs.YtbbllkhmenpnlaaGreat
open Go.RowKit
namespace StrK

theorem strInfo : (Tryz.prog.info? 9).map (fun i => (i.zero, i.size, i.bytes)) = some (some (.string ByteArray.empty), 1, 16) := by kernel_rfl

def Copied (w : World) (ss : List ByteArray) (e : Ending) (w' : World) : Prop :=
 ∃ A, e = .returned (.slice A ss.length ss.length) ∧ SRow w' A ss ∧ Free w' A ss.length ∧ Below w.heap.size w w' ∧ (∀ a, A = some a → w.heap.size ≤ a.block)

def part (ss : List ByteArray) (k : Nat) : List Value := (ss.take k).map Value.string ++ List.replicate (ss.length - k) (Value.string ByteArray.empty)
theorem part_zero (ss : List ByteArray) : part ss 0 = List.replicate ss.length (Value.string ByteArray.empty) := by simp [part]
theorem part_all (ss : List ByteArray) : part ss ss.length = ss.map Value.string := by simp [part]
theorem part_set (ss : List ByteArray) (k : Nat) (h : k < ss.length) : (part ss k).set k (Value.string ss[k]) = part ss (k + 1) := by
 unfold part
 rw [List.set_append_right _ _ (by simp; omega), List.length_map, List.length_take, Nat.min_eq_left (by omega), Nat.sub_self, show ss.length - k = (ss.length - (k + 1)) + 1 by omega, List.replicate_succ, List.set_cons_zero, List.take_add_one, List.getElem?_eq_getElem h, List.map_append, List.append_assoc]
 rfl

set_option maxHeartbeats 1000000 in
set_option maxRecDepth 100000 in
theorem copy (A : Option Addr) (c : Nat) (ss : List ByteArray) (w : World) (hA : SRow w A ss) (hl : ss.length ≤ 1000000000) :
  Calls Tryz.prog 42 #[.slice A ss.length c] w (Copied w ss) := by
 obtain ⟨i0, hi, hz0, hz1, hz2⟩ := info_parts strInfo
 have hmk : ∀ u : World, (Instr.makeSlice 31 (.int .i64 (ss.length : Int)) (.int .i64 (ss.length : Int))).run Tryz.prog u =
   .ok (.slice (some ⟨u.heap.size, 0, none⟩) ss.length ss.length) (u.alloc (.cells (madeCells #[.string ByteArray.empty] ss.length) 9)) := fun u => by
  have h := run_make (P := Tryz.prog) u 31 9 i0 (.string ByteArray.empty) Tryz.underlying31 hi hz0 .i64 .i64 (ss.length : Int) (ss.length : Int) (by omega) (Int.le_refl _) (by rw [hz2]; omega) (by omega)
  simpa [hz1, Value.cells] using h
 have hown0 : (w.alloc (.cells (madeCells #[.string ByteArray.empty] ss.length) 9)).ownsRow w.heap.size 9 1 (.slice (some ⟨w.heap.size, 0, none⟩) ss.length ss.length) ss.length (part ss 0) := by
  refine ⟨by simp [part], Or.inr ⟨w.heap.size, ss.length, _, rfl, Nat.le_refl _, heap_alloc_new _ _, Nat.le_refl _, by unfold maxLen; omega, by rw [← Lib.cellsOf_nil, Lib.cellsOf_size (by simp)]; simp, ?_⟩⟩
  rw [← Lib.cellsOf_nil, part_zero]
  simp [Lib.cellsOf]
 have HO := Lib.hid hown0
 clear hown0
 go_enter Tryz.func42, Tryz.ntmps42
 go_wp2
 go_loopw [4] (fun i wr => ∃ k : Nat, k ≤ ss.length ∧ i = .int .i64 k ∧ wr.ownsRow w.heap.size 9 1 (.slice (some ⟨w.heap.size, 0, none⟩) ss.length ss.length) ss.length (part ss k) ∧ Below w.heap.size w wr) (fun i _ => ss.length - (intOf i).toNat)
 case atStart => exact ⟨0, Nat.zero_le _, rfl, HO.out, (Below.refl _ _).alloc (Nat.le_refl _) _⟩
 case round =>
  obtain ⟨k, hk, rfl, hown, hb⟩ := hrel
  by_cases hlt : k < ss.length
  ·obtain ⟨b, o, rfl, hbl, hc⟩ := (hA.below hb).at_ hlt
   have hst := hown.stored k (.string ss[k])
   rw [part_set ss k hlt] at hst
   have hcell : wr.cell? ⟨w.heap.size, k, none⟩ = some (.string ByteArray.empty) := by
    rw [hown.cellAt k (by omega)]
    simp only [part]
    rw [List.getElem?_append_right (by simp; omega), List.length_map, List.length_take, Nat.min_eq_left (by omega), Nat.sub_self, List.getElem?_replicate, if_pos (by omega)]
   have hfr := hown.frozenAt k
   have hb1 : Below w.heap.size w (wr.setCell ⟨w.heap.size, k, none⟩ (.string ss[k])) := hb.setCell (Nat.le_refl _) _
   have HST := Lib.hid hst.1
   have HB := Lib.hid hb1
   clear hst hb1 hown
   generalize ss[k] = s at *
   go_wp2
   go_roundw
   case rel => exact ⟨k + 1, by omega, by go_num, HST.out, HB.out⟩
   case measure => simp [intOf]; omega
  ·obtain rfl : k = ss.length := by omega
   go_wp2
   go_ret
   rw [part_all] at hown
   obtain ⟨A', cap, e, h1, h2, h3, _⟩ := of_own hown
   injection e with e1 e2 e3
   subst e1
   exact ⟨_, rfl, h1, h2, hb, h3⟩
end StrK
end Go.Proofs.YtbbllkhmenpnlaaGreat

/-
  Marks, where the slice may be empty: what is written is a block of the slice alone ('blk'); rows that stay.
-/
namespace Go.Proofs.YtbbllkhmenpnlaaGreat
open Go.RowKit
namespace StrK

def blk (A : Option Addr) (ss : List ByteArray) : Option Addr := if ss = [] then none else A

theorem blk_lt {w : World} {A : Option Addr} {ss : List ByteArray} (h : SRow w A ss) : ∀ b, blk A ss = some b → b.block < w.heap.size := fun b e => by
 unfold blk at e
 split at e
 ·cases e
 ·rename_i hn
  obtain ⟨g, o, rfl, hlt, _⟩ := h hn
  injection e with e; subst e; exact hlt
theorem blk_ge {B : Nat} {A : Option Addr} {ss : List ByteArray} (h : ∀ a, A = some a → B ≤ a.block) : ∀ b, blk A ss = some b → B ≤ b.block := fun b e => by
 unfold blk at e
 split at e
 ·cases e
 ·exact h b e

set_option maxRecDepth 100000 in
theorem mark2 (A : Option Addr) (c k : Nat) (ss : List ByteArray) (w : World) (hA : SRow w A ss) (hf : Free w A ss.length) (h1 : 1 ≤ k) (h2 : k + ss.length ≤ 1000000000000) :
  Calls Tryz.prog 36 #[.slice A ss.length c, .int .i64 k] w fun e w' => e = .returned (.int .i64 ((k : Int) + ss.length)) ∧ SRow w' A (marks k ss.length) ∧ Only w w' (blk A ss) ∧ Free w' A ss.length := by
 by_cases hn : ss = []
 ·subst hn
  go_enter Tryz.func36, Tryz.ntmps36
  go_wp2
  refine wp_loop_rounds 1 ?_
  rw [rounds_succ]
  go_wp2
  go_ret
  exact ⟨by simp, fun h => absurd rfl h, only_refl _ _, fun h => by simp at h⟩
 ·have e : blk A ss = A := by unfold blk; rw [if_neg hn]
  rw [e]
  exact mark A c k ss w hA hf h1 h2
end StrK
end Go.Proofs.YtbbllkhmenpnlaaGreat

/-
  How much a list of strings holds: plain mathematics.
-/
namespace Go.Proofs.YtbbllkhmenpnlaaGreat
namespace StrK

def bytesOf (ss : List ByteArray) : Nat := (ss.map ByteArray.size).sum
def total (ss : List ByteArray) : Nat := ss.length + bytesOf ss
def leftOf (L t : Nat) : Int := if t ≤ L then (L : Int) - t else -1

theorem bytesOf_take (ss : List ByteArray) (k : Nat) (h : k < ss.length) : bytesOf (ss.take (k + 1)) = bytesOf (ss.take k) + ss[k].size := by
 unfold bytesOf
 rw [List.take_add_one, List.getElem?_eq_getElem h, List.map_append, List.sum_append]
 simp
theorem bytesOf_le (ss : List ByteArray) (k : Nat) : bytesOf (ss.take k) ≤ bytesOf ss := by
 unfold bytesOf
 conv => rhs; rw [← List.take_append_drop k ss, List.map_append, List.sum_append]
 omega

end StrK
end Go.Proofs.YtbbllkhmenpnlaaGreat

/-
  The helper that reckons how much a slice of strings holds.
-/
namespace Go.Proofs.YtbbllkhmenpnlaaGreat
open Go.RowKit
namespace StrK

set_option maxHeartbeats 1000000 in
set_option maxRecDepth 100000 in
theorem size (A : Option Addr) (c L : Nat) (ss : List ByteArray) (w : World) (hA : SRow w A ss) (hL : L ≤ 1000000000000) (hl : ss.length ≤ 9223372036854775807) (hs : ∀ s ∈ ss, s.size ≤ 9223372036854775807) :
  Calls Tryz.prog 41 #[.slice A ss.length c, .int .i64 L] w fun e w' => e = .returned (.int .i64 (leftOf L (total ss))) ∧ Below w.heap.size w w' := by
 by_cases h0 : L < ss.length
 ·have hfin : leftOf L (total ss) = -1 := by rw [leftOf, if_neg (by unfold total; omega)]
  rw [hfin]
  clear hfin
  have hneg : (L : Int) - ss.length < 0 := by omega
  go_enter Tryz.func41, Tryz.ntmps41
  go_wp2
  go_ret
  exact ⟨rfl, Below.refl _ _⟩
 ·have hneg : decide ((L : Int) - ss.length < 0) = false := by simp; omega
  have hsize := Lib.hid hs
  clear hs
  go_enter Tryz.func41, Tryz.ntmps41
  go_wp2
  go_loopw [1, 5] (fun x i wr => ∃ k : Nat, k ≤ ss.length ∧ i = .int .i64 k ∧ ss.length + bytesOf (ss.take k) ≤ L ∧ x = .int .i64 ((L : Int) - ss.length - bytesOf (ss.take k)) ∧ Below w.heap.size w wr) (fun _ i _ => ss.length - (intOf i).toNat)
  case atStart => exact ⟨0, Nat.zero_le _, rfl, by simp [bytesOf]; omega, by simp [bytesOf], Below.refl _ _⟩
  case round =>
   obtain ⟨k, hk, rfl, hle, rfl, hb⟩ := hrel
   by_cases hlt : k < ss.length
   ·obtain ⟨b, o, rfl, hbl, hc⟩ := (hA.below hb).at_ hlt
    have hsk := hsize.out ss[k] (List.getElem_mem _)
    have hstep := Lib.hid (bytesOf_take ss k hlt)
    have hmax := Lib.hid (bytesOf_le ss (k + 1))
    generalize hB : bytesOf (ss.take k) = B at *
    clear hB
    generalize hS : ss[k] = s at *
    clear hS
    by_cases hn : (L : Int) - ss.length - B - s.size < 0
    ·have hfin : Hid (leftOf L (total ss) = -1) := by
      have h1 := hstep.out
      have h2 := hmax.out
      show leftOf L (total ss) = -1
      rw [leftOf, if_neg (by unfold total; omega)]
     go_wp2
     go_ret
     exact ⟨by rw [hfin.out]; rfl, hb⟩
    ·go_wp2
     go_roundw
     case rel => exact ⟨k + 1, by omega, by go_num, by rw [hstep.out]; omega, congrArg (Value.int .i64) (by rw [hstep.out]; omega), hb⟩
     case measure => simp [intOf]; omega
   ·obtain rfl : k = ss.length := by omega
    rw [List.take_length] at hle
    have hfin : Hid (leftOf L (total ss) = (L : Int) - ss.length - bytesOf (ss.take ss.length)) := by
     show leftOf L (total ss) = _
     rw [List.take_length, leftOf, if_pos (by unfold total; omega)]
     unfold total
     omega
    go_wp2
    go_ret
    exact ⟨by rw [hfin.out]; rfl, hb⟩
end StrK
end Go.Proofs.YtbbllkhmenpnlaaGreat

/-
  The helper that compares two slices of strings.
-/
namespace Go.Proofs.YtbbllkhmenpnlaaGreat
open Go.RowKit
namespace StrK

set_option maxHeartbeats 400000 in
set_option maxRecDepth 100000 in
theorem eq_same (A B : Option Addr) (c d : Nat) (ss : List ByteArray) (w : World) (hA : SRow w A ss) (hB : SRow w B ss) (hl : ss.length ≤ 1000000000000) :
  Calls Tryz.prog 35 #[.slice A ss.length c, .slice B ss.length d] w fun e w' => e = .returned (.bool true) ∧ Below w.heap.size w w' := by
 go_enter Tryz.func35, Tryz.ntmps35
 go_wp2
 go_loopw [5] (fun i wr => ∃ k : Nat, k ≤ ss.length ∧ i = .int .i64 k ∧ Below w.heap.size w wr) (fun i _ => ss.length - (intOf i).toNat)
 case atStart => exact ⟨0, Nat.zero_le _, rfl, Below.refl _ _⟩
 case round =>
  obtain ⟨k, hk, rfl, hb⟩ := hrel
  by_cases hlt : k < ss.length
  ·obtain ⟨b1, o1, rfl, hlt1, hc1⟩ := (hA.below hb).at_ hlt
   obtain ⟨b2, o2, rfl, hlt2, hc2⟩ := (hB.below hb).at_ hlt
   generalize ss[k] = s at hc1 hc2
   have hi0 : (0 : Int) ≤ (k : Int) := by omega
   have hi1 : (k : Int) < (ss.length : Int) := by omega
   go_wp2
   go_quiet (fail)
   go_wp2
   go_roundw
   case rel => exact ⟨k + 1, by omega, by go_num, below_drewN hb _⟩
   case measure => simp [intOf]; omega
  ·go_wp2
   go_ret
   exact ⟨rfl, hb⟩

end StrK
end Go.Proofs.YtbbllkhmenpnlaaGreat
