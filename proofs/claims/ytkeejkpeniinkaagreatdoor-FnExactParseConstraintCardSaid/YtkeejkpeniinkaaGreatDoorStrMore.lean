import Derived.Test.YtkeejkpeniinkaaGreatDoorProg
import Derived.Test.YtkeejkpeniinkaaGreatDoorStrRow
import Derived.Lib.Hide
import Derived.Lib.Split
import Derived.Lib.CountLaws
/-
  The helpers that copy a slice of strings and reckon its size.
-/
namespace Go.Proofs.YtkeejkpeniinkaaGreatDoor
open Go.RowKit
namespace StrK

theorem strInfo : (Tryz.prog.info? 9).map (fun i => (i.zero, i.size, i.bytes)) = some (some (.string ByteArray.empty), 1, 16) := by kernel_rfl

def Copied (w : World) (ss : List ByteArray) (e : Ending) (w' : World) : Prop :=
  ∃ A, e = .returned (.slice A ss.length ss.length) ∧ SRow w' A ss ∧ Free w' A ss.length ∧ Below w.heap.size w w' ∧ (∀ a, A = some a → w.heap.size ≤ a.block)

/-- What has been copied behind k rounds. -/
def part (ss : List ByteArray) (k : Nat) : List Value := (ss.take k).map Value.string ++ List.replicate (ss.length - k) (Value.string ByteArray.empty)
theorem part_zero (ss : List ByteArray) : part ss 0 = List.replicate ss.length (Value.string ByteArray.empty) := by simp [part]
theorem part_all (ss : List ByteArray) : part ss ss.length = ss.map Value.string := by simp [part]
theorem part_set (ss : List ByteArray) (k : Nat) (h : k < ss.length) : (part ss k).set k (Value.string ss[k]) = part ss (k + 1) := by
  unfold part
  rw [List.set_append_right _ _ (by simp; omega), List.length_map, List.length_take, Nat.min_eq_left (by omega), Nat.sub_self, show ss.length - k = (ss.length - (k + 1)) + 1 by omega, List.replicate_succ, List.set_cons_zero, List.take_add_one, List.getElem?_eq_getElem h, List.map_append, List.append_assoc]
  rfl

set_option maxHeartbeats 1000000 in
set_option maxRecDepth 100000 in
theorem copy (A : Option Addr) (c : Nat) (ss : List ByteArray) (w : World) (hA : SRow w A ss) (hl : ss.length ≤ 1000000000) :
    Calls Tryz.prog 19 #[.slice A ss.length c] w (Copied w ss) := by
  obtain ⟨i0, hi, hz0, hz1, hz2⟩ := info_parts strInfo
  have hmk : ∀ u : World, (Instr.makeSlice 27 (.int .i64 (ss.length : Int)) (.int .i64 (ss.length : Int))).run Tryz.prog u =
      .ok (.slice (some ⟨u.heap.size, 0, none⟩) ss.length ss.length) (u.alloc (.cells (madeCells #[.string ByteArray.empty] ss.length) 9)) := fun u => by
    have h := run_make (P := Tryz.prog) u 27 9 i0 (.string ByteArray.empty) Tryz.underlying27 hi hz0 .i64 .i64 (ss.length : Int) (ss.length : Int) (by omega) (Int.le_refl _) (by rw [hz2]; omega) (by omega)
    simpa [hz1, Value.cells] using h
  have hown0 : (w.alloc (.cells (madeCells #[.string ByteArray.empty] ss.length) 9)).ownsRow w.heap.size 9 1 (.slice (some ⟨w.heap.size, 0, none⟩) ss.length ss.length) ss.length (part ss 0) := by
    refine ⟨by simp [part], Or.inr ⟨w.heap.size, ss.length, _, rfl, Nat.le_refl _, heap_alloc_new _ _, Nat.le_refl _, by unfold maxLen; omega, by rw [← Lib.cellsOf_nil, Lib.cellsOf_size (by simp)]; simp, ?_⟩⟩
    rw [← Lib.cellsOf_nil, part_zero]
    simp [Lib.cellsOf]
  have HO := Lib.hid hown0
  clear hown0
  go_enter Tryz.func19, Tryz.ntmps19
  go_wp2
  go_loopw [4] (fun i wr => ∃ k : Nat, k ≤ ss.length ∧ i = .int .i64 k ∧ wr.ownsRow w.heap.size 9 1 (.slice (some ⟨w.heap.size, 0, none⟩) ss.length ss.length) ss.length (part ss k) ∧ Below w.heap.size w wr) (fun i _ => ss.length - (intOf i).toNat)
  case atStart => exact ⟨0, Nat.zero_le _, rfl, HO.out, (Below.refl _ _).alloc (Nat.le_refl _) _⟩
  case round =>
    obtain ⟨k, hk, rfl, hown, hb⟩ := hrel
    by_cases hlt : k < ss.length
    · obtain ⟨b, o, rfl, hbl, hc⟩ := (hA.below hb).at_ hlt
      have hst := hown.stored k (.string ss[k])
      rw [part_set ss k hlt] at hst
      have hcell : wr.cell? ⟨w.heap.size, k, none⟩ = some (.string ByteArray.empty) := by
        rw [hown.cellAt k (by omega)]
        simp only [part]
        rw [List.getElem?_append_right (by simp; omega), List.length_map, List.length_take, Nat.min_eq_left (by omega), Nat.sub_self, List.getElem?_replicate, if_pos (by omega)]
      have hfr := hown.frozenAt k
      have hb1 : Below w.heap.size w (wr.setCell ⟨w.heap.size, k, none⟩ (.string ss[k])) := hb.setCell (Nat.le_refl _) _
      have HST := Lib.hid hst.1
      have HB := Lib.hid hb1
      clear hst hb1 hown
      generalize ss[k] = s at *
      go_wp2
      go_roundw
      case rel => exact ⟨k + 1, by omega, by go_num, HST.out, HB.out⟩
      case measure => simp [intOf]; omega
    · obtain rfl : k = ss.length := by omega
      go_wp2
      go_ret
      rw [part_all] at hown
      obtain ⟨A', cap, e, h1, h2, h3, _⟩ := of_own hown
      injection e with e1 e2 e3
      subst e1
      exact ⟨_, rfl, h1, h2, hb, h3⟩
end StrK
end Go.Proofs.YtkeejkpeniinkaaGreatDoor
