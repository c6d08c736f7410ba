import Derived.Lib.Join
import Derived.Test.YtkeejkpeniinkaaGreatDoorProg
import Derived.Test.YtkeejkpeniinkaaGreatDoorStrRow
import Derived.Lib.Hide
/-
  How much a list of strings holds: plain mathematics.
-/
namespace Go.Proofs.YtkeejkpeniinkaaGreatDoor
namespace StrK

/-- Elements and bytes. -/
def bytesOf (ss : List ByteArray) : Nat := (ss.map ByteArray.size).sum
def total (ss : List ByteArray) : Nat := ss.length + bytesOf ss
/-- What is left of L; -1 where there is less than nothing. -/
def leftOf (L t : Nat) : Int := if t ≤ L then (L : Int) - t else -1

theorem bytesOf_take (ss : List ByteArray) (k : Nat) (h : k < ss.length) : bytesOf (ss.take (k + 1)) = bytesOf (ss.take k) + ss[k].size := by
  unfold bytesOf
  rw [List.take_add_one, List.getElem?_eq_getElem h, List.map_append, List.sum_append]
  simp
theorem bytesOf_le (ss : List ByteArray) (k : Nat) : bytesOf (ss.take k) ≤ bytesOf ss := by
  unfold bytesOf
  conv => rhs; rw [← List.take_append_drop k ss, List.map_append, List.sum_append]
  omega

end StrK
end Go.Proofs.YtkeejkpeniinkaaGreatDoor

/-
  The helper that reckons how much a slice of strings holds.
-/
namespace Go.Proofs.YtkeejkpeniinkaaGreatDoor
open Go.RowKit
namespace StrK

set_option maxHeartbeats 1000000 in
set_option maxRecDepth 100000 in
theorem size (A : Option Addr) (c L : Nat) (ss : List ByteArray) (w : World) (hA : SRow w A ss) (hL : L ≤ 1000000000000) (hl : ss.length ≤ 9223372036854775807) (hs : ∀ s ∈ ss, s.size ≤ 9223372036854775807) :
    Calls Tryz.prog 18 #[.slice A ss.length c, .int .i64 L] w fun e w' => e = .returned (.int .i64 (leftOf L (total ss))) ∧ Below w.heap.size w w' := by
  by_cases h0 : L < ss.length
  · have hfin : leftOf L (total ss) = -1 := by rw [leftOf, if_neg (by unfold total; omega)]
    rw [hfin]
    clear hfin
    have hneg : (L : Int) - ss.length < 0 := by omega
    go_enter Tryz.func18, Tryz.ntmps18
    go_wp2
    go_ret
    exact ⟨rfl, Below.refl _ _⟩
  · have hneg : decide ((L : Int) - ss.length < 0) = false := by simp; omega
    have hsize := Lib.hid hs
    clear hs
    go_enter Tryz.func18, Tryz.ntmps18
    go_wp2
    go_loopw [1, 5] (fun x i wr => ∃ k : Nat, k ≤ ss.length ∧ i = .int .i64 k ∧ ss.length + bytesOf (ss.take k) ≤ L ∧ x = .int .i64 ((L : Int) - ss.length - bytesOf (ss.take k)) ∧ Below w.heap.size w wr) (fun _ i _ => ss.length - (intOf i).toNat)
    case atStart => exact ⟨0, Nat.zero_le _, rfl, by simp [bytesOf]; omega, by simp [bytesOf], Below.refl _ _⟩
    case round =>
      obtain ⟨k, hk, rfl, hle, rfl, hb⟩ := hrel
      by_cases hlt : k < ss.length
      · obtain ⟨b, o, rfl, hbl, hc⟩ := (hA.below hb).at_ hlt
        have hsk := hsize.out ss[k] (List.getElem_mem _)
        have hstep := Lib.hid (bytesOf_take ss k hlt)
        have hmax := Lib.hid (bytesOf_le ss (k + 1))
        generalize hB : bytesOf (ss.take k) = B at *
        clear hB
        generalize hS : ss[k] = s at *
        clear hS
        by_cases hn : (L : Int) - ss.length - B - s.size < 0
        · have hfin : Hid (leftOf L (total ss) = -1) := by
            have h1 := hstep.out
            have h2 := hmax.out
            show leftOf L (total ss) = -1
            rw [leftOf, if_neg (by unfold total; omega)]
          go_wp2
          go_ret
          exact ⟨by rw [hfin.out]; rfl, hb⟩
        · go_wp2
          go_roundw
          case rel => exact ⟨k + 1, by omega, by go_num, by rw [hstep.out]; omega, congrArg (Value.int .i64) (by rw [hstep.out]; omega), hb⟩
          case measure => simp [intOf]; omega
      · obtain rfl : k = ss.length := by omega
        rw [List.take_length] at hle
        have hfin : Hid (leftOf L (total ss) = (L : Int) - ss.length - bytesOf (ss.take ss.length)) := by
          show leftOf L (total ss) = _
          rw [List.take_length, leftOf, if_pos (by unfold total; omega)]
          unfold total
          omega
        go_wp2
        go_ret
        exact ⟨by rw [hfin.out]; rfl, hb⟩
end StrK
end Go.Proofs.YtkeejkpeniinkaaGreatDoor
