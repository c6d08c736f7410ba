import Derived.Test.YtjjhpabmhnincaaGreatDoorKit
import Derived.Test.YtjjhpabmhnincaaGreatDoorFmtSpec
import Derived.Test.YtjjhpabmhnincaaGreatDoorStrRow
import Derived.Lib.Hide
import Derived.Deep.RegionHeld3
/-
  The helpers that write marks into a slice of strings and ask for them.
-/
namespace Go.Proofs.YtjjhpabmhnincaaGreatDoor
open Go.RowKit
namespace StrK

/-- The text of mark k. -/
def mt (k : Nat) : ByteArray := ⟨(109 :: FmtM.dg0 k).toArray⟩

set_option maxHeartbeats 400000 in
set_option maxRecDepth 100000 in
theorem markText (k : Nat) (h1 : 1 ≤ k) (h2 : k ≤ 1000000000000) (w : World) :
    Calls Tryz.prog 115 #[.int .i64 k] w fun e w' => e = .returned (.string (mt k)) ∧ Below w.heap.size w w' := by
  have hd : decide ((k : Int) ≤ 0) = false := by simp; omega
  go_enter Tryz.func115, Tryz.ntmps115
  go_wp2
  go_loopw [0, 3] (fun a o wr => ∃ (m : Nat) (l : List UInt8), a = .int .i64 m ∧ o = .string ⟨l.toArray⟩ ∧ m ≤ k ∧ FmtM.dg0 m ++ l = FmtM.dg0 k ∧ Below w.heap.size w wr) (fun a _ _ => (intOf a).toNat)
  case atStart => exact ⟨k, [], rfl, rfl, Nat.le_refl _, by simp, Below.refl _ _⟩
  case round =>
    obtain ⟨m, l, rfl, rfl, hmn, hdg, hb⟩ := hrel
    have hl : l.length ≤ 1000000 := by
      have h1 := congrArg List.length hdg
      have h2 := FmtM.dg0_length k
      have h3 := FmtM.nDigits_le k (by omega)
      simp only [List.length_append] at h1
      omega
    by_cases hz : m = 0
    · subst hz
      rw [FmtM.dg0_zero, List.nil_append] at hdg
      subst hdg
      have had : ∀ (W : World), Sem.run Tryz.prog (Op.stringOp .add ⟨#[109]⟩ ⟨(FmtM.dg0 k).toArray⟩) W = .ok (.string ⟨(109 :: FmtM.dg0 k).toArray⟩) W := fun W => Kit.add1 W 109 _ hl
      go_wp2
      go_ret
      exact ⟨rfl, hb⟩
    · have hz' : decide ((m : Int) > 0) = true := by simp; omega
      have hstep := Lib.hid (FmtM.dg0_step m hz)
      have hdg' := Lib.hid hdg
      clear hdg
      have hcv := Kit.conv1
      have had : ∀ (b : UInt8) (W : World), Sem.run Tryz.prog (Op.stringOp .add ⟨#[b]⟩ ⟨l.toArray⟩) W = .ok (.string ⟨(b :: l).toArray⟩) W := fun b W => Kit.add1 W b l hl
      go_wp2
      refine ⟨⟨m / 10, _, by go_num, rfl, by omega, ?_, hb.alloc hb.size _⟩, by simp [intOf]; omega⟩
      rw [← hdg'.out, hstep.out]
      simp

/-- The marks from k on. -/
def marks (k n : Nat) : List ByteArray := (List.range n).map fun j => mt (k + j)
theorem marks_length (k n : Nat) : (marks k n).length = n := by simp [marks]
theorem marks_at {k n j : Nat} (h : j < n) : (marks k n)[j]? = some (mt (k + j)) := by
  rw [marks, List.getElem?_map, List.getElem?_range h]; rfl

end StrK
end Go.Proofs.YtjjhpabmhnincaaGreatDoor
