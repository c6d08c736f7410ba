import Derived.Test.YtbbllkhmenpnlaaGreatRepUni
/-
  Strings as a kind of data, by name (made by tools/uexact.py).
-/
namespace Go.Proofs.YtbbllkhmenpnlaaGreat
open Go.RowKit
namespace Mem
open RowK
abbrev strR : Rep ByteArray := Rep.str
end Mem
end Go.Proofs.YtbbllkhmenpnlaaGreat

/-
  Results of a law: slices of String: comparison and marks (made by tools/p13.py).
-/
namespace Go.Proofs.YtbbllkhmenpnlaaGreat
open Go.RowKit
namespace Mem
open RowK
theorem eqStringSR (A B : Option Addr) (c d : Nat) (xs : List ByteArray) (w : World) (h : ArgS strR w A xs.length c xs) (k : ArgS strR w B xs.length d xs) (hl : xs.length + szs szStr xs ≤ 100000000) :
  Calls Tryz.prog 35 #[.slice A xs.length c, .slice B xs.length d] w fun e w' => e = .returned (.bool true) ∧ Below w.heap.size w w' := by
 obtain ⟨q, fp, h⟩ := h
 obtain ⟨q2, fp2, k⟩ := k
 exact eqStringSU q q2 fp fp2 A B c d xs w h k hl
theorem markStringSR (lo hi : Nat) (A : Option Addr) (c : Nat) (xs : List ByteArray) (k1 : Nat) (hk9 : k1 = 1 + szs nStr xs) (w : World) (h : OwnS strR lo hi w A xs.length c xs) (hk : xs.length + szs szStr xs ≤ 100000000) :
  Calls Tryz.prog 36 #[.slice A xs.length c, .int .i64 1] w fun e w' => e = .returned (.int .i64 (k1 : Int)) ∧ OwnS strR lo hi w' A xs.length c (mks mkStr nStr 1 xs) ∧ Mod lo hi w w' := by
 rw [hk9]
 obtain ⟨h0, fp, h2, h3, h4⟩ := h
 exact (markStringSU fp A c 1 xs w h2 h3 (by omega) (by omega)).mono fun e w' ⟨he, hr, hm⟩ => ⟨he, ⟨Nat.le_trans h0 hm.size, fp, hr, h3, h4⟩, hm.mod h4⟩
theorem heldStringSR (A : Option Addr) (c : Nat) (xs : List ByteArray) (k1 : Nat) (hk9 : k1 = 1 + szs nStr xs) (w : World) (h : ArgS strR w A xs.length c (mks mkStr nStr 1 xs)) (hk : xs.length + szs szStr xs ≤ 100000000) :
  Calls Tryz.prog 37 #[.slice A xs.length c, .int .i64 1] w fun e w' => e = .returned (.int .i64 (k1 : Int)) ∧ Below w.heap.size w w' := by
 rw [hk9]
 obtain ⟨q, fp, h⟩ := h
 exact heldStringSU q fp A c 1 xs w h (by omega) (by omega)
end Mem
end Go.Proofs.YtbbllkhmenpnlaaGreat
