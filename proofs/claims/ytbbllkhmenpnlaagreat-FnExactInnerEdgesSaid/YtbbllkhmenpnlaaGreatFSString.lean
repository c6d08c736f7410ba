import Derived.Test.YtbbllkhmenpnlaaGreatFrameUni
import Derived.Test.YtbbllkhmenpnlaaGreatStrR
/-
  Arguments of a law, opened: slices of String (made by tools/uexact.py).
-/
namespace Go.Proofs.YtbbllkhmenpnlaaGreat
open Go.ChangeShapes Go.WideShapes Go.ChangeAt Go.RowKit Go.Joins Go.Deep
namespace Mem
open RowK
theorem copyStringSA (A : Option Addr) (c : Nat) (xs : List ByteArray) (w : World) (h : ArgS strR w A xs.length c xs) (hl : xs.length + szs szStr xs ≤ 100000000) :
  Calls Tryz.prog 42 #[.slice A xs.length c] w fun e w' => ∃ B, e = .returned (.slice B xs.length xs.length) ∧ OwnS strR w.heap.size w'.heap.size w' B xs.length xs.length xs ∧ Below w.heap.size w w' := by
 obtain ⟨q, fp, h⟩ := h
 exact copyStringSU q fp A c xs w h hl
theorem sizeStringSA (A : Option Addr) (c L : Nat) (xs : List ByteArray) (w : World) (h : ArgS strR w A xs.length c xs) (hL : L ≤ 1000000000) (hl : xs.length ≤ 9223372036854775807) (hs : ∀ x ∈ xs, WfStr x) :
  Calls Tryz.prog 41 #[.slice A xs.length c, .int .i64 L] w fun e w' => e = .returned (.int .i64 (IntK.leftOf L (xs.length + szs szStr xs))) ∧ Below w.heap.size w w' := by
 obtain ⟨q, fp, h⟩ := h
 exact sizeStringSU q fp A c L xs w h hL hl hs
theorem eqStringSA (A B : Option Addr) (c d : Nat) (xs : List ByteArray) (w : World) (h : ArgS strR w A xs.length c xs) (k : ArgS strR w B xs.length d xs) (hl : xs.length + szs szStr xs ≤ 100000000) :
  Calls Tryz.prog 35 #[.slice A xs.length c, .slice B xs.length d] w fun e w' => e = .returned (.bool true) ∧ Below w.heap.size w w' := by
 obtain ⟨q, fp, h⟩ := h
 obtain ⟨q2, fp2, k⟩ := k
 exact eqStringSU q q2 fp fp2 A B c d xs w h k hl
theorem markStringSK (lo hi : Nat) (A : Option Addr) (c : Nat) (xs : List ByteArray) (k0 k1 : Nat) (hk9 : k1 = k0 + szs nStr xs) (w : World) (h : OwnS strR lo hi w A xs.length c xs) (hk1 : 1 ≤ k0) (hk : k0 + 8 * (xs.length + szs szStr xs) ≤ 1000000000) :
  Calls Tryz.prog 36 #[.slice A xs.length c, .int .i64 k0] w fun e w' => e = .returned (.int .i64 (k1 : Int)) ∧ OwnS strR lo hi w' A xs.length c (mks mkStr nStr k0 xs) ∧ Mod lo hi w w' := by
 rw [hk9]
 obtain ⟨h0, fp, h2, h3, h4⟩ := h
 exact (markStringSU fp A c k0 xs w h2 h3 hk1 hk).mono fun e w' ⟨he, hr, hm⟩ => ⟨he, ⟨Nat.le_trans h0 hm.size, fp, hr, h3, h4⟩, hm.mod h4⟩
end Mem
namespace Frame
open RowK Mem
variable {H : Type} {enc : TypeId × Value → H}
set_option maxRecDepth 100000 in
theorem openS_String {W : World} {v : Value} {d : DataW H} {ps : List MemPlace} {r : Reach} {b0 : Nat} (hv : Value.okWide Tryz.prog W r b0 31 v) (h : DataW.Trod enc Tryz.prog W 0 (fun _ => true) true 31 v d ps) (hlt : ∀ x ∈ ps, x.block < W.heap.size) :
  ∃ (A : Option Addr) (c : Nat) (x : List ByteArray), v = .slice A x.length c ∧ ArgS Mem.strR W A x.length c x ∧ x.length ≤ 9223372036854775807 ∧ ∀ e ∈ x, WfStr e := by
 obtain ⟨a, n, c, rfl⟩ := okWide_slice Tryz.underlying31 hv
 obtain ⟨fuel, hf⟩ := h
 obtain ⟨A, c', fp, xs, e, hr, h1, h2⟩ := trod_slice (r := Mem.strR) (Wf := WfStr) (by decide) (by kernel_rfl) Tryz.underlying31 (fun h hl => trodU_str Tryz.underlying9 h) hf hlt
 injection e with e1 e2 e3
 subst e1; subst e2; subst e3
 exact ⟨a, c, xs, rfl, ⟨false, fp, hr⟩, h1, h2⟩
end Frame
end Go.Proofs.YtbbllkhmenpnlaaGreat
