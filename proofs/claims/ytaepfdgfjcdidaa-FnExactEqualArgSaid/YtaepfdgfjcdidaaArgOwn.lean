import Derived.Test.YtaepfdgfjcdidaaRepArg
/-
  Sums and arguments beside the worlds of an exact law: owned ones with the stretch of blocks in which they lie, and arguments.
-/
namespace Go.Proofs.Ytaepfdgfjcdidaa
open Go.RowKit
namespace SumK
open RowK Mem
theorem len_le (xs : List (Int × ByteArray)) : xs.length ≤ termsSize xs := by unfold termsSize; omega
theorem sizes {xs : List (Int × ByteArray)} (h : termsSize xs ≤ 1000000000) : ∀ t ∈ xs, t.2.size ≤ 9223372036854775807 := fun t ht => by
  have := szs_mem (sz := tsz) ht
  unfold tsz at this
  unfold termsSize tsz at h
  omega
theorem copy (z : Int) (A : Option Addr) (c : Nat) (xs : List (Int × ByteArray)) (w : World) (hA : ArgS term w A xs.length c xs) (hl : termsSize xs ≤ 1000000000) :
    Calls Try.prog 9 #[.agg #[.int .i64 z, .slice A xs.length c]] w fun e w' => ∃ B, e = .returned (.agg #[.int .i64 z, .slice B xs.length xs.length]) ∧ OwnS term w.heap.size w'.heap.size w' B xs.length xs.length xs ∧ Below w.heap.size w w' := by
  obtain ⟨q, fp, h⟩ := hA
  exact (copySum q fp z A c xs w h (Nat.le_trans (len_le xs) hl)).mono fun e w' ⟨B, he, hN, hb⟩ => ⟨B, he, OwnS.of_new hN, hb⟩
theorem size (z : Int) (A : Option Addr) (c L : Nat) (xs : List (Int × ByteArray)) (w : World) (hA : ArgS term w A xs.length c xs) (hL : L ≤ 1000000000) (hl : xs.length ≤ 9223372036854775807) (hs : ∀ x ∈ xs, WfTerm x) :
    Calls Try.prog 7 #[.agg #[.int .i64 z, .slice A xs.length c], .int .i64 L] w fun e w' => e = .returned (.int .i64 (IntK.leftOf L (termsSize xs))) ∧ Below w.heap.size w w' := by
  obtain ⟨q, fp, h⟩ := hA
  exact sizeSum q fp z A c L xs w h hL hl hs
theorem eq_same (z : Int) (A B : Option Addr) (c d : Nat) (xs : List (Int × ByteArray)) (w : World) (hA : ArgS term w A xs.length c xs) (hB : ArgS term w B xs.length d xs) (hl : termsSize xs ≤ 1000000000) :
    Calls Try.prog 11 #[.agg #[.int .i64 z, .slice A xs.length c], .agg #[.int .i64 z, .slice B xs.length d]] w fun e w' => e = .returned (.bool true) ∧ Below w.heap.size w w' := by
  obtain ⟨q, fp, h⟩ := hA
  obtain ⟨q2, gp, h2⟩ := hB
  exact eqSum q q2 fp gp z A B c d xs w h h2 (Nat.le_trans (len_le xs) hl)
end SumK
namespace ArgK
open RowK Mem
theorem len_le (xs : List SumT) (s : ByteArray) : xs.length + szs ssl xs ≤ argsSize xs s := by
  have := ssl_le xs
  unfold argsSize sumsSize
  omega
theorem sizes {xs : List SumT} {s : ByteArray} (h : argsSize xs s ≤ 1000000000) : ∀ x ∈ xs, ∀ t ∈ x.2, t.2.size ≤ 9223372036854775807 := fun x hx => by
  have h1 := szs_mem (sz := ssz) hx
  unfold argsSize sumsSize at h
  exact SumK.sizes (by unfold ssz at h1 h; omega)
theorem bsize {xs : List SumT} {s : ByteArray} (h : argsSize xs s ≤ 1000000000) : s.size ≤ 9223372036854775807 := by
  unfold argsSize at h
  omega
theorem copy (p : Bool) (s : ByteArray) (A : Option Addr) (c : Nat) (xs : List SumT) (w : World) (hA : ArgS Mem.sum w A xs.length c xs) (hl : argsSize xs s ≤ 1000000000) :
    Calls Try.prog 14 #[.agg #[.bool p, .slice A xs.length c, .string s]] w fun e w' => ∃ B, e = .returned (.agg #[.bool p, .slice B xs.length xs.length, .string s]) ∧ OwnS Mem.sum w.heap.size w'.heap.size w' B xs.length xs.length xs ∧ Below w.heap.size w w' := by
  obtain ⟨q, fp, h⟩ := hA
  exact (copyArg q fp p s A c xs w h (Nat.le_trans (len_le xs s) hl)).mono fun e w' ⟨B, he, hN, hb⟩ => ⟨B, he, OwnS.of_new hN, hb⟩
theorem size (p : Bool) (s : ByteArray) (A : Option Addr) (c L : Nat) (xs : List SumT) (w : World) (hA : ArgS Mem.sum w A xs.length c xs) (hL : L ≤ 1000000000) (hl : xs.length ≤ 9223372036854775807) (hs : ∀ x ∈ xs, WfSum x) (hb : s.size ≤ 9223372036854775807) :
    Calls Try.prog 12 #[.agg #[.bool p, .slice A xs.length c, .string s], .int .i64 L] w fun e w' => e = .returned (.int .i64 (IntK.leftOf L (argsSize xs s))) ∧ Below w.heap.size w w' := by
  obtain ⟨q, fp, h⟩ := hA
  exact sizeArg q fp p s A c L xs w h hL hl hs hb
theorem eq_same (p : Bool) (s : ByteArray) (A B : Option Addr) (c d : Nat) (xs : List SumT) (w : World) (hA : ArgS Mem.sum w A xs.length c xs) (hB : ArgS Mem.sum w B xs.length d xs) (hl : argsSize xs s ≤ 1000000000) :
    Calls Try.prog 16 #[.agg #[.bool p, .slice A xs.length c, .string s], .agg #[.bool p, .slice B xs.length d, .string s]] w fun e w' => e = .returned (.bool true) ∧ Below w.heap.size w w' := by
  obtain ⟨q, fp, h⟩ := hA
  obtain ⟨q2, gp, h2⟩ := hB
  exact eqArg q q2 fp gp p s A B c d xs w h h2 (Nat.le_trans (len_le xs s) hl)
theorem mark (lo hi : Nat) (p : Bool) (s : ByteArray) (A : Option Addr) (c k0 : Nat) (xs : List SumT) (w : World) (hA : OwnS Mem.sum lo hi w A xs.length c xs) (hl : argsSize xs s ≤ 1000000000) (h1 : 1 ≤ k0) (hk0 : k0 ≤ 1000000000) :
    Calls Try.prog 20 #[.agg #[.bool p, .slice A xs.length c, .string s], .int .i64 k0] w fun e w' => e = .returned (.int .i64 ((k0 : Int) + szs nSum xs)) ∧ OwnS Mem.sum lo hi w' A xs.length c (marksS k0 xs) ∧ Mod lo hi w w' := by
  obtain ⟨h0, fp, h1', h2, h3⟩ := hA
  exact (markArg fp p s A c k0 xs w h1' h2 (Nat.le_trans (len_le xs s) hl) h1 (by omega)).mono fun e w' ⟨he, hr, hm⟩ => ⟨he, ⟨Nat.le_trans h0 hm.size, fp, hr, h2, h3⟩, hm.mod h3⟩
end ArgK
end Go.Proofs.Ytaepfdgfjcdidaa
