import Derived.Test.YtbbllkhmenpnlaaGreatPgmScopeS
import Derived.Test.YtbbllkhmenpnlaaGreatStrKeep
/-
  Rules as arguments of a law; strings as a result; how long a scope is.
-/
namespace Go.Proofs.YtbbllkhmenpnlaaGreat
open Go.RowKit
namespace Mem
open RowK ProgI
theorem own_SR {lo hi n c : Nat} {w : World} {A : Option Addr} {ss : List ByteArray} (h : OwnS Rep.str lo hi w A n c ss) : StrK.SR lo hi w A ss := by
 obtain ⟨h0, fp, h1, _, h3⟩ := h
 obtain ⟨r1, f1, _, _, rfl⟩ := strs_open h1
 refine ⟨r1, f1 rfl, h0, fun a e => h3 a.block ?_⟩
 unfold StrK.blk at e
 unfold fpS
 split at e
 ·cases e
 ·rename_i hne
  rw [if_neg hne, e]
  simp
end Mem
end Go.Proofs.YtbbllkhmenpnlaaGreat
