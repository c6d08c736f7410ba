import Derived.Test.YtaaceggedjcbpaaStrKeep
/-
  Marks in a slice of strings, with the stretch of blocks in which it lies.
-/
namespace Go.Proofs.Ytaaceggedjcbpaa
open Go.RowKit
namespace StrK
open RowK
theorem markSR (lo hi : Nat) (A : Option Addr) (c : Nat) (ss : List ByteArray) (w : World) (h : SR lo hi w A ss) (h2 : ss.length ≤ 100000000) :
    Calls Try.prog 22 #[.slice A ss.length c, .int .i64 1] w fun e w' => e = .returned (.int .i64 (1 + (ss.length : Int))) ∧ SR lo hi w' A (marks 1 ss.length) ∧ Mod lo hi w w' :=
  (mark21 A c ss w h.1 h.2.1 h2).mono fun e w' ⟨h1, hr, ho, hf⟩ => ⟨h1, ⟨hr, by rw [marks_length]; exact hf, Nat.le_trans h.2.2.1 ho.size, fun a e => h.2.2.2 a (by
    unfold blk at e ⊢
    split at e
    · cases e
    · rename_i hn
      rw [if_neg (fun e' => hn (by rw [e']; rfl))]
      exact e)⟩, ⟨ho.os, ho.tape, ho.output, ho.size, fun i hii hn => ho.block i hii (fun e => by
    cases hb : blk A ss with
    | none => rw [hb] at e; cases e
    | some y =>
      rw [hb] at e; injection e with e; have e : i = y.block := e
      have := h.2.2.2 y hb
      omega)⟩⟩
end StrK
end Go.Proofs.Ytaaceggedjcbpaa
