import Derived.Test.YtbbllkhmenpnlaaGreatRepGen
import Derived.Test.YtbbllkhmenpnlaaGreatStrEq
/-
  Slices of strings beside rows of integers: the stretch of blocks in which they lie; what marks have written.
-/
namespace Go.Proofs.YtbbllkhmenpnlaaGreat
open Go.RowKit
namespace StrK
open RowK

def SR (lo hi : Nat) (w : World) (A : Option Addr) (ss : List ByteArray) : Prop :=
 SRow w A ss ∧ Free w A ss.length ∧ hi ≤ w.heap.size ∧ ∀ a, blk A ss = some a → lo ≤ a.block ∧ a.block < hi
theorem SR.new {w w' : World} {A : Option Addr} {ss : List ByteArray} (h : SRow w' A ss) (f : Free w' A ss.length) (hn : ∀ a, A = some a → w.heap.size ≤ a.block) : SR w.heap.size w'.heap.size w' A ss :=
 ⟨h, f, Nat.le_refl _, fun a e => ⟨blk_ge hn a e, blk_lt h a e⟩⟩
theorem SR.below {lo hi : Nat} {w w' : World} {A : Option Addr} {ss : List ByteArray} (h : SR lo hi w A ss) (hb : Below w.heap.size w w') : SR lo hi w' A ss :=
 ⟨h.1.below hb, h.2.1.below h.1 hb, Nat.le_trans h.2.2.1 hb.size, h.2.2.2⟩
theorem SR.keep {lo hi lo' hi' : Nat} {w w' : World} {A : Option Addr} {ss : List ByteArray} (h : SR lo hi w A ss) (m : Mod lo' hi' w w') (hd : hi ≤ lo' ∨ hi' ≤ lo) : SR lo hi w' A ss := by
 obtain ⟨h1, h2, h3, h4⟩ := h
 refine ⟨fun hn => ?_, fun hp b o e j hj => ?_, Nat.le_trans h3 m.size, h4⟩
 ·obtain ⟨b, o, rfl, hlt, hc⟩ := h1 hn
  have hb := h4 ⟨b, o, none⟩ (by unfold blk; rw [if_neg hn])
  simp only at hb
  exact ⟨b, o, rfl, Nat.lt_of_lt_of_le hlt m.size, fun j s hj => by rw [World.cell?_of_block (w := w) (m.block b hlt (by omega))]; exact hc j s hj⟩
 ·have hn : ss ≠ [] := fun e => by rw [e] at hp; simp at hp
  obtain ⟨b', o', e', hlt, _⟩ := h1 hn
  rw [e'] at e
  injection e with e; injection e with e1 e2; subst e1; subst e2
  have hb := h4 ⟨b', o', none⟩ (by unfold blk; rw [if_neg hn]; exact e')
  simp only at hb
  have hf := h2 hp b' o' e' j hj
  rw [World.frozen?_of_block (w := w) (m.block b' hlt (by omega))]
  exact hf
end StrK
end Go.Proofs.YtbbllkhmenpnlaaGreat
