import Derived.Test.YtbbllkhmenpnlaaGreatRepSys
import Derived.Test.YtbbllkhmenpnlaaGreatLinSpec
/-
  Systems beside the worlds of an exact law: owned ones with the stretch of blocks in which they lie, and arguments.
-/
namespace Go.Proofs.YtbbllkhmenpnlaaGreat
open Go.RowKit
namespace SysK
open RowK Mem

def Own (lo hi : Nat) (w : World) (A : Option Addr) (n c : Nat) (xs : List (Int × List Int)) : Prop := hi ≤ w.heap.size ∧ ∃ fp, lins.rep true w fp [.slice A n c] xs ∧ fp.Nodup ∧ ∀ b ∈ fp, lo ≤ b ∧ b < hi
theorem Own.below {lo hi n c : Nat} {w w' : World} {A : Option Addr} {xs : List (Int × List Int)} (h : Own lo hi w A n c xs) (hb : Below w.heap.size w w') : Own lo hi w' A n c xs := by
 obtain ⟨h0, fp, h1, h2, h3⟩ := h
 exact ⟨Nat.le_trans h0 hb.size, fp, Rep.below h1 hb, h2, h3⟩
theorem Own.keep {lo hi lo' hi' n c : Nat} {w w' : World} {A : Option Addr} {xs : List (Int × List Int)} (h : Own lo hi w A n c xs) (m : Mod lo' hi' w w') (hd : hi ≤ lo' ∨ hi' ≤ lo) : Own lo hi w' A n c xs := by
 obtain ⟨h0, fp, h1, h2, h3⟩ := h
 exact ⟨Nat.le_trans h0 m.size, fp, Rep.keep h1 m (fun b hb => by have := h3 b hb; omega), h2, h3⟩
def Arg (w : World) (A : Option Addr) (n c : Nat) (xs : List (Int × List Int)) : Prop := ∃ q fp, lins.rep q w fp [.slice A n c] xs
theorem Arg.below {n c : Nat} {w w' : World} {A : Option Addr} {xs : List (Int × List Int)} (h : Arg w A n c xs) (hb : Below w.heap.size w w') : Arg w' A n c xs := by
 obtain ⟨q, fp, h1⟩ := h
 exact ⟨q, fp, Rep.below h1 hb⟩
theorem Own.arg {lo hi n c : Nat} {w : World} {A : Option Addr} {xs : List (Int × List Int)} (h : Own lo hi w A n c xs) : Arg w A n c xs := by
 obtain ⟨_, fp, h1, _⟩ := h
 exact ⟨true, fp, h1⟩
theorem Own.of_new {w w' : World} {A : Option Addr} {n : Int} {m c : Nat} {xs : List (Int × List Int)} (h : New Mem.sys w (n, xs) w' [.int .i64 n, .slice A m c]) : Own w.heap.size w'.heap.size w' A m c xs := by
 obtain ⟨fp, h1, h2, h3⟩ := h
 obtain ⟨B, d, e, h4⟩ := sys_open h1
 have e2 : Value.slice A m c = .slice B xs.length d := by injection e with _ e; injection e
 rw [← e2] at h4
 exact ⟨Nat.le_refl _, fp, h4, h2, fun b hb => ⟨h3 b hb, lins.lt h4 b hb⟩⟩

end SysK
end Go.Proofs.YtbbllkhmenpnlaaGreat
