import Derived.Test.YtbbllkhmenpnlaaGreatProg
import Derived.WalkKit
import Derived.WalkSpells
import Derived.WalkLawsBesides
import Derived.Lib.ItoaNum
/-
  Small facts on operations that the walks of this program come to: a byte turned into a string; two strings joined.
-/
namespace Go.Proofs.YtbbllkhmenpnlaaGreat
open Go.RowKit
namespace Kit

theorem conv1 (W : World) (x : Int) :
  Sem.run Tryz.prog (convert 22 9 (.slice (some ⟨W.heap.size, 0, none⟩) 1 1)) (W.alloc (.cells #[.int .u8 x] 5)) = .ok (.string ⟨#[UInt8.ofNat x.toNat]⟩) (W.alloc (.cells #[.int .u8 x] 5)) := by
 rw [run_convert_bytes_string _ 22 9 5 _ 1 1 Tryz.underlying22 Tryz.underlying5 Tryz.underlying9]
 have hl := run_loadCells_list (P := Tryz.prog) (W.alloc (.cells #[.int .u8 x] 5)) ⟨W.heap.size, 0, none⟩ [.int .u8 x] (fun j v hj => by
  cases j with
  | zero =>
   obtain rfl : Value.int .u8 x = v := by simpa using hj
   simp only [Addr.add, Nat.add_zero, if_true]
   rw [World.cell?_alloc_at _ _ _ _ rfl]; rfl
  | succ j => simp at hj)
 rw [run_bytesToString _ _ 1 1 [x] hl]
 rfl

theorem size_mk (l : List UInt8) : (ByteArray.mk l.toArray).size = l.length := by show l.toArray.size = _; simp

theorem add1 (W : World) (b : UInt8) (l : List UInt8) (h : l.length ≤ 1000000) :
  Sem.run Tryz.prog (Op.stringOp .add ⟨#[b]⟩ ⟨l.toArray⟩) W = .ok (.string ⟨(b :: l).toArray⟩) W := by
 have e : (ByteArray.mk #[b]) = ⟨[b].toArray⟩ := rfl
 rw [e, run_string_add_sum W _ _ (by rw [size_mk, size_mk]; simp; omega), ByteArray.mk_append_mk]
 simp
end Kit
end Go.Proofs.YtbbllkhmenpnlaaGreat

/-
  Plain mathematics of decimal numerals: the digits as spec.FormatInt lays them, held against 'Lib.itoa'. Imports nothing of the program.
-/
namespace Go.Proofs.YtbbllkhmenpnlaaGreat
namespace FmtM

def dg0 (u : Nat) : List UInt8 := if u = 0 then [] else Lib.decDigits u

theorem dg0_zero : dg0 0 = [] := by simp [dg0]
theorem dg0_pos {u : Nat} (h : u ≠ 0) : dg0 u = Lib.decDigits u := by simp [dg0, h]
theorem dg0_step (u : Nat) (h : u ≠ 0) : dg0 u = dg0 (u / 10) ++ [48 + UInt8.ofNat (u % 10)] := by
 rw [show (48 : UInt8) + UInt8.ofNat (u % 10) = UInt8.ofNat (48 + u % 10) by rw [UInt8.ofNat_add]; rfl, dg0_pos h]
 by_cases h10 : u < 10
 ·rw [Lib.decDigits, dif_pos h10, show u / 10 = 0 by omega, dg0_zero, Nat.mod_eq_of_lt h10]; rfl
 ·rw [Lib.decDigits, dif_neg h10, dg0_pos (by omega)]

theorem dg0_length (u : Nat) : (dg0 u).length ≤ Lib.nDigits u := by
 unfold dg0
 split
 ·simp
 ·rw [Lib.decDigits_length]; exact Nat.le_refl _

theorem nDigits_le (u : Nat) (h : u < 10 ^ 19) : Lib.nDigits u ≤ 19 := by
 rcases Nat.lt_or_ge 19 (Lib.nDigits u) with hc | hc
 ·exfalso
  have key : ∀ k u, k < Lib.nDigits u → 10 ^ k ≤ u ∨ k = 0 := by
   intro k
   induction k with
   | zero => intro u _; exact Or.inr rfl
   | succ k ih =>
    intro u hu
    left
    by_cases h10 : u < 10
    ·rw [Lib.nDigits_small h10] at hu; omega
    ·rw [Lib.nDigits_big h10] at hu
     rcases ih (u / 10) (by omega) with h1 | h1
     ·rw [Nat.pow_succ]; omega
     ·subst h1; simp; omega
  rcases key 19 u hc with h1 | h1
  ·omega
  ·omega
 ·exact hc
end FmtM
end Go.Proofs.YtbbllkhmenpnlaaGreat
