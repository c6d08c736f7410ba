import Derived.Lib.ItoaNum
import Derived.Test.YtiilopfhlmeaoaaGreatDoorKit
import Derived.Lib.Hide
/-
  Plain mathematics of decimal numerals: the digits as spec.FormatInt lays them, held against 'Lib.itoa'. Imports nothing of the program.
-/
namespace Go.Proofs.YtiilopfhlmeaoaaGreatDoor
namespace FmtM

/-- The digits of a number above 0, the first ahead; none for 0. -/
def dg0 (u : Nat) : List UInt8 := if u = 0 then [] else Lib.decDigits u

theorem dg0_zero : dg0 0 = [] := by simp [dg0]
theorem dg0_pos {u : Nat} (h : u ≠ 0) : dg0 u = Lib.decDigits u := by simp [dg0, h]
theorem dg0_step (u : Nat) (h : u ≠ 0) : dg0 u = dg0 (u / 10) ++ [48 + UInt8.ofNat (u % 10)] := by
  rw [show (48 : UInt8) + UInt8.ofNat (u % 10) = UInt8.ofNat (48 + u % 10) by rw [UInt8.ofNat_add]; rfl, dg0_pos h]
  by_cases h10 : u < 10
  · rw [Lib.decDigits, dif_pos h10, show u / 10 = 0 by omega, dg0_zero, Nat.mod_eq_of_lt h10]; rfl
  · rw [Lib.decDigits, dif_neg h10, dg0_pos (by omega)]

theorem dg0_length (u : Nat) : (dg0 u).length ≤ Lib.nDigits u := by
  unfold dg0
  split
  · simp
  · rw [Lib.decDigits_length]; exact Nat.le_refl _

theorem nDigits_le (u : Nat) (h : u < 10 ^ 19) : Lib.nDigits u ≤ 19 := by
  rcases Nat.lt_or_ge 19 (Lib.nDigits u) with hc | hc
  · exfalso
    have key : ∀ k u, k < Lib.nDigits u → 10 ^ k ≤ u ∨ k = 0 := by
      intro k
      induction k with
      | zero => intro u _; exact Or.inr rfl
      | succ k ih =>
        intro u hu
        left
        by_cases h10 : u < 10
        · rw [Lib.nDigits_small h10] at hu; omega
        · rw [Lib.nDigits_big h10] at hu
          rcases ih (u / 10) (by omega) with h1 | h1
          · rw [Nat.pow_succ]; omega
          · subst h1; simp; omega
    rcases key 19 u hc with h1 | h1
    · omega
    · omega
  · exact hc
end FmtM
end Go.Proofs.YtiilopfhlmeaoaaGreatDoor

/-
  spec.FormatInt: it returns the decimal numeral 'Lib.itoa n'.
-/
namespace Go.Proofs.YtiilopfhlmeaoaaGreatDoor
open Go.RowKit
namespace FmtS

set_option maxHeartbeats 400000 in
set_option maxRecDepth 100000 in
theorem zero (w : World) : Calls Tryz.prog 100 #[.int .i64 0] w fun e w' => e = .returned (.string ⟨(Lib.itoa 0).toArray⟩) ∧ w = w' := by
  go_enter Tryz.func100, Tryz.ntmps100
  go_wp2
  go_ret
  refine ⟨?_, rfl⟩
  rw [Lib.itoa, if_neg (by omega), Lib.decDigits]
  rfl

set_option maxHeartbeats 400000 in
set_option maxRecDepth 100000 in
theorem pos (n : Nat) (hn : 0 < n) (hm : n ≤ 9223372036854775807) (w : World) :
    Calls Tryz.prog 100 #[.int .i64 n] w fun e w' => e = .returned (.string ⟨(FmtM.dg0 n).toArray⟩) ∧ Below w.heap.size w w' := by
  have hd : decide ((n : Int) < 0) = false := by simp
  have h0 : ((n : Int) == 0) = false := by simp; omega
  go_enter Tryz.func100, Tryz.ntmps100
  go_wp2
  go_loopw [0, 4] (fun a o wr => ∃ (m : Nat) (l : List UInt8), a = .int .i64 m ∧ o = .string ⟨l.toArray⟩ ∧ m ≤ n ∧  FmtM.dg0 m ++ l = FmtM.dg0 n ∧ Below w.heap.size w wr) (fun a _ _ => (intOf a).toNat)
  case atStart => exact ⟨n, [], rfl, rfl, Nat.le_refl _, by simp, Below.refl _ _⟩
  case round =>
    obtain ⟨m, l, rfl, rfl, hmn, hdg, hb⟩ := hrel
    have hl : l.length ≤ 1000000 := by
      have h1 := congrArg List.length hdg
      have h2 := FmtM.dg0_length n
      have h3 := FmtM.nDigits_le n (by omega)
      simp only [List.length_append] at h1
      omega
    by_cases hz : m = 0
    · subst hz
      rw [FmtM.dg0_zero, List.nil_append] at hdg
      subst hdg
      go_wp2
      go_ret
      exact ⟨rfl, hb⟩
    · have hz' : ((m : Int) != 0) = true := by simp; omega
      have hstep := Lib.hid (FmtM.dg0_step m hz)
      have hdg' := Lib.hid hdg
      clear hdg
      have hcv := Kit.conv1
      have had : ∀ (b : UInt8) (W : World), Sem.run Tryz.prog (Op.stringOp .add ⟨#[b]⟩ ⟨l.toArray⟩) W = .ok (.string ⟨(b :: l).toArray⟩) W := fun b W => Kit.add1 W b l hl
      go_wp2
      refine ⟨⟨m / 10, _, by go_num, rfl, by omega, ?_, hb.alloc hb.size _⟩, by simp [intOf]; omega⟩
      rw [← hdg'.out, hstep.out]
      simp

/-- FormatInt at every integer of 64 bits that is not negative. -/
theorem nonneg (n : Nat) (hm : n ≤ 9223372036854775807) (w : World) :
    Calls Tryz.prog 100 #[.int .i64 n] w fun e w' => e = .returned (.string ⟨(Lib.itoa n).toArray⟩) ∧ Below w.heap.size w w' := by
  by_cases hn : n = 0
  · subst hn
    exact (zero w).mono fun e w' ⟨h1, h2⟩ => ⟨h1, h2 ▸ Below.refl _ _⟩
  · refine (pos n (by omega) hm w).mono fun e w' ⟨h1, h2⟩ => ⟨?_, h2⟩
    rw [h1, FmtM.dg0_pos hn, Lib.itoa, if_neg (by omega), Int.toNat_natCast]

set_option maxHeartbeats 400000 in
set_option maxRecDepth 100000 in
theorem neg (n : Nat) (hn : 0 < n) (hm : n ≤ 9223372036854775808) (w : World) :
    Calls Tryz.prog 100 #[.int .i64 (-(n : Int))] w fun e w' => e = .returned (.string ⟨(45 :: FmtM.dg0 n).toArray⟩) ∧ Below w.heap.size w w' := by
  have hd : decide (-(n : Int) < 0) = true := by simp; omega
  have h0 : (-(n : Int) == 0) = false := by simp; omega
  go_enter Tryz.func100, Tryz.ntmps100
  go_wp2
  go_loopw [0, 4] (fun a o wr => ∃ (m : Nat) (l : List UInt8), a = .int .i64 (-(m : Int)) ∧ o = .string ⟨l.toArray⟩ ∧ m ≤ n ∧ FmtM.dg0 m ++ l = FmtM.dg0 n ∧ Below w.heap.size w wr) (fun a _ _ => (-(intOf a)).toNat)
  case atStart => exact ⟨n, [], rfl, rfl, Nat.le_refl _, by simp, Below.refl _ _⟩
  case round =>
    obtain ⟨m, l, rfl, rfl, hmn, hdg, hb⟩ := hrel
    have hl : l.length ≤ 1000000 := by
      have h1 := congrArg List.length hdg
      have h2 := FmtM.dg0_length n
      have h3 := FmtM.nDigits_le n (by omega)
      simp only [List.length_append] at h1
      omega
    by_cases hz : m = 0
    · subst hz
      rw [FmtM.dg0_zero, List.nil_append] at hdg
      subst hdg
      have had : ∀ (W : World), Sem.run Tryz.prog (Op.stringOp .add ⟨#[45]⟩ ⟨(FmtM.dg0 n).toArray⟩) W = .ok (.string ⟨(45 :: FmtM.dg0 n).toArray⟩) W := fun W => Kit.add1 W 45 _ hl
      go_wp2
      go_ret
      exact ⟨rfl, hb⟩
    · have hz' : (-(m : Int) != 0) = true := by simp; omega
      have hstep := Lib.hid (FmtM.dg0_step m hz)
      have hdg' := Lib.hid hdg
      clear hdg
      have hcv := Kit.conv1
      have had : ∀ (b : UInt8) (W : World), Sem.run Tryz.prog (Op.stringOp .add ⟨#[b]⟩ ⟨l.toArray⟩) W = .ok (.string ⟨(b :: l).toArray⟩) W := fun b W => Kit.add1 W b l hl
      go_wp2
      · refine ⟨⟨m / 10, _, by go_num, rfl, by omega, ?_, hb.alloc hb.size _⟩, by simp [intOf]; omega⟩
        rw [← hdg'.out, hstep.out]
        simp
      · rename_i h
        have hm0 : m % 10 = 0 := by omega
        refine ⟨⟨m / 10, _, by go_num, rfl, by omega, ?_, hb.alloc hb.size _⟩, by simp [intOf]; omega⟩
        rw [← hdg'.out, hstep.out, hm0, show ((m : Int) % 10) = 0 by omega]
        simp

/-- SPEC.FORMATINT, at every integer of 64 bits: its decimal numeral. -/
theorem any (n : Int) (h0 : -9223372036854775808 ≤ n) (h1 : n ≤ 9223372036854775807) (w : World) :
    Calls Tryz.prog 100 #[.int .i64 n] w fun e w' => e = .returned (.string ⟨(Lib.itoa n).toArray⟩) ∧ Below w.heap.size w w' := by
  by_cases hn : 0 ≤ n
  · obtain ⟨m, rfl⟩ := Int.eq_ofNat_of_zero_le hn
    exact nonneg m (by omega) w
  · obtain ⟨m, hm⟩ : ∃ m : Nat, n = -(m : Int) := ⟨n.natAbs, by omega⟩
    subst hm
    refine (neg m (by omega) (by omega) w).mono fun e w' ⟨h1, h2⟩ => ⟨?_, h2⟩
    rw [h1, FmtM.dg0_pos (by omega), Lib.itoa, if_pos (by omega), Int.natAbs_neg, Int.natAbs_natCast]
end FmtS
end Go.Proofs.YtiilopfhlmeaoaaGreatDoor
