import Derived.Test.YtbbllkhmenpnlaaGreatArithSpec
import Derived.Test.YtbbllkhmenpnlaaGreatProg
import Derived.Test.YtbbllkhmenpnlaaGreatRepGen
import Derived.WalkKit
import Derived.Lib.Hide
import Derived.Deep.QuietTactic
import Derived.BigQuiet
import Derived.IntWalk
import Derived.Test.YtbbllkhmenpnlaaGreatShelf
import Derived.Deep.RegionHeld3
/-
  Plain facts on linear expressions: validity, values, scaled sums, tightened constraints.
-/
namespace Go.Proofs.YtbbllkhmenpnlaaGreat
namespace LinM
open ArithM

def cntB (n : Int) : Bool := decide (0 ≤ n) && decide (n ≤ 8)
theorem cntB_iff {n : Int} : cntB n = true ↔ 0 ≤ n ∧ n ≤ 8 := by simp [cntB]
def vldB (z : Int) (zs : List Int) (n : Int) : Bool := (cntB n && decide ((zs.length : Int) = n)) && (inC z && zs.all inC)

theorem vldB_iff {z : Int} {zs : List Int} {n : Int} : vldB z zs n = true ↔ (0 ≤ n ∧ n ≤ 8) ∧ (zs.length : Int) = n ∧ inC z = true ∧ ∀ x ∈ zs, inC x = true := by
 simp only [vldB, Bool.and_eq_true, cntB_iff, decide_eq_true_eq, List.all_eq_true]
 constructor
 ·rintro ⟨⟨h1, h2⟩, h3, h4⟩; exact ⟨h1, h2, h3, h4⟩
 ·rintro ⟨h1, h2, h3, h4⟩; exact ⟨⟨h1, h2⟩, h3, h4⟩
theorem vldB_false_head {z : Int} {zs : List Int} {n : Int} (h : cntB n = false ∨ (zs.length : Int) ≠ n ∨ inC z = false) : vldB z zs n = false := by
 rcases h with h | h | h <;> simp [vldB, h]
theorem all_get {zs : List Int} (h : ∀ x ∈ zs, inC x = true) (k : Nat) (hk : k < zs.length) : inC zs[k] = true := h _ (List.getElem_mem hk)

end LinM
end Go.Proofs.YtbbllkhmenpnlaaGreat

/-
  The program's linear expressions: validity, constants, variables, values.
-/
namespace Go.Proofs.YtbbllkhmenpnlaaGreat
open Go.RowKit
namespace LinI
open RowK LinM

theorem cnt (n : Int) (w : World) :
  Calls Tryz.prog 170 #[.int .i64 n] w fun e w' => e = .returned (.bool (cntB n)) ∧ w = w' := by
 unfold cntB
 go_enter Tryz.func170, Tryz.ntmps170
 go_wp2
 all_goals
  go_ret
  exact ⟨ArithI.ret_bool (by simp_all; try omega), rfl⟩

set_option maxHeartbeats 1000000 in
set_option maxRecDepth 100000 in
theorem valid (lo hi : Nat) (z : Int) (A : Option Addr) (c : Nat) (zs : List Int) (n : Int) (w : World) (hA : Row lo hi w A (IntK.iv zs)) (hl : zs.length ≤ 1000000000) :
  Calls Tryz.prog 127 #[.agg #[.int .i64 z, .slice A zs.length c], .int .i64 n] w fun e w' => e = .returned (.bool (vldB z zs n)) ∧ Below w.heap.size w w' := by
 have IC := Lib.hid ArithI.isCoeff
 have CN := Lib.hid cnt
 have b0 : Below w.heap.size w (w.alloc (Obj.cells #[Value.int IntKind.i64 z, Value.slice A zs.length c] 108)) := (Below.refl _ _).alloc (Nat.le_refl _) _
 by_cases h1 : cntB n = true
 ·by_cases h2 : (zs.length : Int) = n
  ·subst h2
   by_cases h3 : ArithM.inC z = true
   ·have hall := Lib.hid (fun (h : ∀ x ∈ zs, ArithM.inC x = true) => (vldB_iff (z := z) (zs := zs) (n := (zs.length : Int))).2 ⟨cntB_iff.1 h1, rfl, h3, h⟩)
    have hnot := Lib.hid (fun (k : Nat) (hk : k < zs.length) (h : ArithM.inC zs[k] = false) => (show vldB z zs zs.length = false from by
     rw [← Bool.not_eq_true, vldB_iff]; rintro ⟨_, _, _, h5⟩; rw [all_get h5 k hk] at h; cases h))
    generalize vldB z zs zs.length = V at *
    clear b0
    go_enter Tryz.func127, Tryz.ntmps127
    go_wp2_with fail
    refine (CN.out _ _).mono ?_
    rintro e w1 ⟨rfl, rfl⟩
    simp only [h1]
    go_wp2_with fail
    refine (IC.out z _).mono ?_
    rintro e w1 ⟨rfl, rfl⟩
    simp only [h3]
    go_wp2
    have hA1 := hA.below ((Below.refl _ _).alloc (Nat.le_refl _) (Obj.cells #[Value.int IntKind.i64 z, Value.slice A zs.length c] 108))
    go_loop [26] (fun i => ∃ k : Nat, k ≤ zs.length ∧ i = .int .i64 k ∧ ∀ j (h : j < zs.length), j < k → ArithM.inC zs[j] = true) (fun i => zs.length - (intOf i).toNat)
    case atStart => exact ⟨0, Nat.zero_le _, rfl, fun j _ h => by omega⟩
    case round =>
     obtain ⟨k, hk, rfl, hpre⟩ := hrel
     have HP := Lib.hid hpre
     clear hpre
     by_cases hlt : k < zs.length
     ·obtain ⟨b, o, rfl, hbl, hc⟩ := IntK.at_ hA1 hlt
      have hn := Lib.hid (hnot.out k hlt)
      have hs := Lib.hid (fun (h : ArithM.inC zs[k] = true) j (hj : j < zs.length) (h2 : j < k + 1) => (show ArithM.inC zs[j] = true from by
       by_cases e : j = k
       ·subst e; exact h
       ·exact HP.out j hj (by omega)))
      generalize zs[k] = x at *
      go_wp2_with fail
      refine (IC.out x _).mono ?_
      rintro e w1 ⟨rfl, rfl⟩
      by_cases hx : ArithM.inC x = true
      ·have hs' := Lib.hid (hs.out hx)
       simp only [hx]
       clear hs hn hnot hall
       go_wp2
       go_round
       case rel => exact ⟨k + 1, by omega, by go_num, hs'.out⟩
       case measure => simp [intOf]; omega
      ·simp only [Bool.not_eq_true] at hx
       have hn' := Lib.hid (hn.out hx)
       simp only [hx]
       clear hs hn hnot hall
       go_wp2
       go_ret
       exact ⟨ArithI.ret_bool hn'.out.symm, (Below.refl _ _).alloc (Nat.le_refl _) _⟩
     ·obtain rfl : k = zs.length := by omega
      have hv := Lib.hid (hall.out (fun x hx => by
       obtain ⟨j, hj, rfl⟩ := List.getElem_of_mem hx
       exact HP.out j hj hj))
      clear hall hnot
      go_wp2
      go_ret
      exact ⟨ArithI.ret_bool hv.out.symm, (Below.refl _ _).alloc (Nat.le_refl _) _⟩
   ·simp only [Bool.not_eq_true] at h3
    rw [vldB_false_head (Or.inr (Or.inr h3))]
    clear b0
    go_enter Tryz.func127, Tryz.ntmps127
    go_wp2_with fail
    refine (CN.out _ _).mono ?_
    rintro e w1 ⟨rfl, rfl⟩
    simp only [h1]
    go_wp2_with fail
    refine (IC.out z _).mono ?_
    rintro e w1 ⟨rfl, rfl⟩
    simp only [h3]
    go_wp2
    go_ret
    exact ⟨rfl, (Below.refl _ _).alloc (Nat.le_refl _) _⟩
  ·rw [vldB_false_head (Or.inr (Or.inl h2))]
   have h2' : ((zs.length : Int) != n) = true := by simpa using h2
   clear b0 h2
   go_enter Tryz.func127, Tryz.ntmps127
   go_wp2_with fail
   refine (CN.out _ _).mono ?_
   rintro e w1 ⟨rfl, rfl⟩
   simp only [h1]
   go_wp2
   go_ret
   exact ⟨rfl, (Below.refl _ _).alloc (Nat.le_refl _) _⟩
 ·simp only [Bool.not_eq_true] at h1
  rw [vldB_false_head (Or.inl h1)]
  clear b0
  go_enter Tryz.func127, Tryz.ntmps127
  go_wp2_with fail
  refine (CN.out _ _).mono ?_
  rintro e w1 ⟨rfl, rfl⟩
  simp only [h1]
  go_wp2
  go_ret
  exact ⟨rfl, (Below.refl _ _).alloc (Nat.le_refl _) _⟩

def Gave (w : World) (z : Int) (zs : List Int) (e : Ending) (w' : World) : Prop :=
 ∃ A c, e = .returned (.agg #[.int .i64 z, .slice A zs.length c]) ∧ Row w.heap.size w'.heap.size w' A (IntK.iv zs) ∧ Free w' A zs.length ∧ Below w.heap.size w w'

def GaveC (w : World) (z : Int) (zs : List Int) (e : Ending) (w' : World) : Prop :=
 ∃ A c, e = .returned (.agg #[.int .i64 z, .slice A zs.length c]) ∧ Row w.heap.size w'.heap.size w' A (IntK.iv zs) ∧ Free w' A zs.length ∧ Below w.heap.size w w' ∧ zs.length ≤ c
theorem GaveC.gave {w w' : World} {z : Int} {zs : List Int} {e : Ending} (h : GaveC w z zs e w') : Gave w z zs e w' := by
 obtain ⟨A, c, h1, h2, h3, h4, _⟩ := h
 exact ⟨A, c, h1, h2, h3, h4⟩

end LinI
end Go.Proofs.YtbbllkhmenpnlaaGreat

/-
  The program's linear expressions: copies and tightened constraints.
-/
namespace Go.Proofs.YtbbllkhmenpnlaaGreat
open Go.RowKit
namespace LinI
open RowK LinM ArithM

theorem keep_row {w w1 W : World} {lo hi mid : Nat} {A : Option Addr} {zs : List Int} (b0 : Below w.heap.size w w1) (r : Row lo hi w1 A (IntK.iv zs)) (f : Free w1 A zs.length) (hm : Mod w.heap.size mid w1 W) (h1 : mid ≤ lo) (h2 : w.heap.size ≤ lo) (h3 : hi ≤ w1.heap.size) :
  Row w.heap.size W.heap.size W A (IntK.iv zs) ∧ Free W A zs.length ∧ Below w.heap.size w W :=
 ⟨(r.keep hm (Or.inr h1)).wider h2 (Nat.le_trans h3 hm.size) (Nat.le_refl _), f.keep r (by rw [IntK.iv_len]; exact Nat.le_refl _) hm (Or.inr h1), below_mod b0 hm (Nat.le_refl _) b0.size⟩

end LinI
end Go.Proofs.YtbbllkhmenpnlaaGreat
