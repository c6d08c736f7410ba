import Derived.Test.YtbbllkhmenpnlaaGreatProg
import Derived.Test.YtbbllkhmenpnlaaGreatArithSpec
import Derived.Test.YtbbllkhmenpnlaaGreatLinImpl2
import Derived.Test.YtbbllkhmenpnlaaGreatRepGen
import Derived.WalkKit
import Derived.Lib.Hide
import Derived.Deep.QuietTactic
import Derived.BigQuiet
import Derived.IntWalk
/-
  The model's linear expressions: validity, constants, variables, values, equality.
-/
namespace Go.Proofs.YtbbllkhmenpnlaaGreat
open Go.RowKit
namespace LinS
open RowK LinM

theorem cnt (n : Int) (w : World) :
  Calls Tryz.prog 97 #[.int .i64 n, .int .i64 0, .int .i64 8] w fun e w' => e = .returned (.bool (cntB n)) ∧ w = w' := by
 unfold cntB
 exact ArithS.inR n 0 8 w

set_option maxHeartbeats 1000000 in
set_option maxRecDepth 100000 in
theorem valid (lo hi : Nat) (z : Int) (A : Option Addr) (c : Nat) (zs : List Int) (n : Int) (w : World) (hA : Row lo hi w A (IntK.iv zs)) (hl : zs.length ≤ 1000000000) :
  Calls Tryz.prog 96 #[.agg #[.int .i64 z, .slice A zs.length c], .int .i64 n] w fun e w' => e = .returned (.bool (vldB z zs n)) ∧ Below w.heap.size w w' := by
 have IC := Lib.hid ArithS.in3
 have CN := Lib.hid cnt
 have hA1 := hA.below ((Below.refl _ _).alloc (Nat.le_refl _) (Obj.cells #[Value.int IntKind.i64 z, Value.slice A zs.length c] 108))
 have hnot := Lib.hid (fun (k : Nat) (hk : k < zs.length) (h : ArithM.inC zs[k] = false) => (show vldB z zs n = false from by
  rw [← Bool.not_eq_true, vldB_iff]; rintro ⟨_, _, _, h5⟩; rw [all_get h5 k hk] at h; cases h))
 have hfin : Hid ((∀ x ∈ zs, ArithM.inC x = true) → vldB z zs n = ((cntB n && decide ((zs.length : Int) = n)) && ArithM.inC z)) := Lib.hid (fun h => by
  have : zs.all ArithM.inC = true := List.all_eq_true.2 h
  simp [vldB, this])
 generalize vldB z zs n = V at *
 go_enter Tryz.func96, Tryz.ntmps96
 go_wp2
 go_loop [5] (fun i => ∃ k : Nat, k ≤ zs.length ∧ i = .int .i64 k ∧ ∀ j (h : j < zs.length), j < k → ArithM.inC zs[j] = true) (fun i => zs.length - (intOf i).toNat)
 case atStart => exact ⟨0, Nat.zero_le _, rfl, fun j _ h => by omega⟩
 case round =>
  obtain ⟨k, hk, rfl, hpre⟩ := hrel
  have HP := Lib.hid hpre
  clear hpre
  by_cases hlt : k < zs.length
  ·obtain ⟨b, o, rfl, hbl, hc⟩ := IntK.at_ hA1 hlt
   have hn := Lib.hid (hnot.out k hlt)
   have hs := Lib.hid (fun (h : ArithM.inC zs[k] = true) j (hj : j < zs.length) (h2 : j < k + 1) => (show ArithM.inC zs[j] = true from by
    by_cases e : j = k
    ·subst e; exact h
    ·exact HP.out j hj (by omega)))
   generalize zs[k] = x at *
   have hk1 : (k : Int) < (zs.length : Int) := by omega
   go_wp2_with fail
   refine (IC.out x _).mono ?_
   rintro e w1 ⟨rfl, rfl⟩
   by_cases hx : ArithM.inC x = true
   ·have hs' := Lib.hid (hs.out hx)
    simp only [hx]
    clear hs hn hnot hfin
    go_wp2
    go_round
    case rel => exact ⟨k + 1, by omega, by go_num, hs'.out⟩
    case measure => simp [intOf]; omega
   ·simp only [Bool.not_eq_true] at hx
    have hn' := Lib.hid (hn.out hx)
    simp only [hx]
    clear hs hn hnot hfin
    go_wp2
    go_ret
    exact ⟨ArithI.ret_bool hn'.out.symm, (Below.refl _ _).alloc (Nat.le_refl _) _⟩
  ·obtain rfl : k = zs.length := by omega
   have hv := Lib.hid (hfin.out (fun x hx => by
    obtain ⟨j, hj, rfl⟩ := List.getElem_of_mem hx
    exact HP.out j hj hj))
   clear hfin hnot HP
   by_cases h1 : cntB n = true
   ·rw [h1] at hv
    have CN' := Lib.hid (fun W => CN.out n W)
    rw [h1] at CN'
    by_cases h2 : (zs.length : Int) = n
    ·have IC' := Lib.hid (fun W => IC.out z W)
     rw [decide_eq_true h2, Bool.and_true, Bool.true_and] at hv
     subst h2
     generalize ArithM.inC z = I at *
     clear h1
     go_wp2_with fail
     refine (CN'.out _).mono ?_
     rintro e w1 ⟨rfl, rfl⟩
     go_wp2_with fail
     refine (IC'.out _).mono ?_
     rintro e w1 ⟨rfl, rfl⟩
     go_wp2
     go_ret
     exact ⟨ArithI.ret_bool hv.out.symm, (Below.refl _ _).alloc (Nat.le_refl _) _⟩
    ·rw [decide_eq_false h2, Bool.and_false, Bool.false_and] at hv
     have h2' : ((zs.length : Int) == n) = false := by simpa using h2
     clear h1 h2
     go_wp2_with fail
     refine (CN'.out _).mono ?_
     rintro e w1 ⟨rfl, rfl⟩
     go_wp2
     go_ret
     exact ⟨ArithI.ret_bool hv.out.symm, (Below.refl _ _).alloc (Nat.le_refl _) _⟩
   ·simp only [Bool.not_eq_true] at h1
    rw [h1, Bool.false_and, Bool.false_and] at hv
    have CN' := Lib.hid (fun W => CN.out n W)
    rw [h1] at CN'
    clear h1
    go_wp2_with fail
    refine (CN'.out _).mono ?_
    rintro e w1 ⟨rfl, rfl⟩
    go_wp2
    go_ret
    exact ⟨ArithI.ret_bool hv.out.symm, (Below.refl _ _).alloc (Nat.le_refl _) _⟩

end LinS
end Go.Proofs.YtbbllkhmenpnlaaGreat
