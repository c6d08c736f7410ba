import Derived.Test.YtgpjgjjadhmkhaaProg
import Derived.Test.YtgpjgjjadhmkhaaArithSpec
import Derived.Test.YtgpjgjjadhmkhaaLinMath
import Derived.Test.YtgpjgjjadhmkhaaRepGen
import Derived.Test.YtgpjgjjadhmkhaaLinImpl
import Derived.WalkKit
import Derived.Lib.Hide
import Derived.Deep.QuietTactic
import Derived.BigQuiet
import Derived.IntWalk
/-
  The model's linear expressions: validity, constants, variables, values, equality.
-/
namespace Go.Proofs.Ytgpjgjjadhmkhaa
open Go.RowKit
namespace LinS
open RowK LinM

theorem cnt (n : Int) (w : World) :
    Calls Try.prog 26 #[.int .i64 n, .int .i64 0, .int .i64 8] w fun e w' => e = .returned (.bool (cntB n)) ∧ w = w' := by
  unfold cntB
  exact ArithS.inR n 0 8 w

set_option maxHeartbeats 1000000 in
set_option maxRecDepth 100000 in
theorem ints (lo hi lo' hi' : Nat) (A B : Option Addr) (c d : Nat) (zs us : List Int) (w : World) (hA : Row lo hi w A (IntK.iv zs)) (hB : Row lo' hi' w B (IntK.iv us)) (hl : zs.length ≤ 1000000000) (hl2 : us.length ≤ 1000000000) :
    Calls Try.prog 27 #[.slice A zs.length c, .slice B us.length d] w fun e w' => e = .returned (.bool (decide (zs = us))) ∧ Below w.heap.size w w' := by
  by_cases h2 : zs.length = us.length
  · have hyes := Lib.hid (fun (h : ∀ j (h1 : j < zs.length) (h2 : j < us.length), zs[j] = us[j]) => (show decide (zs = us) = true from decide_eq_true (List.ext_getElem h2 h)))
    have hno := Lib.hid (fun j (h1 : j < zs.length) (h2 : j < us.length) (h : zs[j] ≠ us[j]) => (show decide (zs = us) = false from decide_eq_false (fun e => h (by subst e; rfl))))
    have H2 := Lib.hid h2
    have hne : ((zs.length : Int) != (us.length : Int)) = false := by simp [h2]
    clear h2
    generalize decide (zs = us) = R at *
    go_enter Try.func27, Try.ntmps27
    go_wp2
    go_loopw [5] (fun i wr => ∃ k : Nat, k ≤ zs.length ∧ i = .int .i64 k ∧ (∀ j (h1 : j < zs.length) (h2 : j < us.length), j < k → zs[j] = us[j]) ∧ Below w.heap.size w wr) (fun i _ => zs.length - (intOf i).toNat)
    case atStart => exact ⟨0, Nat.zero_le _, rfl, fun j _ _ h => by omega, Below.refl _ _⟩
    case round =>
      obtain ⟨k, hk, rfl, hpre, hb⟩ := hrel
      have HP := Lib.hid hpre
      clear hpre
      by_cases hlt : k < zs.length
      · have hlt2 : k < us.length := by rw [← H2.out]; exact hlt
        obtain ⟨b1, o1, rfl, _, hc1⟩ := IntK.at_ (hA.below hb) hlt
        obtain ⟨b2, o2, rfl, _, hc2⟩ := IntK.at_ (hB.below hb) hlt2
        have hn := Lib.hid (hno.out k hlt hlt2)
        have hs := Lib.hid (fun (h : zs[k] = us[k]) j (h1 : j < zs.length) (h2 : j < us.length) (h3 : j < k + 1) => (show zs[j] = us[j] from by
          by_cases e : j = k
          · subst e; exact h
          · exact HP.out j h1 h2 (by omega)))
        generalize zs[k] = x at *
        generalize us[k] = y at *
        have hi0 : (0 : Int) ≤ (k : Int) := by omega
        have hi1 : (k : Int) < (zs.length : Int) := by omega
        have hi2 : (k : Int) < (us.length : Int) := by omega
        clear hno hyes
        by_cases hxy : x = y
        · have hs' := Lib.hid (hs.out hxy)
          clear hs hn
          subst hxy
          go_wp2
          go_quiet (fail)
          go_wp2
          go_roundw
          case rel => exact ⟨k + 1, by omega, by go_num, hs'.out, below_drewN hb _⟩
          case measure => simp [intOf]; omega
        · have hn' := Lib.hid (hn.out hxy)
          have hxy' : (x != y) = true := by simpa using hxy
          clear hs hn hxy
          go_wp2
          go_quiet (fail)
          go_wp2
          go_ret
          exact ⟨ArithI.ret_bool hn'.out.symm, below_drewN hb _⟩
      · obtain rfl : k = zs.length := by omega
        have hv := Lib.hid (hyes.out (fun j h1 h2 => HP.out j h1 h2 h1))
        clear hyes hno
        go_wp2
        go_ret
        exact ⟨ArithI.ret_bool hv.out.symm, hb⟩
  · have hne : ((zs.length : Int) != (us.length : Int)) = true := by simp; omega
    rw [decide_eq_false (show ¬ zs = us from fun e => h2 (by rw [e]))]
    clear h2
    go_enter Try.func27, Try.ntmps27
    go_wp2
    go_ret
    exact ⟨rfl, Below.refl _ _⟩

end LinS
end Go.Proofs.Ytgpjgjjadhmkhaa
