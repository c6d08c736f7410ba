import Derived.Test.YtaepfdgfjcdidaaProg
import Derived.Test.YtaepfdgfjcdidaaStrRow
import Derived.Deep.QuietTactic
import Derived.BigQuiet
/-
  The helper that compares two slices of strings.
-/
namespace Go.Proofs.Ytaepfdgfjcdidaa
open Go.RowKit
namespace StrK

set_option maxHeartbeats 400000 in
set_option maxRecDepth 100000 in
theorem eq_same (A B : Option Addr) (c d : Nat) (ss : List ByteArray) (w : World) (hA : SRow w A ss) (hB : SRow w B ss) (hl : ss.length ≤ 1000000000000) :
    Calls Try.prog 19 #[.slice A ss.length c, .slice B ss.length d] w fun e w' => e = .returned (.bool true) ∧ Below w.heap.size w w' := by
  go_enter Try.func19, Try.ntmps19
  go_wp2
  go_loopw [5] (fun i wr => ∃ k : Nat, k ≤ ss.length ∧ i = .int .i64 k ∧ Below w.heap.size w wr) (fun i _ => ss.length - (intOf i).toNat)
  case atStart => exact ⟨0, Nat.zero_le _, rfl, Below.refl _ _⟩
  case round =>
    obtain ⟨k, hk, rfl, hb⟩ := hrel
    by_cases hlt : k < ss.length
    · obtain ⟨b1, o1, rfl, hlt1, hc1⟩ := (hA.below hb).at_ hlt
      obtain ⟨b2, o2, rfl, hlt2, hc2⟩ := (hB.below hb).at_ hlt
      generalize ss[k] = s at hc1 hc2
      have hi0 : (0 : Int) ≤ (k : Int) := by omega
      have hi1 : (k : Int) < (ss.length : Int) := by omega
      go_wp2
      go_quiet (fail)
      go_wp2
      go_roundw
      case rel => exact ⟨k + 1, by omega, by go_num, below_drewN hb _⟩
      case measure => simp [intOf]; omega
    · go_wp2
      go_ret
      exact ⟨rfl, hb⟩

end StrK
end Go.Proofs.Ytaepfdgfjcdidaa
