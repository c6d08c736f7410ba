import Derived.Test.YtiilopfhlmeaoaaGreatDoorProg
import Derived.Test.YtiilopfhlmeaoaaGreatDoorStrRow
import Derived.Test.YtiilopfhlmeaoaaGreatDoorArgMath2
import Derived.Test.YtiilopfhlmeaoaaGreatDoorSortSpec2
import Derived.Test.YtiilopfhlmeaoaaGreatDoorSortImpl
import Derived.Test.YtiilopfhlmeaoaaGreatDoorNameOps
import Derived.Deep.QuietTactic
import Derived.BigQuiet
import Derived.Lib.Hide
import Derived.IntWalk
/-
  The helpers of the second chapter's law: 'rising', 'sameTexts'.
-/
namespace Go.Proofs.YtiilopfhlmeaoaaGreatDoor
open Go.RowKit
namespace NameS
open SortM

set_option maxHeartbeats 1000000 in
set_option maxRecDepth 100000 in
theorem rising (A : Option Addr) (c : Nat) (ss : List ByteArray) (w : World) (hA : StrK.SRow w A ss) (hl : ss.length ≤ 100000000) (hs : Asc (ss.map fun s => s.data.toList)) :
    Calls Tryz.prog 15 #[.slice A ss.length c] w fun e w' => e = .returned (.bool true) ∧ Below w.heap.size w w' := by
  have hstep : ∀ k s t, ss[k]? = some s → ss[k + 1]? = some t → Op.bytesLess s.toList t.toList = true := fun k s t h1 h2 => by
    rw [less_eq]
    exact decide_eq_true (asc_get hs (Nat.lt_succ_self k) (by rw [List.getElem?_map, h1]; rfl) (by rw [List.getElem?_map, h2]; rfl))
  have HT := Lib.hid hstep
  clear hstep hs
  go_enter Tryz.func15, Tryz.ntmps15
  go_wp2
  go_loopw [3] (fun i wr => ∃ k : Nat, k ≤ ss.length ∧ i = .int .i64 ((k : Int) + 1) ∧ Below w.heap.size w wr) (fun i _ => ss.length + 1 - (intOf i).toNat)
  case atStart => exact ⟨0, Nat.zero_le _, rfl, Below.refl _ _⟩
  case round =>
    obtain ⟨k, hk, rfl, hb⟩ := hrel
    by_cases hlt : k + 1 < ss.length
    · have hA1 := hA.below hb
      obtain ⟨b, o, e1, hbl, hc1⟩ := hA1.at_ (show k < ss.length by omega)
      obtain ⟨b', o', e2, _, hc2⟩ := hA1.at_ hlt
      rw [e1] at e2
      injection e2 with e2; injection e2 with e3 e4
      subst e3; subst e4
      have hless := HT.out k _ _ (List.getElem?_eq_getElem (show k < ss.length by omega)) (List.getElem?_eq_getElem hlt)
      subst e1
      generalize ss[k] = s at hc1 hless
      generalize ss[k + 1] = t at hc2 hless
      have hi0 : (0 : Int) ≤ (k : Int) + 1 := by omega
      have hi1 : (k : Int) + 1 < (ss.length : Int) := by omega
      have hk0 : (0 : Int) ≤ (k : Int) := by omega
      have hk1 : (k : Int) < (ss.length : Int) := by omega
      have hw : IntKind.i64.wrap ((k : Int) + 1 - 1) = (k : Int) := by rw [IntWalk.i64_in _ (by omega)]; omega
      have hw2 : (k : Int) + 1 - 1 = (k : Int) := by omega
      have hn1 : ((k : Int) + 1).toNat = k + 1 := by omega
      clear hA hA1
      go_wp2
      go_quiet (fail)
      go_wp2
      go_roundw
      case rel => exact ⟨k + 1, by omega, by go_num, below_drewN hb _⟩
      case measure => simp [intOf]; omega
    · go_wp2
      go_ret
      exact ⟨rfl, hb⟩

set_option maxHeartbeats 400000 in
set_option maxRecDepth 100000 in
theorem same_texts (A B : Option Addr) (c d : Nat) (ss : List ByteArray) (w : World) (hA : StrK.SRow w A ss) (hB : StrK.SRow w B ss) (hl : ss.length ≤ 1000000000000) :
    Calls Tryz.prog 16 #[.slice A ss.length c, .slice B ss.length d] w fun e w' => e = .returned (.bool true) ∧ Below w.heap.size w w' := by
  go_enter Tryz.func16, Tryz.ntmps16
  go_wp2
  go_loopw [5] (fun i wr => ∃ k : Nat, k ≤ ss.length ∧ i = .int .i64 k ∧ Below w.heap.size w wr) (fun i _ => ss.length - (intOf i).toNat)
  case atStart => exact ⟨0, Nat.zero_le _, rfl, Below.refl _ _⟩
  case round =>
    obtain ⟨k, hk, rfl, hb⟩ := hrel
    by_cases hlt : k < ss.length
    · obtain ⟨b1, o1, rfl, hlt1, hc1⟩ := (hA.below hb).at_ hlt
      obtain ⟨b2, o2, rfl, hlt2, hc2⟩ := (hB.below hb).at_ hlt
      generalize ss[k] = s at hc1 hc2
      have hi0 : (0 : Int) ≤ (k : Int) := by omega
      have hi1 : (k : Int) < (ss.length : Int) := by omega
      go_wp2
      go_quiet (fail)
      go_wp2
      go_roundw
      case rel => exact ⟨k + 1, by omega, by go_num, below_drewN hb _⟩
      case measure => simp [intOf]; omega
    · go_wp2
      go_ret
      exact ⟨rfl, hb⟩
end NameS
end Go.Proofs.YtiilopfhlmeaoaaGreatDoor
