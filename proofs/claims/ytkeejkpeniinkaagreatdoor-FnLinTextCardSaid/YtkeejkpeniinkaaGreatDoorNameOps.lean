import Derived.Test.YtkeejkpeniinkaaGreatDoorProg
import Derived.Test.YtkeejkpeniinkaaGreatDoorStrRow
import Derived.Test.YtkeejkpeniinkaaGreatDoorNameMath
import Derived.Test.YtkeejkpeniinkaaGreatDoorHas
import Derived.Test.YtkeejkpeniinkaaGreatDoorShelf
import Derived.Lib.Hide
/-
  IndexOf and Without, the model's and the program's.
-/
namespace Go.Proofs.YtkeejkpeniinkaaGreatDoor
open Go.RowKit
namespace StrK
/-- A new slice of these strings has been handed back. -/
def Gave (w : World) (ss : List ByteArray) (e : Ending) (w' : World) : Prop :=
  ∃ A cap, e = .returned (.slice A ss.length cap) ∧ SRow w' A ss ∧ Free w' A ss.length ∧ Below w.heap.size w w' ∧ (∀ a, A = some a → w.heap.size ≤ a.block) ∧ ss.length ≤ cap
end StrK
namespace NameS

theorem idx_hit {ss : List ByteArray} {s : ByteArray} (k : Nat) (h : ss[k]? = some s) (hne : ∀ j, j < k → ss[j]? ≠ some s) : Lib.idxOfS ss s = k := by
  have hk := (List.getElem?_eq_some_iff.1 h).1
  have := Lib.idxOfS_hit ss ss.length k s hk (Nat.le_refl _) (by rw [List.getD, h]; rfl) (fun j hj e => hne j hj (by
    rw [List.getElem?_eq_getElem (by omega)]
    rw [List.getD, List.getElem?_eq_getElem (by omega)] at e
    exact congrArg some e))
  rwa [List.take_length] at this
theorem idx_miss {ss : List ByteArray} {s : ByteArray} (hne : ∀ j, j < ss.length → ss[j]? ≠ some s) : Lib.idxOfS ss s = -1 := by
  have := Lib.idxOfS_miss ss ss.length s (fun j hj e => hne j hj (by
    rw [List.getElem?_eq_getElem hj]
    rw [List.getD, List.getElem?_eq_getElem hj] at e
    exact congrArg some e))
  rwa [List.take_length] at this
theorem idx_pos {ss : List ByteArray} {s : ByteArray} (h : NameM.hasB ss s = true) : 0 ≤ Lib.idxOfS ss s := (Lib.idxOfS_nonneg_iff ss s).2 (NameM.hasB_iff.1 h)
theorem idx_neg {ss : List ByteArray} {s : ByteArray} (h : NameM.hasB ss s = false) : Lib.idxOfS ss s < 0 := by
  rcases Int.lt_or_le (Lib.idxOfS ss s) 0 with h1 | h1
  · exact h1
  · rw [NameM.hasB_iff.2 ((Lib.idxOfS_nonneg_iff ss s).1 h1)] at h; cases h
theorem ret_int {k : IntKind} {a b : Int} (h : a = b) : Ending.returned (.int k a) = .returned (.int k b) := by rw [h]

set_option maxHeartbeats 400000 in
set_option maxRecDepth 100000 in
theorem specIndex (A : Option Addr) (c : Nat) (ss : List ByteArray) (s : ByteArray) (w : World) (hA : StrK.SRow w A ss) (hl : ss.length ≤ 1000000000000) :
    Calls Tryz.prog 38 #[.slice A ss.length c, .string s] w fun e w' => e = .returned (.int .i64 (Lib.idxOfS ss s)) ∧ w = w' := by
  go_enter Tryz.func38, Tryz.ntmps38
  go_wp2
  go_loop [5] (fun i => ∃ k : Nat, k ≤ ss.length ∧ i = .int .i64 k ∧ ∀ j, j < k → ss[j]? ≠ some s) (fun i => ss.length - (intOf i).toNat)
  case atStart => exact ⟨0, Nat.zero_le _, rfl, fun j hj => absurd hj (Nat.not_lt_zero _)⟩
  case round =>
    obtain ⟨k, hk, rfl, hne⟩ := hrel
    have HN := Lib.hid hne
    clear hne
    by_cases hlt : k < ss.length
    · obtain ⟨b, o, rfl, hbl, hc⟩ := hA.at_ hlt
      have hg := List.getElem?_eq_getElem hlt
      generalize ss[k] = t at hc hg
      have HG := Lib.hid hg
      clear hg hA
      go_wp2
      · have heq : (t.toList == s.toList) = true := by assumption
        have e := (Lib.bytes_beq_iff _ _).1 heq
        subst e
        go_ret
        exact ⟨ret_int (idx_hit k HG.out HN.out).symm, rfl⟩
      · have hneq : (t.toList == s.toList) = false := by assumption
        go_round
        case rel =>
          refine ⟨k + 1, by omega, by go_num, fun j hj => ?_⟩
          by_cases e : j = k
          · subst e
            rw [HG.out]
            intro h
            exact (Lib.bytes_beq_false_iff _ _).1 hneq (Option.some.inj h)
          · exact HN.out j (by omega)
        case measure => simp [intOf]; omega
    · go_wp2
      go_ret
      exact ⟨ret_int (idx_miss (fun j hj => HN.out j (by omega))).symm, rfl⟩

theorem libIndex (A : Option Addr) (c : Nat) (ss : List ByteArray) (s : ByteArray) (w : World) (hA : StrK.SRow w A ss) (hl : ss.length ≤ 1000000000000) :
    Calls Tryz.prog 80 #[.slice A ss.length c, .string s] w fun e w' => e = .returned (.int .i64 (Lib.idxOfS ss s)) ∧ w = w' := by
  by_cases hn : ss = []
  · subst hn
    exact (Tryz.slices_Index_string_empty A c s w).mono fun e w' ⟨h1, h2⟩ => ⟨h1, h2.symm⟩
  · obtain ⟨b, o, rfl, hb, hc⟩ := hA hn
    refine (Tryz.slices_Index_string b o ss.length c ss s w (Nat.le_refl _) (by omega) (fun j hj => ?_)).mono fun e w' ⟨h1, h2⟩ => ⟨by rw [h1, List.take_length], h2.symm⟩
    have := hc j ss[j] (List.getElem?_eq_getElem hj)
    rw [this, List.getD, List.getElem?_eq_getElem hj]; rfl

theorem implIndex (A : Option Addr) (c : Nat) (ss : List ByteArray) (s : ByteArray) (w : World) (hA : StrK.SRow w A ss) (hl : ss.length ≤ 1000000000000) :
    Calls Tryz.prog 61 #[.slice A ss.length c, .string s] w fun e w' => e = .returned (.int .i64 (Lib.idxOfS ss s)) ∧ w = w' := by
  have HL := Lib.hid (libIndex A c ss s w hA hl)
  go_enter Tryz.func61, Tryz.ntmps61
  go_wp2_with fail
  refine (Calls.mono HL.out) ?_
  rintro e w1 ⟨rfl, rfl⟩
  go_wp2
  go_ret
  exact ⟨rfl, rfl⟩

theorem stringInfo : (Tryz.prog.info? 9).map (fun i => (i.zero, i.size, i.bytes)) = some (some (.string ByteArray.empty), 1, 16) := by kernel_rfl

end NameS
end Go.Proofs.YtkeejkpeniinkaaGreatDoor
