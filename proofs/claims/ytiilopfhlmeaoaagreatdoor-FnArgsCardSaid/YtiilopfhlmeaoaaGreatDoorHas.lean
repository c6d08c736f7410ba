import Derived.Test.YtiilopfhlmeaoaaGreatDoorProg
import Derived.Test.YtiilopfhlmeaoaaGreatDoorStrRow
import Derived.Test.YtiilopfhlmeaoaaGreatDoorArgMath2
import Derived.Lib.Strings
import Derived.Lib.SlicesS
import Derived.Lib.Hide
/-
  The model's search in a slice of strings, and in the list of the reserved words.
-/
namespace Go.Proofs.YtiilopfhlmeaoaaGreatDoor
open Go.RowKit
namespace NameS
theorem ret_bool {a b : Bool} (h : a = b) : Ending.returned (.bool a) = .returned (.bool b) := by rw [h]

set_option maxHeartbeats 400000 in
set_option maxRecDepth 100000 in
theorem has (A : Option Addr) (c : Nat) (ss : List ByteArray) (s : ByteArray) (w : World) (hA : StrK.SRow w A ss) (hl : ss.length ≤ 1000000000000) :
    Calls Tryz.prog 95 #[.slice A ss.length c, .string s] w fun e w' => e = .returned (.bool (NameM.hasB ss s)) ∧ w = w' := by
  go_enter Tryz.func95, Tryz.ntmps95
  go_wp2
  go_loop [5] (fun i => ∃ k : Nat, k ≤ ss.length ∧ i = .int .i64 k ∧ ∀ j, j < k → ss[j]? ≠ some s) (fun i => ss.length - (intOf i).toNat)
  case atStart => exact ⟨0, Nat.zero_le _, rfl, fun j hj => absurd hj (Nat.not_lt_zero _)⟩
  case round =>
    obtain ⟨k, hk, rfl, hne⟩ := hrel
    have HN := Lib.hid hne
    clear hne
    by_cases hlt : k < ss.length
    · obtain ⟨b, o, rfl, hbl, hc⟩ := hA.at_ hlt
      have hg := List.getElem?_eq_getElem hlt
      generalize ss[k] = t at hc hg
      have HG := Lib.hid hg
      clear hg hA
      go_wp2
      · have heq : (t.toList == s.toList) = true := by assumption
        have e := (Lib.bytes_beq_iff _ _).1 heq
        subst e
        go_ret
        exact ⟨ret_bool (NameM.hasB_hit k HG.out).symm, rfl⟩
      · have hneq : (t.toList == s.toList) = false := by assumption
        go_round
        case rel =>
          refine ⟨k + 1, by omega, by go_num, fun j hj => ?_⟩
          by_cases e : j = k
          · subst e
            rw [HG.out]
            intro h
            exact (Lib.bytes_beq_false_iff _ _).1 hneq (Option.some.inj h)
          · exact HN.out j (by omega)
        case measure => simp [intOf]; omega
    · go_wp2
      go_ret
      exact ⟨ret_bool (NameM.hasB_miss (fun j hj => HN.out j (by omega))).symm, rfl⟩

set_option maxHeartbeats 400000 in
set_option maxRecDepth 100000 in
/-- The list of the reserved words. -/
theorem reserved (w : World) :
    Calls Tryz.prog 96 #[] w fun e w' => e = .returned (.slice (some ⟨w.heap.size, 0, none⟩) 5 5) ∧ StrK.SRow w' (some ⟨w.heap.size, 0, none⟩) NameM.resList ∧ Below w.heap.size w w' := by
  go_enter Tryz.func96, Tryz.ntmps96
  go_wp2
  go_ret
  refine ⟨rfl, fun _ => ⟨w.heap.size, 0, rfl, by simp, fun j s hj => ?_⟩, (Below.refl _ _).alloc (Nat.le_refl _) _⟩
  have hj5 := (List.getElem?_eq_some_iff.1 hj).1
  simp only [NameM.resList, List.length_cons, List.length_nil] at hj5
  have hj' : j = 0 ∨ j = 1 ∨ j = 2 ∨ j = 3 ∨ j = 4 := by omega
  rcases hj' with rfl | rfl | rfl | rfl | rfl <;> (cases hj; rw [World.cell?_alloc_at _ _ _ _ rfl]; rfl)

/-- spec.IsReserved. -/
theorem specReserved (s : ByteArray) (w : World) :
    Calls Tryz.prog 71 #[.string s] w fun e w' => e = .returned (.bool (NameM.resv s)) ∧ Below w.heap.size w w' := by
  have HS := fun (W : World) (A : Option Addr) (h : StrK.SRow W A NameM.resList) => has A 5 NameM.resList s W h (by decide)
  have HH := Lib.hid HS
  clear HS
  go_enter Tryz.func71, Tryz.ntmps71
  go_wp2_with fail
  refine (reserved _).mono ?_
  rintro e w1 ⟨rfl, hr, b1⟩
  go_wp2_with fail
  refine (Calls.mono (HH.out _ _ hr)) ?_
  rintro e w2 ⟨rfl, rfl⟩
  go_wp2
  go_ret
  exact ⟨rfl, b1⟩

end NameS
end Go.Proofs.YtiilopfhlmeaoaaGreatDoor
