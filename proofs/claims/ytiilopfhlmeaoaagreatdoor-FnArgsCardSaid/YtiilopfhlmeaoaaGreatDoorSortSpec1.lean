import Derived.Test.YtiilopfhlmeaoaaGreatDoorProg
import Derived.Test.YtiilopfhlmeaoaaGreatDoorStrRow
import Derived.Test.YtiilopfhlmeaoaaGreatDoorNameOps
import Derived.Test.YtiilopfhlmeaoaaGreatDoorArgMath2
import Derived.Test.YtiilopfhlmeaoaaGreatDoorSortImpl
import Derived.Deep.QuietTactic
import Derived.BigQuiet
import Derived.Lib.Hide
/-
  The model's AllDistinct.
-/
namespace Go.Proofs.YtiilopfhlmeaoaaGreatDoor
open Go.RowKit
namespace NameS
open SortM

theorem SRow_take {w : World} {A : Option Addr} {ss : List ByteArray} (h : StrK.SRow w A ss) (k : Nat) : StrK.SRow w A (ss.take k) := fun hn => by
  obtain ⟨b, o, rfl, hb, hc⟩ := h (fun e => hn (by rw [e]; simp))
  refine ⟨b, o, rfl, hb, fun j s hj => hc j s ?_⟩
  rw [List.getElem?_take] at hj
  split at hj
  · exact hj
  · cases hj

theorem has_take (A : Option Addr) (c k : Nat) (ss : List ByteArray) (s : ByteArray) (w : World) (hA : StrK.SRow w A ss) (hk : k ≤ ss.length) (hl : ss.length ≤ 1000000000000) :
    Calls Tryz.prog 95 #[.slice A k c, .string s] w fun e w' => e = .returned (.bool (NameM.hasB (ss.take k) s)) ∧ w = w' := by
  have e : (ss.take k).length = k := by rw [List.length_take]; omega
  have h := has A c (ss.take k) s w (SRow_take hA k) (by omega)
  rwa [e] at h

theorem data_get {ss : List ByteArray} {k : Nat} {s : ByteArray} (h : ss[k]? = some s) : (ss.map fun s => s.data.toList)[k]? = some s.data.toList := by
  rw [List.getElem?_map, h]; rfl
theorem has_data {ss : List ByteArray} {k : Nat} {s : ByteArray} : NameM.hasB (ss.take k) s = true ↔ s.data.toList ∈ (ss.map fun s => s.data.toList).take k := by
  unfold NameM.hasB
  rw [decide_eq_true_eq, List.map_take]
theorem dist_true {ss : List ByteArray} (h : (srt ((ss.map fun s => s.data.toList).take ss.length)).length = ss.length) : dist ss = true := by
  have e : ss.length = (ss.map fun s => s.data.toList).length := by simp
  rw [e, List.take_length, ← srtB_data, List.length_map, ← e] at h
  unfold dist
  rw [decide_eq_true_eq]; exact h
theorem dist_false {ss : List ByteArray} {k : Nat} {s : ByteArray} (hk : ss[k]? = some s) (h : NameM.hasB (ss.take k) s = true) : dist ss = false := by
  have := dist_no (data_get hk) (has_data.1 h)
  rw [← srtB_data, List.length_map, List.length_map] at this
  unfold dist
  exact decide_eq_false (by omega)

set_option maxHeartbeats 1000000 in
set_option maxRecDepth 100000 in
theorem specDistinct (A : Option Addr) (c : Nat) (ss : List ByteArray) (w : World) (hA : StrK.SRow w A ss) (hl : ss.length ≤ 1000000000000) (hcap : ss.length ≤ c) :
    Calls Tryz.prog 99 #[.slice A ss.length c] w fun e w' => e = .returned (.bool (dist ss)) ∧ Below w.heap.size w w' := by
  go_enter Tryz.func99, Tryz.ntmps99
  go_wp2
  go_loopw [3] (fun i wr => ∃ k : Nat, k ≤ ss.length ∧ i = .int .i64 k ∧ Hid ((srt ((ss.map fun s => s.data.toList).take k)).length = k) ∧ Below w.heap.size w wr) (fun i _ => ss.length - (intOf i).toNat)
  case atStart => exact ⟨0, Nat.zero_le _, rfl, Lib.hid rfl, Below.refl _ _⟩
  case round =>
    obtain ⟨k, hk, rfl, hd, hb⟩ := hrel
    have hA1 := hA.below hb
    by_cases hlt : k < ss.length
    · have HH := Lib.hid (fun s n => has_take A c k ss s (wr.drewN n) (hA.below (below_drewN hb n)) hk hl)
      obtain ⟨b, o, rfl, hbl, hc⟩ := hA1.at_ hlt
      have hg := List.getElem?_eq_getElem hlt
      generalize ss[k] = s at hc hg
      have HG := Lib.hid hg
      clear hg hA hA1
      have hi0 : (0 : Int) ≤ (k : Int) := by omega
      have hi1 : (k : Int) < (ss.length : Int) := by omega
      have hkc : k ≤ c := by omega
      have hkc2 : (k : Int) ≤ (c : Int) := by omega
      cases hx : NameM.hasB (ss.take k) s with
      | true =>
        have HC := HH.out s
        simp only [hx] at HC
        have HC' := Lib.hid HC
        have HD := Lib.hid (dist_false HG.out hx)
        clear HC hx HH
        go_wp2
        go_quiet ((go_at_call 95; exact Calls.quiet_of_same (Calls.mono (HC'.out _) (fun e w' h => ⟨h.1, h.2.symm⟩))))
        go_wp2
        go_ret
        exact ⟨ret_bool HD.out.symm, below_drewN hb _⟩
      | false =>
        have HC := HH.out s
        simp only [hx] at HC
        have HC' := Lib.hid HC
        have HD := Lib.hid (dist_step (data_get HG.out) hd.out (fun h => by rw [has_data.2 h] at hx; cases hx))
        clear HC hx HH
        go_wp2
        go_quiet ((go_at_call 95; exact Calls.quiet_of_same (Calls.mono (HC'.out _) (fun e w' h => ⟨h.1, h.2.symm⟩))))
        go_wp2
        go_roundw
        case rel => exact ⟨k + 1, by omega, by go_num, HD, below_drewN hb _⟩
        case measure => simp [intOf]; omega
    · have hk' : k = ss.length := by omega
      subst hk'
      have HD := Lib.hid (dist_true hd.out)
      go_wp2
      go_ret
      exact ⟨ret_bool HD.out.symm, hb⟩
end NameS
end Go.Proofs.YtiilopfhlmeaoaaGreatDoor
