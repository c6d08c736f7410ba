import Derived.Test.YtjjhpabmhnincaaGreatDoorTextImpl
import Derived.Test.YtjjhpabmhnincaaGreatDoorLinImpl2
import Derived.Test.YtjjhpabmhnincaaGreatDoorSortImpl
import Derived.Test.YtjjhpabmhnincaaGreatDoorShape
/-
  Which names can be those of the variables of an expression: the program's answer.
-/
namespace Go.Proofs.YtjjhpabmhnincaaGreatDoor
open Go.RowKit
namespace TextI
open TextM

/-- The names serve. -/
def okB (ss : List ByteArray) : Bool := (LinM.cntB ss.length && NameS.dist ss) && ss.all NameM.validName
theorem dist_inj {ss : List ByteArray} (h : NameS.dist ss = true) : ∀ (i j : Nat) s, ss[i]? = some s → ss[j]? = some s → i = j := by
  have key : ∀ (i j : Nat) s, ss[i]? = some s → ss[j]? = some s → ¬ i < j := fun i j s hi hj hlt => by
    have h1 : (ss.map fun s => s.data.toList)[j]? = some s.data.toList := by rw [List.getElem?_map, hj]; rfl
    have h2 : s.data.toList ∈ (ss.map fun s => s.data.toList).take j := by
      refine List.mem_of_getElem? (i := i) ?_
      rw [List.getElem?_take, if_pos hlt, List.getElem?_map, hi]; rfl
    have h3 := SortM.dist_no h1 h2
    rw [← SortM.srtB_data, List.length_map, List.length_map] at h3
    unfold NameS.dist at h
    rw [decide_eq_true_eq] at h
    omega
  intro i j s hi hj
  have a := key i j s hi hj
  have b := key j i s hj hi
  omega
theorem okB_names {ss : List ByteArray} (h : okB ss = true) : Names ss := by
  simp only [okB, Bool.and_eq_true, List.all_eq_true] at h
  have hc := LinM.cntB_iff.1 h.1.1
  refine ⟨by omega, dist_inj h.1.2, fun s hs => ?_⟩
  have := h.2 s hs
  simp only [NameM.validName, Bool.and_eq_true] at this
  exact this.1.1
theorem okB_small {ss : List ByteArray} (h : okB ss = true) : ∀ s ∈ ss, s.size ≤ 8 := fun s hs => by
  simp only [okB, Bool.and_eq_true, List.all_eq_true] at h
  have := h.2 s hs
  simp only [NameM.validName, Bool.and_eq_true, decide_eq_true_eq] at this
  exact this.1.2
theorem okB_no {ss : List ByteArray} {k : Nat} {s : ByteArray} (hk : ss[k]? = some s) (h : NameM.validName s = false) : okB ss = false := by
  have : ss.all NameM.validName = false := by
    rw [List.all_eq_false]
    exact ⟨s, List.mem_of_getElem? hk, by simp [h]⟩
  simp [okB, this]
theorem okB_yes {ss : List ByteArray} (h1 : LinM.cntB ss.length = true) (h2 : NameS.dist ss = true) (h : ∀ j s, j < ss.length → ss[j]? = some s → NameM.validName s = true) : okB ss = true := by
  have : ss.all NameM.validName = true := List.all_eq_true.2 fun s hs => by
    obtain ⟨j, hj⟩ := List.getElem?_of_mem hs
    exact h j s (List.getElem?_eq_some_iff.1 hj).1 hj
  simp [okB, h1, h2, this]

set_option maxHeartbeats 1000000 in
set_option maxRecDepth 100000 in
/-- impl.areVariables. -/
theorem vars (A : Option Addr) (c : Nat) (ss : List ByteArray) (w : World) (hA : StrK.SRow w A ss) (hl : ss.length ≤ 1000000000) (hs : ∀ s ∈ ss, s.size ≤ 9223372036854775807) :
    Calls Tryz.prog 73 #[.slice A ss.length c] w fun e w' => e = .returned (.bool (okB ss)) ∧ Below w.heap.size w w' := by
  have CN := Lib.hid (LinI.cnt (ss.length : Int))
  have AD := Lib.hid (NameS.implDistinct A c ss w hA (by omega))
  cases h1 : LinM.cntB (ss.length : Int) with
  | false =>
    have HO : Hid (okB ss = false) := Lib.hid (by simp [okB, h1])
    rw [h1] at CN
    clear h1
    go_enter Tryz.func73, Tryz.ntmps73
    go_wp2_with fail
    refine (CN.out _).mono ?_
    rintro e w1 ⟨rfl, rfl⟩
    go_wp2
    go_ret
    exact ⟨NameS.ret_bool HO.out.symm, Below.refl _ _⟩
  | true =>
    cases h2 : NameS.dist ss with
    | false =>
      have HO : Hid (okB ss = false) := Lib.hid (by simp [okB, h2])
      rw [h1] at CN
      rw [h2] at AD
      clear h1 h2
      go_enter Tryz.func73, Tryz.ntmps73
      go_wp2_with fail
      refine (CN.out _).mono ?_
      rintro e w1 ⟨rfl, rfl⟩
      go_wp2_with fail
      refine (Calls.mono AD.out) ?_
      rintro e w1 ⟨rfl, b1⟩
      go_wp2
      go_ret
      exact ⟨NameS.ret_bool HO.out.symm, b1⟩
    | true =>
      have YES := Lib.hid (fun h => okB_yes (ss := ss) h1 h2 h)
      have NO := Lib.hid (fun k s hk h => okB_no (ss := ss) (k := k) (s := s) hk h)
      have HV := Lib.hid (fun s hs W => NameS.implValid s W (by unfold maxLen; exact hs))
      generalize okB ss = V at *
      rw [h1] at CN
      rw [h2] at AD
      have HS := Lib.hid hs
      clear h1 h2 hs
      go_enter Tryz.func73, Tryz.ntmps73
      go_wp2_with fail
      refine (CN.out _).mono ?_
      rintro e w1 ⟨rfl, rfl⟩
      go_wp2_with fail
      refine (Calls.mono AD.out) ?_
      rintro e w1 ⟨rfl, b1⟩
      go_wp2
      go_loopw [16] (fun i wr => ∃ k : Nat, k ≤ ss.length ∧ i = .int .i64 k ∧ (∀ j s, j < k → ss[j]? = some s → NameM.validName s = true) ∧ Below w.heap.size w wr) (fun i _ => ss.length - (intOf i).toNat)
      case atStart => exact ⟨0, Nat.zero_le _, rfl, fun j s hj => absurd hj (Nat.not_lt_zero _), b1⟩
      case round =>
        obtain ⟨k, hk, rfl, hpre, hb⟩ := hrel
        have HP := Lib.hid hpre
        have HB := Lib.hid hb
        clear hpre hb
        by_cases hlt : k < ss.length
        · obtain ⟨b, o, rfl, hbl, hc⟩ := (hA.below HB.out).at_ hlt
          have hg := List.getElem?_eq_getElem hlt
          generalize ss[k] = s at hc hg
          have HG := Lib.hid hg
          have hk0 : (0 : Int) ≤ (k : Int) := by omega
          have hk1 : (k : Int) < (ss.length : Int) := by omega
          have VA := Lib.hid (HV.out s (HS.out s (List.mem_of_getElem? hg)))
          clear hg
          cases hv : NameM.validName s with
          | true =>
            rw [hv] at VA
            have HN := Lib.hid (show ∀ j t, j < k + 1 → ss[j]? = some t → NameM.validName t = true from fun j t hj ht => by
              by_cases e : j = k
              · subst e
                obtain rfl := Option.some.inj (HG.out.symm.trans ht)
                exact hv
              · exact HP.out j t (by omega) ht)
            clear hv
            go_wp2_with fail
            refine (Calls.mono (VA.out _)) ?_
            rintro e w2 ⟨rfl, b2⟩
            have HB2 := Lib.hid (HB.out.trans (b2.mono HB.out.size))
            clear b2
            go_wp2
            go_roundw
            case rel => exact ⟨k + 1, by omega, by go_num, HN.out, HB2.out⟩
            case measure => simp [intOf]; omega
          | false =>
            rw [hv] at VA
            have HN := Lib.hid (NO.out k s HG.out hv)
            clear hv
            go_wp2_with fail
            refine (Calls.mono (VA.out _)) ?_
            rintro e w2 ⟨rfl, b2⟩
            have HB2 := Lib.hid (HB.out.trans (b2.mono HB.out.size))
            clear b2
            go_wp2
            go_ret
            exact ⟨NameS.ret_bool HN.out.symm, HB2.out⟩
        · have HN := Lib.hid (YES.out fun j s hj => HP.out j s (by omega))
          go_wp2
          go_ret
          exact ⟨NameS.ret_bool HN.out.symm, HB.out⟩
end TextI
end Go.Proofs.YtjjhpabmhnincaaGreatDoor
