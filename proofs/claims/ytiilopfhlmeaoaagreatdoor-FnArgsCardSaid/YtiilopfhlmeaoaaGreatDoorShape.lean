import Derived.Test.YtiilopfhlmeaoaaGreatDoorProg
import Derived.Test.YtiilopfhlmeaoaaGreatDoorArgMath2
import Derived.Test.YtiilopfhlmeaoaaGreatDoorHas
import Derived.Test.YtiilopfhlmeaoaaGreatDoorResv
import Derived.Lib.Hide
/-
  Which texts are valid names, which are names of lists: the model's answer and the program's.
-/
namespace Go.Proofs.YtiilopfhlmeaoaaGreatDoor
open Go.RowKit
namespace NameS

theorem at_data (s : ByteArray) (k : Nat) (h : k < s.size) : s.data.toList[k]? = some s[k] := by
  rw [List.getElem?_eq_getElem (by simpa using h)]; rfl

set_option maxHeartbeats 1000000 in
set_option maxRecDepth 100000 in
theorem specShape (s : ByteArray) (w : World) (hs : s.size ≤ maxLen) :
    Calls Tryz.prog 70 #[.string s] w fun e w' => e = .returned (.bool (NameM.shape s.data.toList)) ∧ w = w' := by
  unfold maxLen at hs
  go_enter Tryz.func70, Tryz.ntmps70
  go_wp2
  go_loop [3] (fun i => ∃ k : Nat, k ≤ s.size ∧ i = .int .i64 k ∧ ∀ j c, j < k → s.data.toList[j]? = some c → NameM.fits j c = true) (fun i => s.size - (intOf i).toNat)
  case atStart => exact ⟨0, Nat.zero_le _, rfl, fun j c hj => absurd hj (Nat.not_lt_zero _)⟩
  case round =>
    obtain ⟨k, hk, rfl, hne⟩ := hrel
    have HN := Lib.hid hne
    clear hne
    by_cases hlt : k < s.size
    · have HG := Lib.hid (at_data s k hlt)
      go_wp2
      all_goals first
        | (go_ret; exact ⟨ret_bool (NameM.shape_no k s[k] HG.out (by simp only [NameM.fits, NameM.letter, NameM.digit]; simp_all; try omega)).symm, rfl⟩)
        | (go_round
           case rel =>
             refine ⟨k + 1, by omega, by go_num, fun j c hj hc => ?_⟩
             by_cases e : j = k
             · subst e
               obtain rfl := Option.some.inj (HG.out.symm.trans hc)
               simp only [NameM.fits, NameM.letter, NameM.digit]; simp_all <;> omega
             · exact HN.out j c (by omega) hc
           case measure => simp [intOf]; omega)
    · have hk' : k = s.size := by omega
      by_cases h0 : s.size = 0
      · have hd : decide ((0 : Int) < (s.size : Int)) = false := decide_eq_false (by omega)
        have hd2 : decide (0 < s.size) = false := decide_eq_false (by omega)
        have hl : NameM.shape s.data.toList = false := by
          cases h : NameM.shape s.data.toList with
          | false => rfl
          | true => have := NameM.shape_pos h; omega
        have HL := Lib.hid hl
        clear hl hk' h0
        go_wp2
        go_ret
        exact ⟨ret_bool (by rw [HL.out]), rfl⟩
      · have hd : decide ((0 : Int) < (s.size : Int)) = true := by simp; omega
        have hd2 : decide (0 < s.size) = true := by simp; omega
        have HL := Lib.hid (NameM.shape_yes (l := s.data.toList) (by intro e; exact h0 (by simpa using congrArg List.length e)) (fun j c hj hc => HN.out j c (by simp at hj; omega) hc))
        clear hk' h0
        go_wp2
        go_ret
        exact ⟨ret_bool (by rw [HL.out]), rfl⟩

/-- spec.IsValidName. -/
theorem specValid (s : ByteArray) (w : World) (hs : s.size ≤ maxLen) :
    Calls Tryz.prog 45 #[.string s] w fun e w' => e = .returned (.bool (NameM.validName s)) ∧ Below w.heap.size w w' := by
  unfold maxLen at hs
  have SH := specShape s w hs
  by_cases h1 : NameM.shape s.data.toList = true
  · rw [h1] at SH
    have HS := Lib.hid SH
    by_cases h2 : s.size ≤ 8
    · have HV : Hid (NameM.validName s = !NameM.resv s) := Lib.hid (by simp [NameM.validName, h1, h2])
      clear SH h1
      go_enter Tryz.func45, Tryz.ntmps45
      go_wp2_with fail
      refine (Calls.mono HS.out) ?_
      rintro e w1 ⟨rfl, rfl⟩
      go_wp2_with fail
      refine (specReserved s _).mono ?_
      rintro e w1 ⟨rfl, b1⟩
      go_wp2
      go_ret
      exact ⟨ret_bool HV.out.symm, b1⟩
    · have HV : Hid (NameM.validName s = false) := Lib.hid (by simp [NameM.validName, h2])
      clear SH h1
      go_enter Tryz.func45, Tryz.ntmps45
      go_wp2_with fail
      refine (Calls.mono HS.out) ?_
      rintro e w1 ⟨rfl, rfl⟩
      go_wp2
      go_ret
      exact ⟨ret_bool HV.out.symm, Below.refl _ _⟩
  · have h1' : NameM.shape s.data.toList = false := by simpa using h1
    rw [h1'] at SH
    have HS := Lib.hid SH
    have HV : Hid (NameM.validName s = false) := Lib.hid (by simp [NameM.validName, h1'])
    clear SH h1 h1'
    go_enter Tryz.func45, Tryz.ntmps45
    go_wp2_with fail
    refine (Calls.mono HS.out) ?_
    rintro e w1 ⟨rfl, rfl⟩
    go_wp2
    go_ret
    exact ⟨ret_bool HV.out.symm, Below.refl _ _⟩

theorem isLetter (c : UInt8) (w : World) :
    Calls Tryz.prog 59 #[.int .u8 c.toNat] w fun e w' => e = .returned (.bool (NameM.letter c)) ∧ w = w' := by
  unfold NameM.letter
  go_enter Tryz.func59, Tryz.ntmps59
  go_wp2
  all_goals
    go_ret
    exact ⟨ret_bool (by simp_all; try omega), rfl⟩

theorem isDigit (c : UInt8) (w : World) :
    Calls Tryz.prog 60 #[.int .u8 c.toNat] w fun e w' => e = .returned (.bool (NameM.digit c)) ∧ w = w' := by
  unfold NameM.digit
  go_enter Tryz.func60, Tryz.ntmps60
  go_wp2
  all_goals
    go_ret
    exact ⟨ret_bool (by simp_all; try omega), rfl⟩

theorem valid_no {s : ByteArray} (h : s.size = 0 ∨ 8 < s.size ∨ NameM.shape s.data.toList = false) : NameM.validName s = false := by
  rcases h with h | h | h
  · have : NameM.shape s.data.toList = false := by
      cases h' : NameM.shape s.data.toList with
      | false => rfl
      | true => have := NameM.shape_pos h'; omega
    simp [NameM.validName, this]
  · simp [NameM.validName]; omega
  · simp [NameM.validName, h]

set_option maxHeartbeats 1000000 in
set_option maxRecDepth 100000 in
/-- impl.IsValidName. -/
theorem implValid (s : ByteArray) (w : World) (hs : s.size ≤ maxLen) :
    Calls Tryz.prog 40 #[.string s] w fun e w' => e = .returned (.bool (NameM.validName s)) ∧ Below w.heap.size w w' := by
  have hres := implReserved' s hs
  unfold maxLen at hs
  have HR := Lib.hid hres
  clear hres
  by_cases h0 : s.size = 0
  · have HV := Lib.hid (valid_no (Or.inl h0))
    have hl : s.data.toList = [] := List.eq_nil_of_length_eq_zero (by simpa using h0)
    obtain rfl : s = ByteArray.empty := NameM.toList_inj (by rw [hl]; rfl)
    clear hl h0
    go_enter Tryz.func40, Tryz.ntmps40
    go_wp2
    go_ret
    exact ⟨ret_bool HV.out.symm, Below.refl _ _⟩
  · have hne : ¬ s.toList = [] := fun e => h0 (by rw [Lib.toList_data] at e; simpa using congrArg List.length e)
    have hne2 : s.toList.isEmpty = false := by cases h : s.toList with | nil => exact absurd h hne | cons _ _ => rfl
    by_cases h8 : 8 < s.size
    · have HV := Lib.hid (valid_no (s := s) (Or.inr (Or.inl h8)))
      go_enter Tryz.func40, Tryz.ntmps40
      go_wp2
      go_ret
      exact ⟨ret_bool HV.out.symm, Below.refl _ _⟩
    · have h00 : 0 < s.size := by omega
      have h8' : decide ((s.size : Int) > 8) = false := decide_eq_false (by omega)
      by_cases hL : NameM.letter s[0] = true
      · have HL := Lib.hid hL
        go_enter Tryz.func40, Tryz.ntmps40
        go_wp2_with fail
        refine (isLetter _ _).mono ?_
        rintro e w1 ⟨rfl, rfl⟩
        go_wp2_with fail
        clear hL hne hne2 h8'
        go_loop [19] (fun i => ∃ k : Nat, k ≤ s.size ∧ i = .int .i64 k ∧ ∀ j c, j < k → s.data.toList[j]? = some c → (NameM.letter c || NameM.digit c) = true) (fun i => s.size - (intOf i).toNat)
        case atStart => exact ⟨0, Nat.zero_le _, rfl, fun j c hj => absurd hj (Nat.not_lt_zero _)⟩
        case round =>
          obtain ⟨k, hk, rfl, hne⟩ := hrel
          have HN := Lib.hid hne
          clear hne
          by_cases hlt : k < s.size
          · have HG := Lib.hid (at_data s k hlt)
            cases hl : NameM.letter s[k] with
            | true =>
              have HT := Lib.hid hl
              go_wp2_with fail
              refine (isLetter _ _).mono ?_
              rintro e w1 ⟨rfl, rfl⟩
              go_wp2
              go_round
              case rel =>
                refine ⟨k + 1, by omega, by go_num, fun j c hj hc => ?_⟩
                by_cases e : j = k
                · subst e
                  obtain rfl := Option.some.inj (HG.out.symm.trans hc)
                  rw [HT.out]; rfl
                · exact HN.out j c (by omega) hc
              case measure => simp [intOf]; omega
            | false =>
              cases hd : NameM.digit s[k] with
              | true =>
                have HT := Lib.hid hd
                go_wp2_with fail
                refine (isLetter _ _).mono ?_
                rintro e w1 ⟨rfl, rfl⟩
                go_wp2_with fail
                refine (isDigit _ _).mono ?_
                rintro e w1 ⟨rfl, rfl⟩
                go_wp2
                go_round
                case rel =>
                  refine ⟨k + 1, by omega, by go_num, fun j c hj hc => ?_⟩
                  by_cases e : j = k
                  · subst e
                    obtain rfl := Option.some.inj (HG.out.symm.trans hc)
                    rw [HT.out]; simp
                  · exact HN.out j c (by omega) hc
                case measure => simp [intOf]; omega
              | false =>
                have HV : Hid (NameM.validName s = false) := Lib.hid (valid_no (s := s) (Or.inr (Or.inr (NameM.shape_no k s[k] HG.out (by simp [NameM.fits, hl, hd])))))
                go_wp2_with fail
                refine (isLetter _ _).mono ?_
                rintro e w1 ⟨rfl, rfl⟩
                go_wp2_with fail
                refine (isDigit _ _).mono ?_
                rintro e w1 ⟨rfl, rfl⟩
                go_wp2
                go_ret
                exact ⟨ret_bool HV.out.symm, Below.refl _ _⟩
          · have hsh : NameM.shape s.data.toList = true := NameM.shape_yes (l := s.data.toList) (by intro e; exact h0 (by simpa using congrArg List.length e)) (fun j c hj hc => by
              have h2 := HN.out j c (by simp at hj; omega) hc
              by_cases e : j = 0
              · subst e
                obtain rfl := Option.some.inj ((at_data s 0 h00).symm.trans hc)
                simp [NameM.fits, HL.out]
              · simp [NameM.fits, e] at h2 ⊢; exact h2)
            have HV : Hid (NameM.validName s = !NameM.resv s) := Lib.hid (by simp [NameM.validName, hsh]; omega)
            clear hsh
            go_wp2_with fail
            refine (HR.out _).mono ?_
            rintro e w1 ⟨rfl, b1⟩
            go_wp2
            go_ret
            exact ⟨ret_bool HV.out.symm, b1⟩
      · have hL' : NameM.letter s[0] = false := by simpa using hL
        have HV := Lib.hid (valid_no (s := s) (Or.inr (Or.inr (NameM.shape_no 0 s[0] (at_data s 0 h00) (by simp [NameM.fits, hL'])))))
        clear hL
        go_enter Tryz.func40, Tryz.ntmps40
        go_wp2_with fail
        refine (isLetter _ _).mono ?_
        rintro e w1 ⟨rfl, rfl⟩
        go_wp2
        go_ret
        exact ⟨ret_bool HV.out.symm, Below.refl _ _⟩

theorem last_at (s : ByteArray) (h : 0 < s.size) : s.data.toList.getLast? = some (s[s.size - 1]'(by omega)) := by
  rw [List.getLast?_eq_getElem?]
  have : s.data.toList.length = s.size := by simp
  rw [this]
  exact at_data s (s.size - 1) (by omega)

set_option maxHeartbeats 1000000 in
/-- IsListName, of the model and of the program. -/
theorem specList (s : ByteArray) (w : World) (hs : s.size ≤ maxLen) :
    Calls Tryz.prog 25 #[.string s] w fun e w' => e = .returned (.bool (NameM.listName s)) ∧ Below w.heap.size w w' := by
  have hv := fun W => specValid s W hs
  unfold maxLen at hs
  cases hV : NameM.validName s with
  | false =>
    rw [hV] at hv
    have HL : Hid (NameM.listName s = false) := Lib.hid (by simp [NameM.listName, hV])
    have HR := Lib.hid hv
    clear hv hV
    go_enter Tryz.func25, Tryz.ntmps25
    go_wp2_with fail
    refine (HR.out _).mono ?_
    rintro e w1 ⟨rfl, b1⟩
    go_wp2
    go_ret
    exact ⟨ret_bool HL.out.symm, b1⟩
  | true =>
    rw [hV] at hv
    have h0 : 0 < s.size := by
      refine NameM.shape_pos ?_
      simp only [NameM.validName, Bool.and_eq_true] at hV
      exact hV.1.1
    have HL : Hid (NameM.listName s = decide (((s[s.size - 1]'(by omega)).toNat : Int) = 115)) := Lib.hid (by
      simp only [NameM.listName, hV, Bool.true_and, last_at s h0]
      rw [Bool.eq_iff_iff]
      simp only [beq_iff_eq, Option.some.injEq, decide_eq_true_eq]
      exact ⟨fun h => by rw [h]; rfl, fun h => UInt8.toNat_inj.1 (by have : (115 : UInt8).toNat = 115 := rfl; omega)⟩)
    have HR := Lib.hid hv
    have hk : ((s.size : Int) - 1) = ((s.size - 1 : Nat) : Int) := by omega
    have hk1 : s.size - 1 < s.size := by omega
    clear hv hV
    go_enter Tryz.func25, Tryz.ntmps25
    go_wp2_with fail
    refine (HR.out _).mono ?_
    rintro e w1 ⟨rfl, b1⟩
    go_wp2
    go_ret
    exact ⟨ret_bool (by rw [HL.out]; rfl), b1⟩

set_option maxHeartbeats 1000000 in
theorem implList (s : ByteArray) (w : World) (hs : s.size ≤ maxLen) :
    Calls Tryz.prog 22 #[.string s] w fun e w' => e = .returned (.bool (NameM.listName s)) ∧ Below w.heap.size w w' := by
  have hv := fun W => implValid s W hs
  unfold maxLen at hs
  cases hV : NameM.validName s with
  | false =>
    rw [hV] at hv
    have HL : Hid (NameM.listName s = false) := Lib.hid (by simp [NameM.listName, hV])
    have HR := Lib.hid hv
    clear hv hV
    go_enter Tryz.func22, Tryz.ntmps22
    go_wp2_with fail
    refine (HR.out _).mono ?_
    rintro e w1 ⟨rfl, b1⟩
    go_wp2
    go_ret
    exact ⟨ret_bool HL.out.symm, b1⟩
  | true =>
    rw [hV] at hv
    have h0 : 0 < s.size := by
      refine NameM.shape_pos ?_
      simp only [NameM.validName, Bool.and_eq_true] at hV
      exact hV.1.1
    have HL : Hid (NameM.listName s = decide (((s[s.size - 1]'(by omega)).toNat : Int) = 115)) := Lib.hid (by
      simp only [NameM.listName, hV, Bool.true_and, last_at s h0]
      rw [Bool.eq_iff_iff]
      simp only [beq_iff_eq, Option.some.injEq, decide_eq_true_eq]
      exact ⟨fun h => by rw [h]; rfl, fun h => UInt8.toNat_inj.1 (by have : (115 : UInt8).toNat = 115 := rfl; omega)⟩)
    have HR := Lib.hid hv
    have hk : ((s.size : Int) - 1) = ((s.size - 1 : Nat) : Int) := by omega
    have hk1 : s.size - 1 < s.size := by omega
    clear hv hV
    go_enter Tryz.func22, Tryz.ntmps22
    go_wp2_with fail
    refine (HR.out _).mono ?_
    rintro e w1 ⟨rfl, b1⟩
    go_wp2
    go_ret
    exact ⟨ret_bool (by rw [HL.out]; rfl), b1⟩

end NameS
end Go.Proofs.YtiilopfhlmeaoaaGreatDoor
