import Derived.Test.YtjjhpabmhnincaaGreatDoorCut2
import Derived.Test.YtjjhpabmhnincaaGreatDoorReadSpec
/-
  spec.l5Word: a term without its sign, as the model reads it.
-/
namespace Go.Proofs.YtjjhpabmhnincaaGreatDoor
open Go.RowKit
namespace WordS
open TextM TextI NameM CutI

/-- What is handed back. -/
def Word (w : World) (t : TItem) (e : Ending) (w' : World) : Prop := e = .returned (.tuple #[.int .i64 t.1, .string t.2]) ∧ Below w.heap.size w w'
theorem readS_empty {l : List UInt8} (h : l.takeWhile digit = []) : readS 999999 l = (1, ⟨l.toArray⟩) := by rw [readS, if_pos h]
theorem readS_some {l : List UInt8} {n : Int} (h : l.takeWhile digit ≠ []) (hr : NumM.rd 0 999999 (l.takeWhile digit) = some n) : readS 999999 l = (n, ⟨(l.dropWhile digit).toArray⟩) := by rw [readS, if_neg h, hr]
theorem readS_none {l : List UInt8} (h : l.takeWhile digit ≠ []) (hr : NumM.rd 0 999999 (l.takeWhile digit) = none) : readS 999999 l = (0, ⟨#[63]⟩) := by rw [readS, if_neg h, hr]

set_option maxHeartbeats 2000000 in
set_option maxRecDepth 100000 in
theorem word (s : ByteArray) (hs : s.size ≤ 1048576) (w : World) :
    Calls Tryz.prog 48 #[.string s] w (Word w (readS 999999 s.data.toList)) := by
  go_enter Tryz.func48, Tryz.ntmps48
  go_wp2
  go_loopw [4] (fun i wr => ∃ k : Nat, k ≤ s.size ∧ i = .int .i64 k ∧ (∀ j c, j < k → s.data.toList[j]? = some c → digit c = true) ∧ Below w.heap.size w wr) (fun i _ => s.size - (intOf i).toNat)
  case atStart => exact ⟨0, Nat.zero_le _, rfl, fun j c hj => absurd hj (Nat.not_lt_zero _), Below.refl _ _⟩
  case round =>
    obtain ⟨k, hk, rfl, hpre, hb⟩ := hrel
    have HP := Lib.hid hpre
    have HB := Lib.hid hb
    clear hpre hb
    have hi0 : (0 : Int) ≤ (k : Int) := by omega
    have hi1 : (k : Int) ≤ (s.size : Int) := by omega
    by_cases hgo : k < s.size ∧ ∀ c, s.data.toList[k]? = some c → digit c = true
    · obtain ⟨hlt, hd⟩ := hgo
      have hg := at_data s k hlt
      have hdd := hd _ hg
      have HN := Lib.hid (show ∀ j c, j < k + 1 → s.data.toList[j]? = some c → digit c = true from fun j c hj hc => by
        by_cases e : j = k
        · subst e; exact hd c hc
        · exact HP.out j c (by omega) hc)
      simp only [digit, Bool.and_eq_true, decide_eq_true_eq] at hdd
      have hk1 : (k : Int) < (s.size : Int) := by omega
      have h1 : (48 : Int) ≤ (s[k].toNat : Int) := by omega
      have h2 : (s[k].toNat : Int) ≤ 57 := by omega
      have h1' : decide ((48 : Int) ≤ (s[k].toNat : Int)) = true := decide_eq_true h1
      have h2' : decide ((s[k].toNat : Int) ≤ 57) = true := decide_eq_true h2
      clear hd hg hdd
      go_wp2
      go_roundw
      case rel => exact ⟨k + 1, by omega, by go_num, HN.out, HB.out⟩
      case measure => simp [intOf]; omega
    · have hstop : ∀ c, s.data.toList[k]? = some c → digit c = false := fun c hc => by
        have hlt : k < s.size := by
          have := (List.getElem?_eq_some_iff.1 hc).1
          rwa [size_list] at this
        cases hd : digit c with
        | false => rfl
        | true => exact absurd ⟨hlt, fun d hd2 => by rw [hc] at hd2; obtain rfl := Option.some.inj hd2; exact hd⟩ hgo
      have hsp := span_at s.data.toList k (by rw [size_list]; exact hk) HP.out hstop
      have hex := upto_eq s k
      rw [← hsp.1] at hex
      have PN := Lib.hid (fun W => ReadS.parseNumber (s.extract 0 k) (by rw [hex, size_mk, hsp.1, List.length_take]; omega) W)
      unfold ReadS.out at PN
      have e0 : (s.extract 0 k).data.toList = s.data.toList.takeWhile digit := by rw [hex]
      rw [e0] at PN
      have hfr : s.extract k s.size = ⟨(s.data.toList.dropWhile digit).toArray⟩ := by rw [hsp.2]; exact from_eq s k
      have hke : k = 0 ↔ s.data.toList.takeWhile digit = [] := by
        rw [hsp.1, List.take_eq_nil_iff]
        constructor
        · intro h; exact Or.inl h
        · rintro (h | h)
          · exact h
          · have : s.size = 0 := by rw [← size_list, h]; rfl
            omega
      have hcs : (¬ k < s.size) ∨ ∃ h : k < s.size, ((s[k].toNat : Int) < 48 ∨ (48 ≤ (s[k].toNat : Int) ∧ 57 < (s[k].toNat : Int))) := by
        by_cases hlt : k < s.size
        · refine Or.inr ⟨hlt, ?_⟩
          have := hstop _ (at_data s k hlt)
          simp only [digit, Bool.and_eq_false_iff, decide_eq_false_iff_not] at this
          omega
        · exact Or.inl hlt
      have hrs : s.data.toList.takeWhile digit = [] ∨ ((s.data.toList.takeWhile digit ≠ []) ∧ (NumM.rd 0 999999 (s.data.toList.takeWhile digit) = none ∨ ∃ n, NumM.rd 0 999999 (s.data.toList.takeWhile digit) = some n)) := by
        by_cases h : s.data.toList.takeWhile digit = []
        · exact Or.inl h
        · refine Or.inr ⟨h, ?_⟩
          cases NumM.rd 0 999999 (s.data.toList.takeWhile digit) with
          | none => exact Or.inl rfl
          | some n => exact Or.inr ⟨n, rfl⟩
      have HFR := Lib.hid hfr
      have HKE := Lib.hid hke
      have RS := Lib.hid (fun (n : Int) a b => readS_some (l := s.data.toList) (n := n) a b)
      have RE := Lib.hid (readS_empty (l := s.data.toList))
      have RN := Lib.hid (readS_none (l := s.data.toList))
      clear hgo hstop hsp hex e0 hfr hke HP
      generalize s.data.toList.takeWhile digit = D at *
      generalize s.data.toList.dropWhile digit = E at *
      rcases hcs with hge | ⟨hlt, hlo | ⟨h48, h57⟩⟩
      · have hd1 : decide (k < s.size) = false := decide_eq_false hge
        have hd2 : decide ((k : Int) < (s.size : Int)) = false := decide_eq_false (by omega)
        rcases hrs with hD | ⟨hD, hr | ⟨n, hr⟩⟩
        · have hk0 : ((k : Int) == 0) = true := by have := HKE.out.2 hD; subst this; rfl
          have HF := Lib.hid (RE.out hD)
          clear hD
          go_wp2_with fail
          refine (Calls.mono (PN.out _)) ?_
          rintro e w1 ⟨rfl, b1⟩
          have HB1 := Lib.hid (HB.out.trans (b1.mono HB.out.size))
          clear b1
          go_wp2
          go_ret2
          rw [HF.out, mk_list]
          exact ⟨rfl, HB1.out⟩
        · have hk0 : ((k : Int) == 0) = false := beq_eq_false_iff_ne.2 (fun e => hD (HKE.out.1 (by omega)))
          have HF := Lib.hid (RN.out hD hr)
          rw [hr] at PN
          simp only [Option.getD_none, Option.isSome_none] at PN
          clear hD hr
          go_wp2_with fail
          refine (Calls.mono (PN.out _)) ?_
          rintro e w1 ⟨rfl, b1⟩
          have HB1 := Lib.hid (HB.out.trans (b1.mono HB.out.size))
          clear b1
          go_wp2
          go_ret2
          rw [HF.out]
          exact ⟨rfl, HB1.out⟩
        · have hk0 : ((k : Int) == 0) = false := beq_eq_false_iff_ne.2 (fun e => hD (HKE.out.1 (by omega)))
          have HF := Lib.hid (RS.out n hD hr)
          rw [hr] at PN
          simp only [Option.getD_some, Option.isSome_some] at PN
          clear hD hr
          go_wp2_with fail
          refine (Calls.mono (PN.out _)) ?_
          rintro e w1 ⟨rfl, b1⟩
          have HB1 := Lib.hid (HB.out.trans (b1.mono HB.out.size))
          clear b1
          go_wp2_with fail
          go_quiet (fail)
          go_wp2
          go_ret2
          rw [HF.out]
          exact ⟨(show Ending.returned (.tuple #[.int .i64 n, .string (s.extract k s.size)]) = _ from by rw [HFR.out]), below_drewN HB1.out _⟩
      · have hk1 : (k : Int) < (s.size : Int) := by omega
        have hd1 : decide ((48 : Int) ≤ (s[k].toNat : Int)) = false := decide_eq_false (by omega)
        rcases hrs with hD | ⟨hD, hr | ⟨n, hr⟩⟩
        · have hk0 : ((k : Int) == 0) = true := by have := HKE.out.2 hD; subst this; rfl
          have HF := Lib.hid (RE.out hD)
          clear hD
          go_wp2_with fail
          refine (Calls.mono (PN.out _)) ?_
          rintro e w1 ⟨rfl, b1⟩
          have HB1 := Lib.hid (HB.out.trans (b1.mono HB.out.size))
          clear b1
          go_wp2
          go_ret2
          rw [HF.out, mk_list]
          exact ⟨rfl, HB1.out⟩
        · have hk0 : ((k : Int) == 0) = false := beq_eq_false_iff_ne.2 (fun e => hD (HKE.out.1 (by omega)))
          have HF := Lib.hid (RN.out hD hr)
          rw [hr] at PN
          simp only [Option.getD_none, Option.isSome_none] at PN
          clear hD hr
          go_wp2_with fail
          refine (Calls.mono (PN.out _)) ?_
          rintro e w1 ⟨rfl, b1⟩
          have HB1 := Lib.hid (HB.out.trans (b1.mono HB.out.size))
          clear b1
          go_wp2
          go_ret2
          rw [HF.out]
          exact ⟨rfl, HB1.out⟩
        · have hk0 : ((k : Int) == 0) = false := beq_eq_false_iff_ne.2 (fun e => hD (HKE.out.1 (by omega)))
          have HF := Lib.hid (RS.out n hD hr)
          rw [hr] at PN
          simp only [Option.getD_some, Option.isSome_some] at PN
          clear hD hr
          go_wp2_with fail
          refine (Calls.mono (PN.out _)) ?_
          rintro e w1 ⟨rfl, b1⟩
          have HB1 := Lib.hid (HB.out.trans (b1.mono HB.out.size))
          clear b1
          go_wp2_with fail
          go_quiet (fail)
          go_wp2
          go_ret2
          rw [HF.out]
          exact ⟨(show Ending.returned (.tuple #[.int .i64 n, .string (s.extract k s.size)]) = _ from by rw [HFR.out]), below_drewN HB1.out _⟩
      · have hk1 : (k : Int) < (s.size : Int) := by omega
        have hd1 : decide ((48 : Int) ≤ (s[k].toNat : Int)) = true := decide_eq_true h48
        have hd2 : decide ((s[k].toNat : Int) ≤ 57) = false := decide_eq_false (by omega)
        rcases hrs with hD | ⟨hD, hr | ⟨n, hr⟩⟩
        · have hk0 : ((k : Int) == 0) = true := by have := HKE.out.2 hD; subst this; rfl
          have HF := Lib.hid (RE.out hD)
          clear hD
          go_wp2_with fail
          refine (Calls.mono (PN.out _)) ?_
          rintro e w1 ⟨rfl, b1⟩
          have HB1 := Lib.hid (HB.out.trans (b1.mono HB.out.size))
          clear b1
          go_wp2
          go_ret2
          rw [HF.out, mk_list]
          exact ⟨rfl, HB1.out⟩
        · have hk0 : ((k : Int) == 0) = false := beq_eq_false_iff_ne.2 (fun e => hD (HKE.out.1 (by omega)))
          have HF := Lib.hid (RN.out hD hr)
          rw [hr] at PN
          simp only [Option.getD_none, Option.isSome_none] at PN
          clear hD hr
          go_wp2_with fail
          refine (Calls.mono (PN.out _)) ?_
          rintro e w1 ⟨rfl, b1⟩
          have HB1 := Lib.hid (HB.out.trans (b1.mono HB.out.size))
          clear b1
          go_wp2
          go_ret2
          rw [HF.out]
          exact ⟨rfl, HB1.out⟩
        · have hk0 : ((k : Int) == 0) = false := beq_eq_false_iff_ne.2 (fun e => hD (HKE.out.1 (by omega)))
          have HF := Lib.hid (RS.out n hD hr)
          rw [hr] at PN
          simp only [Option.getD_some, Option.isSome_some] at PN
          clear hD hr
          go_wp2_with fail
          refine (Calls.mono (PN.out _)) ?_
          rintro e w1 ⟨rfl, b1⟩
          have HB1 := Lib.hid (HB.out.trans (b1.mono HB.out.size))
          clear b1
          go_wp2_with fail
          go_quiet (fail)
          go_wp2
          go_ret2
          rw [HF.out]
          exact ⟨(show Ending.returned (.tuple #[.int .i64 n, .string (s.extract k s.size)]) = _ from by rw [HFR.out]), below_drewN HB1.out _⟩
end WordS
end Go.Proofs.YtjjhpabmhnincaaGreatDoor
