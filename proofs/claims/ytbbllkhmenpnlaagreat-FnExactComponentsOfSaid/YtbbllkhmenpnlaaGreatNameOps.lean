import Derived.Test.YtbbllkhmenpnlaaGreatProg
import Derived.Test.YtbbllkhmenpnlaaGreatStrRow
import Derived.Test.YtbbllkhmenpnlaaGreatArgMath
import Derived.Lib.Strings
import Derived.Lib.SlicesS
import Derived.Lib.Hide
import Derived.WalkKit
import Derived.Maps.Own
import Derived.Maps.Views
import Derived.StringKeys
import Derived.Test.YtbbllkhmenpnlaaGreatShelf
/-
  The model's search in a slice of strings, and in the list of the reserved words.
-/
namespace Go.Proofs.YtbbllkhmenpnlaaGreat
open Go.RowKit
namespace NameS
theorem ret_bool {a b : Bool} (h : a = b) : Ending.returned (.bool a) = .returned (.bool b) := by rw [h]

set_option maxHeartbeats 400000 in
set_option maxRecDepth 100000 in
theorem has (A : Option Addr) (c : Nat) (ss : List ByteArray) (s : ByteArray) (w : World) (hA : StrK.SRow w A ss) (hl : ss.length ≤ 1000000000000) :
  Calls Tryz.prog 53 #[.slice A ss.length c, .string s] w fun e w' => e = .returned (.bool (NameM.hasB ss s)) ∧ w = w' := by
 go_enter Tryz.func53, Tryz.ntmps53
 go_wp2
 go_loop [5] (fun i => ∃ k : Nat, k ≤ ss.length ∧ i = .int .i64 k ∧ ∀ j, j < k → ss[j]? ≠ some s) (fun i => ss.length - (intOf i).toNat)
 case atStart => exact ⟨0, Nat.zero_le _, rfl, fun j hj => absurd hj (Nat.not_lt_zero _)⟩
 case round =>
  obtain ⟨k, hk, rfl, hne⟩ := hrel
  have HN := Lib.hid hne
  clear hne
  by_cases hlt : k < ss.length
  ·obtain ⟨b, o, rfl, hbl, hc⟩ := hA.at_ hlt
   have hg := List.getElem?_eq_getElem hlt
   generalize ss[k] = t at hc hg
   have HG := Lib.hid hg
   clear hg hA
   go_wp2
   ·have heq : (t.toList == s.toList) = true := by assumption
    have e := (Lib.bytes_beq_iff _ _).1 heq
    subst e
    go_ret
    exact ⟨ret_bool (NameM.hasB_hit k HG.out).symm, rfl⟩
   ·have hneq : (t.toList == s.toList) = false := by assumption
    go_round
    case rel =>
     refine ⟨k + 1, by omega, by go_num, fun j hj => ?_⟩
     by_cases e : j = k
     ·subst e
      rw [HG.out]
      intro h
      exact (Lib.bytes_beq_false_iff _ _).1 hneq (Option.some.inj h)
     ·exact HN.out j (by omega)
    case measure => simp [intOf]; omega
  ·go_wp2
   go_ret
   exact ⟨ret_bool (NameM.hasB_miss (fun j hj => HN.out j (by omega))).symm, rfl⟩

set_option maxHeartbeats 400000 in
set_option maxRecDepth 100000 in
theorem reserved (w : World) :
  Calls Tryz.prog 206 #[] w fun e w' => e = .returned (.slice (some ⟨w.heap.size, 0, none⟩) 5 5) ∧ StrK.SRow w' (some ⟨w.heap.size, 0, none⟩) NameM.resList ∧ Below w.heap.size w w' := by
 go_enter Tryz.func206, Tryz.ntmps206
 go_wp2
 go_ret
 refine ⟨rfl, fun _ => ⟨w.heap.size, 0, rfl, by simp, fun j s hj => ?_⟩, (Below.refl _ _).alloc (Nat.le_refl _) _⟩
 have hj5 := (List.getElem?_eq_some_iff.1 hj).1
 simp only [NameM.resList, List.length_cons, List.length_nil] at hj5
 have hj' : j = 0 ∨ j = 1 ∨ j = 2 ∨ j = 3 ∨ j = 4 := by omega
 rcases hj' with rfl | rfl | rfl | rfl | rfl <;> (cases hj; rw [World.cell?_alloc_at _ _ _ _ rfl]; rfl)

theorem specReserved (s : ByteArray) (w : World) :
  Calls Tryz.prog 182 #[.string s] w fun e w' => e = .returned (.bool (NameM.resv s)) ∧ Below w.heap.size w w' := by
 have HS := fun (W : World) (A : Option Addr) (h : StrK.SRow W A NameM.resList) => has A 5 NameM.resList s W h (by decide)
 have HH := Lib.hid HS
 clear HS
 go_enter Tryz.func182, Tryz.ntmps182
 go_wp2_with fail
 refine (reserved _).mono ?_
 rintro e w1 ⟨rfl, hr, b1⟩
 go_wp2_with fail
 refine (Calls.mono (HH.out _ _ hr)) ?_
 rintro e w2 ⟨rfl, rfl⟩
 go_wp2
 go_ret
 exact ⟨rfl, b1⟩

end NameS
end Go.Proofs.YtbbllkhmenpnlaaGreat

/-
  A map from texts to bools that the call makes and fills: what it answers ('MapHas').
-/
namespace Go.Proofs.YtbbllkhmenpnlaaGreat
open Go.RowKit Go.WideMaps Go.Maps
namespace MapK

theorem law : Keyed Tryz.prog 9 := string_keyed Tryz.underlying9
theorem zeroB (w : World) : (zeroValue 4).run Tryz.prog w = .ok (.bool false) w := by kernel_rfl

def MapHas (w : World) (b n : Nat) (f : List UInt8 → Bool) : Prop :=
 ∃ D : DataW Unit, w.ownsMap Tryz.prog 9 (plainElem Tryz.prog 4) b n D ∧ IsMap D ∧ ∀ l, D.atKey (.string l) (.lit (.bool false)) = .lit (.bool (f l))

theorem made (w : World) : MapHas (w.alloc (.map #[] 0)) w.heap.size 0 (fun _ => false) :=
 ⟨_, World.ownsMap_made _ _ _ _, ⟨[], rfl⟩, fun _ => rfl⟩

theorem plainB (x : Bool) : plainElem (H := Unit) Tryz.prog 4 (.bool x) = some (.lit (.bool x), []) := by
 simp [plainElem, Tryz.underlying4]

theorem plainB_inv {v : Value} {x : Bool} {ps : List MemPlace} (h : plainElem (H := Unit) Tryz.prog 4 v = some (.lit (.bool x), ps)) : v = .bool x := by
 simp only [plainElem, Tryz.underlying4] at h
 split at h <;> simp_all

theorem isMap_put {D : DataW Unit} (h : IsMap D) (k : Lit) (d : DataW Unit) : IsMap (D.put k d) := by
 obtain ⟨es, rfl⟩ := h
 exact ⟨_, rfl⟩

theorem store {w : World} {b n : Nat} {f : List UInt8 → Bool} (h : MapHas w b n f) (hn : n < maxLen) (s : ByteArray) (hs : s.size ≤ maxLen) :
  ∃ w', (Instr.mapUpdate 73 (.map (some b)) (.string s) (.bool true)).run Tryz.prog w = .ok () w' ∧ MapHas w' b (n + 1) (fun l => decide (l = s.data.toList) || f l) ∧ w.grownBy w' (some b) := by
 obtain ⟨D, hown, hm, hf⟩ := h
 obtain ⟨w', hrun, r1, r2⟩ := hown.update law Tryz.underlying73 hn (keyOf_string_mk Tryz.underlying9 hs) (plainB true)
 refine ⟨w', hrun, ⟨_, r1, isMap_put hm _ _, fun l => ?_⟩, r2⟩
 by_cases e : l = s.data.toList
 ·subst e
  rw [atKey_put_same hm (by trivial)]
  simp
 ·rw [atKey_put_other (by intro h; exact e (Lit.string.inj h)), hf]
  simp [e]

theorem look {w : World} {b n : Nat} {f : List UInt8 → Bool} (h : MapHas w b n f) (s : ByteArray) (hs : s.size ≤ maxLen) :
  (Instr.lookup 73 (.map (some b)) (.string s) false).run Tryz.prog w = .ok (.bool (f s.data.toList)) w := by
 obtain ⟨D, hown, hm, hf⟩ := h
 obtain ⟨v, ps, hrun, hv⟩ := hown.lookup law Tryz.underlying73 (zeroB w) (plainB false) (keyOf_string_mk Tryz.underlying9 hs)
 rw [hf] at hv
 rw [hrun, plainB_inv hv]

end MapK
end Go.Proofs.YtbbllkhmenpnlaaGreat

/-
  The program's IsReserved: a map that is built anew, and one look-up.
-/
namespace Go.Proofs.YtbbllkhmenpnlaaGreat
open Go.RowKit Go.WideMaps Go.Maps
namespace MapK

theorem resv_eq (s : ByteArray) : (decide (s.data.toList = [110, 105, 108]) || (decide (s.data.toList = [114, 101, 116, 117, 114, 110]) || (decide (s.data.toList = [114, 117, 108, 101]) || (decide (s.data.toList = [112, 114, 101]) || (decide (s.data.toList = [102, 117, 110]) || false))))) = NameM.resv s := by
 unfold NameM.resv NameM.hasB NameM.resList
 rw [Bool.eq_iff_iff]
 simp only [List.map_cons, List.map_nil, Bool.or_eq_true, decide_eq_true_eq, List.mem_cons, List.not_mem_nil, Bool.false_eq_true, or_false]
 constructor
 ·rintro (h | h | h | h | h) <;> simp [h]
 ·rintro (h | h | h | h | h) <;> simp [h]

set_option maxHeartbeats 1000000 in
set_option maxRecDepth 100000 in
theorem words (w : World) :
  Calls Tryz.prog 227 #[] w fun e w' => e = .returned (.map (some w.heap.size)) ∧ (∀ s, s.size ≤ maxLen → (Instr.lookup 73 (.map (some w.heap.size)) (.string s) false).run Tryz.prog w' = .ok (.bool (NameM.resv s)) w') ∧ Below w.heap.size w w' := by
 have hmm := @run_makeMap Tryz.prog
 have h0 := Lib.hid (made w)
 have hb0 : Below w.heap.size w (w.alloc (.map #[] 0)) := (Below.refl _ _).alloc (Nat.le_refl _) _
 obtain ⟨w1, q1, h1, g1⟩ := store h0.out (by decide) ⟨#[102, 117, 110]⟩ (by decide)
 obtain ⟨w2, q2, h2, g2⟩ := store h1 (by decide) ⟨#[112, 114, 101]⟩ (by decide)
 obtain ⟨w3, q3, h3, g3⟩ := store h2 (by decide) ⟨#[114, 117, 108, 101]⟩ (by decide)
 obtain ⟨w4, q4, h4, g4⟩ := store h3 (by decide) ⟨#[114, 101, 116, 117, 114, 110]⟩ (by decide)
 obtain ⟨w5, q5, h5, g5⟩ := store h4 (by decide) ⟨#[110, 105, 108]⟩ (by decide)
 have hj : ∀ j, some w.heap.size = some j → w.heap.size ≤ j := fun j hj => by cases hj; exact Nat.le_refl _
 have hb1 := hb0.grown g1 hb0.size hj
 have hb2 := hb1.grown g2 hb1.size hj
 have hb3 := hb2.grown g3 hb2.size hj
 have hb4 := hb3.grown g4 hb3.size hj
 have hb5 := Lib.hid (hb4.grown g5 hb4.size hj)
 have hl := Lib.hid (fun s hs => (look h5 s hs).trans (congrArg (fun x => Result.ok (Value.bool x) w5) (resv_eq s)))
 clear hb0 hb1 hb2 hb3 hb4 h1 h2 h3 h4 h5 g1 g2 g3 g4 g5 hj h0
 go_enter Tryz.func227, Tryz.ntmps227
 go_wp2
 go_ret
 exact ⟨rfl, fun s hs => hl.out s hs, hb5.out⟩

theorem implReserved (s : ByteArray) (hs : s.size ≤ maxLen) (w : World) :
  Calls Tryz.prog 202 #[.string s] w fun e w' => e = .returned (.bool (NameM.resv s)) ∧ Below w.heap.size w w' := by
 go_enter Tryz.func202, Tryz.ntmps202
 go_wp2_with fail
 refine (words _).mono ?_
 rintro e w1 ⟨rfl, hl, b1⟩
 have h1 := hl s hs
 clear hl
 go_wp2
 go_ret
 exact ⟨rfl, b1⟩

end MapK
theorem NameS.implReserved' (s : ByteArray) (hs : s.size ≤ maxLen) : ∀ w : World, Calls Tryz.prog 202 #[.string s] w fun e w' => e = .returned (.bool (NameM.resv s)) ∧ Below w.heap.size w w' := fun w => MapK.implReserved s hs w
end Go.Proofs.YtbbllkhmenpnlaaGreat

/-
  Which texts are valid names, which are names of lists: the model's answer and the program's.
-/
namespace Go.Proofs.YtbbllkhmenpnlaaGreat
open Go.RowKit
namespace NameS

theorem at_data (s : ByteArray) (k : Nat) (h : k < s.size) : s.data.toList[k]? = some s[k] := by
 rw [List.getElem?_eq_getElem (by simpa using h)]; rfl

set_option maxHeartbeats 1000000 in
set_option maxRecDepth 100000 in
theorem specShape (s : ByteArray) (w : World) (hs : s.size ≤ maxLen) :
    Calls Tryz.prog 181 #[.string s] w fun e w' => e = .returned (.bool (NameM.shape s.data.toList)) ∧ w = w' := by
  unfold maxLen at hs
  go_enter Tryz.func181, Tryz.ntmps181
  go_wp2
  go_loop [3] (fun i => ∃ k : Nat, k ≤ s.size ∧ i = .int .i64 k ∧ ∀ j c, j < k → s.data.toList[j]? = some c → NameM.fits j c = true) (fun i => s.size - (intOf i).toNat)
  case atStart => exact ⟨0, Nat.zero_le _, rfl, fun j c hj => absurd hj (Nat.not_lt_zero _)⟩
  case round =>
    obtain ⟨k, hk, rfl, hne⟩ := hrel
    have HN := Lib.hid hne
    clear hne
    by_cases hlt : k < s.size
    · have HG := Lib.hid (at_data s k hlt)
      go_wp2
      all_goals first
        | (go_ret; exact ⟨ret_bool (NameM.shape_no k s[k] HG.out (by simp only [NameM.fits, NameM.letter, NameM.digit]; simp_all; try omega)).symm, rfl⟩)
        | (go_round
           case rel =>
             refine ⟨k + 1, by omega, by go_num, fun j c hj hc => ?_⟩
             by_cases e : j = k
             · subst e
               obtain rfl := Option.some.inj (HG.out.symm.trans hc)
               simp only [NameM.fits, NameM.letter, NameM.digit]; simp_all <;> omega
             · exact HN.out j c (by omega) hc
           case measure => simp [intOf]; omega)
    · have hk' : k = s.size := by omega
      by_cases h0 : s.size = 0
      · have hd : decide ((0 : Int) < (s.size : Int)) = false := decide_eq_false (by omega)
        have hd2 : decide (0 < s.size) = false := decide_eq_false (by omega)
        have hl : NameM.shape s.data.toList = false := by
          cases h : NameM.shape s.data.toList with
          | false => rfl
          | true => have := NameM.shape_pos h; omega
        have HL := Lib.hid hl
        clear hl hk' h0
        go_wp2
        go_ret
        exact ⟨ret_bool (by rw [HL.out]), rfl⟩
      · have hd : decide ((0 : Int) < (s.size : Int)) = true := by simp; omega
        have hd2 : decide (0 < s.size) = true := by simp; omega
        have HL := Lib.hid (NameM.shape_yes (l := s.data.toList) (by intro e; exact h0 (by simpa using congrArg List.length e)) (fun j c hj hc => HN.out j c (by simp at hj; omega) hc))
        clear hk' h0
        go_wp2
        go_ret
        exact ⟨ret_bool (by rw [HL.out]), rfl⟩

theorem specValid (s : ByteArray) (w : World) (hs : s.size ≤ maxLen) :
  Calls Tryz.prog 136 #[.string s] w fun e w' => e = .returned (.bool (NameM.validName s)) ∧ Below w.heap.size w w' := by
 unfold maxLen at hs
 have SH := specShape s w hs
 by_cases h1 : NameM.shape s.data.toList = true
 ·rw [h1] at SH
  have HS := Lib.hid SH
  by_cases h2 : s.size ≤ 8
  ·have HV : Hid (NameM.validName s = !NameM.resv s) := Lib.hid (by simp [NameM.validName, h1, h2])
   clear SH h1
   go_enter Tryz.func136, Tryz.ntmps136
   go_wp2_with fail
   refine (Calls.mono HS.out) ?_
   rintro e w1 ⟨rfl, rfl⟩
   go_wp2_with fail
   refine (specReserved s _).mono ?_
   rintro e w1 ⟨rfl, b1⟩
   go_wp2
   go_ret
   exact ⟨ret_bool HV.out.symm, b1⟩
  ·have HV : Hid (NameM.validName s = false) := Lib.hid (by simp [NameM.validName, h2])
   clear SH h1
   go_enter Tryz.func136, Tryz.ntmps136
   go_wp2_with fail
   refine (Calls.mono HS.out) ?_
   rintro e w1 ⟨rfl, rfl⟩
   go_wp2
   go_ret
   exact ⟨ret_bool HV.out.symm, Below.refl _ _⟩
 ·have h1' : NameM.shape s.data.toList = false := by simpa using h1
  rw [h1'] at SH
  have HS := Lib.hid SH
  have HV : Hid (NameM.validName s = false) := Lib.hid (by simp [NameM.validName, h1'])
  clear SH h1 h1'
  go_enter Tryz.func136, Tryz.ntmps136
  go_wp2_with fail
  refine (Calls.mono HS.out) ?_
  rintro e w1 ⟨rfl, rfl⟩
  go_wp2
  go_ret
  exact ⟨ret_bool HV.out.symm, Below.refl _ _⟩

theorem isLetter (c : UInt8) (w : World) :
  Calls Tryz.prog 200 #[.int .u8 c.toNat] w fun e w' => e = .returned (.bool (NameM.letter c)) ∧ w = w' := by
 unfold NameM.letter
 go_enter Tryz.func200, Tryz.ntmps200
 go_wp2
 all_goals
  go_ret
  exact ⟨ret_bool (by simp_all; try omega), rfl⟩

theorem isDigit (c : UInt8) (w : World) :
  Calls Tryz.prog 201 #[.int .u8 c.toNat] w fun e w' => e = .returned (.bool (NameM.digit c)) ∧ w = w' := by
 unfold NameM.digit
 go_enter Tryz.func201, Tryz.ntmps201
 go_wp2
 all_goals
  go_ret
  exact ⟨ret_bool (by simp_all; try omega), rfl⟩

theorem valid_no {s : ByteArray} (h : s.size = 0 ∨ 8 < s.size ∨ NameM.shape s.data.toList = false) : NameM.validName s = false := by
 rcases h with h | h | h
 ·have : NameM.shape s.data.toList = false := by
   cases h' : NameM.shape s.data.toList with
   | false => rfl
   | true => have := NameM.shape_pos h'; omega
  simp [NameM.validName, this]
 ·simp [NameM.validName]; omega
 ·simp [NameM.validName, h]

set_option maxHeartbeats 1000000 in
set_option maxRecDepth 100000 in
theorem implValid (s : ByteArray) (w : World) (hs : s.size ≤ maxLen) :
  Calls Tryz.prog 167 #[.string s] w fun e w' => e = .returned (.bool (NameM.validName s)) ∧ Below w.heap.size w w' := by
 have hres := implReserved' s hs
 unfold maxLen at hs
 have HR := Lib.hid hres
 clear hres
 by_cases h0 : s.size = 0
 ·have HV := Lib.hid (valid_no (Or.inl h0))
  have hl : s.data.toList = [] := List.eq_nil_of_length_eq_zero (by simpa using h0)
  obtain rfl : s = ByteArray.empty := NameM.toList_inj (by rw [hl]; rfl)
  clear hl h0
  go_enter Tryz.func167, Tryz.ntmps167
  go_wp2
  go_ret
  exact ⟨ret_bool HV.out.symm, Below.refl _ _⟩
 ·have hne : ¬ s.toList = [] := fun e => h0 (by rw [Lib.toList_data] at e; simpa using congrArg List.length e)
  have hne2 : s.toList.isEmpty = false := by cases h : s.toList with | nil => exact absurd h hne | cons _ _ => rfl
  by_cases h8 : 8 < s.size
  ·have HV := Lib.hid (valid_no (s := s) (Or.inr (Or.inl h8)))
   go_enter Tryz.func167, Tryz.ntmps167
   go_wp2
   go_ret
   exact ⟨ret_bool HV.out.symm, Below.refl _ _⟩
  ·have h00 : 0 < s.size := by omega
   have h8' : decide ((s.size : Int) > 8) = false := decide_eq_false (by omega)
   by_cases hL : NameM.letter s[0] = true
   ·have HL := Lib.hid hL
    go_enter Tryz.func167, Tryz.ntmps167
    go_wp2_with fail
    refine (isLetter _ _).mono ?_
    rintro e w1 ⟨rfl, rfl⟩
    go_wp2_with fail
    clear hL hne hne2 h8'
    go_loop [19] (fun i => ∃ k : Nat, k ≤ s.size ∧ i = .int .i64 k ∧ ∀ j c, j < k → s.data.toList[j]? = some c → (NameM.letter c || NameM.digit c) = true) (fun i => s.size - (intOf i).toNat)
    case atStart => exact ⟨0, Nat.zero_le _, rfl, fun j c hj => absurd hj (Nat.not_lt_zero _)⟩
    case round =>
     obtain ⟨k, hk, rfl, hne⟩ := hrel
     have HN := Lib.hid hne
     clear hne
     by_cases hlt : k < s.size
     ·have HG := Lib.hid (at_data s k hlt)
      cases hl : NameM.letter s[k] with
      | true =>
       have HT := Lib.hid hl
       go_wp2_with fail
       refine (isLetter _ _).mono ?_
       rintro e w1 ⟨rfl, rfl⟩
       go_wp2
       go_round
       case rel =>
        refine ⟨k + 1, by omega, by go_num, fun j c hj hc => ?_⟩
        by_cases e : j = k
        ·subst e
         obtain rfl := Option.some.inj (HG.out.symm.trans hc)
         rw [HT.out]; rfl
        ·exact HN.out j c (by omega) hc
       case measure => simp [intOf]; omega
      | false =>
       cases hd : NameM.digit s[k] with
       | true =>
        have HT := Lib.hid hd
        go_wp2_with fail
        refine (isLetter _ _).mono ?_
        rintro e w1 ⟨rfl, rfl⟩
        go_wp2_with fail
        refine (isDigit _ _).mono ?_
        rintro e w1 ⟨rfl, rfl⟩
        go_wp2
        go_round
        case rel =>
         refine ⟨k + 1, by omega, by go_num, fun j c hj hc => ?_⟩
         by_cases e : j = k
         ·subst e
          obtain rfl := Option.some.inj (HG.out.symm.trans hc)
          rw [HT.out]; simp
         ·exact HN.out j c (by omega) hc
        case measure => simp [intOf]; omega
       | false =>
        have HV : Hid (NameM.validName s = false) := Lib.hid (valid_no (s := s) (Or.inr (Or.inr (NameM.shape_no k s[k] HG.out (by simp [NameM.fits, hl, hd])))))
        go_wp2_with fail
        refine (isLetter _ _).mono ?_
        rintro e w1 ⟨rfl, rfl⟩
        go_wp2_with fail
        refine (isDigit _ _).mono ?_
        rintro e w1 ⟨rfl, rfl⟩
        go_wp2
        go_ret
        exact ⟨ret_bool HV.out.symm, Below.refl _ _⟩
     ·have hsh : NameM.shape s.data.toList = true := NameM.shape_yes (l := s.data.toList) (by intro e; exact h0 (by simpa using congrArg List.length e)) (fun j c hj hc => by
       have h2 := HN.out j c (by simp at hj; omega) hc
       by_cases e : j = 0
       ·subst e
        obtain rfl := Option.some.inj ((at_data s 0 h00).symm.trans hc)
        simp [NameM.fits, HL.out]
       ·simp [NameM.fits, e] at h2 ⊢; exact h2)
      have HV : Hid (NameM.validName s = !NameM.resv s) := Lib.hid (by simp [NameM.validName, hsh]; omega)
      clear hsh
      go_wp2_with fail
      refine (HR.out _).mono ?_
      rintro e w1 ⟨rfl, b1⟩
      go_wp2
      go_ret
      exact ⟨ret_bool HV.out.symm, b1⟩
   ·have hL' : NameM.letter s[0] = false := by simpa using hL
    have HV := Lib.hid (valid_no (s := s) (Or.inr (Or.inr (NameM.shape_no 0 s[0] (at_data s 0 h00) (by simp [NameM.fits, hL'])))))
    clear hL
    go_enter Tryz.func167, Tryz.ntmps167
    go_wp2_with fail
    refine (isLetter _ _).mono ?_
    rintro e w1 ⟨rfl, rfl⟩
    go_wp2
    go_ret
    exact ⟨ret_bool HV.out.symm, Below.refl _ _⟩

theorem last_at (s : ByteArray) (h : 0 < s.size) : s.data.toList.getLast? = some (s[s.size - 1]'(by omega)) := by
 rw [List.getLast?_eq_getElem?]
 have : s.data.toList.length = s.size := by simp
 rw [this]
 exact at_data s (s.size - 1) (by omega)

set_option maxHeartbeats 1000000 in
theorem specList (s : ByteArray) (w : World) (hs : s.size ≤ maxLen) :
  Calls Tryz.prog 137 #[.string s] w fun e w' => e = .returned (.bool (NameM.listName s)) ∧ Below w.heap.size w w' := by
 have hv := fun W => specValid s W hs
 unfold maxLen at hs
 cases hV : NameM.validName s with
 | false =>
  rw [hV] at hv
  have HL : Hid (NameM.listName s = false) := Lib.hid (by simp [NameM.listName, hV])
  have HR := Lib.hid hv
  clear hv hV
  go_enter Tryz.func137, Tryz.ntmps137
  go_wp2_with fail
  refine (HR.out _).mono ?_
  rintro e w1 ⟨rfl, b1⟩
  go_wp2
  go_ret
  exact ⟨ret_bool HL.out.symm, b1⟩
 | true =>
  rw [hV] at hv
  have h0 : 0 < s.size := by
   refine NameM.shape_pos ?_
   simp only [NameM.validName, Bool.and_eq_true] at hV
   exact hV.1.1
  have HL : Hid (NameM.listName s = decide (((s[s.size - 1]'(by omega)).toNat : Int) = 115)) := Lib.hid (by
   simp only [NameM.listName, hV, Bool.true_and, last_at s h0]
   rw [Bool.eq_iff_iff]
   simp only [beq_iff_eq, Option.some.injEq, decide_eq_true_eq]
   exact ⟨fun h => by rw [h]; rfl, fun h => UInt8.toNat_inj.1 (by have : (115 : UInt8).toNat = 115 := rfl; omega)⟩)
  have HR := Lib.hid hv
  have hk : ((s.size : Int) - 1) = ((s.size - 1 : Nat) : Int) := by omega
  have hk1 : s.size - 1 < s.size := by omega
  clear hv hV
  go_enter Tryz.func137, Tryz.ntmps137
  go_wp2_with fail
  refine (HR.out _).mono ?_
  rintro e w1 ⟨rfl, b1⟩
  go_wp2
  go_ret
  exact ⟨ret_bool (by rw [HL.out]; rfl), b1⟩

set_option maxHeartbeats 1000000 in
theorem implList (s : ByteArray) (w : World) (hs : s.size ≤ maxLen) :
  Calls Tryz.prog 168 #[.string s] w fun e w' => e = .returned (.bool (NameM.listName s)) ∧ Below w.heap.size w w' := by
 have hv := fun W => implValid s W hs
 unfold maxLen at hs
 cases hV : NameM.validName s with
 | false =>
  rw [hV] at hv
  have HL : Hid (NameM.listName s = false) := Lib.hid (by simp [NameM.listName, hV])
  have HR := Lib.hid hv
  clear hv hV
  go_enter Tryz.func168, Tryz.ntmps168
  go_wp2_with fail
  refine (HR.out _).mono ?_
  rintro e w1 ⟨rfl, b1⟩
  go_wp2
  go_ret
  exact ⟨ret_bool HL.out.symm, b1⟩
 | true =>
  rw [hV] at hv
  have h0 : 0 < s.size := by
   refine NameM.shape_pos ?_
   simp only [NameM.validName, Bool.and_eq_true] at hV
   exact hV.1.1
  have HL : Hid (NameM.listName s = decide (((s[s.size - 1]'(by omega)).toNat : Int) = 115)) := Lib.hid (by
   simp only [NameM.listName, hV, Bool.true_and, last_at s h0]
   rw [Bool.eq_iff_iff]
   simp only [beq_iff_eq, Option.some.injEq, decide_eq_true_eq]
   exact ⟨fun h => by rw [h]; rfl, fun h => UInt8.toNat_inj.1 (by have : (115 : UInt8).toNat = 115 := rfl; omega)⟩)
  have HR := Lib.hid hv
  have hk : ((s.size : Int) - 1) = ((s.size - 1 : Nat) : Int) := by omega
  have hk1 : s.size - 1 < s.size := by omega
  clear hv hV
  go_enter Tryz.func168, Tryz.ntmps168
  go_wp2_with fail
  refine (HR.out _).mono ?_
  rintro e w1 ⟨rfl, b1⟩
  go_wp2
  go_ret
  exact ⟨ret_bool (by rw [HL.out]; rfl), b1⟩

end NameS
end Go.Proofs.YtbbllkhmenpnlaaGreat

/-
  IndexOf and Without, the model's and the program's.
-/
namespace Go.Proofs.YtbbllkhmenpnlaaGreat
open Go.RowKit
namespace StrK
def Gave (w : World) (ss : List ByteArray) (e : Ending) (w' : World) : Prop :=
 ∃ A cap, e = .returned (.slice A ss.length cap) ∧ SRow w' A ss ∧ Free w' A ss.length ∧ Below w.heap.size w w' ∧ (∀ a, A = some a → w.heap.size ≤ a.block) ∧ ss.length ≤ cap
end StrK
namespace NameS

theorem idx_hit {ss : List ByteArray} {s : ByteArray} (k : Nat) (h : ss[k]? = some s) (hne : ∀ j, j < k → ss[j]? ≠ some s) : Lib.idxOfS ss s = k := by
 have hk := (List.getElem?_eq_some_iff.1 h).1
 have := Lib.idxOfS_hit ss ss.length k s hk (Nat.le_refl _) (by rw [List.getD, h]; rfl) (fun j hj e => hne j hj (by
  rw [List.getElem?_eq_getElem (by omega)]
  rw [List.getD, List.getElem?_eq_getElem (by omega)] at e
  exact congrArg some e))
 rwa [List.take_length] at this
theorem idx_miss {ss : List ByteArray} {s : ByteArray} (hne : ∀ j, j < ss.length → ss[j]? ≠ some s) : Lib.idxOfS ss s = -1 := by
 have := Lib.idxOfS_miss ss ss.length s (fun j hj e => hne j hj (by
  rw [List.getElem?_eq_getElem hj]
  rw [List.getD, List.getElem?_eq_getElem hj] at e
  exact congrArg some e))
 rwa [List.take_length] at this
theorem idx_pos {ss : List ByteArray} {s : ByteArray} (h : NameM.hasB ss s = true) : 0 ≤ Lib.idxOfS ss s := (Lib.idxOfS_nonneg_iff ss s).2 (NameM.hasB_iff.1 h)
theorem idx_neg {ss : List ByteArray} {s : ByteArray} (h : NameM.hasB ss s = false) : Lib.idxOfS ss s < 0 := by
 rcases Int.lt_or_le (Lib.idxOfS ss s) 0 with h1 | h1
 ·exact h1
 ·rw [NameM.hasB_iff.2 ((Lib.idxOfS_nonneg_iff ss s).1 h1)] at h; cases h
theorem ret_int {k : IntKind} {a b : Int} (h : a = b) : Ending.returned (.int k a) = .returned (.int k b) := by rw [h]

set_option maxHeartbeats 400000 in
set_option maxRecDepth 100000 in
theorem specIndex (A : Option Addr) (c : Nat) (ss : List ByteArray) (s : ByteArray) (w : World) (hA : StrK.SRow w A ss) (hl : ss.length ≤ 1000000000000) :
  Calls Tryz.prog 17 #[.slice A ss.length c, .string s] w fun e w' => e = .returned (.int .i64 (Lib.idxOfS ss s)) ∧ w = w' := by
 go_enter Tryz.func17, Tryz.ntmps17
 go_wp2
 go_loop [5] (fun i => ∃ k : Nat, k ≤ ss.length ∧ i = .int .i64 k ∧ ∀ j, j < k → ss[j]? ≠ some s) (fun i => ss.length - (intOf i).toNat)
 case atStart => exact ⟨0, Nat.zero_le _, rfl, fun j hj => absurd hj (Nat.not_lt_zero _)⟩
 case round =>
  obtain ⟨k, hk, rfl, hne⟩ := hrel
  have HN := Lib.hid hne
  clear hne
  by_cases hlt : k < ss.length
  ·obtain ⟨b, o, rfl, hbl, hc⟩ := hA.at_ hlt
   have hg := List.getElem?_eq_getElem hlt
   generalize ss[k] = t at hc hg
   have HG := Lib.hid hg
   clear hg hA
   go_wp2
   ·have heq : (t.toList == s.toList) = true := by assumption
    have e := (Lib.bytes_beq_iff _ _).1 heq
    subst e
    go_ret
    exact ⟨ret_int (idx_hit k HG.out HN.out).symm, rfl⟩
   ·have hneq : (t.toList == s.toList) = false := by assumption
    go_round
    case rel =>
     refine ⟨k + 1, by omega, by go_num, fun j hj => ?_⟩
     by_cases e : j = k
     ·subst e
      rw [HG.out]
      intro h
      exact (Lib.bytes_beq_false_iff _ _).1 hneq (Option.some.inj h)
     ·exact HN.out j (by omega)
    case measure => simp [intOf]; omega
  ·go_wp2
   go_ret
   exact ⟨ret_int (idx_miss (fun j hj => HN.out j (by omega))).symm, rfl⟩

theorem libIndex (A : Option Addr) (c : Nat) (ss : List ByteArray) (s : ByteArray) (w : World) (hA : StrK.SRow w A ss) (hl : ss.length ≤ 1000000000000) :
  Calls Tryz.prog 93 #[.slice A ss.length c, .string s] w fun e w' => e = .returned (.int .i64 (Lib.idxOfS ss s)) ∧ w = w' := by
 by_cases hn : ss = []
 ·subst hn
  exact (Tryz.slices_Index_string_empty A c s w).mono fun e w' ⟨h1, h2⟩ => ⟨h1, h2.symm⟩
 ·obtain ⟨b, o, rfl, hb, hc⟩ := hA hn
  refine (Tryz.slices_Index_string b o ss.length c ss s w (Nat.le_refl _) (by omega) (fun j hj => ?_)).mono fun e w' ⟨h1, h2⟩ => ⟨by rw [h1, List.take_length], h2.symm⟩
  have := hc j ss[j] (List.getElem?_eq_getElem hj)
  rw [this, List.getD, List.getElem?_eq_getElem hj]; rfl

theorem implIndex (A : Option Addr) (c : Nat) (ss : List ByteArray) (s : ByteArray) (w : World) (hA : StrK.SRow w A ss) (hl : ss.length ≤ 1000000000000) :
  Calls Tryz.prog 57 #[.slice A ss.length c, .string s] w fun e w' => e = .returned (.int .i64 (Lib.idxOfS ss s)) ∧ w = w' := by
 have HL := Lib.hid (libIndex A c ss s w hA hl)
 go_enter Tryz.func57, Tryz.ntmps57
 go_wp2_with fail
 refine (Calls.mono HL.out) ?_
 rintro e w1 ⟨rfl, rfl⟩
 go_wp2
 go_ret
 exact ⟨rfl, rfl⟩

theorem stringInfo : (Tryz.prog.info? 9).map (fun i => (i.zero, i.size, i.bytes)) = some (some (.string ByteArray.empty), 1, 16) := by kernel_rfl

set_option maxHeartbeats 1000000 in
set_option maxRecDepth 100000 in
theorem specWithout (A B : Option Addr) (c d : Nat) (ss rs : List ByteArray) (w : World) (hA : StrK.SRow w A ss) (hB : StrK.SRow w B rs) (hl : ss.length ≤ 100000000) (hr : rs.length ≤ 100000000) :
  Calls Tryz.prog 16 #[.slice A ss.length c, .slice B rs.length d] w (StrK.Gave w (NameM.wo ss rs)) := by
 obtain ⟨i0, hi, hz0, hz1, hz2⟩ := info_parts stringInfo
 have hhas := fun (s : ByteArray) (W : World) (h : Below w.heap.size w W) => has B d rs s W (hB.below h) (by omega)
 have HH := Lib.hid hhas
 clear hhas
 go_enter Tryz.func16, Tryz.ntmps16
 go_wp2
 go_loopw [5, 6] (fun v i wr => ∃ (k : Nat) (done : List ByteArray), k ≤ ss.length ∧ i = .int .i64 k ∧ Hid (done = NameM.wo (ss.take k) rs) ∧ done.length ≤ ss.length ∧
   wr.ownsRow w.heap.size 9 1 v done.length (done.map Value.string) ∧ Below w.heap.size w wr) (fun _ i _ => ss.length - (intOf i).toNat)
 case atStart => exact ⟨0, [], Nat.zero_le _, rfl, Lib.hid rfl, Nat.zero_le _, ⟨by simp, Or.inr ⟨_, 0, #[], rfl, Nat.le_refl _, heap_alloc_new _ _, by simp, by simp, by simp, by simp⟩⟩, (Below.refl _ _).alloc (Nat.le_refl _) _⟩
 case round =>
  obtain ⟨k, done, hk, rfl, hdone, hcnt, hown, hb⟩ := hrel
  have hsz := hb.size
  by_cases hlt : k < ss.length
  ·obtain ⟨b, o, rfl, hbl, hc⟩ := (hA.below hb).at_ hlt
   have hg := List.getElem?_eq_getElem hlt
   generalize ss[k] = s at hc hg
   have HG := Lib.hid hg
   clear hg
   have hi0 : (0 : Int) ≤ (k : Int) := by omega
   have hi1 : (k : Int) < (ss.length : Int) := by omega
   have HC := HH.out s wr hb
   cases hx : NameM.hasB rs s with
   | true =>
    rw [hx] at HC
    have HC' := Lib.hid HC
    have HD : Hid (done = NameM.wo (ss.take (k + 1)) rs) := Lib.hid (by rw [NameM.wo_skip HG.out hx]; exact hdone.out)
    clear HC hx
    go_wp2_with fail
    refine (Calls.mono HC'.out) ?_
    rintro e w1 ⟨rfl, rfl⟩
    go_wp2
    go_roundw
    case rel => exact ⟨k + 1, done, by omega, by go_num, HD, hcnt, hown, hb⟩
    case measure => simp [intOf]; omega
   | false =>
    rw [hx] at HC
    have HC' := Lib.hid HC
    have HD : Hid (done ++ [s] = NameM.wo (ss.take (k + 1)) rs) := Lib.hid (by rw [NameM.wo_keep HG.out hx, ← hdone.out])
    have hl2 : (done ++ [s]).length ≤ ss.length := by rw [HD.out]; exact NameM.wo_take_length _ _ _
    simp only [List.length_append, List.length_cons, List.length_nil] at hl2
    clear HC hx
    go_wp2_with fail
    refine (Calls.mono HC'.out) ?_
    rintro e w1 ⟨rfl, rfl⟩
    go_wp2_with (at_builtin; refine wpList_append_own _ rfl (.tmp 21) (.tmp 26) 31 rfl w.heap.size 9 i0 (.string ByteArray.empty) 1 16 Tryz.underlying31 hi hz0 hz1 hz2 rfl (by decide) _ _ _ rfl (hown.alloc _) ⟨wr.heap.size, 0, none⟩ 1 1 [.string s] rfl rfl (cell_one_new _ _ _) (by simp [Value.oneCell']) (by unfold maxLen; omega) (by omega) (by simp <;> omega) ?_; intro v1 w1 hown1 hgrow _)
    have hb1 : Below w.heap.size w w1 := (hb.alloc hb.size _).grown hgrow (by simp <;> omega) (fun j hj => (hown.lt j hj).1)
    have hown2 : w1.ownsRow w.heap.size 9 1 v1 (done ++ [s]).length ((done ++ [s]).map Value.string) := by simpa using hown1
    clear hown1 hown
    go_wp2
    go_roundw
    case rel => exact ⟨k + 1, done ++ [s], by omega, by go_num, HD, by simp; omega, hown2, hb1⟩
    case measure => simp [intOf]; omega
  ·have hk' : k = ss.length := by omega
   have hfin : done = NameM.wo ss rs := by rw [hdone.out, hk', List.take_length]
   go_wp2
   go_ret
   subst hfin
   obtain ⟨A', cap, rfl, h1, h2, h3, h4⟩ := StrK.of_own hown
   exact ⟨A', cap, rfl, h1, h2, hb, h3, h4⟩

set_option maxHeartbeats 1000000 in
set_option maxRecDepth 100000 in
theorem implWithout (A B : Option Addr) (c d : Nat) (ss rs : List ByteArray) (w : World) (hA : StrK.SRow w A ss) (hB : StrK.SRow w B rs) (hl : ss.length ≤ 100000000) (hr : rs.length ≤ 100000000) :
  Calls Tryz.prog 89 #[.slice A ss.length c, .slice B rs.length d] w (StrK.Gave w (NameM.wo ss rs)) := by
 obtain ⟨i0, hi, hz0, hz1, hz2⟩ := info_parts stringInfo
 have hhas := fun (s : ByteArray) (W : World) (h : Below w.heap.size w W) => implIndex B d rs s W (hB.below h) (by omega)
 have HH := Lib.hid hhas
 clear hhas
 go_enter Tryz.func89, Tryz.ntmps89
 go_wp2
 go_loopw [5, 10] (fun v i wr => ∃ (k : Nat) (done : List ByteArray), k ≤ ss.length ∧ i = .int .i64 k ∧ Hid (done = NameM.wo (ss.take k) rs) ∧ done.length ≤ ss.length ∧
   wr.ownsRow w.heap.size 9 1 v done.length (done.map Value.string) ∧ Below w.heap.size w wr) (fun _ i _ => ss.length - (intOf i).toNat)
 case atStart => exact ⟨0, [], Nat.zero_le _, rfl, Lib.hid rfl, Nat.zero_le _, ⟨by simp, Or.inl ⟨rfl, rfl⟩⟩, Below.refl _ _⟩
 case round =>
  obtain ⟨k, done, hk, rfl, hdone, hcnt, hown, hb⟩ := hrel
  have hsz := hb.size
  by_cases hlt : k < ss.length
  ·obtain ⟨b, o, rfl, hbl, hc⟩ := (hA.below hb).at_ hlt
   have hg := List.getElem?_eq_getElem hlt
   generalize ss[k] = s at hc hg
   have HG := Lib.hid hg
   clear hg
   have hi0 : (0 : Int) ≤ (k : Int) := by omega
   have hi1 : (k : Int) < (ss.length : Int) := by omega
   have HC' := Lib.hid (HH.out s wr hb)
   cases hx : NameM.hasB rs s with
   | true =>
    have hp := idx_pos hx
    have HD : Hid (done = NameM.wo (ss.take (k + 1)) rs) := Lib.hid (by rw [NameM.wo_skip HG.out hx]; exact hdone.out)
    generalize Lib.idxOfS rs s = ix at hp HC'
    clear hx
    go_wp2_with fail
    refine (Calls.mono HC'.out) ?_
    rintro e w1 ⟨rfl, rfl⟩
    go_wp2
    go_roundw
    case rel => exact ⟨k + 1, done, by omega, by go_num, HD, hcnt, hown, hb⟩
    case measure => simp [intOf]; omega
   | false =>
    have hp := idx_neg hx
    have HD : Hid (done ++ [s] = NameM.wo (ss.take (k + 1)) rs) := Lib.hid (by rw [NameM.wo_keep HG.out hx, ← hdone.out])
    have hl2 : (done ++ [s]).length ≤ ss.length := by rw [HD.out]; exact NameM.wo_take_length _ _ _
    simp only [List.length_append, List.length_cons, List.length_nil] at hl2
    generalize Lib.idxOfS rs s = ix at hp HC'
    clear hx
    go_wp2_with fail
    refine (Calls.mono HC'.out) ?_
    rintro e w1 ⟨rfl, rfl⟩
    go_wp2_with (at_builtin; refine wpList_append_own _ rfl (.tmp 18) (.tmp 20) 31 rfl w.heap.size 9 i0 (.string ByteArray.empty) 1 16 Tryz.underlying31 hi hz0 hz1 hz2 rfl (by decide) _ _ _ rfl (hown.alloc _) ⟨wr.heap.size, 0, none⟩ 1 1 [.string s] rfl rfl (cell_one_new _ _ _) (by simp [Value.oneCell']) (by unfold maxLen; omega) (by omega) (by simp <;> omega) ?_; intro v1 w1 hown1 hgrow _)
    have hb1 : Below w.heap.size w w1 := (hb.alloc hb.size _).grown hgrow (by simp <;> omega) (fun j hj => (hown.lt j hj).1)
    have hown2 : w1.ownsRow w.heap.size 9 1 v1 (done ++ [s]).length ((done ++ [s]).map Value.string) := by simpa using hown1
    clear hown1 hown
    go_wp2
    go_roundw
    case rel => exact ⟨k + 1, done ++ [s], by omega, by go_num, HD, by simp; omega, hown2, hb1⟩
    case measure => simp [intOf]; omega
  ·have hk' : k = ss.length := by omega
   have hfin : done = NameM.wo ss rs := by rw [hdone.out, hk', List.take_length]
   go_wp2
   go_ret
   subst hfin
   obtain ⟨A', cap, rfl, h1, h2, h3, h4⟩ := StrK.of_own hown
   exact ⟨A', cap, rfl, h1, h2, hb, h3, h4⟩

end NameS
end Go.Proofs.YtbbllkhmenpnlaaGreat
