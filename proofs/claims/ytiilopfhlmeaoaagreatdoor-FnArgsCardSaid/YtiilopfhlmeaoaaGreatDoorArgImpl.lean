import Derived.Test.YtiilopfhlmeaoaaGreatDoorRepSum
import Derived.Test.YtiilopfhlmeaoaaGreatDoorArgMath2
import Derived.Test.YtiilopfhlmeaoaaGreatDoorArithImpl
import Derived.Test.YtiilopfhlmeaoaaGreatDoorShape
import Derived.Sort.Walk0
import Derived.Lib.RowBridge
import Derived.Deep.QuietTactic
import Derived.BigQuiet
/-
  The program's sums: terms, validity.
-/
namespace Go.Proofs.YtiilopfhlmeaoaaGreatDoor
open Go.RowKit
namespace ArgI
open RowK Mem ArgM

theorem bytes_less (t s : ByteArray) : Op.bytesLess t.toList s.toList = decide (t.data.toList < s.data.toList) := by
  rw [Lib.toList_data, Lib.toList_data, Go.Proofs.bytesLess_eq]
theorem ret_b {a b : Bool} (h : a = b) : Ending.returned (.bool a) = .returned (.bool b) := by rw [h]

set_option maxHeartbeats 1000000 in
set_option maxRecDepth 100000 in
theorem intName (s : ByteArray) (hs : s.size ≤ 9223372036854775807) (w : World) :
    Calls Tryz.prog 89 #[.string s] w fun e w' => e = .returned (.bool (ArgM.intName s)) ∧ Below w.heap.size w w' := by
  have HV := Lib.hid (fun W => NameS.implValid s W (by unfold maxLen; exact hs))
  have HL := Lib.hid (fun W => NameS.implList s W (by unfold maxLen; exact hs))
  have HO := Lib.hid (show ArgM.intName s = (NameM.validName s && !NameM.listName s) from rfl)
  generalize ArgM.intName s = R at *
  generalize NameM.validName s = v at *
  generalize NameM.listName s = l at *
  cases v with
  | false =>
    have HF := Lib.hid (show R = false by rw [HO.out]; rfl)
    go_enter Tryz.func89, Tryz.ntmps89
    go_wp2_with fail
    refine (Calls.mono (HV.out _)) ?_
    rintro e w1 ⟨rfl, b1⟩
    go_wp2
    go_ret
    exact ⟨ret_b HF.out.symm, b1⟩
  | true =>
    have HF := Lib.hid (show R = !l by rw [HO.out]; rfl)
    go_enter Tryz.func89, Tryz.ntmps89
    go_wp2_with fail
    refine (Calls.mono (HV.out _)) ?_
    rintro e w1 ⟨rfl, b1⟩
    go_wp2_with fail
    refine (Calls.mono (HL.out _)) ?_
    rintro e w2 ⟨rfl, b2⟩
    have B2 := Lib.hid (b1.trans (b2.mono b1.size))
    clear b1 b2
    go_wp2
    go_ret
    exact ⟨ret_b HF.out.symm, B2.out⟩

set_option maxHeartbeats 1000000 in
set_option maxRecDepth 100000 in
theorem validTerm (z : Int) (s : ByteArray) (hs : s.size ≤ 9223372036854775807) (w : World) :
    Calls Tryz.prog 67 #[.agg #[.int .i64 z, .string s]] w fun e w' => e = .returned (.bool (termV (z, s))) ∧ Below w.heap.size w w' := by
  have HI := Lib.hid (fun W => intName s hs W)
  have HT := Lib.hid (ArithI.fits z)
  have HO := Lib.hid (show termV (z, s) = (decide (z ≠ 0) && ArithM.inF z && ArgM.intName s) from rfl)
  have B0 := Lib.hid ((Below.refl w.heap.size w).alloc (Nat.le_refl _) (Obj.cells #[Value.int IntKind.i64 z, Value.string s] 60))
  generalize termV (z, s) = R at *
  generalize ArgM.intName s = v at *
  generalize ArithM.inF z = f at *
  by_cases h0 : z = 0
  · subst h0
    have HF := Lib.hid (show R = false by rw [HO.out]; rfl)
    go_enter Tryz.func67, Tryz.ntmps67
    go_wp2
    go_ret
    exact ⟨ret_b HF.out.symm, B0.out⟩
  · have hne : (z != 0) = true := bne_iff_ne.2 h0
    have HO2 := Lib.hid (show R = (f && v) by rw [HO.out, decide_eq_true h0]; simp)
    clear HO h0
    cases f with
    | false =>
      have HF := Lib.hid (show R = false by rw [HO2.out]; rfl)
      go_enter Tryz.func67, Tryz.ntmps67
      go_wp2_with fail
      refine (Calls.mono (HT.out _)) ?_
      rintro e w1 ⟨rfl, rfl⟩
      go_wp2
      go_ret
      exact ⟨ret_b HF.out.symm, B0.out⟩
    | true =>
      have HF := Lib.hid (show R = v by rw [HO2.out]; rfl)
      go_enter Tryz.func67, Tryz.ntmps67
      go_wp2_with fail
      refine (Calls.mono (HT.out _)) ?_
      rintro e w1 ⟨rfl, rfl⟩
      go_wp2_with fail
      refine (Calls.mono (HI.out _)) ?_
      rintro e w2 ⟨rfl, b2⟩
      have B2 := Lib.hid (B0.out.trans (b2.mono B0.out.size))
      clear b2
      go_wp2
      go_ret
      exact ⟨ret_b HF.out.symm, B2.out⟩

theorem all_snoc {α : Type} {p : α → Bool} {xs : List α} {k : Nat} (h : k < xs.length) (h1 : (xs.take k).all p = true) (h2 : p xs[k] = true) : (xs.take (k + 1)).all p = true := by
  rw [take_snoc h, List.all_append, h1]
  simp [h2]
theorem all_fail {α : Type} {p : α → Bool} {xs : List α} {k : Nat} (h : k < xs.length) (h2 : p xs[k] = false) : xs.all p = false := by
  cases e : xs.all p with
  | false => rfl
  | true => rw [List.all_eq_true.1 e _ (List.getElem_mem h)] at h2; cases h2
set_option maxHeartbeats 1000000 in
set_option maxRecDepth 100000 in
theorem allTerms (A : Option Addr) (c : Nat) (xs : List (Int × ByteArray)) (w : World) (hA : ArgS term w A xs.length c xs) (hl : xs.length ≤ 1000000000) (hs : ∀ t ∈ xs, t.2.size ≤ 9223372036854775807) :
    Calls Tryz.prog 66 #[.slice A xs.length c, .func (.func 67) #[] #[]] w fun e w' => e = .returned (.bool (xs.all termV)) ∧ Below w.heap.size w w' := by
  have HA := Lib.hid hA
  have HSS := Lib.hid hs
  clear hA hs
  go_enter Tryz.func66, Tryz.ntmps66
  go_wp2
  go_loopw [9] (fun i wr => ∃ k : Nat, k ≤ xs.length ∧ i = .int .i64 k ∧ (xs.take k).all termV = true ∧ Below w.heap.size w wr) (fun i _ => xs.length - (intOf i).toNat)
  case atStart => exact ⟨0, Nat.zero_le _, rfl, rfl, Below.refl _ _⟩
  case round =>
    obtain ⟨k, hk, rfl, hall, hb⟩ := hrel
    have HAL := Lib.hid hall
    have HB := Lib.hid hb
    clear hall hb
    by_cases hlt : k < xs.length
    · obtain ⟨b2, o, rfl, hbb, c0, c1⟩ := (HA.out.below HB.out).term_at hlt
      have hs9 := HSS.out _ (List.getElem_mem hlt)
      have HN := Lib.hid (fun h => all_fail (p := termV) hlt h)
      have HY := Lib.hid (fun h => all_snoc (p := termV) hlt HAL.out h)
      generalize xs[k] = x at *
      obtain ⟨z, s⟩ := x
      simp only at c0 c1 hs9
      have ha : Below wr.heap.size wr (wr.alloc (Obj.cells #[Value.int IntKind.i64 z, Value.string s] 60)) := (Below.refl _ _).alloc (Nat.le_refl _) _
      have BA := Lib.hid (HB.out.trans (ha.mono HB.out.size))
      have VL := Lib.hid (fun W => validTerm z s hs9 W)
      have hi0 : (0 : Int) ≤ (k : Int) := by omega
      have hi1 : (k : Int) < (xs.length : Int) := by omega
      generalize termV (z, s) = t at *
      clear ha hs9
      cases t with
      | false =>
        have HR := Lib.hid (HN.out rfl)
        clear HN HY
        go_wp2_with fail
        refine (Calls.mono (VL.out _)) ?_
        rintro e w1 ⟨rfl, b1⟩
        have B1 := Lib.hid (BA.out.trans (b1.mono BA.out.size))
        clear b1
        go_wp2
        go_ret
        exact ⟨by rw [HR.out]; try rfl, B1.out⟩
      | true =>
        have HT := Lib.hid (HY.out rfl)
        clear HN HY
        go_wp2_with fail
        refine (Calls.mono (VL.out _)) ?_
        rintro e w1 ⟨rfl, b1⟩
        have B1 := Lib.hid (BA.out.trans (b1.mono BA.out.size))
        clear b1
        go_wp2
        go_roundw
        case rel => exact ⟨k + 1, by omega, by go_num, HT.out, B1.out⟩
        case measure => simp [intOf]; omega
    · obtain rfl : k = xs.length := by omega
      have HR := Lib.hid (show xs.all termV = true by have := HAL.out; rwa [List.take_length] at this)
      clear HAL
      go_wp2
      go_ret
      exact ⟨by rw [HR.out]; try rfl, HB.out⟩

theorem ordT_bad {ts : List (Int × ByteArray)} {k : Nat} {a b : Int × ByteArray} (h1 : ts[k]? = some a) (h2 : ts[k + 1]? = some b) (h : ascN a b = false) : ordT ts = false := by
  cases e : ordT ts with
  | false => rfl
  | true => rw [ordT_iff.1 e k a b h1 h2] at h; cases h
set_option maxHeartbeats 1000000 in
set_option maxRecDepth 100000 in
theorem validSum (z : Int) (A : Option Addr) (c : Nat) (xs : List (Int × ByteArray)) (w : World) (hA : ArgS term w A xs.length c xs) (hl : xs.length ≤ 1000000000) (hs : ∀ t ∈ xs, t.2.size ≤ 9223372036854775807) :
    Calls Tryz.prog 43 #[.agg #[.int .i64 z, .slice A xs.length c]] w fun e w' => e = .returned (.bool (sumV (z, xs))) ∧ Below w.heap.size w w' := by
  have HT := Lib.hid (ArithI.fits z)
  have AL := Lib.hid (fun W (h : Below w.heap.size w W) => allTerms A c xs W (hA.below h) hl hs)
  have HO := Lib.hid (show sumV (z, xs) = (ArithM.inF z && decide (xs.length ≤ 4) && (xs.all termV && ordT xs)) from rfl)
  have B0 := Lib.hid ((Below.refl w.heap.size w).alloc (Nat.le_refl _) (Obj.cells #[Value.int IntKind.i64 z, Value.slice A xs.length c] 50))
  have V0 := Lib.hid (Lvar.new w #[Value.int IntKind.i64 z, Value.slice A xs.length c] 50)
  have OY := Lib.hid (fun h => (ordT_iff (ts := xs)).2 h)
  have ON := Lib.hid (fun k a b h1 h2 h => ordT_bad (ts := xs) (k := k) (a := a) (b := b) h1 h2 h)
  generalize sumV (z, xs) = R at *
  generalize ArithM.inF z = f at *
  cases f with
  | false =>
    have HF := Lib.hid (show R = false by rw [HO.out]; rfl)
    clear AL hA
    go_enter Tryz.func43, Tryz.ntmps43
    go_wp2_with fail
    refine (Calls.mono (HT.out _)) ?_
    rintro e w1 ⟨rfl, rfl⟩
    go_wp2
    go_ret
    exact ⟨ret_b HF.out.symm, B0.out⟩
  | true =>
    by_cases h4 : xs.length ≤ 4
    · have HO2 := Lib.hid (show R = (xs.all termV && ordT xs) by rw [HO.out, decide_eq_true h4]; rfl)
      have hgt : decide ((xs.length : Int) > 4) = false := decide_eq_false (by omega)
      clear HO
      generalize xs.all termV = t at *
      cases t with
      | false =>
        have HF := Lib.hid (show R = false by rw [HO2.out]; rfl)
        clear hA
        have v0 := V0.out.cell 0 (.int .i64 z) rfl
        have v1 := V0.out.cell 1 (.slice A xs.length c) rfl
        go_enter Tryz.func43, Tryz.ntmps43
        go_wp2_with fail
        refine (Calls.mono (HT.out _)) ?_
        rintro e w1 ⟨rfl, rfl⟩
        go_wp2_with fail
        refine (Calls.mono (AL.out _ B0.out)) ?_
        rintro e w1 ⟨rfl, b1⟩
        have B1 := Lib.hid (B0.out.trans (b1.mono B0.out.size))
        clear b1
        go_wp2
        go_ret
        exact ⟨ret_b HF.out.symm, B1.out⟩
      | true =>
        have HO3 := Lib.hid (show R = ordT xs by rw [HO2.out]; rfl)
        have HA := Lib.hid hA
        clear hA HO2
        go_enter Tryz.func43, Tryz.ntmps43
        have v0 := V0.out.cell 0 (.int .i64 z) rfl
        have v1 := V0.out.cell 1 (.slice A xs.length c) rfl
        go_wp2_with fail
        refine (Calls.mono (HT.out _)) ?_
        rintro e w1 ⟨rfl, rfl⟩
        go_wp2_with fail
        refine (Calls.mono (AL.out _ B0.out)) ?_
        rintro e w1 ⟨rfl, b1⟩
        have B1 := Lib.hid (B0.out.trans (b1.mono B0.out.size))
        have V1 := Lib.hid (V0.out.below b1)
        clear b1 v0 v1 V0
        go_wp2
        go_loopw [3] (fun i wr => ∃ k : Nat, k ≤ xs.length ∧ i = .int .i64 ((k : Int) + 1) ∧ (∀ j a b, j < k → xs[j]? = some a → xs[j + 1]? = some b → ascN a b = true) ∧ Below w.heap.size w wr ∧ Lvar wr w.heap.size #[Value.int IntKind.i64 z, Value.slice A xs.length c]) (fun i _ => xs.length + 1 - (intOf i).toNat)
        case atStart => exact ⟨0, Nat.zero_le _, rfl, (fun j a b hj => absurd hj (Nat.not_lt_zero _)), B1.out, V1.out⟩
        case round =>
          obtain ⟨k, hk, rfl, hord, hb, hv⟩ := hrel
          have HOR := Lib.hid hord
          have HB := Lib.hid hb
          have HV := Lib.hid hv
          have v1 := hv.cell 1 (.slice A xs.length c) rfl
          clear hord hb hv
          by_cases hlt : k + 1 < xs.length
          · have hltk : k < xs.length := by omega
            obtain ⟨b1, o1, e1, hbb, c0, c1⟩ := (HA.out.below HB.out).term_at hltk
            obtain ⟨b2, o2, e2, _, d0, d1⟩ := (HA.out.below HB.out).term_at hlt
            rw [e1] at e2
            injection e2 with e2; injection e2 with e3 e4
            subst e3; subst e4; subst e1
            have G1 := Lib.hid (List.getElem?_eq_getElem hltk)
            have G2 := Lib.hid (List.getElem?_eq_getElem hlt)
            generalize xs[k] = x at *
            generalize xs[k + 1] = y at *
            obtain ⟨z1, s⟩ := x
            obtain ⟨z2, t⟩ := y
            simp only at c0 c1 d0 d1
            have hi0 : (0 : Int) ≤ (k : Int) := by omega
            have hi1 : (k : Int) < (xs.length : Int) := by omega
            have hi2 : (k : Int) + 1 < (xs.length : Int) := by omega
            have hi3 : (k : Int) + 1 - 1 = (k : Int) := by omega
            have hi4 : ((k : Int) + 1).toNat = k + 1 := by omega
            have hless := bytes_less s t
            cases hc : decide (s.data.toList < t.data.toList) with
            | true =>
              rw [hc] at hless
              have HN := Lib.hid (show ∀ j a b, j < k + 1 → xs[j]? = some a → xs[j + 1]? = some b → ascN a b = true from fun j a b hj h1 h2 => by
                by_cases e : j = k
                · subst e
                  obtain rfl := Option.some.inj (G1.out.symm.trans h1)
                  obtain rfl := Option.some.inj (G2.out.symm.trans h2)
                  exact hc
                · exact HOR.out j a b (by omega) h1 h2)
              clear hc
              go_wp2
              go_quiet (fail)
              go_wp2
              go_roundw
              case rel => exact ⟨k + 1, by omega, by go_num, HN.out, below_drewN HB.out _, HV.out.below (below_drewN (Below.refl _ _) _)⟩
              case measure => simp [intOf]; omega
            | false =>
              rw [hc] at hless
              have HF := Lib.hid (show R = false by rw [HO3.out]; exact ON.out k _ _ G1.out G2.out hc)
              clear hc
              go_wp2
              go_quiet (fail)
              go_wp2
              go_ret
              exact ⟨ret_b HF.out.symm, below_drewN HB.out _⟩
          · have HF := Lib.hid (show R = true by
              rw [HO3.out]
              exact OY.out (fun j a b h1 h2 => HOR.out j a b (by have := (List.getElem?_eq_some_iff.1 h2).1; omega) h1 h2))
            go_wp2
            go_ret
            exact ⟨ret_b HF.out.symm, HB.out⟩
    · have HF := Lib.hid (show R = false by rw [HO.out, decide_eq_false h4]; rfl)
      have hgt : decide ((xs.length : Int) > 4) = true := decide_eq_true (by omega)
      clear AL hA
      go_enter Tryz.func43, Tryz.ntmps43
      go_wp2_with fail
      refine (Calls.mono (HT.out _)) ?_
      rintro e w1 ⟨rfl, rfl⟩
      go_wp2
      go_ret
      exact ⟨ret_b HF.out.symm, B0.out⟩
end ArgI
end Go.Proofs.YtiilopfhlmeaoaaGreatDoor
