import Derived.Test.YtbbllkhmenpnlaaGreatRepSum
import Derived.Test.YtbbllkhmenpnlaaGreatArgMath
import Derived.Test.YtbbllkhmenpnlaaGreatArithSpec
import Derived.Test.YtbbllkhmenpnlaaGreatNameOps
import Derived.Sort.Walk0
import Derived.Lib.RowBridge
import Derived.Deep.QuietTactic
import Derived.BigQuiet
import Derived.Handy
/-
  The program's sums: terms, validity.
-/
namespace Go.Proofs.YtbbllkhmenpnlaaGreat
open Go.RowKit
namespace ArgI
open RowK Mem ArgM

theorem bytes_less (t s : ByteArray) : Op.bytesLess t.toList s.toList = decide (t.data.toList < s.data.toList) := by
 rw [Lib.toList_data, Lib.toList_data, Go.Proofs.bytesLess_eq]
theorem ret_b {a b : Bool} (h : a = b) : Ending.returned (.bool a) = .returned (.bool b) := by rw [h]

set_option maxHeartbeats 1000000 in
set_option maxRecDepth 100000 in
theorem intName (s : ByteArray) (hs : s.size ≤ 9223372036854775807) (w : World) :
  Calls Tryz.prog 123 #[.string s] w fun e w' => e = .returned (.bool (ArgM.intName s)) ∧ Below w.heap.size w w' := by
 have HV := Lib.hid (fun W => NameS.implValid s W (by unfold maxLen; exact hs))
 have HL := Lib.hid (fun W => NameS.implList s W (by unfold maxLen; exact hs))
 have HO := Lib.hid (show ArgM.intName s = (NameM.validName s && !NameM.listName s) from rfl)
 generalize ArgM.intName s = R at *
 generalize NameM.validName s = v at *
 generalize NameM.listName s = l at *
 cases v with
 | false =>
  have HF := Lib.hid (show R = false by rw [HO.out]; rfl)
  go_enter Tryz.func123, Tryz.ntmps123
  go_wp2_with fail
  refine (Calls.mono (HV.out _)) ?_
  rintro e w1 ⟨rfl, b1⟩
  go_wp2
  go_ret
  exact ⟨ret_b HF.out.symm, b1⟩
 | true =>
  have HF := Lib.hid (show R = !l by rw [HO.out]; rfl)
  go_enter Tryz.func123, Tryz.ntmps123
  go_wp2_with fail
  refine (Calls.mono (HV.out _)) ?_
  rintro e w1 ⟨rfl, b1⟩
  go_wp2_with fail
  refine (Calls.mono (HL.out _)) ?_
  rintro e w2 ⟨rfl, b2⟩
  have B2 := Lib.hid (b1.trans (b2.mono b1.size))
  clear b1 b2
  go_wp2
  go_ret
  exact ⟨ret_b HF.out.symm, B2.out⟩

set_option maxHeartbeats 1000000 in
set_option maxRecDepth 100000 in
theorem validTerm (z : Int) (s : ByteArray) (hs : s.size ≤ 9223372036854775807) (w : World) :
  Calls Tryz.prog 264 #[.agg #[.int .i64 z, .string s]] w fun e w' => e = .returned (.bool (termV (z, s))) ∧ Below w.heap.size w w' := by
 have HI := Lib.hid (fun W => intName s hs W)
 have HT := Lib.hid (ArithI.fits z)
 have HO := Lib.hid (show termV (z, s) = (decide (z ≠ 0) && ArithM.inF z && ArgM.intName s) from rfl)
 have B0 := Lib.hid ((Below.refl w.heap.size w).alloc (Nat.le_refl _) (Obj.cells #[Value.int IntKind.i64 z, Value.string s] 161))
 generalize termV (z, s) = R at *
 generalize ArgM.intName s = v at *
 generalize ArithM.inF z = f at *
 by_cases h0 : z = 0
 ·subst h0
  have HF := Lib.hid (show R = false by rw [HO.out]; rfl)
  go_enter Tryz.func264, Tryz.ntmps264
  go_wp2
  go_ret
  exact ⟨ret_b HF.out.symm, B0.out⟩
 ·have hne : (z != 0) = true := bne_iff_ne.2 h0
  have HO2 := Lib.hid (show R = (f && v) by rw [HO.out, decide_eq_true h0]; simp)
  clear HO h0
  cases f with
  | false =>
   have HF := Lib.hid (show R = false by rw [HO2.out]; rfl)
   go_enter Tryz.func264, Tryz.ntmps264
   go_wp2_with fail
   refine (Calls.mono (HT.out _)) ?_
   rintro e w1 ⟨rfl, rfl⟩
   go_wp2
   go_ret
   exact ⟨ret_b HF.out.symm, B0.out⟩
  | true =>
   have HF := Lib.hid (show R = v by rw [HO2.out]; rfl)
   go_enter Tryz.func264, Tryz.ntmps264
   go_wp2_with fail
   refine (Calls.mono (HT.out _)) ?_
   rintro e w1 ⟨rfl, rfl⟩
   go_wp2_with fail
   refine (Calls.mono (HI.out _)) ?_
   rintro e w2 ⟨rfl, b2⟩
   have B2 := Lib.hid (B0.out.trans (b2.mono B0.out.size))
   clear b2
   go_wp2
   go_ret
   exact ⟨ret_b HF.out.symm, B2.out⟩

theorem all_snoc {α : Type} {p : α → Bool} {xs : List α} {k : Nat} (h : k < xs.length) (h1 : (xs.take k).all p = true) (h2 : p xs[k] = true) : (xs.take (k + 1)).all p = true := by
 rw [take_snoc h, List.all_append, h1]
 simp [h2]
theorem all_fail {α : Type} {p : α → Bool} {xs : List α} {k : Nat} (h : k < xs.length) (h2 : p xs[k] = false) : xs.all p = false := by
 cases e : xs.all p with
 | false => rfl
 | true => rw [List.all_eq_true.1 e _ (List.getElem_mem h)] at h2; cases h2
set_option maxHeartbeats 1000000 in
set_option maxRecDepth 100000 in
theorem allTerms (A : Option Addr) (c : Nat) (xs : List (Int × ByteArray)) (w : World) (hA : ArgS term w A xs.length c xs) (hl : xs.length ≤ 1000000000) (hs : ∀ t ∈ xs, t.2.size ≤ 9223372036854775807) :
  Calls Tryz.prog 263 #[.slice A xs.length c, .func (.func 264) #[] #[]] w fun e w' => e = .returned (.bool (xs.all termV)) ∧ Below w.heap.size w w' := by
 have HA := Lib.hid hA
 have HSS := Lib.hid hs
 clear hA hs
 go_enter Tryz.func263, Tryz.ntmps263
 go_wp2
 go_loopw [9] (fun i wr => ∃ k : Nat, k ≤ xs.length ∧ i = .int .i64 k ∧ (xs.take k).all termV = true ∧ Below w.heap.size w wr) (fun i _ => xs.length - (intOf i).toNat)
 case atStart => exact ⟨0, Nat.zero_le _, rfl, rfl, Below.refl _ _⟩
 case round =>
  obtain ⟨k, hk, rfl, hall, hb⟩ := hrel
  have HAL := Lib.hid hall
  have HB := Lib.hid hb
  clear hall hb
  by_cases hlt : k < xs.length
  ·obtain ⟨b2, o, rfl, hbb, c0, c1⟩ := (HA.out.below HB.out).term_at hlt
   have hs9 := HSS.out _ (List.getElem_mem hlt)
   have HN := Lib.hid (fun h => all_fail (p := termV) hlt h)
   have HY := Lib.hid (fun h => all_snoc (p := termV) hlt HAL.out h)
   generalize xs[k] = x at *
   obtain ⟨z, s⟩ := x
   simp only at c0 c1 hs9
   have ha : Below wr.heap.size wr (wr.alloc (Obj.cells #[Value.int IntKind.i64 z, Value.string s] 161)) := (Below.refl _ _).alloc (Nat.le_refl _) _
   have BA := Lib.hid (HB.out.trans (ha.mono HB.out.size))
   have VL := Lib.hid (fun W => validTerm z s hs9 W)
   have hi0 : (0 : Int) ≤ (k : Int) := by omega
   have hi1 : (k : Int) < (xs.length : Int) := by omega
   generalize termV (z, s) = t at *
   clear ha hs9
   cases t with
   | false =>
    have HR := Lib.hid (HN.out rfl)
    clear HN HY
    go_wp2_with fail
    refine (Calls.mono (VL.out _)) ?_
    rintro e w1 ⟨rfl, b1⟩
    have B1 := Lib.hid (BA.out.trans (b1.mono BA.out.size))
    clear b1
    go_wp2
    go_ret
    exact ⟨by rw [HR.out]; try rfl, B1.out⟩
   | true =>
    have HT := Lib.hid (HY.out rfl)
    clear HN HY
    go_wp2_with fail
    refine (Calls.mono (VL.out _)) ?_
    rintro e w1 ⟨rfl, b1⟩
    have B1 := Lib.hid (BA.out.trans (b1.mono BA.out.size))
    clear b1
    go_wp2
    go_roundw
    case rel => exact ⟨k + 1, by omega, by go_num, HT.out, B1.out⟩
    case measure => simp [intOf]; omega
  ·obtain rfl : k = xs.length := by omega
   have HR := Lib.hid (show xs.all termV = true by have := HAL.out; rwa [List.take_length] at this)
   clear HAL
   go_wp2
   go_ret
   exact ⟨by rw [HR.out]; try rfl, HB.out⟩

theorem ordT_bad {ts : List (Int × ByteArray)} {k : Nat} {a b : Int × ByteArray} (h1 : ts[k]? = some a) (h2 : ts[k + 1]? = some b) (h : ascN a b = false) : ordT ts = false := by
 cases e : ordT ts with
 | false => rfl
 | true => rw [ordT_iff.1 e k a b h1 h2] at h; cases h
set_option maxHeartbeats 1000000 in
set_option maxRecDepth 100000 in
theorem validSum (z : Int) (A : Option Addr) (c : Nat) (xs : List (Int × ByteArray)) (w : World) (hA : ArgS term w A xs.length c xs) (hl : xs.length ≤ 1000000000) (hs : ∀ t ∈ xs, t.2.size ≤ 9223372036854775807) :
  Calls Tryz.prog 261 #[.agg #[.int .i64 z, .slice A xs.length c]] w fun e w' => e = .returned (.bool (sumV (z, xs))) ∧ Below w.heap.size w w' := by
 have HT := Lib.hid (ArithI.fits z)
 have AL := Lib.hid (fun W (h : Below w.heap.size w W) => allTerms A c xs W (hA.below h) hl hs)
 have HO := Lib.hid (show sumV (z, xs) = (ArithM.inF z && decide (xs.length ≤ 4) && (xs.all termV && ordT xs)) from rfl)
 have B0 := Lib.hid ((Below.refl w.heap.size w).alloc (Nat.le_refl _) (Obj.cells #[Value.int IntKind.i64 z, Value.slice A xs.length c] 101))
 have V0 := Lib.hid (Lvar.new w #[Value.int IntKind.i64 z, Value.slice A xs.length c] 101)
 have OY := Lib.hid (fun h => (ordT_iff (ts := xs)).2 h)
 have ON := Lib.hid (fun k a b h1 h2 h => ordT_bad (ts := xs) (k := k) (a := a) (b := b) h1 h2 h)
 generalize sumV (z, xs) = R at *
 generalize ArithM.inF z = f at *
 cases f with
 | false =>
  have HF := Lib.hid (show R = false by rw [HO.out]; rfl)
  clear AL hA
  go_enter Tryz.func261, Tryz.ntmps261
  go_wp2_with fail
  refine (Calls.mono (HT.out _)) ?_
  rintro e w1 ⟨rfl, rfl⟩
  go_wp2
  go_ret
  exact ⟨ret_b HF.out.symm, B0.out⟩
 | true =>
  by_cases h4 : xs.length ≤ 4
  ·have HO2 := Lib.hid (show R = (xs.all termV && ordT xs) by rw [HO.out, decide_eq_true h4]; rfl)
   have hgt : decide ((xs.length : Int) > 4) = false := decide_eq_false (by omega)
   clear HO
   generalize xs.all termV = t at *
   cases t with
   | false =>
    have HF := Lib.hid (show R = false by rw [HO2.out]; rfl)
    clear hA
    have v0 := V0.out.cell 0 (.int .i64 z) rfl
    have v1 := V0.out.cell 1 (.slice A xs.length c) rfl
    go_enter Tryz.func261, Tryz.ntmps261
    go_wp2_with fail
    refine (Calls.mono (HT.out _)) ?_
    rintro e w1 ⟨rfl, rfl⟩
    go_wp2_with fail
    refine (Calls.mono (AL.out _ B0.out)) ?_
    rintro e w1 ⟨rfl, b1⟩
    have B1 := Lib.hid (B0.out.trans (b1.mono B0.out.size))
    clear b1
    go_wp2
    go_ret
    exact ⟨ret_b HF.out.symm, B1.out⟩
   | true =>
    have HO3 := Lib.hid (show R = ordT xs by rw [HO2.out]; rfl)
    have HA := Lib.hid hA
    clear hA HO2
    go_enter Tryz.func261, Tryz.ntmps261
    have v0 := V0.out.cell 0 (.int .i64 z) rfl
    have v1 := V0.out.cell 1 (.slice A xs.length c) rfl
    go_wp2_with fail
    refine (Calls.mono (HT.out _)) ?_
    rintro e w1 ⟨rfl, rfl⟩
    go_wp2_with fail
    refine (Calls.mono (AL.out _ B0.out)) ?_
    rintro e w1 ⟨rfl, b1⟩
    have B1 := Lib.hid (B0.out.trans (b1.mono B0.out.size))
    have V1 := Lib.hid (V0.out.below b1)
    clear b1 v0 v1 V0
    go_wp2
    go_loopw [3] (fun i wr => ∃ k : Nat, k ≤ xs.length ∧ i = .int .i64 ((k : Int) + 1) ∧ (∀ j a b, j < k → xs[j]? = some a → xs[j + 1]? = some b → ascN a b = true) ∧ Below w.heap.size w wr ∧ Lvar wr w.heap.size #[Value.int IntKind.i64 z, Value.slice A xs.length c]) (fun i _ => xs.length + 1 - (intOf i).toNat)
    case atStart => exact ⟨0, Nat.zero_le _, rfl, (fun j a b hj => absurd hj (Nat.not_lt_zero _)), B1.out, V1.out⟩
    case round =>
     obtain ⟨k, hk, rfl, hord, hb, hv⟩ := hrel
     have HOR := Lib.hid hord
     have HB := Lib.hid hb
     have HV := Lib.hid hv
     have v1 := hv.cell 1 (.slice A xs.length c) rfl
     clear hord hb hv
     by_cases hlt : k + 1 < xs.length
     ·have hltk : k < xs.length := by omega
      obtain ⟨b1, o1, e1, hbb, c0, c1⟩ := (HA.out.below HB.out).term_at hltk
      obtain ⟨b2, o2, e2, _, d0, d1⟩ := (HA.out.below HB.out).term_at hlt
      rw [e1] at e2
      injection e2 with e2; injection e2 with e3 e4
      subst e3; subst e4; subst e1
      have G1 := Lib.hid (List.getElem?_eq_getElem hltk)
      have G2 := Lib.hid (List.getElem?_eq_getElem hlt)
      generalize xs[k] = x at *
      generalize xs[k + 1] = y at *
      obtain ⟨z1, s⟩ := x
      obtain ⟨z2, t⟩ := y
      simp only at c0 c1 d0 d1
      have hi0 : (0 : Int) ≤ (k : Int) := by omega
      have hi1 : (k : Int) < (xs.length : Int) := by omega
      have hi2 : (k : Int) + 1 < (xs.length : Int) := by omega
      have hi3 : (k : Int) + 1 - 1 = (k : Int) := by omega
      have hi4 : ((k : Int) + 1).toNat = k + 1 := by omega
      have hless := bytes_less s t
      cases hc : decide (s.data.toList < t.data.toList) with
      | true =>
       rw [hc] at hless
       have HN := Lib.hid (show ∀ j a b, j < k + 1 → xs[j]? = some a → xs[j + 1]? = some b → ascN a b = true from fun j a b hj h1 h2 => by
        by_cases e : j = k
        ·subst e
         obtain rfl := Option.some.inj (G1.out.symm.trans h1)
         obtain rfl := Option.some.inj (G2.out.symm.trans h2)
         exact hc
        ·exact HOR.out j a b (by omega) h1 h2)
       clear hc
       go_wp2
       go_quiet (fail)
       go_wp2
       go_roundw
       case rel => exact ⟨k + 1, by omega, by go_num, HN.out, below_drewN HB.out _, HV.out.below (below_drewN (Below.refl _ _) _)⟩
       case measure => simp [intOf]; omega
      | false =>
       rw [hc] at hless
       have HF := Lib.hid (show R = false by rw [HO3.out]; exact ON.out k _ _ G1.out G2.out hc)
       clear hc
       go_wp2
       go_quiet (fail)
       go_wp2
       go_ret
       exact ⟨ret_b HF.out.symm, below_drewN HB.out _⟩
     ·have HF := Lib.hid (show R = true by
       rw [HO3.out]
       exact OY.out (fun j a b h1 h2 => HOR.out j a b (by have := (List.getElem?_eq_some_iff.1 h2).1; omega) h1 h2))
      go_wp2
      go_ret
      exact ⟨ret_b HF.out.symm, HB.out⟩
  ·have HF := Lib.hid (show R = false by rw [HO.out, decide_eq_false h4]; rfl)
   have hgt : decide ((xs.length : Int) > 4) = true := decide_eq_true (by omega)
   clear AL hA
   go_enter Tryz.func261, Tryz.ntmps261
   go_wp2_with fail
   refine (Calls.mono (HT.out _)) ?_
   rintro e w1 ⟨rfl, rfl⟩
   go_wp2
   go_ret
   exact ⟨ret_b HF.out.symm, B0.out⟩
end ArgI
end Go.Proofs.YtbbllkhmenpnlaaGreat

/-
  The program's arguments: validity.
-/
namespace Go.Proofs.YtbbllkhmenpnlaaGreat
open Go.RowKit
namespace ArgI
open RowK Mem ArgM

theorem sum_len {xs : List SumT} {k : Nat} (hk : k < xs.length) (h : xs.length + szs ssl xs ≤ 1000000000) : xs[k].2.length ≤ 1000000000 := by
 have := szs_mem (sz := ssl) (List.getElem_mem hk)
 simp only [ssl] at this
 omega
set_option maxHeartbeats 1000000 in
set_option maxRecDepth 100000 in
theorem allSums (A : Option Addr) (c : Nat) (xs : List SumT) (w : World) (hA : ArgS Mem.sum w A xs.length c xs) (hl : xs.length + szs ssl xs ≤ 1000000000) (hs : ∀ x ∈ xs, ∀ t ∈ x.2, t.2.size ≤ 9223372036854775807) :
  Calls Tryz.prog 260 #[.slice A xs.length c, .func (.func 261) #[] #[]] w fun e w' => e = .returned (.bool (xs.all sumV)) ∧ Below w.heap.size w w' := by
 have hxl : xs.length ≤ 1000000000 := by omega
 have HL := Lib.hid hl
 have HA := Lib.hid hA
 have HSS := Lib.hid hs
 clear hA hs hl
 go_enter Tryz.func260, Tryz.ntmps260
 go_wp2
 go_loopw [9] (fun i wr => ∃ k : Nat, k ≤ xs.length ∧ i = .int .i64 k ∧ (xs.take k).all sumV = true ∧ Below w.heap.size w wr) (fun i _ => xs.length - (intOf i).toNat)
 case atStart => exact ⟨0, Nat.zero_le _, rfl, rfl, Below.refl _ _⟩
 case round =>
  obtain ⟨k, hk, rfl, hall, hb⟩ := hrel
  have HAL := Lib.hid hall
  have HB := Lib.hid hb
  clear hall hb
  by_cases hlt : k < xs.length
  ·obtain ⟨b2, o, B, d, rfl, hbb, c0, c1, hts⟩ := (HA.out.below HB.out).sum_at hlt
   have hs9 := sum_len hlt HL.out
   have hsz := HSS.out _ (List.getElem_mem hlt)
   have HN := Lib.hid (fun h => all_fail (p := sumV) hlt h)
   have HY := Lib.hid (fun h => all_snoc (p := sumV) hlt HAL.out h)
   generalize xs[k] = x at *
   obtain ⟨z, ts⟩ := x
   simp only at c0 c1 hs9 hts hsz
   have ha : Below wr.heap.size wr (wr.alloc (Obj.cells #[Value.int IntKind.i64 z, Value.slice B ts.length d] 101)) := (Below.refl _ _).alloc (Nat.le_refl _) _
   have BA := Lib.hid (HB.out.trans (ha.mono HB.out.size))
   have VL := Lib.hid (validSum z B d ts _ (hts.below ha) hs9 hsz)
   have hi0 : (0 : Int) ≤ (k : Int) := by omega
   have hi1 : (k : Int) < (xs.length : Int) := by omega
   generalize sumV (z, ts) = t at *
   clear ha hs9 hts hsz
   cases t with
   | false =>
    have HR := Lib.hid (HN.out rfl)
    clear HN HY
    go_wp2_with fail
    refine (Calls.mono VL.out) ?_
    rintro e w1 ⟨rfl, b1⟩
    have B1 := Lib.hid (BA.out.trans (b1.mono BA.out.size))
    clear b1
    go_wp2
    go_ret
    exact ⟨by rw [HR.out]; try rfl, B1.out⟩
   | true =>
    have HT := Lib.hid (HY.out rfl)
    clear HN HY
    go_wp2_with fail
    refine (Calls.mono VL.out) ?_
    rintro e w1 ⟨rfl, b1⟩
    have B1 := Lib.hid (BA.out.trans (b1.mono BA.out.size))
    clear b1
    go_wp2
    go_roundw
    case rel => exact ⟨k + 1, by omega, by go_num, HT.out, B1.out⟩
    case measure => simp [intOf]; omega
  ·obtain rfl : k = xs.length := by omega
   have HR := Lib.hid (show xs.all sumV = true by have := HAL.out; rwa [List.take_length] at this)
   clear HAL
   go_wp2
   go_ret
   exact ⟨by rw [HR.out]; try rfl, HB.out⟩

set_option maxHeartbeats 1000000 in
set_option maxRecDepth 100000 in
theorem validHeads (A : Option Addr) (c : Nat) (xs : List SumT) (s : ByteArray) (w : World) (hA : ArgS Mem.sum w A xs.length c xs) (hl : xs.length + szs ssl xs ≤ 1000000000) (hs : ∀ x ∈ xs, ∀ t ∈ x.2, t.2.size ≤ 9223372036854775807) :
  Calls Tryz.prog 257 #[.agg #[.slice A xs.length c, .string s]] w fun e w' => e = .returned (.bool (xs.all sumV)) ∧ Below w.heap.size w w' := by
 have B0 := Lib.hid ((Below.refl w.heap.size w).alloc (Nat.le_refl _) (Obj.cells #[Value.slice A xs.length c, Value.string s] 256))
 have AL := Lib.hid (allSums A c xs _ (hA.below B0.out) hl hs)
 clear hA hl hs
 go_enter Tryz.func257, Tryz.ntmps257
 go_wp2_with fail
 refine (Calls.mono AL.out) ?_
 rintro e w1 ⟨rfl, b1⟩
 have B1 := Lib.hid (B0.out.trans (b1.mono B0.out.size))
 clear b1
 go_wp2
 go_ret
 exact ⟨rfl, B1.out⟩

def intV (xs : List SumT) (s : ByteArray) : Bool := decide (xs.length = 1) && (decide (s.size = 0) && xs.all sumV)
def lstV (xs : List SumT) (s : ByteArray) : Bool := decide (xs.length ≤ 3) && (baseV s && xs.all sumV)
theorem argV_form (p : Bool) (xs : List SumT) (s : ByteArray) : argV (p, xs, s) = if p then lstV xs s else intV xs s := by
 unfold argV lstV intV
 cases p
 ·simp only [Bool.false_eq_true, if_false]
  rw [Bool.and_comm, Bool.and_assoc]
 ·simp only [if_true]
  rw [Bool.and_comm, Bool.and_assoc]
theorem str_empty (s : ByteArray) : (s.toList == ([] : List UInt8)) = decide (s.size = 0) := by
 rw [ByteArray.toList_eq]
 by_cases h : s.size = 0
 ·rw [TextM.size_zero h, decide_eq_true h]; rfl
 ·rw [decide_eq_false h, beq_eq_false_iff_ne]
  intro e
  have := congrArg List.length e
  rw [TextM.size_list] at this
  exact h this

set_option maxHeartbeats 1000000 in
set_option maxRecDepth 100000 in
theorem intValid (A : Option Addr) (c : Nat) (xs : List SumT) (s : ByteArray) (w : World) (hA : ArgS Mem.sum w A xs.length c xs) (hl : xs.length + szs ssl xs ≤ 1000000000) (hs : ∀ x ∈ xs, ∀ t ∈ x.2, t.2.size ≤ 9223372036854775807) :
  Calls Tryz.prog 265 #[.agg #[.slice A xs.length c, .string s]] w fun e w' => e = .returned (.bool (intV xs s)) ∧ Below w.heap.size w w' := by
 have B0 := Lib.hid ((Below.refl w.heap.size w).alloc (Nat.le_refl _) (Obj.cells #[Value.slice A xs.length c, Value.string s] 259))
 have AL := Lib.hid (validHeads A c xs s _ (hA.below B0.out) hl hs)
 have HO := Lib.hid (show intV xs s = (decide (xs.length = 1) && (decide (s.size = 0) && xs.all sumV)) from rfl)
 have hse := str_empty s
 generalize intV xs s = R at *
 generalize xs.all sumV = t at *
 clear hA hl hs
 by_cases h1 : xs.length = 1
 ·have HO1 := Lib.hid (decide_eq_true h1)
  rw [h1] at AL B0 ⊢
  clear h1
  by_cases h2 : s.size = 0
  ·rw [decide_eq_true h2] at hse
   have HF := Lib.hid (show R = t by rw [HO.out, HO1.out, decide_eq_true h2]; rfl)
   go_enter Tryz.func265, Tryz.ntmps265
   go_wp2_with fail
   refine (Calls.mono AL.out) ?_
   rintro e w1 ⟨rfl, b1⟩
   have B1 := Lib.hid (B0.out.trans (b1.mono B0.out.size))
   clear b1
   go_wp2
   go_ret
   exact ⟨ret_b HF.out.symm, B1.out⟩
  ·rw [decide_eq_false h2] at hse
   have HF := Lib.hid (show R = false by rw [HO.out, HO1.out, decide_eq_false h2]; rfl)
   go_enter Tryz.func265, Tryz.ntmps265
   go_wp2
   go_ret
   exact ⟨ret_b HF.out.symm, B0.out⟩
 ·have hq : ((xs.length : Int) == 1) = false := beq_eq_false_iff_ne.2 (by omega)
  have HF := Lib.hid (show R = false by rw [HO.out, decide_eq_false h1]; rfl)
  go_enter Tryz.func265, Tryz.ntmps265
  go_wp2
  go_ret
  exact ⟨ret_b HF.out.symm, B0.out⟩

set_option maxHeartbeats 1000000 in
set_option maxRecDepth 100000 in
theorem listValid (A : Option Addr) (c : Nat) (xs : List SumT) (s : ByteArray) (w : World) (hA : ArgS Mem.sum w A xs.length c xs) (hl : xs.length + szs ssl xs ≤ 1000000000) (hs : ∀ x ∈ xs, ∀ t ∈ x.2, t.2.size ≤ 9223372036854775807) (hb : s.size ≤ 9223372036854775807) :
  Calls Tryz.prog 258 #[.agg #[.slice A xs.length c, .string s]] w fun e w' => e = .returned (.bool (lstV xs s)) ∧ Below w.heap.size w w' := by
 have B0 := Lib.hid ((Below.refl w.heap.size w).alloc (Nat.le_refl _) (Obj.cells #[Value.slice A xs.length c, Value.string s] 258))
 have V0 := Lib.hid (Lvar.new w #[Value.slice A xs.length c, Value.string s] 258)
 have AL := Lib.hid (fun W (h : Below w.heap.size w W) => validHeads A c xs s W (hA.below h) hl hs)
 have LN := Lib.hid (fun W => NameS.implList s W (by unfold maxLen; exact hb))
 have HO := Lib.hid (show lstV xs s = (decide (xs.length ≤ 3) && ((decide (s.size = 0) || NameM.listName s) && xs.all sumV)) from rfl)
 have hse := str_empty s
 generalize lstV xs s = R at *
 generalize xs.all sumV = t at *
 generalize NameM.listName s = v at *
 have hxl : xs.length ≤ 1000000000 := by omega
 clear hA hl hs
 by_cases h1 : xs.length ≤ 3
 ·have hq : decide ((xs.length : Int) ≤ 3) = true := decide_eq_true (by omega)
  by_cases h2 : s.size = 0
  ·rw [decide_eq_true h2] at hse
   have HF := Lib.hid (show R = t by rw [HO.out, decide_eq_true h1, decide_eq_true h2]; simp)
   go_enter Tryz.func258, Tryz.ntmps258
   go_wp2_with fail
   refine (Calls.mono (AL.out _ B0.out)) ?_
   rintro e w1 ⟨rfl, b1⟩
   have B1 := Lib.hid (B0.out.trans (b1.mono B0.out.size))
   clear b1
   go_wp2
   go_ret
   exact ⟨ret_b HF.out.symm, B1.out⟩
  ·rw [decide_eq_false h2] at hse
   have HO2 := Lib.hid (show R = (v && t) by rw [HO.out, decide_eq_true h1, decide_eq_false h2]; simp)
   clear HO
   cases v with
   | false =>
    have HF := Lib.hid (show R = false by rw [HO2.out]; rfl)
    go_enter Tryz.func258, Tryz.ntmps258
    go_wp2_with fail
    refine (Calls.mono (LN.out _)) ?_
    rintro e w1 ⟨rfl, b1⟩
    have B1 := Lib.hid (B0.out.trans (b1.mono B0.out.size))
    clear b1
    go_wp2
    go_ret
    exact ⟨ret_b HF.out.symm, B1.out⟩
   | true =>
    have HF := Lib.hid (show R = t by rw [HO2.out]; rfl)
    go_enter Tryz.func258, Tryz.ntmps258
    go_wp2_with fail
    refine (Calls.mono (LN.out _)) ?_
    rintro e w1 ⟨rfl, b1⟩
    have B1 := Lib.hid (B0.out.trans (b1.mono B0.out.size))
    have v0 := (V0.out.below b1).cell 0 (.slice A xs.length c) rfl
    have v1 := (V0.out.below b1).cell 1 (.string s) rfl
    clear b1
    go_wp2_with fail
    refine (Calls.mono (AL.out _ B1.out)) ?_
    rintro e w2 ⟨rfl, b2⟩
    have B2 := Lib.hid (B1.out.trans (b2.mono B1.out.size))
    clear b2
    go_wp2
    go_ret
    exact ⟨ret_b HF.out.symm, B2.out⟩
 ·have hq : decide ((xs.length : Int) ≤ 3) = false := decide_eq_false (by omega)
  have HF := Lib.hid (show R = false by rw [HO.out, decide_eq_false h1]; rfl)
  go_enter Tryz.func258, Tryz.ntmps258
  go_wp2
  go_ret
  exact ⟨ret_b HF.out.symm, B0.out⟩

def formT (p : Bool) : TypeId := if p then 258 else 259
set_option maxHeartbeats 1000000 in
set_option maxRecDepth 100000 in
theorem formOf (p : Bool) (A : Option Addr) (n c : Nat) (s : ByteArray) (w : World) :
  Calls Tryz.prog 205 #[.agg #[.bool p, .slice A n c, .string s]] w fun e w' => e = .returned (.iface (formT p) (.agg #[.slice A n c, .string s])) ∧ Below w.heap.size w w' := by
 have B0 := Lib.hid (((Below.refl w.heap.size w).alloc (Nat.le_refl _) (Obj.cells #[Value.bool p, Value.slice A n c, Value.string s] 46)).alloc (by simp) (Obj.cells #[Value.slice A n c, Value.string s] 256))
 cases p
 all_goals
  go_enter Tryz.func205, Tryz.ntmps205
  go_wp2
  go_ret
  exact ⟨rfl, B0.out⟩

set_option maxHeartbeats 1000000 in
set_option maxRecDepth 100000 in
theorem validArg (p : Bool) (A : Option Addr) (c : Nat) (xs : List SumT) (s : ByteArray) (w : World) (hA : ArgS Mem.sum w A xs.length c xs) (hl : xs.length + szs ssl xs ≤ 1000000000) (hs : ∀ x ∈ xs, ∀ t ∈ x.2, t.2.size ≤ 9223372036854775807) (hb : s.size ≤ 9223372036854775807) :
  Calls Tryz.prog 176 #[.agg #[.bool p, .slice A xs.length c, .string s]] w fun e w' => e = .returned (.bool (argV (p, xs, s))) ∧ Below w.heap.size w w' := by
 have B0 := Lib.hid ((Below.refl w.heap.size w).alloc (Nat.le_refl _) (Obj.cells #[Value.bool p, Value.slice A xs.length c, Value.string s] 46))
 have FO := Lib.hid (fun W => formOf p A xs.length c s W)
 rw [argV_form]
 cases p with
 | false =>
  have IV := Lib.hid (fun W (h : Below w.heap.size w W) => intValid A c xs s W (hA.below h) hl hs)
  clear hA hl hs
  simp only [formT, Bool.false_eq_true, if_false] at FO ⊢
  go_enter Tryz.func176, Tryz.ntmps176
  go_wp2_with fail
  refine (Calls.mono (FO.out _)) ?_
  rintro e w1 ⟨rfl, b1⟩
  have B1 := Lib.hid (B0.out.trans (b1.mono B0.out.size))
  clear b1
  go_wp2_with fail
  refine (Calls.mono (IV.out _ B1.out)) ?_
  rintro e w2 ⟨rfl, b2⟩
  have B2 := Lib.hid (B1.out.trans (b2.mono B1.out.size))
  clear b2
  go_wp2
  go_ret
  exact ⟨rfl, B2.out⟩
 | true =>
  have IV := Lib.hid (fun W (h : Below w.heap.size w W) => listValid A c xs s W (hA.below h) hl hs hb)
  clear hA hl hs
  simp only [formT, if_true] at FO ⊢
  go_enter Tryz.func176, Tryz.ntmps176
  go_wp2_with fail
  refine (Calls.mono (FO.out _)) ?_
  rintro e w1 ⟨rfl, b1⟩
  have B1 := Lib.hid (B0.out.trans (b1.mono B0.out.size))
  clear b1
  go_wp2_with fail
  refine (Calls.mono (IV.out _ B1.out)) ?_
  rintro e w2 ⟨rfl, b2⟩
  have B2 := Lib.hid (B1.out.trans (b2.mono B1.out.size))
  clear b2
  go_wp2
  go_ret
  exact ⟨rfl, B2.out⟩
end ArgI
end Go.Proofs.YtbbllkhmenpnlaaGreat
