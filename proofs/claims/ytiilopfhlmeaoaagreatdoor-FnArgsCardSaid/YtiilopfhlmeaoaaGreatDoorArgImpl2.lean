import Derived.Test.YtiilopfhlmeaoaaGreatDoorArgImpl
import Derived.Handy
/-
  The program's arguments: validity.
-/
namespace Go.Proofs.YtiilopfhlmeaoaaGreatDoor
open Go.RowKit
namespace ArgI
open RowK Mem ArgM

theorem sum_len {xs : List SumT} {k : Nat} (hk : k < xs.length) (h : xs.length + szs ssl xs ≤ 1000000000) : xs[k].2.length ≤ 1000000000 := by
  have := szs_mem (sz := ssl) (List.getElem_mem hk)
  simp only [ssl] at this
  omega
set_option maxHeartbeats 1000000 in
set_option maxRecDepth 100000 in
theorem allSums (A : Option Addr) (c : Nat) (xs : List SumT) (w : World) (hA : ArgS Mem.sum w A xs.length c xs) (hl : xs.length + szs ssl xs ≤ 1000000000) (hs : ∀ x ∈ xs, ∀ t ∈ x.2, t.2.size ≤ 9223372036854775807) :
    Calls Tryz.prog 187 #[.slice A xs.length c, .func (.func 43) #[] #[]] w fun e w' => e = .returned (.bool (xs.all sumV)) ∧ Below w.heap.size w w' := by
  have hxl : xs.length ≤ 1000000000 := by omega
  have HL := Lib.hid hl
  have HA := Lib.hid hA
  have HSS := Lib.hid hs
  clear hA hs hl
  go_enter Tryz.func187, Tryz.ntmps187
  go_wp2
  go_loopw [9] (fun i wr => ∃ k : Nat, k ≤ xs.length ∧ i = .int .i64 k ∧ (xs.take k).all sumV = true ∧ Below w.heap.size w wr) (fun i _ => xs.length - (intOf i).toNat)
  case atStart => exact ⟨0, Nat.zero_le _, rfl, rfl, Below.refl _ _⟩
  case round =>
    obtain ⟨k, hk, rfl, hall, hb⟩ := hrel
    have HAL := Lib.hid hall
    have HB := Lib.hid hb
    clear hall hb
    by_cases hlt : k < xs.length
    · obtain ⟨b2, o, B, d, rfl, hbb, c0, c1, hts⟩ := (HA.out.below HB.out).sum_at hlt
      have hs9 := sum_len hlt HL.out
      have hsz := HSS.out _ (List.getElem_mem hlt)
      have HN := Lib.hid (fun h => all_fail (p := sumV) hlt h)
      have HY := Lib.hid (fun h => all_snoc (p := sumV) hlt HAL.out h)
      generalize xs[k] = x at *
      obtain ⟨z, ts⟩ := x
      simp only at c0 c1 hs9 hts hsz
      have ha : Below wr.heap.size wr (wr.alloc (Obj.cells #[Value.int IntKind.i64 z, Value.slice B ts.length d] 50)) := (Below.refl _ _).alloc (Nat.le_refl _) _
      have BA := Lib.hid (HB.out.trans (ha.mono HB.out.size))
      have VL := Lib.hid (validSum z B d ts _ (hts.below ha) hs9 hsz)
      have hi0 : (0 : Int) ≤ (k : Int) := by omega
      have hi1 : (k : Int) < (xs.length : Int) := by omega
      generalize sumV (z, ts) = t at *
      clear ha hs9 hts hsz
      cases t with
      | false =>
        have HR := Lib.hid (HN.out rfl)
        clear HN HY
        go_wp2_with fail
        refine (Calls.mono VL.out) ?_
        rintro e w1 ⟨rfl, b1⟩
        have B1 := Lib.hid (BA.out.trans (b1.mono BA.out.size))
        clear b1
        go_wp2
        go_ret
        exact ⟨by rw [HR.out]; try rfl, B1.out⟩
      | true =>
        have HT := Lib.hid (HY.out rfl)
        clear HN HY
        go_wp2_with fail
        refine (Calls.mono VL.out) ?_
        rintro e w1 ⟨rfl, b1⟩
        have B1 := Lib.hid (BA.out.trans (b1.mono BA.out.size))
        clear b1
        go_wp2
        go_roundw
        case rel => exact ⟨k + 1, by omega, by go_num, HT.out, B1.out⟩
        case measure => simp [intOf]; omega
    · obtain rfl : k = xs.length := by omega
      have HR := Lib.hid (show xs.all sumV = true by have := HAL.out; rwa [List.take_length] at this)
      clear HAL
      go_wp2
      go_ret
      exact ⟨by rw [HR.out]; try rfl, HB.out⟩

set_option maxHeartbeats 1000000 in
set_option maxRecDepth 100000 in
theorem validHeads (A : Option Addr) (c : Nat) (xs : List SumT) (s : ByteArray) (w : World) (hA : ArgS Mem.sum w A xs.length c xs) (hl : xs.length + szs ssl xs ≤ 1000000000) (hs : ∀ x ∈ xs, ∀ t ∈ x.2, t.2.size ≤ 9223372036854775807) :
    Calls Tryz.prog 184 #[.agg #[.slice A xs.length c, .string s]] w fun e w' => e = .returned (.bool (xs.all sumV)) ∧ Below w.heap.size w w' := by
  have B0 := Lib.hid ((Below.refl w.heap.size w).alloc (Nat.le_refl _) (Obj.cells #[Value.slice A xs.length c, Value.string s] 71))
  have AL := Lib.hid (allSums A c xs _ (hA.below B0.out) hl hs)
  clear hA hl hs
  go_enter Tryz.func184, Tryz.ntmps184
  go_wp2_with fail
  refine (Calls.mono AL.out) ?_
  rintro e w1 ⟨rfl, b1⟩
  have B1 := Lib.hid (B0.out.trans (b1.mono B0.out.size))
  clear b1
  go_wp2
  go_ret
  exact ⟨rfl, B1.out⟩

def intV (xs : List SumT) (s : ByteArray) : Bool := decide (xs.length = 1) && (decide (s.size = 0) && xs.all sumV)
def lstV (xs : List SumT) (s : ByteArray) : Bool := decide (xs.length ≤ 3) && (baseV s && xs.all sumV)
theorem argV_form (p : Bool) (xs : List SumT) (s : ByteArray) : argV (p, xs, s) = if p then lstV xs s else intV xs s := by
  unfold argV lstV intV
  cases p
  · simp only [Bool.false_eq_true, if_false]
    rw [Bool.and_comm, Bool.and_assoc]
  · simp only [if_true]
    rw [Bool.and_comm, Bool.and_assoc]
theorem str_empty (s : ByteArray) : (s.toList == ([] : List UInt8)) = decide (s.size = 0) := by
  rw [ByteArray.toList_eq]
  by_cases h : s.size = 0
  · rw [TextM.size_zero h, decide_eq_true h]; rfl
  · rw [decide_eq_false h, beq_eq_false_iff_ne]
    intro e
    have := congrArg List.length e
    rw [TextM.size_list] at this
    exact h this

set_option maxHeartbeats 1000000 in
set_option maxRecDepth 100000 in
theorem intValid (A : Option Addr) (c : Nat) (xs : List SumT) (s : ByteArray) (w : World) (hA : ArgS Mem.sum w A xs.length c xs) (hl : xs.length + szs ssl xs ≤ 1000000000) (hs : ∀ x ∈ xs, ∀ t ∈ x.2, t.2.size ≤ 9223372036854775807) :
    Calls Tryz.prog 188 #[.agg #[.slice A xs.length c, .string s]] w fun e w' => e = .returned (.bool (intV xs s)) ∧ Below w.heap.size w w' := by
  have B0 := Lib.hid ((Below.refl w.heap.size w).alloc (Nat.le_refl _) (Obj.cells #[Value.slice A xs.length c, Value.string s] 74))
  have AL := Lib.hid (validHeads A c xs s _ (hA.below B0.out) hl hs)
  have HO := Lib.hid (show intV xs s = (decide (xs.length = 1) && (decide (s.size = 0) && xs.all sumV)) from rfl)
  have hse := str_empty s
  generalize intV xs s = R at *
  generalize xs.all sumV = t at *
  clear hA hl hs
  by_cases h1 : xs.length = 1
  · have HO1 := Lib.hid (decide_eq_true h1)
    rw [h1] at AL B0 ⊢
    clear h1
    by_cases h2 : s.size = 0
    · rw [decide_eq_true h2] at hse
      have HF := Lib.hid (show R = t by rw [HO.out, HO1.out, decide_eq_true h2]; rfl)
      go_enter Tryz.func188, Tryz.ntmps188
      go_wp2_with fail
      refine (Calls.mono AL.out) ?_
      rintro e w1 ⟨rfl, b1⟩
      have B1 := Lib.hid (B0.out.trans (b1.mono B0.out.size))
      clear b1
      go_wp2
      go_ret
      exact ⟨ret_b HF.out.symm, B1.out⟩
    · rw [decide_eq_false h2] at hse
      have HF := Lib.hid (show R = false by rw [HO.out, HO1.out, decide_eq_false h2]; rfl)
      go_enter Tryz.func188, Tryz.ntmps188
      go_wp2
      go_ret
      exact ⟨ret_b HF.out.symm, B0.out⟩
  · have hq : ((xs.length : Int) == 1) = false := beq_eq_false_iff_ne.2 (by omega)
    have HF := Lib.hid (show R = false by rw [HO.out, decide_eq_false h1]; rfl)
    go_enter Tryz.func188, Tryz.ntmps188
    go_wp2
    go_ret
    exact ⟨ret_b HF.out.symm, B0.out⟩

set_option maxHeartbeats 1000000 in
set_option maxRecDepth 100000 in
theorem listValid (A : Option Addr) (c : Nat) (xs : List SumT) (s : ByteArray) (w : World) (hA : ArgS Mem.sum w A xs.length c xs) (hl : xs.length + szs ssl xs ≤ 1000000000) (hs : ∀ x ∈ xs, ∀ t ∈ x.2, t.2.size ≤ 9223372036854775807) (hb : s.size ≤ 9223372036854775807) :
    Calls Tryz.prog 185 #[.agg #[.slice A xs.length c, .string s]] w fun e w' => e = .returned (.bool (lstV xs s)) ∧ Below w.heap.size w w' := by
  have B0 := Lib.hid ((Below.refl w.heap.size w).alloc (Nat.le_refl _) (Obj.cells #[Value.slice A xs.length c, Value.string s] 73))
  have V0 := Lib.hid (Lvar.new w #[Value.slice A xs.length c, Value.string s] 73)
  have AL := Lib.hid (fun W (h : Below w.heap.size w W) => validHeads A c xs s W (hA.below h) hl hs)
  have LN := Lib.hid (fun W => NameS.implList s W (by unfold maxLen; exact hb))
  have HO := Lib.hid (show lstV xs s = (decide (xs.length ≤ 3) && ((decide (s.size = 0) || NameM.listName s) && xs.all sumV)) from rfl)
  have hse := str_empty s
  generalize lstV xs s = R at *
  generalize xs.all sumV = t at *
  generalize NameM.listName s = v at *
  have hxl : xs.length ≤ 1000000000 := by omega
  clear hA hl hs
  by_cases h1 : xs.length ≤ 3
  · have hq : decide ((xs.length : Int) ≤ 3) = true := decide_eq_true (by omega)
    by_cases h2 : s.size = 0
    · rw [decide_eq_true h2] at hse
      have HF := Lib.hid (show R = t by rw [HO.out, decide_eq_true h1, decide_eq_true h2]; simp)
      go_enter Tryz.func185, Tryz.ntmps185
      go_wp2_with fail
      refine (Calls.mono (AL.out _ B0.out)) ?_
      rintro e w1 ⟨rfl, b1⟩
      have B1 := Lib.hid (B0.out.trans (b1.mono B0.out.size))
      clear b1
      go_wp2
      go_ret
      exact ⟨ret_b HF.out.symm, B1.out⟩
    · rw [decide_eq_false h2] at hse
      have HO2 := Lib.hid (show R = (v && t) by rw [HO.out, decide_eq_true h1, decide_eq_false h2]; simp)
      clear HO
      cases v with
      | false =>
        have HF := Lib.hid (show R = false by rw [HO2.out]; rfl)
        go_enter Tryz.func185, Tryz.ntmps185
        go_wp2_with fail
        refine (Calls.mono (LN.out _)) ?_
        rintro e w1 ⟨rfl, b1⟩
        have B1 := Lib.hid (B0.out.trans (b1.mono B0.out.size))
        clear b1
        go_wp2
        go_ret
        exact ⟨ret_b HF.out.symm, B1.out⟩
      | true =>
        have HF := Lib.hid (show R = t by rw [HO2.out]; rfl)
        go_enter Tryz.func185, Tryz.ntmps185
        go_wp2_with fail
        refine (Calls.mono (LN.out _)) ?_
        rintro e w1 ⟨rfl, b1⟩
        have B1 := Lib.hid (B0.out.trans (b1.mono B0.out.size))
        have v0 := (V0.out.below b1).cell 0 (.slice A xs.length c) rfl
        have v1 := (V0.out.below b1).cell 1 (.string s) rfl
        clear b1
        go_wp2_with fail
        refine (Calls.mono (AL.out _ B1.out)) ?_
        rintro e w2 ⟨rfl, b2⟩
        have B2 := Lib.hid (B1.out.trans (b2.mono B1.out.size))
        clear b2
        go_wp2
        go_ret
        exact ⟨ret_b HF.out.symm, B2.out⟩
  · have hq : decide ((xs.length : Int) ≤ 3) = false := decide_eq_false (by omega)
    have HF := Lib.hid (show R = false by rw [HO.out, decide_eq_false h1]; rfl)
    go_enter Tryz.func185, Tryz.ntmps185
    go_wp2
    go_ret
    exact ⟨ret_b HF.out.symm, B0.out⟩

def formT (p : Bool) : TypeId := if p then 73 else 74
set_option maxHeartbeats 1000000 in
set_option maxRecDepth 100000 in
theorem formOf (p : Bool) (A : Option Addr) (n c : Nat) (s : ByteArray) (w : World) :
    Calls Tryz.prog 20 #[.agg #[.bool p, .slice A n c, .string s]] w fun e w' => e = .returned (.iface (formT p) (.agg #[.slice A n c, .string s])) ∧ Below w.heap.size w w' := by
  have B0 := Lib.hid (((Below.refl w.heap.size w).alloc (Nat.le_refl _) (Obj.cells #[Value.bool p, Value.slice A n c, Value.string s] 26)).alloc (by simp) (Obj.cells #[Value.slice A n c, Value.string s] 71))
  cases p
  all_goals
    go_enter Tryz.func20, Tryz.ntmps20
    go_wp2
    go_ret
    exact ⟨rfl, B0.out⟩

set_option maxHeartbeats 1000000 in
set_option maxRecDepth 100000 in
theorem validArg (p : Bool) (A : Option Addr) (c : Nat) (xs : List SumT) (s : ByteArray) (w : World) (hA : ArgS Mem.sum w A xs.length c xs) (hl : xs.length + szs ssl xs ≤ 1000000000) (hs : ∀ x ∈ xs, ∀ t ∈ x.2, t.2.size ≤ 9223372036854775807) (hb : s.size ≤ 9223372036854775807) :
    Calls Tryz.prog 11 #[.agg #[.bool p, .slice A xs.length c, .string s]] w fun e w' => e = .returned (.bool (argV (p, xs, s))) ∧ Below w.heap.size w w' := by
  have B0 := Lib.hid ((Below.refl w.heap.size w).alloc (Nat.le_refl _) (Obj.cells #[Value.bool p, Value.slice A xs.length c, Value.string s] 26))
  have FO := Lib.hid (fun W => formOf p A xs.length c s W)
  rw [argV_form]
  cases p with
  | false =>
    have IV := Lib.hid (fun W (h : Below w.heap.size w W) => intValid A c xs s W (hA.below h) hl hs)
    clear hA hl hs
    simp only [formT, Bool.false_eq_true, if_false] at FO ⊢
    go_enter Tryz.func11, Tryz.ntmps11
    go_wp2_with fail
    refine (Calls.mono (FO.out _)) ?_
    rintro e w1 ⟨rfl, b1⟩
    have B1 := Lib.hid (B0.out.trans (b1.mono B0.out.size))
    clear b1
    go_wp2_with fail
    refine (Calls.mono (IV.out _ B1.out)) ?_
    rintro e w2 ⟨rfl, b2⟩
    have B2 := Lib.hid (B1.out.trans (b2.mono B1.out.size))
    clear b2
    go_wp2
    go_ret
    exact ⟨rfl, B2.out⟩
  | true =>
    have IV := Lib.hid (fun W (h : Below w.heap.size w W) => listValid A c xs s W (hA.below h) hl hs hb)
    clear hA hl hs
    simp only [formT, if_true] at FO ⊢
    go_enter Tryz.func11, Tryz.ntmps11
    go_wp2_with fail
    refine (Calls.mono (FO.out _)) ?_
    rintro e w1 ⟨rfl, b1⟩
    have B1 := Lib.hid (B0.out.trans (b1.mono B0.out.size))
    clear b1
    go_wp2_with fail
    refine (Calls.mono (IV.out _ B1.out)) ?_
    rintro e w2 ⟨rfl, b2⟩
    have B2 := Lib.hid (B1.out.trans (b2.mono B1.out.size))
    clear b2
    go_wp2
    go_ret
    exact ⟨rfl, B2.out⟩
end ArgI
end Go.Proofs.YtiilopfhlmeaoaaGreatDoor
