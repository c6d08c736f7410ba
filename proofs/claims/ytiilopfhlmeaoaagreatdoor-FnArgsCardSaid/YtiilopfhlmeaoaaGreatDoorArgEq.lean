import Derived.Test.YtiilopfhlmeaoaaGreatDoorArgImpl2
import Derived.Laws.StructEq
/-
  Sums and arguments: comparison, of the program and of the model.
-/
namespace Go.Proofs.YtiilopfhlmeaoaaGreatDoor
open Go.RowKit
namespace ArgI
open RowK Mem ArgM

theorem take_same {α : Type} {xs ys : List α} {k : Nat} (h1 : k < xs.length) (h2 : k < ys.length) (h : xs.take k = ys.take k) (e : xs[k] = ys[k]) : xs.take (k + 1) = ys.take (k + 1) := by
  rw [take_snoc h1, take_snoc h2, h, e]
set_option maxHeartbeats 1000000 in
set_option maxRecDepth 100000 in
theorem eqTerms (A B : Option Addr) (c d : Nat) (xs ys : List (Int × ByteArray)) (w : World) (hA : ArgS term w A xs.length c xs) (hB : ArgS term w B ys.length d ys) (hl : xs.length ≤ 1000000000) (_hl2 : ys.length ≤ 1000000000) :
    Calls Tryz.prog 49 #[.slice A xs.length c, .slice B ys.length d] w fun e w' => e = .returned (.bool (decide (xs = ys))) ∧ Below w.heap.size w w' := by
  by_cases hlen : xs.length = ys.length
  · have HEN := Lib.hid hlen
    have hne : ((xs.length : Int) != (ys.length : Int)) = false := by simp [hlen]
    rw [← hlen] at hB
    have HA := Lib.hid hA
    have HB := Lib.hid (show ArgS term w B ys.length d ys by rw [← hlen]; exact hB)
    rw [← hlen]
    clear hA hB hlen hne
    go_enter Tryz.func49, Tryz.ntmps49
    go_wp2
    go_loopw [13] (fun i wr => ∃ k : Nat, k ≤ xs.length ∧ i = .int .i64 k ∧ xs.take k = ys.take k ∧ Below w.heap.size w wr) (fun i _ => xs.length - (intOf i).toNat)
    case atStart => exact ⟨0, Nat.zero_le _, rfl, rfl, Below.refl _ _⟩
    case round =>
      obtain ⟨k, hk, rfl, hall, hb⟩ := hrel
      have HAL := Lib.hid hall
      have HBB := Lib.hid hb
      clear hall hb
      by_cases hlt : k < xs.length
      · have hlt2 : k < ys.length := by have := HEN.out; omega
        obtain ⟨b1, o1, rfl, hbb1, c0, c1⟩ := (HA.out.below HBB.out).term_at hlt
        have hB2 := HB.out
        obtain ⟨b2, o2, rfl, hbb2, e0, e1⟩ := (hB2.below HBB.out).term_at hlt2
        have HN := Lib.hid (show xs[k] ≠ ys[k] → decide (xs = ys) = false from fun h => decide_eq_false (fun e => h (by subst e; rfl)))
        have HY := Lib.hid (fun h => take_same hlt hlt2 HAL.out h)
        clear hB2
        generalize xs[k] = x at *
        generalize ys[k] = y at *
        obtain ⟨z, s⟩ := x
        obtain ⟨u, t⟩ := y
        simp only at c0 c1 e0 e1
        have hi0 : (0 : Int) ≤ (k : Int) := by omega
        have hi1 : (k : Int) < (xs.length : Int) := by omega
        by_cases h1 : z = u
        · subst h1
          by_cases h2 : s = t
          · subst h2
            have HT := Lib.hid (HY.out rfl)
            clear HN HY
            go_wp2
            go_quiet (fail)
            go_wp2
            go_roundw
            case rel => exact ⟨k + 1, by omega, by go_num, HT.out, below_drewN HBB.out _⟩
            case measure => simp [intOf]; omega
          · have hs2 : (s.toList == t.toList) = false := beq_eq_false_iff_ne.2 (fun e => h2 (NameM.toList_inj (by rw [← ByteArray.toList_eq, ← ByteArray.toList_eq]; exact e)))
            have HR := Lib.hid (HN.out (fun e => h2 (by injection e)))
            clear HN HY h2
            go_wp2
            go_quiet (fail)
            go_wp2
            go_ret
            exact ⟨by rw [HR.out]; try rfl, below_drewN HBB.out _⟩
        · have hz : (z == u) = false := beq_eq_false_iff_ne.2 h1
          have HR := Lib.hid (HN.out (fun e => h1 (by injection e)))
          clear HN HY h1
          go_wp2
          go_quiet (fail)
          go_wp2
          go_ret
          exact ⟨by rw [HR.out]; try rfl, below_drewN HBB.out _⟩
      · obtain rfl : k = xs.length := by omega
        have HR := Lib.hid (show decide (xs = ys) = true by
          refine decide_eq_true ?_
          have := HAL.out
          rwa [List.take_length, HEN.out, List.take_length] at this)
        clear HAL
        go_wp2
        go_ret
        exact ⟨by rw [HR.out]; try rfl, HBB.out⟩
  · have HR := Lib.hid (show decide (xs = ys) = false from decide_eq_false (fun e => hlen (by rw [e])))
    have hne : ((xs.length : Int) != (ys.length : Int)) = true := by simp; omega
    have hne2 : (xs.length == ys.length) = false := beq_eq_false_iff_ne.2 hlen
    clear hA hB hlen
    go_enter Tryz.func49, Tryz.ntmps49
    go_wp2
    go_ret
    exact ⟨by rw [HR.out]; try rfl, Below.refl _ _⟩

theorem sum_dec (z u : Int) (ts us : List (Int × ByteArray)) : decide (((z, ts) : SumT) = (u, us)) = (decide (z = u) && decide (ts = us)) := by
  by_cases h1 : z = u
  · subst h1
    by_cases h2 : ts = us
    · subst h2; simp
    · rw [decide_eq_false h2, decide_eq_false (fun e => h2 (by injection e))]; simp
  · rw [decide_eq_false h1, decide_eq_false (fun e => h1 (by injection e))]; rfl
set_option maxHeartbeats 1000000 in
set_option maxRecDepth 100000 in
theorem equalSum (z u : Int) (A B : Option Addr) (c d : Nat) (xs ys : List (Int × ByteArray)) (w : World) (hA : ArgS term w A xs.length c xs) (hB : ArgS term w B ys.length d ys) (hl : xs.length ≤ 1000000000) (hl2 : ys.length ≤ 1000000000) :
    Calls Tryz.prog 29 #[.agg #[.int .i64 z, .slice A xs.length c], .agg #[.int .i64 u, .slice B ys.length d]] w fun e w' => e = .returned (.bool (decide (((z, xs) : SumT) = (u, ys)))) ∧ Below w.heap.size w w' := by
  have B0 := Lib.hid (((Below.refl w.heap.size w).alloc (Nat.le_refl _) (Obj.cells #[Value.int IntKind.i64 z, Value.slice A xs.length c] 50)).alloc (by simp) (Obj.cells #[Value.int IntKind.i64 u, Value.slice B ys.length d] 50))
  have EQ := Lib.hid (eqTerms A B c d xs ys _ (hA.below B0.out) (hB.below B0.out) hl hl2)
  have HO := Lib.hid (sum_dec z u xs ys)
  generalize decide (((z, xs) : SumT) = (u, ys)) = R at *
  generalize decide (xs = ys) = t at *
  clear hA hB hl hl2
  by_cases h1 : z = u
  · subst h1
    have HF := Lib.hid (show R = t by rw [HO.out]; simp)
    go_enter Tryz.func29, Tryz.ntmps29
    go_wp2_with fail
    refine (Calls.mono EQ.out) ?_
    rintro e w1 ⟨rfl, b1⟩
    have B1 := Lib.hid (B0.out.trans (b1.mono B0.out.size))
    clear b1
    go_wp2
    go_ret
    exact ⟨ret_b HF.out.symm, B1.out⟩
  · have hz : (z == u) = false := beq_eq_false_iff_ne.2 h1
    have HF := Lib.hid (show R = false by rw [HO.out, decide_eq_false h1]; rfl)
    clear h1
    go_enter Tryz.func29, Tryz.ntmps29
    go_wp2
    go_ret
    exact ⟨ret_b HF.out.symm, B0.out⟩

set_option maxHeartbeats 1000000 in
set_option maxRecDepth 100000 in
theorem eqSums (A B : Option Addr) (c d : Nat) (xs ys : List SumT) (w : World) (hA : ArgS Mem.sum w A xs.length c xs) (hB : ArgS Mem.sum w B ys.length d ys) (hl : xs.length + szs ssl xs ≤ 1000000000) (hl2 : ys.length + szs ssl ys ≤ 1000000000) :
    Calls Tryz.prog 28 #[.slice A xs.length c, .slice B ys.length d, .func (.func 29) #[] #[]] w fun e w' => e = .returned (.bool (decide (xs = ys))) ∧ Below w.heap.size w w' := by
  have hxl : xs.length ≤ 1000000000 := by omega
  have hyl : ys.length ≤ 1000000000 := by omega
  by_cases hlen : xs.length = ys.length
  · have HL := Lib.hid hl
    have HL2 := Lib.hid hl2
    have HEN := Lib.hid hlen
    have hne : ((xs.length : Int) != (ys.length : Int)) = false := by simp [hlen]
    have HA := Lib.hid hA
    have HB := Lib.hid hB
    rw [← hlen]
    clear hA hB hl hl2 hlen hne hyl
    go_enter Tryz.func28, Tryz.ntmps28
    go_wp2
    go_loopw [17] (fun i wr => ∃ k : Nat, k ≤ xs.length ∧ i = .int .i64 k ∧ xs.take k = ys.take k ∧ Below w.heap.size w wr) (fun i _ => xs.length - (intOf i).toNat)
    case atStart => exact ⟨0, Nat.zero_le _, rfl, rfl, Below.refl _ _⟩
    case round =>
      obtain ⟨k, hk, rfl, hall, hb⟩ := hrel
      have HAL := Lib.hid hall
      have HBB := Lib.hid hb
      clear hall hb
      by_cases hlt : k < xs.length
      · have hlt2 : k < ys.length := by have := HEN.out; omega
        obtain ⟨b1, o1, B1, d1, rfl, hbb1, c0, c1, r1⟩ := (HA.out.below HBB.out).sum_at hlt
        obtain ⟨b2, o2, B2, d2, rfl, hbb2, e0, e1, r2⟩ := (HB.out.below HBB.out).sum_at hlt2
        have hs9 := sum_len hlt HL.out
        have hs8 := sum_len hlt2 HL2.out
        have HN := Lib.hid (show xs[k] ≠ ys[k] → decide (xs = ys) = false from fun h => decide_eq_false (fun e => h (by subst e; rfl)))
        have HY := Lib.hid (fun h => take_same hlt hlt2 HAL.out h)
        generalize xs[k] = x at *
        generalize ys[k] = y at *
        obtain ⟨z, zs⟩ := x
        obtain ⟨u, us⟩ := y
        simp only at c0 c1 e0 e1 r1 r2 hs9 hs8
        have hd : Below wr.heap.size wr ((wr.alloc (Obj.cells #[Value.int IntKind.i64 z, Value.slice B1 zs.length d1] 50)).alloc (Obj.cells #[Value.int IntKind.i64 u, Value.slice B2 us.length d2] 50)) := ((Below.refl _ _).alloc (Nat.le_refl _) _).alloc (by simp) _
        have EQ := Lib.hid (equalSum z u B1 B2 d1 d2 zs us _ (r1.below hd) (r2.below hd) hs9 hs8)
        have BA := Lib.hid (HBB.out.trans (hd.mono HBB.out.size))
        have hi0 : (0 : Int) ≤ (k : Int) := by omega
        have hi1 : (k : Int) < (xs.length : Int) := by omega
        have hi2 : (k : Int) < (ys.length : Int) := by omega
        have e0' := ((Below.refl wr.heap.size wr).alloc (Nat.le_refl _) (Obj.cells #[Value.int IntKind.i64 z, Value.slice B1 zs.length d1] 50)).cell (p := ⟨b2, o2 + k * 2, none⟩) hbb2
        have e1' := ((Below.refl wr.heap.size wr).alloc (Nat.le_refl _) (Obj.cells #[Value.int IntKind.i64 z, Value.slice B1 zs.length d1] 50)).cell (p := ⟨b2, o2 + k * 2 + 1, none⟩) hbb2
        rw [e0] at e0'
        rw [e1] at e1'
        by_cases hv : ((z, zs) : SumT) = (u, us)
        · have HT := Lib.hid (HY.out hv)
          rw [decide_eq_true hv] at EQ
          clear r1 r2 hd HN HY hv
          go_wp2_with fail
          refine (Calls.mono EQ.out) ?_
          rintro e w1 ⟨rfl, bq⟩
          have B9 := Lib.hid (BA.out.trans (bq.mono BA.out.size))
          clear bq
          go_wp2
          go_roundw
          case rel => exact ⟨k + 1, by omega, by go_num, HT.out, B9.out⟩
          case measure => simp [intOf]; omega
        · have HR := Lib.hid (HN.out hv)
          rw [decide_eq_false hv] at EQ
          clear r1 r2 hd HN HY hv
          go_wp2_with fail
          refine (Calls.mono EQ.out) ?_
          rintro e w1 ⟨rfl, bq⟩
          have B9 := Lib.hid (BA.out.trans (bq.mono BA.out.size))
          clear bq
          go_wp2
          go_ret
          exact ⟨by rw [HR.out]; try rfl, B9.out⟩
      · obtain rfl : k = xs.length := by omega
        have HR := Lib.hid (show decide (xs = ys) = true by
          refine decide_eq_true ?_
          have := HAL.out
          rwa [List.take_length, HEN.out, List.take_length] at this)
        clear HAL
        go_wp2
        go_ret
        exact ⟨by rw [HR.out]; try rfl, HBB.out⟩
  · have HR := Lib.hid (show decide (xs = ys) = false from decide_eq_false (fun e => hlen (by rw [e])))
    have hne : ((xs.length : Int) != (ys.length : Int)) = true := by simp; omega
    have hne2 : (xs.length == ys.length) = false := beq_eq_false_iff_ne.2 hlen
    clear hA hB hl hl2 hlen
    go_enter Tryz.func28, Tryz.ntmps28
    go_wp2
    go_ret
    exact ⟨by rw [HR.out]; try rfl, Below.refl _ _⟩

def argE (p q : Bool) (xs ys : List SumT) (s t : ByteArray) : Bool := (p == q) && (decide (s = t) && decide (xs = ys))
theorem argE_iff {p q : Bool} {xs ys : List SumT} {s t : ByteArray} : argE p q xs ys s t = true ↔ ((p, xs, s) : Ag) = (q, ys, t) := by
  unfold argE
  simp only [Bool.and_eq_true, decide_eq_true_eq, beq_iff_eq]
  exact ⟨fun ⟨a, b, c⟩ => by rw [a, b, c], fun h => by injection h with a b; injection b with b c; exact ⟨a, c, b⟩⟩
theorem str_ne {s t : ByteArray} (h : s ≠ t) : (s.toList == t.toList) = false := beq_eq_false_iff_ne.2 (fun e => h (NameM.toList_inj (by rw [← ByteArray.toList_eq, ← ByteArray.toList_eq]; exact e)))
set_option maxHeartbeats 1000000 in
set_option maxRecDepth 100000 in
theorem equalArg (p q : Bool) (s t : ByteArray) (A B : Option Addr) (c d : Nat) (xs ys : List SumT) (w : World) (hA : ArgS Mem.sum w A xs.length c xs) (hB : ArgS Mem.sum w B ys.length d ys) (hl : xs.length + szs ssl xs ≤ 1000000000) (hl2 : ys.length + szs ssl ys ≤ 1000000000) :
    Calls Tryz.prog 10 #[.agg #[.bool p, .slice A xs.length c, .string s], .agg #[.bool q, .slice B ys.length d, .string t]] w fun e w' => e = .returned (.bool (argE p q xs ys s t)) ∧ Below w.heap.size w w' := by
  have B0 := Lib.hid (((Below.refl w.heap.size w).alloc (Nat.le_refl _) (Obj.cells #[Value.bool p, Value.slice A xs.length c, Value.string s] 26)).alloc (by simp) (Obj.cells #[Value.bool q, Value.slice B ys.length d, Value.string t] 26))
  have EQ := Lib.hid (eqSums A B c d xs ys _ (hA.below B0.out) (hB.below B0.out) hl hl2)
  have HO := Lib.hid (show argE p q xs ys s t = ((p == q) && (decide (s = t) && decide (xs = ys))) from rfl)
  generalize argE p q xs ys s t = R at *
  generalize decide (xs = ys) = r at *
  clear hA hB hl hl2
  by_cases h1 : p = q
  · subst h1
    by_cases h2 : s = t
    · subst h2
      have HF := Lib.hid (show R = r by rw [HO.out]; simp)
      clear HO
      cases p
      all_goals
        go_enter Tryz.func10, Tryz.ntmps10
        go_wp2_with fail
        refine (Calls.mono EQ.out) ?_
        rintro e w1 ⟨rfl, b1⟩
        have B1 := Lib.hid (B0.out.trans (b1.mono B0.out.size))
        clear b1
        go_wp2
        go_ret
        exact ⟨ret_b HF.out.symm, B1.out⟩
    · have hs := str_ne h2
      have HF := Lib.hid (show R = false by rw [HO.out, decide_eq_false h2]; simp)
      clear HO h2
      cases p
      all_goals
        go_enter Tryz.func10, Tryz.ntmps10
        go_wp2
        go_ret
        exact ⟨ret_b HF.out.symm, B0.out⟩
  · have HF := Lib.hid (show R = false by rw [HO.out, beq_eq_false_iff_ne.2 h1]; rfl)
    clear HO
    cases p <;> cases q
    case false.false => exact absurd rfl h1
    case true.true => exact absurd rfl h1
    all_goals
      clear h1
      go_enter Tryz.func10, Tryz.ntmps10
      go_wp2
      go_ret
      exact ⟨ret_b HF.out.symm, B0.out⟩
end ArgI
end Go.Proofs.YtiilopfhlmeaoaaGreatDoor
