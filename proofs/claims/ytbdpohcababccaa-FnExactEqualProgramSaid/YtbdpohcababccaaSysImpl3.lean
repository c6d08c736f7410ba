import Derived.Test.YtbdpohcababccaaSysImpl
/-
  The program's systems: comparison.
-/
namespace Go.Proofs.Ytbdpohcababccaa
open Go.RowKit
namespace SysI
open RowK Mem LinM

set_option maxHeartbeats 1000000 in
set_option maxRecDepth 100000 in
/-- The rows are the same. -/
theorem eqRows (q q2 : Bool) (fp gp : List Nat) (A B : Option Addr) (c d : Nat) (xs ys : List (Int × List Int)) (w : World) (hA : lins.rep q w fp [.slice A xs.length c] xs) (hB : lins.rep q2 w gp [.slice B ys.length d] ys) (hl : linsSize xs ≤ 1000000000) (hl2 : linsSize ys ≤ 1000000000) :
    Calls Try.prog 30 #[.slice A xs.length c, .slice B ys.length d, .func (.func 31) #[] #[]] w fun e w' => e = .returned (.bool (decide (xs = ys))) ∧ Below w.heap.size w w' := by
  have hxl : xs.length ≤ 1000000000 := by unfold linsSize at hl; omega
  have hyl : ys.length ≤ 1000000000 := by unfold linsSize at hl2; omega
  by_cases hlen : xs.length = ys.length
  · have HSZ := Lib.hid (fun x (h : x ∈ xs) => linsSize_mem h)
    have HSZ2 := Lib.hid (fun x (h : x ∈ ys) => linsSize_mem h)
    have HL := Lib.hid hl
    have HL2 := Lib.hid hl2
    have HEN := Lib.hid hlen
    have hne : ((xs.length : Int) != (ys.length : Int)) = false := by simp [hlen]
    rw [← hlen] at hB
    have HA := Lib.hid hA
    have HB := Lib.hid hB
    rw [← hlen]
    clear hA hB hl hl2 hlen hne hyl
    go_enter Try.func30, Try.ntmps30
    go_wp2
    go_loopw [17] (fun i wr => ∃ k : Nat, k ≤ xs.length ∧ i = .int .i64 k ∧ xs.take k = ys.take k ∧ Below w.heap.size w wr) (fun i _ => xs.length - (intOf i).toNat)
    case atStart => exact ⟨0, Nat.zero_le _, rfl, rfl, Below.refl _ _⟩
    case round =>
      obtain ⟨k, hk, rfl, hall, hb⟩ := hrel
      have HAL := Lib.hid hall
      have HBB := Lib.hid hb
      clear hall hb
      by_cases hlt : k < xs.length
      · have hlt2 : k < ys.length := by have := HEN.out; omega
        have hB2 := HB.out
        rw [HEN.out] at hB2
        obtain ⟨b1, o1, B1, d1, lo1, hi1, rfl, hbb1, c0, c1, hcc, r1⟩ := lins_at (Rep.below HA.out HBB.out) hlt
        obtain ⟨b2, o2, B2, d2, lo2, hi2, rfl, hbb2, e0, e1, hee, r2⟩ := lins_at (Rep.below hB2 HBB.out) hlt2
        have hx := HSZ.out _ (List.getElem_mem hlt)
        have hy := HSZ2.out _ (List.getElem_mem hlt2)
        have hs9 : xs[k].2.length ≤ 1000000000 := by have := HL.out; omega
        have hs8 : ys[k].2.length ≤ 1000000000 := by have := HL2.out; omega
        have HEQ := Lib.hid (SysS.eqB_pair xs[k] ys[k])
        have HN := Lib.hid (show xs[k] ≠ ys[k] → decide (xs = ys) = false from fun h => decide_eq_false (fun e => h (by subst e; rfl)))
        have HY := Lib.hid (fun h => SysS.take_eq hlt hlt2 HAL.out h)
        clear hx hy hB2
        generalize xs[k] = x at *
        generalize ys[k] = y at *
        obtain ⟨z, zs⟩ := x
        obtain ⟨u, us⟩ := y
        simp only at c0 c1 e0 e1 r1 r2 hs9 hs8 hcc hee
        have hd : Below wr.heap.size wr ((wr.alloc (Obj.cells #[Value.int IntKind.i64 z, Value.slice B1 zs.length d1] 87)).alloc (Obj.cells #[Value.int IntKind.i64 u, Value.slice B2 us.length d2] 87)) := ((Below.refl _ _).alloc (Nat.le_refl _) _).alloc (by simp) _
        have EQ := Lib.hid (LinI.equal lo1 hi1 lo2 hi2 z u B1 B2 d1 d2 zs us _ (r1.below hd) (r2.below hd) hs9 hs8 hcc hee)
        have BA := Lib.hid (HBB.out.trans (hd.mono HBB.out.size))
        have hi0 : (0 : Int) ≤ (k : Int) := by omega
        have hi1 : (k : Int) < (xs.length : Int) := by omega
        have e0' := ((Below.refl wr.heap.size wr).alloc (Nat.le_refl _) (Obj.cells #[Value.int IntKind.i64 z, Value.slice B1 zs.length d1] 87)).cell (p := ⟨b2, o2 + k * 2, none⟩) hbb2
        have e1' := ((Below.refl wr.heap.size wr).alloc (Nat.le_refl _) (Obj.cells #[Value.int IntKind.i64 z, Value.slice B1 zs.length d1] 87)).cell (p := ⟨b2, o2 + k * 2 + 1, none⟩) hbb2
        rw [e0] at e0'
        rw [e1] at e1'
        by_cases hv : ((z, zs) : Int × List Int) = (u, us)
        · have HT := Lib.hid (HY.out hv)
          rw [show eqB z u zs us = true from (HEQ.out).trans (decide_eq_true hv)] at EQ
          clear r1 r2 hd HN HY HEQ hv
          go_wp2_with fail
          refine (Calls.mono EQ.out) ?_
          rintro e w1 ⟨rfl, bq⟩
          have B9 := Lib.hid (BA.out.trans (bq.mono BA.out.size))
          clear bq
          go_wp2
          go_roundw
          case rel => exact ⟨k + 1, by omega, by go_num, HT.out, B9.out⟩
          case measure => simp [intOf]; omega
        · have HR := Lib.hid (HN.out hv)
          rw [show eqB z u zs us = false from (HEQ.out).trans (decide_eq_false hv)] at EQ
          clear r1 r2 hd HN HY HEQ hv
          go_wp2_with fail
          refine (Calls.mono EQ.out) ?_
          rintro e w1 ⟨rfl, bq⟩
          have B9 := Lib.hid (BA.out.trans (bq.mono BA.out.size))
          clear bq
          go_wp2
          go_ret
          exact ⟨by rw [HR.out]; try rfl, B9.out⟩
      · obtain rfl : k = xs.length := by omega
        have HR := Lib.hid (show decide (xs = ys) = true by
          refine decide_eq_true ?_
          have := HAL.out
          rwa [List.take_length, HEN.out, List.take_length] at this)
        clear HAL
        go_wp2
        go_ret
        exact ⟨by rw [HR.out]; try rfl, HBB.out⟩
  · have HR := Lib.hid (show decide (xs = ys) = false from decide_eq_false (fun e => hlen (by rw [e])))
    have hne : ((xs.length : Int) != (ys.length : Int)) = true := by simp; omega
    have hne2 : (xs.length == ys.length) = false := beq_eq_false_iff_ne.2 hlen
    clear hA hB hl hl2 hlen
    go_enter Try.func30, Try.ntmps30
    go_wp2
    go_ret
    exact ⟨by rw [HR.out]; try rfl, Below.refl _ _⟩

end SysI
end Go.Proofs.Ytbdpohcababccaa
