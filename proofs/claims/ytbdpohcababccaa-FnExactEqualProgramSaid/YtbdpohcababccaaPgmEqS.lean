import Derived.Test.YtbdpohcababccaaPgmEq2
import Derived.Test.YtbdpohcababccaaArgEqS
import Derived.Test.YtbdpohcababccaaSysSpec
import Derived.Deep.RegionLaw
/-
  Programs: comparison, of the model (made by tools/s11e.py).
-/
namespace Go.Proofs.Ytbdpohcababccaa
open Go.RowKit
namespace ProgS
open RowK Mem ProgI
set_option maxHeartbeats 4000000 in
set_option maxRecDepth 100000 in
theorem texts (A B : Option Addr) (c d : Nat) (xs ys : List ByteArray) (w : World) (hA : ArgS Rep.str w A xs.length c xs) (hB : ArgS Rep.str w B ys.length d ys) (hl : xs.length ≤ 1000000000) (_hl2 : ys.length ≤ 1000000000) :
    Calls Try.prog 11 #[.slice A xs.length c, .slice B ys.length d] w fun e w' => e = .returned (.bool (decide (xs = ys))) ∧ Below w.heap.size w w' := by
  by_cases hlen : xs.length = ys.length
  · have HEN := Lib.hid hlen
    have HA := Lib.hid hA
    have HB := Lib.hid hB
    rw [← hlen]
    clear hA hB hlen
    go_enter Try.func11, Try.ntmps11
    go_wp2
    go_loopw [5] (fun i wr => ∃ k : Nat, k ≤ xs.length ∧ i = .int .i64 k ∧ xs.take k = ys.take k ∧ Below w.heap.size w wr) (fun i _ => xs.length - (intOf i).toNat)
    case atStart => exact ⟨0, Nat.zero_le _, rfl, rfl, Below.refl _ _⟩
    case round =>
      obtain ⟨k, hk, rfl, hall, hb⟩ := hrel
      have HAL := Lib.hid hall
      have HBB := Lib.hid hb
      clear hall hb
      by_cases hlt : k < xs.length
      · have hlt2 : k < ys.length := by have := HEN.out; omega
        obtain ⟨b1, o1, rfl, hbb1, g0⟩ := ArgS_str_at (HA.out.below HBB.out) hlt
        obtain ⟨b2, o2, rfl, hbb2, e0⟩ := ArgS_str_at (HB.out.below HBB.out) hlt2
        have HN := Lib.hid (show xs[k] ≠ ys[k] → decide (xs = ys) = false from fun h => decide_eq_false (fun e => h (by subst e; rfl)))
        have HY := Lib.hid (fun h => ArgI.take_same hlt hlt2 HAL.out h)
        generalize xs[k] = x at *
        generalize ys[k] = y at *
        have hi0 : (0 : Int) ≤ (k : Int) := by omega
        have hi1 : (k : Int) < (xs.length : Int) := by omega
        have hi2 : (k : Int) < (ys.length : Int) := by omega
        by_cases q0 : x = y
        · subst q0
          have HT := Lib.hid (HY.out rfl)
          clear HN HY
          go_wp2
          go_quiet (fail)
          go_wp2
          go_roundw
          case rel => exact ⟨k + 1, by omega, by go_num, HT.out, below_drewN HBB.out _⟩
          case measure => simp [intOf]; omega
        · have HR := Lib.hid (HN.out (fun e => q0 e))
          clear HN HY
          have hs0 := ArgI.str_ne q0
          clear q0
          go_wp2
          go_quiet (fail)
          go_wp2
          go_ret
          exact ⟨by rw [HR.out]; try rfl, below_drewN HBB.out _⟩
      · obtain rfl : k = xs.length := by omega
        have HR := Lib.hid (show decide (xs = ys) = true by
          refine decide_eq_true ?_
          have := HAL.out
          rwa [List.take_length, HEN.out, List.take_length] at this)
        clear HAL
        go_wp2
        go_ret
        exact ⟨by rw [HR.out]; try rfl, HBB.out⟩
  · have HR := Lib.hid (show decide (xs = ys) = false from decide_eq_false (fun e => hlen (by rw [e])))
    have hne : ((xs.length : Int) != (ys.length : Int)) = true := by simp; omega
    have hne2 : (xs.length == ys.length) = false := beq_eq_false_iff_ne.2 hlen
    clear hA hB hlen
    go_enter Try.func11, Try.ntmps11
    go_wp2
    go_ret
    exact ⟨by rw [HR.out]; try rfl, Below.refl _ _⟩
theorem lins (A B : Option Addr) (c d : Nat) (xs ys : List (Int × List Int)) (w : World) (hA : ArgS Mem.lin w A xs.length c xs) (hB : ArgS Mem.lin w B ys.length d ys) (hl : xs.length + szs szLin xs ≤ 1000000000) (hl2 : ys.length + szs szLin ys ≤ 1000000000) :
    Calls Try.prog 12 #[.slice A xs.length c, .slice B ys.length d] w fun e w' => e = .returned (.bool (decide (xs = ys))) ∧ Below w.heap.size w w' := by
  obtain ⟨q, fp, hA⟩ := hA
  obtain ⟨q2, gp, hB⟩ := hB
  have EQ := SysS.equal q q2 fp gp 0 0 A B c d xs ys w hA hB hl hl2
  rw [show SysS.sysE 0 0 xs ys = decide (xs = ys) from by unfold SysS.sysE; simp] at EQ
  have EQ := Lib.hid EQ
  clear hA hB hl hl2
  go_enter Try.func12, Try.ntmps12
  go_wp2_with fail
  refine (Calls.mono EQ.out) ?_
  rintro e w1 ⟨rfl, b1⟩
  have B1 := Lib.hid b1
  clear b1
  go_wp2
  go_ret
  exact ⟨rfl, B1.out⟩
theorem rule_dec (z0 : ByteArray) (x1 : List PatternT) (x2 : List SumT) (x3 : List CallT) (r : ArgT) (u0 : ByteArray) (y1 : List PatternT) (y2 : List SumT) (y3 : List CallT) (s : ArgT) :
    decide (((z0, x1, x2, x3, r) : RuleT) = (u0, y1, y2, y3, s)) = (decide (z0 = u0) && (decide (r = s) && (decide (x1 = y1) && (decide (x2 = y2) && decide (x3 = y3))))) := by
  rw [Bool.eq_iff_iff]
  simp only [Bool.and_eq_true, decide_eq_true_eq, Prod.mk.injEq]
  constructor
  · rintro ⟨h0, h1, h2, h3, h4⟩; exact ⟨h0, h4, h1, h2, h3⟩
  · rintro ⟨h0, h4, h1, h2, h3⟩; exact ⟨h0, h1, h2, h3, h4⟩
theorem fn_dec (z0 : ByteArray) (x1 : List ByteArray) (z2 : Bool) (x3 : List (Int × List Int)) (u0 : ByteArray) (y1 : List ByteArray) (u2 : Bool) (y3 : List (Int × List Int)) :
    decide (((z0, x1, z2, x3) : FunctionT) = (u0, y1, u2, y3)) = (decide (z0 = u0) && (decide (z2 = u2) && (decide (x1 = y1) && decide (x3 = y3)))) := by
  rw [Bool.eq_iff_iff]
  simp only [Bool.and_eq_true, decide_eq_true_eq, Prod.mk.injEq]
  constructor
  · rintro ⟨h0, h1, h2, h3⟩; exact ⟨h0, h2, h1, h3⟩
  · rintro ⟨h0, h2, h1, h3⟩; exact ⟨h0, h1, h2, h3⟩
theorem full {α : Type} {xs ys : List α} (hl : xs.length = ys.length) (h : xs.take xs.length = ys.take xs.length) : xs = ys := by
  rwa [List.take_length, hl, List.take_length] at h
set_option maxHeartbeats 8000000 in
set_option maxRecDepth 100000 in
theorem sameRule (z0 : ByteArray) (A1 : Option Addr) (c1 : Nat) (x1 : List PatternT) (A2 : Option Addr) (c2 : Nat) (x2 : List SumT) (A3 : Option Addr) (c3 : Nat) (x3 : List CallT) (z4 : Bool) (A5 : Option Addr) (c5 : Nat) (x5 : List SumT) (z6 : ByteArray) (n0 : ByteArray) (B1 : Option Addr) (d1 : Nat) (y1 : List PatternT) (B2 : Option Addr) (d2 : Nat) (y2 : List SumT) (B3 : Option Addr) (d3 : Nat) (y3 : List CallT) (n4 : Bool) (B5 : Option Addr) (d5 : Nat) (y5 : List SumT) (n6 : ByteArray) (w : World) (h1 : ArgS Mem.pat w A1 x1.length c1 x1) (h2 : ArgS Mem.sum w A2 x2.length c2 x2) (h3 : ArgS Mem.call w A3 x3.length c3 x3) (h5 : ArgS Mem.sum w A5 x5.length c5 x5) (k1 : ArgS Mem.pat w B1 y1.length d1 y1) (k2 : ArgS Mem.sum w B2 y2.length d2 y2) (k3 : ArgS Mem.call w B3 y3.length d3 y3) (k5 : ArgS Mem.sum w B5 y5.length d5 y5) (hlx : szRuleU (z0, x1, x2, x3, (z4, x5, z6)) ≤ 100000000) (hly : szRuleU (n0, y1, y2, y3, (n4, y5, n6)) ≤ 100000000) :
    Calls Try.prog 13 #[.agg #[.string z0, .slice A1 x1.length c1, .slice A2 x2.length c2, .slice A3 x3.length c3, .bool z4, .slice A5 x5.length c5, .string z6], .agg #[.string n0, .slice B1 y1.length d1, .slice B2 y2.length d2, .slice B3 y3.length d3, .bool n4, .slice B5 y5.length d5, .string n6]] w fun e w' => e = .returned (.bool (decide (((z0, x1, x2, x3, (z4, x5, z6)) : RuleT) = (n0, y1, y2, y3, (n4, y5, n6))))) ∧ Below w.heap.size w w' := by
  simp only [szRuleU, szArgU] at hlx hly
  have BB0 := Lib.hid (((Below.refl w.heap.size w).alloc (Nat.le_refl _) (Obj.cells #[Value.string z0, Value.slice A1 x1.length c1, Value.slice A2 x2.length c2, Value.slice A3 x3.length c3, Value.bool z4, Value.slice A5 x5.length c5, Value.string z6] 49)).alloc (by simp) (Obj.cells #[Value.string n0, Value.slice B1 y1.length d1, Value.slice B2 y2.length d2, Value.slice B3 y3.length d3, Value.bool n4, Value.slice B5 y5.length d5, Value.string n6] 49))
  have V0 := Lib.hid ((Lvar.new w #[Value.string z0, Value.slice A1 x1.length c1, Value.slice A2 x2.length c2, Value.slice A3 x3.length c3, Value.bool z4, Value.slice A5 x5.length c5, Value.string z6] 49).alloc (Obj.cells #[Value.string n0, Value.slice B1 y1.length d1, Value.slice B2 y2.length d2, Value.slice B3 y3.length d3, Value.bool n4, Value.slice B5 y5.length d5, Value.string n6] 49))
  have U0 := Lib.hid (Lvar.new (w.alloc (Obj.cells #[Value.string z0, Value.slice A1 x1.length c1, Value.slice A2 x2.length c2, Value.slice A3 x3.length c3, Value.bool z4, Value.slice A5 x5.length c5, Value.string z6] 49)) #[Value.string n0, Value.slice B1 y1.length d1, Value.slice B2 y2.length d2, Value.slice B3 y3.length d3, Value.bool n4, Value.slice B5 y5.length d5, Value.string n6] 49)
  simp only [World.size_alloc] at U0
  have hxl : x1.length ≤ 100000000 ∧ x2.length ≤ 100000000 ∧ x3.length ≤ 100000000 := by omega
  have HL2 := Lib.hid (show x2.length + szs szSum x2 ≤ 100000000 ∧ y2.length + szs szSum y2 ≤ 100000000 by omega)
  have HL3 := Lib.hid (show x3.length + szs szCallU x3 ≤ 100000000 ∧ y3.length + szs szCallU y3 ≤ 100000000 by omega)
  have HA1 := Lib.hid h1
  have HB1 := Lib.hid k1
  have HA2 := Lib.hid h2
  have HB2 := Lib.hid k2
  have HA3 := Lib.hid h3
  have HB3 := Lib.hid k3
  have EQ4 := fun W (h : Below w.heap.size w W) => ArgP.equalArg z4 n4 z6 n6 A5 B5 c5 d5 x5 y5 W (h5.below h) (k5.below h) (ssl_small (by omega)) (ssl_small (by omega))
  simp only [argE_dec] at EQ4
  have HO := Lib.hid (rule_dec z0 x1 x2 x3 (z4, x5, z6) n0 y1 y2 y3 (n4, y5, n6))
  generalize decide (((z0, x1, x2, x3, z4, x5, z6) : RuleT) = (n0, y1, y2, y3, n4, y5, n6)) = R at *
  generalize decide (((z4, x5, z6) : ArgT) = (n4, y5, n6)) = t4 at *
  have EQ4 := Lib.hid EQ4
  clear hlx hly h1 h2 h3 h5 k1 k2 k3 k5
  by_cases g0 : z0 = n0
  · subst g0
    by_cases l1 : x1.length = y1.length
    · have HEN1 := Lib.hid l1
      rw [← l1] at BB0 V0 U0 ⊢
      clear l1
      by_cases l2 : x2.length = y2.length
      · have HEN2 := Lib.hid l2
        rw [← l2] at BB0 V0 U0 ⊢
        clear l2
        by_cases l3 : x3.length = y3.length
        · have HEN3 := Lib.hid l3
          rw [← l3] at BB0 V0 U0 ⊢
          clear l3
          cases t4 with
          | false =>
            have HF := Lib.hid (show R = false by rw [HO.out]; simp)
            go_enter Try.func13, Try.ntmps13
            go_wp2_with fail
            refine (Calls.mono (EQ4.out _ ?_)) ?_
            · first | exact BB0.out | exact BB0.out.drew | exact below_drewN BB0.out _
            rintro e w1 ⟨rfl, b1⟩
            have BB1 := Lib.hid (show Below w.heap.size w w1 from by first | exact BB0.out.trans (b1.mono BB0.out.size) | exact BB0.out.drew.trans (b1.mono BB0.out.size))
            clear b1
            go_wp2
            go_ret
            exact ⟨ArgI.ret_b HF.out.symm, BB1.out⟩
          | true =>
            have HO := Lib.hid (show R = (decide (x1 = y1) && (decide (x2 = y2) && decide (x3 = y3))) by rw [HO.out]; simp)
            go_enter Try.func13, Try.ntmps13
            go_wp2_with fail
            refine (Calls.mono (EQ4.out _ ?_)) ?_
            · first | exact BB0.out | exact BB0.out.drew | exact below_drewN BB0.out _
            rintro e w1 ⟨rfl, b1⟩
            have BB1 := Lib.hid (show Below w.heap.size w w1 from by first | exact BB0.out.trans (b1.mono BB0.out.size) | exact BB0.out.drew.trans (b1.mono BB0.out.size))
            have V1 := Lib.hid (show Lvar w1 _ _ from by first | exact V0.out.below b1 | exact (V0.out.below (Below.refl _ _).drew).below b1)
            have U1 := Lib.hid (show Lvar w1 _ _ from by first | exact U0.out.below b1 | exact (U0.out.below (Below.refl _ _).drew).below b1)
            clear b1 V0 U0
            go_wp2
            go_loopw [5] (fun i wr => ∃ k : Nat, k ≤ x1.length ∧ i = .int .i64 k ∧ Hid (x1.take k = y1.take k) ∧ Below w.heap.size w wr ∧ Lvar wr w.heap.size #[Value.string z0, Value.slice A1 x1.length c1, Value.slice A2 x2.length c2, Value.slice A3 x3.length c3, Value.bool z4, Value.slice A5 x5.length c5, Value.string z6] ∧ Lvar wr (w.heap.size + 1) #[Value.string z0, Value.slice B1 x1.length d1, Value.slice B2 x2.length d2, Value.slice B3 x3.length d3, Value.bool n4, Value.slice B5 y5.length d5, Value.string n6]) (fun i _ => x1.length - (intOf i).toNat)
            case atStart => exact ⟨0, Nat.zero_le _, rfl, Lib.hid rfl, BB1.out, V1.out, U1.out⟩
            case round =>
              obtain ⟨k, hk, rfl, hall, hb, hv, hu⟩ := hrel
              have HAL := Lib.hid hall.out
              have HBB := Lib.hid hb
              have HV := Lib.hid hv
              have HU := Lib.hid hu
              have q1 := hv.cell 1 (.slice A1 x1.length c1) rfl
              have q2 := hu.cell 1 (.slice B1 x1.length d1) rfl
              clear hall hb hv hu
              by_cases hlt : k < x1.length
              · have hlt2 : k < y1.length := by have := HEN1.out; omega
                obtain ⟨b1, o1, rfl, hbb1, g0, g1, g2, g3⟩ := (HA1.out.below HBB.out).pat_at hlt
                obtain ⟨b2, o2, rfl, hbb2, e0, e1, e2, e3⟩ := (HB1.out.below HBB.out).pat_at hlt2
                have HN := Lib.hid (show x1[k] ≠ y1[k] → R = false from fun h => by rw [HO.out, decide_eq_false (show ¬ x1 = y1 from fun e => h (by subst e; rfl))]; rfl)
                have HY := Lib.hid (fun h => ArgI.take_same hlt hlt2 HAL.out h)
                generalize x1[k] = x at *
                generalize y1[k] = y at *
                obtain ⟨p0, p1, p2, p3⟩ := x
                obtain ⟨v0, v1, v2, v3⟩ := y
                simp only at g0 e0 g1 e1 g2 e2 g3 e3
                have hi0 : (0 : Int) ≤ (k : Int) := by omega
                have hi1 : (k : Int) < (x1.length : Int) := by omega
                by_cases c09 : p0 = v0
                · subst c09
                  by_cases c19 : p1 = v1
                  · subst c19
                    cases p1
                    all_goals
                      by_cases c29 : p2 = v2
                      · subst c29
                        by_cases c39 : p3 = v3
                        · subst c39
                          have HT := Lib.hid (HY.out rfl)
                          clear HN HY
                          go_wp2
                          go_quiet (fail)
                          go_wp2
                          go_roundw
                          case rel => exact ⟨k + 1, by omega, by go_num, HT, below_drewN HBB.out _, HV.out.below (below_drewN (Below.refl _ _) _), HU.out.below (below_drewN (Below.refl _ _) _)⟩
                          case measure => simp [intOf]; omega
                        · have HR := Lib.hid (HN.out (fun e => c39 (congrArg (fun p : PatternT => p.2.2.2) e)))
                          clear HN HY
                          have hs3 := ArgI.str_ne c39
                          clear c39
                          go_wp2
                          go_quiet (fail)
                          go_wp2
                          go_ret
                          exact ⟨ArgI.ret_b HR.out.symm, below_drewN HBB.out _⟩
                      · have HR := Lib.hid (HN.out (fun e => c29 (congrArg (fun p : PatternT => p.2.2.1) e)))
                        clear HN HY
                        have hs2 := ArgI.str_ne c29
                        clear c29
                        go_wp2
                        go_quiet (fail)
                        go_wp2
                        go_ret
                        exact ⟨ArgI.ret_b HR.out.symm, below_drewN HBB.out _⟩
                  · have HR := Lib.hid (HN.out (fun e => c19 (congrArg (fun p : PatternT => p.2.1) e)))
                    clear HN HY
                    cases p1 <;> cases v1
                    case false.false => exact absurd rfl c19
                    case true.true => exact absurd rfl c19
                    all_goals
                      clear c19
                      go_wp2
                      go_quiet (fail)
                      go_wp2
                      go_ret
                      exact ⟨ArgI.ret_b HR.out.symm, below_drewN HBB.out _⟩
                · have HR := Lib.hid (HN.out (fun e => c09 (congrArg (fun p : PatternT => p.1) e)))
                  clear HN HY
                  have hs0 := ArgI.str_ne c09
                  clear c09
                  go_wp2
                  go_quiet (fail)
                  go_wp2
                  go_ret
                  exact ⟨ArgI.ret_b HR.out.symm, below_drewN HBB.out _⟩
              · obtain rfl : k = x1.length := by omega
                have HO := Lib.hid (show R = (decide (x2 = y2) && decide (x3 = y3)) by rw [HO.out, decide_eq_true (full HEN1.out HAL.out)]; rfl)
                clear HAL BB1 V1 U1
                go_wp2
                go_loopw [6] (fun i wr => ∃ k : Nat, k ≤ x2.length ∧ i = .int .i64 k ∧ Hid (x2.take k = y2.take k) ∧ Below w.heap.size w wr ∧ Lvar wr w.heap.size #[Value.string z0, Value.slice A1 x1.length c1, Value.slice A2 x2.length c2, Value.slice A3 x3.length c3, Value.bool z4, Value.slice A5 x5.length c5, Value.string z6] ∧ Lvar wr (w.heap.size + 1) #[Value.string z0, Value.slice B1 x1.length d1, Value.slice B2 x2.length d2, Value.slice B3 x3.length d3, Value.bool n4, Value.slice B5 y5.length d5, Value.string n6]) (fun i _ => x2.length - (intOf i).toNat)
                case atStart => exact ⟨0, Nat.zero_le _, rfl, Lib.hid rfl, HBB.out, HV.out, HU.out⟩
                case round =>
                  clear HBB HV HU q1 q2
                  obtain ⟨k, hk, rfl, hall, hb, hv, hu⟩ := hrel
                  have HAL := Lib.hid hall.out
                  have HBB := Lib.hid hb
                  have HV := Lib.hid hv
                  have HU := Lib.hid hu
                  have q1 := hv.cell 2 (.slice A2 x2.length c2) rfl
                  have q2 := hu.cell 2 (.slice B2 x2.length d2) rfl
                  clear hall hb hv hu
                  by_cases hlt : k < x2.length
                  · have hlt2 : k < y2.length := by have := HEN2.out; omega
                    obtain ⟨b1, o1, G1, e1, rfl, hbb1, g0, g1, r1⟩ := (HA2.out.below HBB.out).sum_at hlt
                    obtain ⟨b2, o2, G2, e2, rfl, hbb2, i0, i1, r2⟩ := (HB2.out.below HBB.out).sum_at hlt2
                    have hs9 := ArgI.sum_len hlt (ssl_small (n := 1000000000) (by have := HL2.out; omega))
                    have hs8 := ArgI.sum_len hlt2 (ssl_small (n := 1000000000) (by have := HL2.out; omega))
                    have HN := Lib.hid (show x2[k] ≠ y2[k] → R = false from fun h => by rw [HO.out, decide_eq_false (show ¬ x2 = y2 from fun e => h (by subst e; rfl))]; rfl)
                    have HY := Lib.hid (fun h => ArgI.take_same hlt hlt2 HAL.out h)
                    generalize x2[k] = x at *
                    generalize y2[k] = y at *
                    obtain ⟨z, zs⟩ := x
                    obtain ⟨u, us⟩ := y
                    simp only at g0 g1 i0 i1 r1 r2 hs9 hs8
                    have hd : Below wr.heap.size wr wr.drew := (Below.refl _ _).drew
                    have EQ := Lib.hid (ArgP.same z u G1 G2 e1 e2 zs us wr.drew (r1.below hd) (r2.below hd) hs9 hs8)
                    have hi0 : (0 : Int) ≤ (k : Int) := by omega
                    have hi1 : (k : Int) < (x2.length : Int) := by omega
                    by_cases hv : ((z, zs) : SumT) = (u, us)
                    · have HT := Lib.hid (HY.out hv)
                      rw [decide_eq_true hv] at EQ
                      clear r1 r2 hd HN HY hv 
                      go_wp2_with fail
                      go_region_law (first
                        | (go_simp; go_at_call 26; refine (Calls.mono EQ.out) ?_; rintro e w5 ⟨rfl, b5⟩))
                      all_goals
                        have bb : Below wr.heap.size wr w5 := (Below.refl wr.heap.size wr).drew.trans b5
                        have B9 := Lib.hid (HBB.out.trans (bb.mono HBB.out.size))
                        have W1 := Lib.hid (HV.out.below bb)
                        have W2 := Lib.hid (HU.out.below bb)
                        clear b5 bb
                        go_wp2
                        go_roundw
                        case rel => exact ⟨k + 1, by omega, by go_num, HT, B9.out, W1.out, W2.out⟩
                        case measure => simp [intOf]; omega
                    · have HR := Lib.hid (HN.out hv)
                      rw [decide_eq_false hv] at EQ
                      clear r1 r2 hd HN HY hv 
                      go_wp2_with fail
                      go_region_law (first
                        | (go_simp; go_at_call 26; refine (Calls.mono EQ.out) ?_; rintro e w5 ⟨rfl, b5⟩))
                      all_goals
                        have bb : Below wr.heap.size wr w5 := (Below.refl wr.heap.size wr).drew.trans b5
                        have B9 := Lib.hid (HBB.out.trans (bb.mono HBB.out.size))
                        clear b5 bb
                        go_wp2
                        go_ret
                        exact ⟨ArgI.ret_b HR.out.symm, B9.out⟩
                  · obtain rfl : k = x2.length := by omega
                    have HO := Lib.hid (show R = decide (x3 = y3) by rw [HO.out, decide_eq_true (full HEN2.out HAL.out)]; rfl)
                    clear HAL
                    go_wp2
                    go_loopw [7] (fun i wr => ∃ k : Nat, k ≤ x3.length ∧ i = .int .i64 k ∧ Hid (x3.take k = y3.take k) ∧ Below w.heap.size w wr ∧ Lvar wr w.heap.size #[Value.string z0, Value.slice A1 x1.length c1, Value.slice A2 x2.length c2, Value.slice A3 x3.length c3, Value.bool z4, Value.slice A5 x5.length c5, Value.string z6] ∧ Lvar wr (w.heap.size + 1) #[Value.string z0, Value.slice B1 x1.length d1, Value.slice B2 x2.length d2, Value.slice B3 x3.length d3, Value.bool n4, Value.slice B5 y5.length d5, Value.string n6]) (fun i _ => x3.length - (intOf i).toNat)
                    case atStart => exact ⟨0, Nat.zero_le _, rfl, Lib.hid rfl, HBB.out, HV.out, HU.out⟩
                    case round =>
                      clear HBB HV HU q1 q2
                      obtain ⟨k, hk, rfl, hall, hb, hv, hu⟩ := hrel
                      have HAL := Lib.hid hall.out
                      have HBB := Lib.hid hb
                      have HV := Lib.hid hv
                      have HU := Lib.hid hu
                      have q1 := hv.cell 3 (.slice A3 x3.length c3) rfl
                      have q2 := hu.cell 3 (.slice B3 x3.length d3) rfl
                      clear hall hb hv hu
                      by_cases hlt : k < x3.length
                      · have hlt2 : k < y3.length := by have := HEN3.out; omega
                        obtain ⟨b1, o1, G1, e1, rfl, hbb1, g0, g1, g2, r1⟩ := (HA3.out.below HBB.out).call_at hlt
                        obtain ⟨b2, o2, G2, e2, rfl, hbb2, i0, i1, i2, r2⟩ := (HB3.out.below HBB.out).call_at hlt2
                        have hs9 : szCallU x3[k] ≤ 100000000 := by
                          have := HL3.out.1
                          have := szs_mem (sz := szCallU) (List.getElem_mem hlt)
                          omega
                        have hs8 : szCallU y3[k] ≤ 100000000 := by
                          have := HL3.out.2
                          have := szs_mem (sz := szCallU) (List.getElem_mem hlt2)
                          omega
                        have HN := Lib.hid (show x3[k] ≠ y3[k] → R = false from fun h => by rw [HO.out]; exact decide_eq_false (fun e => h (by subst e; rfl)))
                        have HY := Lib.hid (fun h => ArgI.take_same hlt hlt2 HAL.out h)
                        generalize x3[k] = x at *
                        generalize y3[k] = y at *
                        obtain ⟨p0, p1, xa⟩ := x
                        obtain ⟨v0, v1, ya⟩ := y
                        simp only at g0 g1 g2 i0 i1 i2 r1 r2 hs9 hs8
                        simp only [szCallU] at hs9 hs8
                        have hi0 : (0 : Int) ≤ (k : Int) := by omega
                        have hi1 : (k : Int) < (x3.length : Int) := by omega
                        have BA := Lib.hid (((Below.refl wr.heap.size wr).alloc (Nat.le_refl _) (Obj.cells #[Value.string p0, Value.string p1, Value.slice G1 xa.length e1] 81)).alloc (by simp) (Obj.cells #[Value.string v0, Value.string v1, Value.slice G2 ya.length e2] 81))
                        have XV := Lib.hid ((Lvar.new wr #[Value.string p0, Value.string p1, Value.slice G1 xa.length e1] 81).alloc (Obj.cells #[Value.string v0, Value.string v1, Value.slice G2 ya.length e2] 81))
                        have YV := Lib.hid (Lvar.new (wr.alloc (Obj.cells #[Value.string p0, Value.string p1, Value.slice G1 xa.length e1] 81)) #[Value.string v0, Value.string v1, Value.slice G2 ya.length e2] 81)
                        simp only [World.size_alloc] at YV
                        have i0' := ((Below.refl wr.heap.size wr).alloc (Nat.le_refl _) (Obj.cells #[Value.string p0, Value.string p1, Value.slice G1 xa.length e1] 81)).cell (p := ⟨b2, o2 + k * 3, none⟩) hbb2
                        rw [i0] at i0'
                        have i1' := ((Below.refl wr.heap.size wr).alloc (Nat.le_refl _) (Obj.cells #[Value.string p0, Value.string p1, Value.slice G1 xa.length e1] 81)).cell (p := ⟨b2, o2 + k * 3 + 1, none⟩) hbb2
                        rw [i1] at i1'
                        have i2' := ((Below.refl wr.heap.size wr).alloc (Nat.le_refl _) (Obj.cells #[Value.string p0, Value.string p1, Value.slice G1 xa.length e1] 81)).cell (p := ⟨b2, o2 + k * 3 + 2, none⟩) hbb2
                        rw [i2] at i2'
                        have q2' := ((Below.refl wr.heap.size wr).alloc (Nat.le_refl _) (Obj.cells #[Value.string p0, Value.string p1, Value.slice G1 xa.length e1] 81)).cell (p := ⟨w.heap.size + 1, 3, none⟩) HU.out.lt
                        rw [q2] at q2'
                        have RA := Lib.hid (fun W (h : Below wr.heap.size wr W) => And.intro (r1.below h) (r2.below h))
                        have HSA := Lib.hid (show (xa.length + szs szArgU xa ≤ 100000000) ∧ (ya.length + szs szArgU ya ≤ 100000000) by omega)
                        have hxa : xa.length ≤ 100000000 := by omega
                        clear r1 r2 hs9 hs8
                        by_cases g9 : p0 = v0
                        · subst g9
                          by_cases g8 : p1 = v1
                          · subst g8
                            by_cases g7 : xa.length = ya.length
                            · have HEA := Lib.hid g7
                              rw [← g7] at BA XV YV i2'
                              have HN := Lib.hid (show xa ≠ ya → R = false from fun h => HN.out (fun e => h (congrArg (fun p : CallT => p.2.2) e)))
                              have HY := Lib.hid (fun (h : xa = ya) => HY.out (by rw [h]))
                              clear g7
                              obtain ⟨wo, hwo⟩ : ∃ x, x = wr := ⟨_, rfl⟩
                              subst hwo
                              go_wp2
                              go_loopw [10] (fun i wr => ∃ m : Nat, m ≤ xa.length ∧ i = .int .i64 m ∧ Hid (xa.take m = ya.take m) ∧ Below wo.heap.size wo wr ∧ Lvar wr wo.heap.size #[Value.string p0, Value.string p1, Value.slice G1 xa.length e1] ∧ Lvar wr (wo.heap.size + 1) #[Value.string p0, Value.string p1, Value.slice G2 xa.length e2]) (fun i _ => xa.length - (intOf i).toNat)
                              case atStart => exact ⟨0, Nat.zero_le _, rfl, Lib.hid rfl, BA.out, XV.out, YV.out⟩
                              case round =>
                                clear BA XV YV i0' i1' i2' q2' g0 g1 g2 i0 i1 i2 q1 q2
                                obtain ⟨m, hm, rfl, hall, hb, hv, hu⟩ := hrel
                                have HAM := Lib.hid hall.out
                                have HBM := Lib.hid hb
                                have HXV := Lib.hid hv
                                have HYV := Lib.hid hu
                                have q1 := hv.cell 2 (.slice G1 xa.length e1) rfl
                                have q2 := hu.cell 2 (.slice G2 xa.length e2) rfl
                                clear hall hb hv hu
                                have BW := Lib.hid (HBB.out.trans (HBM.out.mono HBB.out.size))
                                by_cases hmt : m < xa.length
                                · have hmt2 : m < ya.length := by have := HEA.out; omega
                                  have hRA := RA.out _ HBM.out
                                  obtain ⟨b3, o3, P1, f1, rfl, hbb3, g0, g1, g2, r1⟩ := hRA.1.arg_at hmt
                                  obtain ⟨b4, o4, P2, f2, rfl, hbb4, i0, i1, i2, r2⟩ := hRA.2.arg_at hmt2
                                  have hs9 : szArgU xa[m] ≤ 100000000 := by
                                    have := HSA.out.1
                                    have := szs_mem (sz := szArgU) (List.getElem_mem hmt)
                                    omega
                                  have hs8 : szArgU ya[m] ≤ 100000000 := by
                                    have := HSA.out.2
                                    have := szs_mem (sz := szArgU) (List.getElem_mem hmt2)
                                    omega
                                  have HN := Lib.hid (show xa[m] ≠ ya[m] → R = false from fun h => HN.out (fun e => h (by subst e; rfl)))
                                  have HY := Lib.hid (fun h => ArgI.take_same hmt hmt2 HAM.out h)
                                  generalize xa[m] = x at *
                                  generalize ya[m] = y at *
                                  obtain ⟨s0, s1, s2⟩ := x
                                  obtain ⟨t0, t1, t2⟩ := y
                                  simp only at g0 g1 g2 i0 i1 i2 r1 r2 hs9 hs8
                                  simp only [szArgU] at hs9 hs8
                                  have hd : Below wr.heap.size wr wr.drew := (Below.refl _ _).drew
                                  have EQ := ArgP.equalArg s0 t0 s2 t2 P1 P2 f1 f2 s1 t1 wr.drew (r1.below hd) (r2.below hd) (ssl_small (by omega)) (ssl_small (by omega))
                                  rw [argE_dec] at EQ
                                  have EQ := Lib.hid EQ
                                  have hj0 : (0 : Int) ≤ (m : Int) := by omega
                                  have hj1 : (m : Int) < (xa.length : Int) := by omega
                                  clear hRA
                                  by_cases hv : ((s0, s1, s2) : ArgT) = (t0, t1, t2)
                                  · have HT := Lib.hid (HY.out hv)
                                    rw [decide_eq_true hv] at EQ
                                    clear r1 r2 hd HN HY hv hs9 hs8
                                    go_wp2_with fail
                                    go_region_law (first
                                      | (go_simp; go_at_call 25; refine (Calls.mono EQ.out) ?_; rintro e w5 ⟨rfl, b5⟩))
                                    all_goals
                                      have bb : Below wr.heap.size wr w5 := (Below.refl wr.heap.size wr).drew.trans b5
                                      have B9 := Lib.hid (HBM.out.trans (bb.mono HBM.out.size))
                                      have W1 := Lib.hid (HXV.out.below bb)
                                      have W2 := Lib.hid (HYV.out.below bb)
                                      clear b5 bb
                                      go_wp2
                                      go_roundw
                                      case rel => exact ⟨m + 1, by omega, by go_num, HT, B9.out, W1.out, W2.out⟩
                                      case measure => simp [intOf]; omega
                                  · have HR := Lib.hid (HN.out hv)
                                    rw [decide_eq_false hv] at EQ
                                    clear r1 r2 hd HN HY hv hs9 hs8
                                    go_wp2_with fail
                                    go_region_law (first
                                      | (go_simp; go_at_call 25; refine (Calls.mono EQ.out) ?_; rintro e w5 ⟨rfl, b5⟩))
                                    all_goals
                                      have bb : Below wr.heap.size wr w5 := (Below.refl wr.heap.size wr).drew.trans b5
                                      have B9 := Lib.hid (BW.out.trans (bb.mono BW.out.size))
                                      clear b5 bb
                                      go_wp2
                                      go_ret
                                      exact ⟨ArgI.ret_b HR.out.symm, B9.out⟩
                                · obtain rfl : m = xa.length := by omega
                                  have HT := Lib.hid (HY.out (full HEA.out HAM.out))
                                  have W1 := Lib.hid (HV.out.below HBM.out)
                                  have W2 := Lib.hid (HU.out.below HBM.out)
                                  clear HAM
                                  go_wp2
                                  go_roundw
                                  case rel => exact ⟨k + 1, by omega, by go_num, HT, BW.out, W1.out, W2.out⟩
                                  case measure => simp [intOf]; omega
                            · have hne : ((xa.length : Int) != (ya.length : Int)) = true := by simp; omega
                              have HR := Lib.hid (HN.out (fun e => g7 (congrArg (fun p : CallT => p.2.2.length) e)))
                              have B9 := Lib.hid (HBB.out.trans (BA.out.mono HBB.out.size))
                              go_wp2
                              go_ret
                              exact ⟨ArgI.ret_b HR.out.symm, B9.out⟩
                          · have HR := Lib.hid (HN.out (fun e => g8 (congrArg (fun p : CallT => p.2.1) e)))
                            have hs := ArgI.str_ne g8
                            clear g8
                            have B9 := Lib.hid (HBB.out.trans (BA.out.mono HBB.out.size))
                            go_wp2
                            go_ret
                            exact ⟨ArgI.ret_b HR.out.symm, B9.out⟩
                        · have HR := Lib.hid (HN.out (fun e => g9 (congrArg (fun p : CallT => p.1) e)))
                          have hs := ArgI.str_ne g9
                          clear g9
                          have B9 := Lib.hid (HBB.out.trans (BA.out.mono HBB.out.size))
                          go_wp2
                          go_ret
                          exact ⟨ArgI.ret_b HR.out.symm, B9.out⟩
                      · obtain rfl : k = x3.length := by omega
                        have HR := Lib.hid (show R = true by rw [HO.out, decide_eq_true (full HEN3.out HAL.out)])
                        clear HAL
                        go_wp2
                        go_ret
                        exact ⟨ArgI.ret_b HR.out.symm, HBB.out⟩
        · have hne3 : ((x3.length : Int) != (y3.length : Int)) = true := by simp; omega
          have HF := Lib.hid (show R = false by rw [HO.out]; rw [decide_eq_false (show ¬ x3 = y3 from fun e => l3 (by rw [e]))]; simp)
          go_enter Try.func13, Try.ntmps13
          go_wp2
          go_ret
          exact ⟨ArgI.ret_b HF.out.symm, BB0.out⟩
      · have hne2 : ((x2.length : Int) != (y2.length : Int)) = true := by simp; omega
        have HF := Lib.hid (show R = false by rw [HO.out]; rw [decide_eq_false (show ¬ x2 = y2 from fun e => l2 (by rw [e]))]; simp)
        go_enter Try.func13, Try.ntmps13
        go_wp2
        go_ret
        exact ⟨ArgI.ret_b HF.out.symm, BB0.out⟩
    · have hne1 : ((x1.length : Int) != (y1.length : Int)) = true := by simp; omega
      have HF := Lib.hid (show R = false by rw [HO.out]; rw [decide_eq_false (show ¬ x1 = y1 from fun e => l1 (by rw [e]))]; simp)
      go_enter Try.func13, Try.ntmps13
      go_wp2
      go_ret
      exact ⟨ArgI.ret_b HF.out.symm, BB0.out⟩
  · have hs0 := ArgI.str_ne g0
    have HF := Lib.hid (show R = false by rw [HO.out]; rw [decide_eq_false g0]; simp)
    clear g0
    go_enter Try.func13, Try.ntmps13
    go_wp2
    go_ret
    exact ⟨ArgI.ret_b HF.out.symm, BB0.out⟩
set_option maxHeartbeats 8000000 in
set_option maxRecDepth 100000 in
theorem equalProgram {A0 : Option Addr} {c0 : Nat} {x0 : List FunctionT} {A1 : Option Addr} {c1 : Nat} {x1 : List RuleT} {B0 : Option Addr} {d0 : Nat} {y0 : List FunctionT} {B1 : Option Addr} {d1 : Nat} {y1 : List RuleT} {w : World} (h : ArgR prg w [.slice A0 x0.length c0, .slice A1 x1.length c1] (x0, x1)) (k : ArgR prg w [.slice B0 y0.length d0, .slice B1 y1.length d1] (y0, y1)) (hlx : szProgramU (x0, x1) ≤ 100000000) (hly : szProgramU (y0, y1) ≤ 100000000) :
    Calls Try.prog 5 #[.agg #[.slice A0 x0.length c0, .slice A1 x1.length c1], .agg #[.slice B0 y0.length d0, .slice B1 y1.length d1]] w fun e w' => e = .returned (.bool (decide (((x0, x1) : ProgramT) = (y0, y1)))) ∧ Below w.heap.size w w' := by
  simp only [szProgramU] at hlx hly
  have HL0 := Lib.hid (show x0.length + szs szFunctionU x0 ≤ 100000000 ∧ y0.length + szs szFunctionU y0 ≤ 100000000 by omega)
  have HL1 := Lib.hid (show x1.length + szs szRuleU x1 ≤ 100000000 ∧ y1.length + szs szRuleU y1 ≤ 100000000 by omega)
  have hxl : x0.length ≤ 100000000 ∧ x1.length ≤ 100000000 := by omega
  have HA0 := Lib.hid (arg_prg h).1
  have HA1 := Lib.hid (arg_prg h).2
  have HB0 := Lib.hid (arg_prg k).1
  have HB1 := Lib.hid (arg_prg k).2
  have BB0 := Lib.hid (((Below.refl w.heap.size w).alloc (Nat.le_refl _) (Obj.cells #[Value.slice A0 x0.length c0, Value.slice A1 x1.length c1] 31)).alloc (by simp) (Obj.cells #[Value.slice B0 y0.length d0, Value.slice B1 y1.length d1] 31))
  have V0 := Lib.hid ((Lvar.new w #[Value.slice A0 x0.length c0, Value.slice A1 x1.length c1] 31).alloc (Obj.cells #[Value.slice B0 y0.length d0, Value.slice B1 y1.length d1] 31))
  have U0 := Lib.hid (Lvar.new (w.alloc (Obj.cells #[Value.slice A0 x0.length c0, Value.slice A1 x1.length c1] 31)) #[Value.slice B0 y0.length d0, Value.slice B1 y1.length d1] 31)
  simp only [World.size_alloc] at U0
  have HO := Lib.hid (show decide (((x0, x1) : ProgramT) = (y0, y1)) = (decide (x0 = y0) && decide (x1 = y1)) by rw [Bool.eq_iff_iff]; simp only [Bool.and_eq_true, decide_eq_true_eq, Prod.mk.injEq])
  generalize decide (((x0, x1) : ProgramT) = (y0, y1)) = R at *
  clear h k hlx hly
  by_cases l0 : x0.length = y0.length
  · have HEN0 := Lib.hid l0
    rw [← l0] at BB0 V0 U0 ⊢
    clear l0
    by_cases l1 : x1.length = y1.length
    · have HEN1 := Lib.hid l1
      rw [← l1] at BB0 V0 U0 ⊢
      clear l1
      go_enter Try.func5, Try.ntmps5
      go_wp2
      go_loopw [5] (fun i wr => ∃ k : Nat, k ≤ x0.length ∧ i = .int .i64 k ∧ Hid (x0.take k = y0.take k) ∧ Below w.heap.size w wr ∧ Lvar wr w.heap.size #[Value.slice A0 x0.length c0, Value.slice A1 x1.length c1] ∧ Lvar wr (w.heap.size + 1) #[Value.slice B0 x0.length d0, Value.slice B1 x1.length d1]) (fun i _ => x0.length - (intOf i).toNat)
      case atStart => exact ⟨0, Nat.zero_le _, rfl, Lib.hid rfl, BB0.out, V0.out, U0.out⟩
      case round =>
        obtain ⟨k, hk, rfl, hall, hb, hv, hu⟩ := hrel
        have HAL := Lib.hid hall.out
        have HBB := Lib.hid hb
        have HV := Lib.hid hv
        have HU := Lib.hid hu
        have q1 := hv.cell 0 (.slice A0 x0.length c0) rfl
        have q2 := hu.cell 0 (.slice B0 x0.length d0) rfl
        clear hall hb hv hu
        by_cases hlt : k < x0.length
        · have hlt2 : k < y0.length := by have := HEN0.out; omega
          obtain ⟨b1, o1, G1, e1, G3, e3, rfl, hbb1, g0, g1, g2, g3, r1, r3⟩ := (HA0.out.below HBB.out).fn_at hlt
          obtain ⟨b2, o2, H1, f1, H3, f3, rfl, hbb2, i0, i1, i2, i3, s1, s3⟩ := (HB0.out.below HBB.out).fn_at hlt2
          have hs9 : szFunctionU x0[k] ≤ 100000000 := by
            have := HL0.out.1
            have := szs_mem (sz := szFunctionU) (List.getElem_mem hlt)
            omega
          have hs8 : szFunctionU y0[k] ≤ 100000000 := by
            have := HL0.out.2
            have := szs_mem (sz := szFunctionU) (List.getElem_mem hlt2)
            omega
          have HN := Lib.hid (show x0[k] ≠ y0[k] → R = false from fun h => by rw [HO.out, decide_eq_false (show ¬ x0 = y0 from fun e => h (by subst e; rfl))]; rfl)
          have HY := Lib.hid (fun h => ArgI.take_same hlt hlt2 HAL.out h)
          generalize x0[k] = x at *
          generalize y0[k] = y at *
          obtain ⟨p0, p1, p2, p3⟩ := x
          obtain ⟨v0, v1, v2, v3⟩ := y
          simp only at g0 g1 g2 g3 i0 i1 i2 i3 r1 r3 s1 s3 hs9 hs8
          simp only [szFunctionU] at hs9 hs8
          have hi0 : (0 : Int) ≤ (k : Int) := by omega
          have hi1 : (k : Int) < (x0.length : Int) := by omega
          have BA := Lib.hid (((Below.refl wr.heap.size wr).alloc (Nat.le_refl _) (Obj.cells #[Value.string p0, Value.slice G1 p1.length e1, Value.bool p2, Value.slice G3 p3.length e3] 39)).alloc (by simp) (Obj.cells #[Value.string v0, Value.slice H1 v1.length f1, Value.bool v2, Value.slice H3 v3.length f3] 39))
          have XV0 := Lib.hid ((Lvar.new wr #[Value.string p0, Value.slice G1 p1.length e1, Value.bool p2, Value.slice G3 p3.length e3] 39).alloc (Obj.cells #[Value.string v0, Value.slice H1 v1.length f1, Value.bool v2, Value.slice H3 v3.length f3] 39))
          have YV0 := Lib.hid (Lvar.new (wr.alloc (Obj.cells #[Value.string p0, Value.slice G1 p1.length e1, Value.bool p2, Value.slice G3 p3.length e3] 39)) #[Value.string v0, Value.slice H1 v1.length f1, Value.bool v2, Value.slice H3 v3.length f3] 39)
          simp only [World.size_alloc] at YV0
          have i0' := ((Below.refl wr.heap.size wr).alloc (Nat.le_refl _) (Obj.cells #[Value.string p0, Value.slice G1 p1.length e1, Value.bool p2, Value.slice G3 p3.length e3] 39)).cell (p := ⟨b2, o2 + k * 4, none⟩) hbb2
          rw [i0] at i0'
          have i1' := ((Below.refl wr.heap.size wr).alloc (Nat.le_refl _) (Obj.cells #[Value.string p0, Value.slice G1 p1.length e1, Value.bool p2, Value.slice G3 p3.length e3] 39)).cell (p := ⟨b2, o2 + k * 4 + 1, none⟩) hbb2
          rw [i1] at i1'
          have i2' := ((Below.refl wr.heap.size wr).alloc (Nat.le_refl _) (Obj.cells #[Value.string p0, Value.slice G1 p1.length e1, Value.bool p2, Value.slice G3 p3.length e3] 39)).cell (p := ⟨b2, o2 + k * 4 + 2, none⟩) hbb2
          rw [i2] at i2'
          have i3' := ((Below.refl wr.heap.size wr).alloc (Nat.le_refl _) (Obj.cells #[Value.string p0, Value.slice G1 p1.length e1, Value.bool p2, Value.slice G3 p3.length e3] 39)).cell (p := ⟨b2, o2 + k * 4 + 3, none⟩) hbb2
          rw [i3] at i3'
          have q2' := ((Below.refl wr.heap.size wr).alloc (Nat.le_refl _) (Obj.cells #[Value.string p0, Value.slice G1 p1.length e1, Value.bool p2, Value.slice G3 p3.length e3] 39)).cell (p := ⟨w.heap.size + 1, 0, none⟩) HU.out.lt
          rw [q2] at q2'
          have HD := Lib.hid (fn_dec p0 p1 p2 p3 v0 v1 v2 v3)
          have HDN := Lib.hid (fun (h : decide (((p0, p1, p2, p3) : FunctionT) = (v0, v1, v2, v3)) = false) => HN.out (of_decide_eq_false h))
          have HDY := Lib.hid (fun (h : decide (((p0, p1, p2, p3) : FunctionT) = (v0, v1, v2, v3)) = true) => HY.out (of_decide_eq_true h))
          generalize decide (((p0, p1, p2, p3) : FunctionT) = (v0, v1, v2, v3)) = Q at *
          have ET := fun W (h : Below wr.heap.size wr W) => texts G1 H1 e1 f1 p1 v1 W (r1.below h) (s1.below h) (by omega) (by omega)
          have EL := fun W (h : Below wr.heap.size wr W) => lins G3 H3 e3 f3 p3 v3 W (r3.below h) (s3.below h) (by omega) (by omega)
          clear HN HY r1 r3 s1 s3 hs9 hs8
          generalize decide (p1 = v1) = tt at *
          generalize decide (p3 = v3) = tl at *
          have ET := Lib.hid ET
          have EL := Lib.hid EL
          by_cases g9 : p0 = v0
          · subst g9
            by_cases g8 : p2 = v2
            · subst g8
              cases tt with
              | false =>
                have HR := Lib.hid (HDN.out (by rw [HD.out]; simp))
                cases p2
                all_goals
                  go_wp2_with fail
                  refine (Calls.mono (ET.out _ ?_)) ?_
                  · first | exact BA.out | exact BA.out.drew | exact below_drewN BA.out _
                  rintro e w5 ⟨rfl, b5⟩
                  have BA1 := Lib.hid (show Below wr.heap.size wr w5 from by first | exact BA.out.trans (b5.mono BA.out.size) | exact BA.out.drew.trans (b5.mono BA.out.size))
                  have XV1 := Lib.hid (show Lvar w5 _ _ from by first | exact XV0.out.below b5 | exact (XV0.out.below (Below.refl _ _).drew).below b5)
                  have xv_3 := XV1.out.cell 3 (.slice G3 p3.length e3) rfl
                  have YV1 := Lib.hid (show Lvar w5 _ _ from by first | exact YV0.out.below b5 | exact (YV0.out.below (Below.refl _ _).drew).below b5)
                  have yv_3 := YV1.out.cell 3 (.slice H3 v3.length f3) rfl
                  clear b5
                  have B9 := Lib.hid (HBB.out.trans (BA1.out.mono HBB.out.size))
                  go_wp2
                  go_ret
                  exact ⟨ArgI.ret_b HR.out.symm, B9.out⟩
              | true =>
                cases tl with
                | false =>
                  have HR := Lib.hid (HDN.out (by rw [HD.out]; simp))
                  cases p2
                  all_goals
                    go_wp2_with fail
                    refine (Calls.mono (ET.out _ ?_)) ?_
                    · first | exact BA.out | exact BA.out.drew | exact below_drewN BA.out _
                    rintro e w5 ⟨rfl, b5⟩
                    have BA1 := Lib.hid (show Below wr.heap.size wr w5 from by first | exact BA.out.trans (b5.mono BA.out.size) | exact BA.out.drew.trans (b5.mono BA.out.size))
                    have XV1 := Lib.hid (show Lvar w5 _ _ from by first | exact XV0.out.below b5 | exact (XV0.out.below (Below.refl _ _).drew).below b5)
                    have xv_3 := XV1.out.cell 3 (.slice G3 p3.length e3) rfl
                    have YV1 := Lib.hid (show Lvar w5 _ _ from by first | exact YV0.out.below b5 | exact (YV0.out.below (Below.refl _ _).drew).below b5)
                    have yv_3 := YV1.out.cell 3 (.slice H3 v3.length f3) rfl
                    clear b5
                    go_wp2_with fail
                    refine (Calls.mono (EL.out _ ?_)) ?_
                    · first | exact BA1.out | exact BA1.out.drew | exact below_drewN BA1.out _
                    rintro e w6 ⟨rfl, b6⟩
                    have BA2 := Lib.hid (show Below wr.heap.size wr w6 from by first | exact BA1.out.trans (b6.mono BA1.out.size) | exact BA1.out.drew.trans (b6.mono BA1.out.size))
                    have XV2 := Lib.hid (show Lvar w6 _ _ from by first | exact XV1.out.below b6 | exact (XV1.out.below (Below.refl _ _).drew).below b6)
                    have YV2 := Lib.hid (show Lvar w6 _ _ from by first | exact YV1.out.below b6 | exact (YV1.out.below (Below.refl _ _).drew).below b6)
                    clear b6
                    have B9 := Lib.hid (HBB.out.trans (BA2.out.mono HBB.out.size))
                    go_wp2
                    go_ret
                    exact ⟨ArgI.ret_b HR.out.symm, B9.out⟩
                | true =>
                  have HT := Lib.hid (HDY.out (by rw [HD.out]; simp))
                  cases p2
                  all_goals
                    go_wp2_with fail
                    refine (Calls.mono (ET.out _ ?_)) ?_
                    · first | exact BA.out | exact BA.out.drew | exact below_drewN BA.out _
                    rintro e w5 ⟨rfl, b5⟩
                    have BA1 := Lib.hid (show Below wr.heap.size wr w5 from by first | exact BA.out.trans (b5.mono BA.out.size) | exact BA.out.drew.trans (b5.mono BA.out.size))
                    have XV1 := Lib.hid (show Lvar w5 _ _ from by first | exact XV0.out.below b5 | exact (XV0.out.below (Below.refl _ _).drew).below b5)
                    have xv_3 := XV1.out.cell 3 (.slice G3 p3.length e3) rfl
                    have YV1 := Lib.hid (show Lvar w5 _ _ from by first | exact YV0.out.below b5 | exact (YV0.out.below (Below.refl _ _).drew).below b5)
                    have yv_3 := YV1.out.cell 3 (.slice H3 v3.length f3) rfl
                    clear b5
                    go_wp2_with fail
                    refine (Calls.mono (EL.out _ ?_)) ?_
                    · first | exact BA1.out | exact BA1.out.drew | exact below_drewN BA1.out _
                    rintro e w6 ⟨rfl, b6⟩
                    have BA2 := Lib.hid (show Below wr.heap.size wr w6 from by first | exact BA1.out.trans (b6.mono BA1.out.size) | exact BA1.out.drew.trans (b6.mono BA1.out.size))
                    have XV2 := Lib.hid (show Lvar w6 _ _ from by first | exact XV1.out.below b6 | exact (XV1.out.below (Below.refl _ _).drew).below b6)
                    have YV2 := Lib.hid (show Lvar w6 _ _ from by first | exact YV1.out.below b6 | exact (YV1.out.below (Below.refl _ _).drew).below b6)
                    clear b6
                    have B9 := Lib.hid (HBB.out.trans (BA2.out.mono HBB.out.size))
                    have W1 := Lib.hid (HV.out.below BA2.out)
                    have W2 := Lib.hid (HU.out.below BA2.out)
                    go_wp2
                    go_roundw
                    case rel => exact ⟨k + 1, by omega, by go_num, HT, B9.out, W1.out, W2.out⟩
                    case measure => simp [intOf]; omega
            · have HR := Lib.hid (HDN.out (by rw [HD.out, decide_eq_false g8]; simp))
              cases p2 <;> cases v2
              case false.false => exact absurd rfl g8
              case true.true => exact absurd rfl g8
              all_goals
                have B9 := Lib.hid (HBB.out.trans (BA.out.mono HBB.out.size))
                go_wp2
                go_ret
                exact ⟨ArgI.ret_b HR.out.symm, B9.out⟩
          · have HR := Lib.hid (HDN.out (by rw [HD.out, decide_eq_false g9]; simp))
            have hs := ArgI.str_ne g9
            clear g9
            have B9 := Lib.hid (HBB.out.trans (BA.out.mono HBB.out.size))
            go_wp2
            go_ret
            exact ⟨ArgI.ret_b HR.out.symm, B9.out⟩
        · obtain rfl : k = x0.length := by omega
          have HO := Lib.hid (show R = decide (x1 = y1) by rw [HO.out, decide_eq_true (full HEN0.out HAL.out)]; rfl)
          clear HAL
          go_wp2
          go_loopw [8] (fun i wr => ∃ k : Nat, k ≤ x1.length ∧ i = .int .i64 k ∧ Hid (x1.take k = y1.take k) ∧ Below w.heap.size w wr ∧ Lvar wr w.heap.size #[Value.slice A0 x0.length c0, Value.slice A1 x1.length c1] ∧ Lvar wr (w.heap.size + 1) #[Value.slice B0 x0.length d0, Value.slice B1 x1.length d1]) (fun i _ => x1.length - (intOf i).toNat)
          case atStart => exact ⟨0, Nat.zero_le _, rfl, Lib.hid rfl, HBB.out, HV.out, HU.out⟩
          case round =>
            clear HBB HV HU q1 q2
            obtain ⟨k, hk, rfl, hall, hb, hv, hu⟩ := hrel
            have HAL := Lib.hid hall.out
            have HBB := Lib.hid hb
            have HV := Lib.hid hv
            have HU := Lib.hid hu
            have q1 := hv.cell 1 (.slice A1 x1.length c1) rfl
            have q2 := hu.cell 1 (.slice B1 x1.length d1) rfl
            clear hall hb hv hu
            by_cases hlt : k < x1.length
            · have hlt2 : k < y1.length := by have := HEN1.out; omega
              obtain ⟨b1, o1, G1, e1, G2, e2, G3, e3, G5, e5, rfl, hbb1, g0, g1, g2, g3, g4, g5, g6, r1, r2, r3, r5⟩ := (HA1.out.below HBB.out).rule_at hlt
              obtain ⟨b2, o2, H1, f1, H2, f2, H3, f3, H5, f5, rfl, hbb2, i0, i1, i2, i3, i4, i5, i6, s1, s2, s3, s5⟩ := (HB1.out.below HBB.out).rule_at hlt2
              have hs9 : szRuleU x1[k] ≤ 100000000 := by
                have := HL1.out.1
                have := szs_mem (sz := szRuleU) (List.getElem_mem hlt)
                omega
              have hs8 : szRuleU y1[k] ≤ 100000000 := by
                have := HL1.out.2
                have := szs_mem (sz := szRuleU) (List.getElem_mem hlt2)
                omega
              have HN := Lib.hid (show x1[k] ≠ y1[k] → R = false from fun h => by rw [HO.out]; exact decide_eq_false (fun e => h (by subst e; rfl)))
              have HY := Lib.hid (fun h => ArgI.take_same hlt hlt2 HAL.out h)
              generalize x1[k] = x at *
              generalize y1[k] = y at *
              obtain ⟨p0, p1, p2, p3, p4, p5, p6⟩ := x
              obtain ⟨v0, v1, v2, v3, v4, v5, v6⟩ := y
              simp only at g0 i0 g1 i1 g2 i2 g3 i3 g4 i4 g5 i5 g6 i6 r1 s1 r2 s2 r3 s3 r5 s5 hs9 hs8
              have hd : Below wr.heap.size wr wr.drew := (Below.refl _ _).drew
              have EQ := Lib.hid (sameRule p0 G1 e1 p1 G2 e2 p2 G3 e3 p3 p4 G5 e5 p5 p6 v0 H1 f1 v1 H2 f2 v2 H3 f3 v3 v4 H5 f5 v5 v6 wr.drew (r1.below hd) (r2.below hd) (r3.below hd) (r5.below hd) (s1.below hd) (s2.below hd) (s3.below hd) (s5.below hd) hs9 hs8)
              have hi0 : (0 : Int) ≤ (k : Int) := by omega
              have hi1 : (k : Int) < (x1.length : Int) := by omega
              by_cases hv : ((p0, p1, p2, p3, p4, p5, p6) : RuleT) = (v0, v1, v2, v3, v4, v5, v6)
              · have HT := Lib.hid (HY.out hv)
                rw [decide_eq_true hv] at EQ
                clear r1 s1 r2 s2 r3 s3 r5 s5 hs9 hs8 hd HN HY hv
                go_wp2_with fail
                go_region_law (first
                  | (go_simp; go_at_call 13; refine (Calls.mono EQ.out) ?_; rintro e w5 ⟨rfl, b5⟩))
                all_goals
                  have bb : Below wr.heap.size wr w5 := (Below.refl wr.heap.size wr).drew.trans b5
                  have B9 := Lib.hid (HBB.out.trans (bb.mono HBB.out.size))
                  have W1 := Lib.hid (HV.out.below bb)
                  have W2 := Lib.hid (HU.out.below bb)
                  clear b5 bb
                  go_wp2
                  go_roundw
                  case rel => exact ⟨k + 1, by omega, by go_num, HT, B9.out, W1.out, W2.out⟩
                  case measure => simp [intOf]; omega
              · have HR := Lib.hid (HN.out hv)
                rw [decide_eq_false hv] at EQ
                clear r1 s1 r2 s2 r3 s3 r5 s5 hs9 hs8 hd HN HY hv
                go_wp2_with fail
                go_region_law (first
                  | (go_simp; go_at_call 13; refine (Calls.mono EQ.out) ?_; rintro e w5 ⟨rfl, b5⟩))
                all_goals
                  have bb : Below wr.heap.size wr w5 := (Below.refl wr.heap.size wr).drew.trans b5
                  have B9 := Lib.hid (HBB.out.trans (bb.mono HBB.out.size))
                  clear b5 bb
                  go_wp2
                  go_ret
                  exact ⟨ArgI.ret_b HR.out.symm, B9.out⟩
            · obtain rfl : k = x1.length := by omega
              have HR := Lib.hid (show R = true by rw [HO.out, decide_eq_true (full HEN1.out HAL.out)])
              clear HAL
              go_wp2
              go_ret
              exact ⟨ArgI.ret_b HR.out.symm, HBB.out⟩
    · have hne1 : ((x1.length : Int) != (y1.length : Int)) = true := by simp; omega
      have HF := Lib.hid (show R = false by rw [HO.out]; rw [decide_eq_false (show ¬ x1 = y1 from fun e => l1 (by rw [e]))]; simp)
      go_enter Try.func5, Try.ntmps5
      go_wp2
      go_ret
      exact ⟨ArgI.ret_b HF.out.symm, BB0.out⟩
  · have hne0 : ((x0.length : Int) != (y0.length : Int)) = true := by simp; omega
    have HF := Lib.hid (show R = false by rw [HO.out]; rw [decide_eq_false (show ¬ x0 = y0 from fun e => l0 (by rw [e]))]; simp)
    go_enter Try.func5, Try.ntmps5
    go_wp2
    go_ret
    exact ⟨ArgI.ret_b HF.out.symm, BB0.out⟩
end ProgS
end Go.Proofs.Ytbdpohcababccaa
