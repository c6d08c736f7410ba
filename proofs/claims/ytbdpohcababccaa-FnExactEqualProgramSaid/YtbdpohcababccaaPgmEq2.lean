import Derived.Test.YtbdpohcababccaaPgmDec
import Derived.Test.YtbdpohcababccaaArgEq
import Derived.Test.YtbdpohcababccaaSysImpl3
import Derived.Test.YtbdpohcababccaaPgmEq
import Derived.Laws.StructEq
/-
  Programs: comparison, of the program, second part (made by tools/ueq.py).
-/
namespace Go.Proofs.Ytbdpohcababccaa
open Go.RowKit
namespace ProgI
open RowK Mem
theorem ArgS_str_at {w : World} {A : Option Addr} {n c : Nat} {xs : List ByteArray} (h : ArgS Rep.str w A n c xs) {k : Nat} (hk : k < xs.length) :
    ∃ b o, A = some ⟨b, o, none⟩ ∧ b < w.heap.size ∧ w.cell? ⟨b, o + k, none⟩ = some (.string xs[k]) := by
  obtain ⟨q, fp, h⟩ := h
  obtain ⟨b, o, f, cs, rfl, hb, hr, hc, _⟩ := slice_at h hk
  obtain ⟨_, rfl⟩ := hr
  have hn : Rep.str.n = 1 := rfl
  rw [hn, Nat.mul_one] at hc
  exact ⟨b, o, rfl, hb, hc 0 (by omega)⟩
theorem eqLins (A B : Option Addr) (c d : Nat) (xs ys : List (Int × List Int)) (w : World) (hA : ArgS Mem.lin w A xs.length c xs) (hB : ArgS Mem.lin w B ys.length d ys) (hl : xs.length + szs szLin xs ≤ 1000000000) (hl2 : ys.length + szs szLin ys ≤ 1000000000) :
    Calls Try.prog 30 #[.slice A xs.length c, .slice B ys.length d, .func (.func 31) #[] #[]] w fun e w' => e = .returned (.bool (decide (xs = ys))) ∧ Below w.heap.size w w' := by
  obtain ⟨q, fp, hA⟩ := hA
  obtain ⟨q2, gp, hB⟩ := hB
  exact SysI.eqRows q q2 fp gp A B c d xs ys w hA hB hl hl2
set_option maxHeartbeats 4000000 in
set_option maxRecDepth 100000 in
theorem eqStrs (A B : Option Addr) (c d : Nat) (xs ys : List ByteArray) (w : World) (hA : ArgS Rep.str w A xs.length c xs) (hB : ArgS Rep.str w B ys.length d ys) (hl : xs.length ≤ 1000000000) (_hl2 : ys.length ≤ 1000000000) :
    Calls Try.prog 29 #[.slice A xs.length c, .slice B ys.length d] w fun e w' => e = .returned (.bool (decide (xs = ys))) ∧ Below w.heap.size w w' := by
  by_cases hlen : xs.length = ys.length
  · have HEN := Lib.hid hlen
    have HA := Lib.hid hA
    have HB := Lib.hid hB
    rw [← hlen]
    clear hA hB hlen
    go_enter Try.func29, Try.ntmps29
    go_wp2
    go_loopw [13] (fun i wr => ∃ k : Nat, k ≤ xs.length ∧ i = .int .i64 k ∧ xs.take k = ys.take k ∧ Below w.heap.size w wr) (fun i _ => xs.length - (intOf i).toNat)
    case atStart => exact ⟨0, Nat.zero_le _, rfl, rfl, Below.refl _ _⟩
    case round =>
      obtain ⟨k, hk, rfl, hall, hb⟩ := hrel
      have HAL := Lib.hid hall
      have HBB := Lib.hid hb
      clear hall hb
      by_cases hlt : k < xs.length
      · have hlt2 : k < ys.length := by have := HEN.out; omega
        obtain ⟨b1, o1, rfl, hbb1, g0⟩ := ArgS_str_at (HA.out.below HBB.out) hlt
        obtain ⟨b2, o2, rfl, hbb2, e0⟩ := ArgS_str_at (HB.out.below HBB.out) hlt2
        have HN := Lib.hid (show xs[k] ≠ ys[k] → decide (xs = ys) = false from fun h => decide_eq_false (fun e => h (by subst e; rfl)))
        have HY := Lib.hid (fun h => ArgI.take_same hlt hlt2 HAL.out h)
        generalize xs[k] = x at *
        generalize ys[k] = y at *
        have hi0 : (0 : Int) ≤ (k : Int) := by omega
        have hi1 : (k : Int) < (xs.length : Int) := by omega
        have hi2 : (k : Int) < (ys.length : Int) := by omega
        by_cases q0 : x = y
        · subst q0
          have HT := Lib.hid (HY.out rfl)
          clear HN HY
          go_wp2
          go_quiet (fail)
          go_wp2
          go_roundw
          case rel => exact ⟨k + 1, by omega, by go_num, HT.out, below_drewN HBB.out _⟩
          case measure => simp [intOf]; omega
        · have HR := Lib.hid (HN.out (fun e => q0 e))
          clear HN HY
          have hs0 := ArgI.str_ne q0
          clear q0
          go_wp2
          go_quiet (fail)
          go_wp2
          go_ret
          exact ⟨by rw [HR.out]; try rfl, below_drewN HBB.out _⟩
      · obtain rfl : k = xs.length := by omega
        have HR := Lib.hid (show decide (xs = ys) = true by
          refine decide_eq_true ?_
          have := HAL.out
          rwa [List.take_length, HEN.out, List.take_length] at this)
        clear HAL
        go_wp2
        go_ret
        exact ⟨by rw [HR.out]; try rfl, HBB.out⟩
  · have HR := Lib.hid (show decide (xs = ys) = false from decide_eq_false (fun e => hlen (by rw [e])))
    have hne : ((xs.length : Int) != (ys.length : Int)) = true := by simp; omega
    have hne2 : (xs.length == ys.length) = false := beq_eq_false_iff_ne.2 hlen
    clear hA hB hlen
    go_enter Try.func29, Try.ntmps29
    go_wp2
    go_ret
    exact ⟨by rw [HR.out]; try rfl, Below.refl _ _⟩
set_option maxHeartbeats 4000000 in
set_option maxRecDepth 100000 in
theorem eqPats (A B : Option Addr) (c d : Nat) (xs ys : List PatternT) (w : World) (hA : ArgS Mem.pat w A xs.length c xs) (hB : ArgS Mem.pat w B ys.length d ys) (hl : xs.length ≤ 1000000000) (_hl2 : ys.length ≤ 1000000000) :
    Calls Try.prog 32 #[.slice A xs.length c, .slice B ys.length d] w fun e w' => e = .returned (.bool (decide (xs = ys))) ∧ Below w.heap.size w w' := by
  by_cases hlen : xs.length = ys.length
  · have HEN := Lib.hid hlen
    have HA := Lib.hid hA
    have HB := Lib.hid hB
    rw [← hlen]
    clear hA hB hlen
    go_enter Try.func32, Try.ntmps32
    go_wp2
    go_loopw [13] (fun i wr => ∃ k : Nat, k ≤ xs.length ∧ i = .int .i64 k ∧ xs.take k = ys.take k ∧ Below w.heap.size w wr) (fun i _ => xs.length - (intOf i).toNat)
    case atStart => exact ⟨0, Nat.zero_le _, rfl, rfl, Below.refl _ _⟩
    case round =>
      obtain ⟨k, hk, rfl, hall, hb⟩ := hrel
      have HAL := Lib.hid hall
      have HBB := Lib.hid hb
      clear hall hb
      by_cases hlt : k < xs.length
      · have hlt2 : k < ys.length := by have := HEN.out; omega
        obtain ⟨b1, o1, rfl, hbb1, g0, g1, g2, g3⟩ := (HA.out.below HBB.out).pat_at hlt
        obtain ⟨b2, o2, rfl, hbb2, e0, e1, e2, e3⟩ := (HB.out.below HBB.out).pat_at hlt2
        have HN := Lib.hid (show xs[k] ≠ ys[k] → decide (xs = ys) = false from fun h => decide_eq_false (fun e => h (by subst e; rfl)))
        have HY := Lib.hid (fun h => ArgI.take_same hlt hlt2 HAL.out h)
        generalize xs[k] = x at *
        generalize ys[k] = y at *
        obtain ⟨z0, z1, z2, z3⟩ := x
        obtain ⟨u0, u1, u2, u3⟩ := y
        simp only at g0 e0 g1 e1 g2 e2 g3 e3
        have hi0 : (0 : Int) ≤ (k : Int) := by omega
        have hi1 : (k : Int) < (xs.length : Int) := by omega
        have hi2 : (k : Int) < (ys.length : Int) := by omega
        by_cases q0 : z0 = u0
        · subst q0
          by_cases q1 : z1 = u1
          · subst q1
            cases z1
            all_goals
              by_cases q2 : z2 = u2
              · subst q2
                by_cases q3 : z3 = u3
                · subst q3
                  have HT := Lib.hid (HY.out rfl)
                  clear HN HY
                  go_wp2
                  go_quiet (fail)
                  go_wp2
                  go_roundw
                  case rel => exact ⟨k + 1, by omega, by go_num, HT.out, below_drewN HBB.out _⟩
                  case measure => simp [intOf]; omega
                · have HR := Lib.hid (HN.out (fun e => q3 (congrArg (fun p : PatternT => p.2.2.2) e)))
                  clear HN HY
                  have hs3 := ArgI.str_ne q3
                  clear q3
                  go_wp2
                  go_quiet (fail)
                  go_wp2
                  go_ret
                  exact ⟨by rw [HR.out]; try rfl, below_drewN HBB.out _⟩
              · have HR := Lib.hid (HN.out (fun e => q2 (congrArg (fun p : PatternT => p.2.2.1) e)))
                clear HN HY
                have hs2 := ArgI.str_ne q2
                clear q2
                go_wp2
                go_quiet (fail)
                go_wp2
                go_ret
                exact ⟨by rw [HR.out]; try rfl, below_drewN HBB.out _⟩
          · have HR := Lib.hid (HN.out (fun e => q1 (congrArg (fun p : PatternT => p.2.1) e)))
            clear HN HY
            cases z1 <;> cases u1
            case false.false => exact absurd rfl q1
            case true.true => exact absurd rfl q1
            all_goals
              clear q1
              go_wp2
              go_quiet (fail)
              go_wp2
              go_ret
              exact ⟨by rw [HR.out]; try rfl, below_drewN HBB.out _⟩
        · have HR := Lib.hid (HN.out (fun e => q0 (congrArg (fun p : PatternT => p.1) e)))
          clear HN HY
          have hs0 := ArgI.str_ne q0
          clear q0
          go_wp2
          go_quiet (fail)
          go_wp2
          go_ret
          exact ⟨by rw [HR.out]; try rfl, below_drewN HBB.out _⟩
      · obtain rfl : k = xs.length := by omega
        have HR := Lib.hid (show decide (xs = ys) = true by
          refine decide_eq_true ?_
          have := HAL.out
          rwa [List.take_length, HEN.out, List.take_length] at this)
        clear HAL
        go_wp2
        go_ret
        exact ⟨by rw [HR.out]; try rfl, HBB.out⟩
  · have HR := Lib.hid (show decide (xs = ys) = false from decide_eq_false (fun e => hlen (by rw [e])))
    have hne : ((xs.length : Int) != (ys.length : Int)) = true := by simp; omega
    have hne2 : (xs.length == ys.length) = false := beq_eq_false_iff_ne.2 hlen
    clear hA hB hlen
    go_enter Try.func32, Try.ntmps32
    go_wp2
    go_ret
    exact ⟨by rw [HR.out]; try rfl, Below.refl _ _⟩
set_option maxHeartbeats 4000000 in
set_option maxRecDepth 100000 in
theorem eqFn10 (z0 : ByteArray) (A1 : Option Addr) (c1 : Nat) (x1 : List ByteArray) (z2 : Bool) (A3 : Option Addr) (c3 : Nat) (x3 : List (Int × List Int)) (u0 : ByteArray) (B1 : Option Addr) (d1 : Nat) (y1 : List ByteArray) (u2 : Bool) (B3 : Option Addr) (d3 : Nat) (y3 : List (Int × List Int)) (w : World) (h1 : ArgS Rep.str w A1 x1.length c1 x1) (h3 : ArgS Mem.lin w A3 x3.length c3 x3) (k1 : ArgS Rep.str w B1 y1.length d1 y1) (k3 : ArgS Mem.lin w B3 y3.length d3 y3) (hlx : szFunctionU (z0, x1, z2, x3) ≤ 100000000) (hly : szFunctionU (u0, y1, u2, y3) ≤ 100000000) :
    Calls Try.prog 17 #[.agg #[.string z0, .slice A1 x1.length c1, .bool z2, .slice A3 x3.length c3], .agg #[.string u0, .slice B1 y1.length d1, .bool u2, .slice B3 y3.length d3]] w fun e w' => e = .returned (.bool (decide (((z0, x1, z2, x3) : FunctionT) = (u0, y1, u2, y3)))) ∧ Below w.heap.size w w' := by
  simp only [szFunctionU] at hlx hly
  have BB0 := Lib.hid (((Below.refl w.heap.size w).alloc (Nat.le_refl _) (Obj.cells #[Value.string z0, Value.slice A1 x1.length c1, Value.bool z2, Value.slice A3 x3.length c3] 39)).alloc (by simp) (Obj.cells #[Value.string u0, Value.slice B1 y1.length d1, Value.bool u2, Value.slice B3 y3.length d3] 39))
  have V0 := Lib.hid ((Lvar.new w #[Value.string z0, Value.slice A1 x1.length c1, Value.bool z2, Value.slice A3 x3.length c3] 39).alloc (Obj.cells #[Value.string u0, Value.slice B1 y1.length d1, Value.bool u2, Value.slice B3 y3.length d3] 39))
  have U0 := Lib.hid (Lvar.new (w.alloc (Obj.cells #[Value.string z0, Value.slice A1 x1.length c1, Value.bool z2, Value.slice A3 x3.length c3] 39)) #[Value.string u0, Value.slice B1 y1.length d1, Value.bool u2, Value.slice B3 y3.length d3] 39)
  simp only [World.size_alloc] at U0
  have EQ0 := fun W (h : Below w.heap.size w W) => eqStrs A1 B1 c1 d1 x1 y1 W (h1.below h) (k1.below h) (by omega) (by omega)
  obtain ⟨t0, ht0⟩ : ∃ t : Bool, t = decide (x1 = y1) := ⟨_, rfl⟩
  simp only [← ht0] at EQ0
  have EQ0 := Lib.hid EQ0
  have HT0 := Lib.hid ht0
  clear ht0
  have EQ1 := fun W (h : Below w.heap.size w W) => eqLins A3 B3 c3 d3 x3 y3 W (h3.below h) (k3.below h) (by omega) (by omega)
  obtain ⟨t1, ht1⟩ : ∃ t : Bool, t = decide (x3 = y3) := ⟨_, rfl⟩
  simp only [← ht1] at EQ1
  have EQ1 := Lib.hid EQ1
  have HT1 := Lib.hid ht1
  clear ht1
  obtain ⟨R, hR⟩ : ∃ R : Bool, R = decide (((z0, x1, z2, x3) : FunctionT) = (u0, y1, u2, y3)) := ⟨_, rfl⟩
  rw [← hR]
  have HO := Lib.hid hR
  clear hR hlx hly h1 k1 h3 k3
  by_cases g0 : z0 = u0
  · subst g0
    by_cases g1 : z2 = u2
    · subst g1
      cases z2
      all_goals
        cases t0 with
        | true =>
          cases t1 with
          | true =>
            have HF := Lib.hid (show R = true by rw [HO.out]; exact decide_eq_true (by have e0 := of_decide_eq_true HT0.out.symm; have e1 := of_decide_eq_true HT1.out.symm; simp_all))
            go_enter Try.func17, Try.ntmps17
            go_wp2_with fail
            refine (Calls.mono (EQ0.out _ ?_)) ?_
            · first | exact BB0.out | exact BB0.out.drew | exact below_drewN BB0.out _
            rintro e w1 ⟨rfl, b1⟩
            have BB1 := Lib.hid (show Below w.heap.size w w1 from by first | exact BB0.out.trans (b1.mono BB0.out.size) | exact BB0.out.drew.trans (b1.mono BB0.out.size))
            have V1 := Lib.hid (show Lvar w1 _ _ from by first | exact V0.out.below b1 | exact (V0.out.below (Below.refl _ _).drew).below b1)
            have v1_0 := V1.out.cell 0 _ rfl
            have v1_1 := V1.out.cell 1 _ rfl
            have v1_2 := V1.out.cell 2 _ rfl
            have v1_3 := V1.out.cell 3 _ rfl
            have U1 := Lib.hid (show Lvar w1 _ _ from by first | exact U0.out.below b1 | exact (U0.out.below (Below.refl _ _).drew).below b1)
            have u1_0 := U1.out.cell 0 _ rfl
            have u1_1 := U1.out.cell 1 _ rfl
            have u1_2 := U1.out.cell 2 _ rfl
            have u1_3 := U1.out.cell 3 _ rfl
            clear b1
            go_wp2_with fail
            refine (Calls.mono (EQ1.out _ ?_)) ?_
            · first | exact BB1.out | exact BB1.out.drew | exact below_drewN BB1.out _
            rintro e w2 ⟨rfl, b2⟩
            have BB2 := Lib.hid (show Below w.heap.size w w2 from by first | exact BB1.out.trans (b2.mono BB1.out.size) | exact BB1.out.drew.trans (b2.mono BB1.out.size))
            have V2 := Lib.hid (show Lvar w2 _ _ from by first | exact V1.out.below b2 | exact (V1.out.below (Below.refl _ _).drew).below b2)
            have v2_0 := V2.out.cell 0 _ rfl
            have v2_1 := V2.out.cell 1 _ rfl
            have v2_2 := V2.out.cell 2 _ rfl
            have v2_3 := V2.out.cell 3 _ rfl
            clear v1_0 v1_1 v1_2 v1_3
            have U2 := Lib.hid (show Lvar w2 _ _ from by first | exact U1.out.below b2 | exact (U1.out.below (Below.refl _ _).drew).below b2)
            have u2_0 := U2.out.cell 0 _ rfl
            have u2_1 := U2.out.cell 1 _ rfl
            have u2_2 := U2.out.cell 2 _ rfl
            have u2_3 := U2.out.cell 3 _ rfl
            clear u1_0 u1_1 u1_2 u1_3
            clear b2
            go_wp2
            go_ret
            exact ⟨ArgI.ret_b HF.out.symm, BB2.out⟩
          | false =>
            have HF := Lib.hid (show R = false by rw [HO.out]; exact decide_eq_false (fun e => by have e2 := of_decide_eq_false HT1.out.symm; exact e2 (congrArg (fun p : FunctionT => p.2.2.2) e)))
            go_enter Try.func17, Try.ntmps17
            go_wp2_with fail
            refine (Calls.mono (EQ0.out _ ?_)) ?_
            · first | exact BB0.out | exact BB0.out.drew | exact below_drewN BB0.out _
            rintro e w1 ⟨rfl, b1⟩
            have BB1 := Lib.hid (show Below w.heap.size w w1 from by first | exact BB0.out.trans (b1.mono BB0.out.size) | exact BB0.out.drew.trans (b1.mono BB0.out.size))
            have V1 := Lib.hid (show Lvar w1 _ _ from by first | exact V0.out.below b1 | exact (V0.out.below (Below.refl _ _).drew).below b1)
            have v1_0 := V1.out.cell 0 _ rfl
            have v1_1 := V1.out.cell 1 _ rfl
            have v1_2 := V1.out.cell 2 _ rfl
            have v1_3 := V1.out.cell 3 _ rfl
            have U1 := Lib.hid (show Lvar w1 _ _ from by first | exact U0.out.below b1 | exact (U0.out.below (Below.refl _ _).drew).below b1)
            have u1_0 := U1.out.cell 0 _ rfl
            have u1_1 := U1.out.cell 1 _ rfl
            have u1_2 := U1.out.cell 2 _ rfl
            have u1_3 := U1.out.cell 3 _ rfl
            clear b1
            go_wp2_with fail
            refine (Calls.mono (EQ1.out _ ?_)) ?_
            · first | exact BB1.out | exact BB1.out.drew | exact below_drewN BB1.out _
            rintro e w2 ⟨rfl, b2⟩
            have BB2 := Lib.hid (show Below w.heap.size w w2 from by first | exact BB1.out.trans (b2.mono BB1.out.size) | exact BB1.out.drew.trans (b2.mono BB1.out.size))
            have V2 := Lib.hid (show Lvar w2 _ _ from by first | exact V1.out.below b2 | exact (V1.out.below (Below.refl _ _).drew).below b2)
            have v2_0 := V2.out.cell 0 _ rfl
            have v2_1 := V2.out.cell 1 _ rfl
            have v2_2 := V2.out.cell 2 _ rfl
            have v2_3 := V2.out.cell 3 _ rfl
            clear v1_0 v1_1 v1_2 v1_3
            have U2 := Lib.hid (show Lvar w2 _ _ from by first | exact U1.out.below b2 | exact (U1.out.below (Below.refl _ _).drew).below b2)
            have u2_0 := U2.out.cell 0 _ rfl
            have u2_1 := U2.out.cell 1 _ rfl
            have u2_2 := U2.out.cell 2 _ rfl
            have u2_3 := U2.out.cell 3 _ rfl
            clear u1_0 u1_1 u1_2 u1_3
            clear b2
            go_wp2
            go_ret
            exact ⟨ArgI.ret_b HF.out.symm, BB2.out⟩
        | false =>
          have HF := Lib.hid (show R = false by rw [HO.out]; exact decide_eq_false (fun e => by have e2 := of_decide_eq_false HT0.out.symm; exact e2 (congrArg (fun p : FunctionT => p.2.1) e)))
          go_enter Try.func17, Try.ntmps17
          go_wp2_with fail
          refine (Calls.mono (EQ0.out _ ?_)) ?_
          · first | exact BB0.out | exact BB0.out.drew | exact below_drewN BB0.out _
          rintro e w1 ⟨rfl, b1⟩
          have BB1 := Lib.hid (show Below w.heap.size w w1 from by first | exact BB0.out.trans (b1.mono BB0.out.size) | exact BB0.out.drew.trans (b1.mono BB0.out.size))
          have V1 := Lib.hid (show Lvar w1 _ _ from by first | exact V0.out.below b1 | exact (V0.out.below (Below.refl _ _).drew).below b1)
          have v1_0 := V1.out.cell 0 _ rfl
          have v1_1 := V1.out.cell 1 _ rfl
          have v1_2 := V1.out.cell 2 _ rfl
          have v1_3 := V1.out.cell 3 _ rfl
          have U1 := Lib.hid (show Lvar w1 _ _ from by first | exact U0.out.below b1 | exact (U0.out.below (Below.refl _ _).drew).below b1)
          have u1_0 := U1.out.cell 0 _ rfl
          have u1_1 := U1.out.cell 1 _ rfl
          have u1_2 := U1.out.cell 2 _ rfl
          have u1_3 := U1.out.cell 3 _ rfl
          clear b1
          go_wp2
          go_ret
          exact ⟨ArgI.ret_b HF.out.symm, BB1.out⟩
    · have HF := Lib.hid (show R = false by rw [HO.out]; exact decide_eq_false (fun e => g1 (congrArg (fun p : FunctionT => p.2.2.1) e)))
      cases z2 <;> cases u2
      case false.false => exact absurd rfl g1
      case true.true => exact absurd rfl g1
      all_goals
        clear g1
        go_enter Try.func17, Try.ntmps17
        go_wp2
        go_ret
        exact ⟨ArgI.ret_b HF.out.symm, BB0.out⟩
  · have HF := Lib.hid (show R = false by rw [HO.out]; exact decide_eq_false (fun e => g0 (congrArg (fun p : FunctionT => p.1) e)))
    have hs0 := ArgI.str_ne g0
    clear g0
    go_enter Try.func17, Try.ntmps17
    go_wp2
    go_ret
    exact ⟨ArgI.ret_b HF.out.symm, BB0.out⟩
set_option maxHeartbeats 4000000 in
set_option maxRecDepth 100000 in
theorem eqFns (A B : Option Addr) (c d : Nat) (xs ys : List FunctionT) (w : World) (hA : ArgS Mem.fn w A xs.length c xs) (hB : ArgS Mem.fn w B ys.length d ys) (hl : xs.length + szs szFunctionU xs ≤ 100000000) (hl2 : ys.length + szs szFunctionU ys ≤ 100000000) :
    Calls Try.prog 16 #[.slice A xs.length c, .slice B ys.length d, .func (.func 17) #[] #[]] w fun e w' => e = .returned (.bool (decide (xs = ys))) ∧ Below w.heap.size w w' := by
  have hxl : xs.length ≤ 1000000000 := by omega
  have hyl : ys.length ≤ 1000000000 := by omega
  by_cases hlen : xs.length = ys.length
  · have HL := Lib.hid hl
    have HL2 := Lib.hid hl2
    have HEN := Lib.hid hlen
    have HA := Lib.hid hA
    have HB := Lib.hid hB
    rw [← hlen]
    clear hA hB hl hl2 hlen hyl
    go_enter Try.func16, Try.ntmps16
    go_wp2
    go_loopw [17] (fun i wr => ∃ k : Nat, k ≤ xs.length ∧ i = .int .i64 k ∧ xs.take k = ys.take k ∧ Below w.heap.size w wr) (fun i _ => xs.length - (intOf i).toNat)
    case atStart => exact ⟨0, Nat.zero_le _, rfl, rfl, Below.refl _ _⟩
    case round =>
      obtain ⟨k, hk, rfl, hall, hb⟩ := hrel
      have HAL := Lib.hid hall
      have HBB := Lib.hid hb
      clear hall hb
      by_cases hlt : k < xs.length
      · have hlt2 : k < ys.length := by have := HEN.out; omega
        obtain ⟨b1, o1, A1, c1, A3, c3, rfl, hbb1, g0, g1, g2, g3, r1, r3⟩ := (HA.out.below HBB.out).fn_at hlt
        obtain ⟨b2, o2, B1, d1, B3, d3, rfl, hbb2, e0, e1, e2, e3, q1, q3⟩ := (HB.out.below HBB.out).fn_at hlt2
        have hs9 : szFunctionU xs[k] ≤ 100000000 := by
          have := HL.out
          have := szs_mem (sz := szFunctionU) (List.getElem_mem hlt)
          omega
        have hs8 : szFunctionU ys[k] ≤ 100000000 := by
          have := HL2.out
          have := szs_mem (sz := szFunctionU) (List.getElem_mem hlt2)
          omega
        have HN := Lib.hid (show xs[k] ≠ ys[k] → decide (xs = ys) = false from fun h => decide_eq_false (fun e => h (by subst e; rfl)))
        have HY := Lib.hid (fun h => ArgI.take_same hlt hlt2 HAL.out h)
        generalize xs[k] = x at *
        generalize ys[k] = y at *
        obtain ⟨z0, x1, z2, x3⟩ := x
        obtain ⟨u0, y1, u2, y3⟩ := y
        simp only at g0 e0 g1 e1 g2 e2 g3 e3 r1 q1 r3 q3 hs9 hs8
        have hd : Below wr.heap.size wr ((wr.alloc (Obj.cells #[Value.string z0, Value.slice A1 x1.length c1, Value.bool z2, Value.slice A3 x3.length c3] 39)).alloc (Obj.cells #[Value.string u0, Value.slice B1 y1.length d1, Value.bool u2, Value.slice B3 y3.length d3] 39)) := ((Below.refl _ _).alloc (Nat.le_refl _) _).alloc (by simp) _
        have EQ := eqFn10 z0 A1 c1 x1 z2 A3 c3 x3 u0 B1 d1 y1 u2 B3 d3 y3 _ (r1.below hd) (r3.below hd) (q1.below hd) (q3.below hd) hs9 hs8
        have EQ := Lib.hid EQ
        have BA := Lib.hid (HBB.out.trans (hd.mono HBB.out.size))
        have hi0 : (0 : Int) ≤ (k : Int) := by omega
        have hi1 : (k : Int) < (xs.length : Int) := by omega
        have hi2 : (k : Int) < (ys.length : Int) := by omega
        have e0' := ((Below.refl wr.heap.size wr).alloc (Nat.le_refl _) (Obj.cells #[Value.string z0, Value.slice A1 x1.length c1, Value.bool z2, Value.slice A3 x3.length c3] 39)).cell (p := ⟨b2, o2 + k * 4, none⟩) hbb2
        rw [e0] at e0'
        have e1' := ((Below.refl wr.heap.size wr).alloc (Nat.le_refl _) (Obj.cells #[Value.string z0, Value.slice A1 x1.length c1, Value.bool z2, Value.slice A3 x3.length c3] 39)).cell (p := ⟨b2, o2 + k * 4 + 1, none⟩) hbb2
        rw [e1] at e1'
        have e2' := ((Below.refl wr.heap.size wr).alloc (Nat.le_refl _) (Obj.cells #[Value.string z0, Value.slice A1 x1.length c1, Value.bool z2, Value.slice A3 x3.length c3] 39)).cell (p := ⟨b2, o2 + k * 4 + 2, none⟩) hbb2
        rw [e2] at e2'
        have e3' := ((Below.refl wr.heap.size wr).alloc (Nat.le_refl _) (Obj.cells #[Value.string z0, Value.slice A1 x1.length c1, Value.bool z2, Value.slice A3 x3.length c3] 39)).cell (p := ⟨b2, o2 + k * 4 + 3, none⟩) hbb2
        rw [e3] at e3'
        by_cases hv : ((z0, x1, z2, x3) : FunctionT) = (u0, y1, u2, y3)
        · have HT := Lib.hid (HY.out hv)
          rw [decide_eq_true hv] at EQ
          clear r1 q1 r3 q3 hd HN HY hv
          go_wp2_with fail
          refine (Calls.mono EQ.out) ?_
          rintro e w1 ⟨rfl, bq⟩
          have B9 := Lib.hid (BA.out.trans (bq.mono BA.out.size))
          clear bq
          go_wp2
          go_roundw
          case rel => exact ⟨k + 1, by omega, by go_num, HT.out, B9.out⟩
          case measure => simp [intOf]; omega
        · have HR := Lib.hid (HN.out hv)
          rw [decide_eq_false hv] at EQ
          clear r1 q1 r3 q3 hd HN HY hv
          go_wp2_with fail
          refine (Calls.mono EQ.out) ?_
          rintro e w1 ⟨rfl, bq⟩
          have B9 := Lib.hid (BA.out.trans (bq.mono BA.out.size))
          clear bq
          go_wp2
          go_ret
          exact ⟨by rw [HR.out]; try rfl, B9.out⟩
      · obtain rfl : k = xs.length := by omega
        have HR := Lib.hid (show decide (xs = ys) = true by
          refine decide_eq_true ?_
          have := HAL.out
          rwa [List.take_length, HEN.out, List.take_length] at this)
        clear HAL
        go_wp2
        go_ret
        exact ⟨by rw [HR.out]; try rfl, HBB.out⟩
  · have HR := Lib.hid (show decide (xs = ys) = false from decide_eq_false (fun e => hlen (by rw [e])))
    have hne : ((xs.length : Int) != (ys.length : Int)) = true := by simp; omega
    have hne2 : (xs.length == ys.length) = false := beq_eq_false_iff_ne.2 hlen
    clear hA hB hl hl2 hlen
    go_enter Try.func16, Try.ntmps16
    go_wp2
    go_ret
    exact ⟨by rw [HR.out]; try rfl, Below.refl _ _⟩
set_option maxHeartbeats 4000000 in
set_option maxRecDepth 100000 in
theorem eqRule10 (z0 : ByteArray) (A1 : Option Addr) (c1 : Nat) (x1 : List PatternT) (A2 : Option Addr) (c2 : Nat) (x2 : List SumT) (A3 : Option Addr) (c3 : Nat) (x3 : List CallT) (z4 : Bool) (A5 : Option Addr) (c5 : Nat) (x5 : List SumT) (z6 : ByteArray) (u0 : ByteArray) (B1 : Option Addr) (d1 : Nat) (y1 : List PatternT) (B2 : Option Addr) (d2 : Nat) (y2 : List SumT) (B3 : Option Addr) (d3 : Nat) (y3 : List CallT) (u4 : Bool) (B5 : Option Addr) (d5 : Nat) (y5 : List SumT) (u6 : ByteArray) (w : World) (h1 : ArgS Mem.pat w A1 x1.length c1 x1) (h2 : ArgS Mem.sum w A2 x2.length c2 x2) (h3 : ArgS Mem.call w A3 x3.length c3 x3) (h5 : ArgS Mem.sum w A5 x5.length c5 x5) (k1 : ArgS Mem.pat w B1 y1.length d1 y1) (k2 : ArgS Mem.sum w B2 y2.length d2 y2) (k3 : ArgS Mem.call w B3 y3.length d3 y3) (k5 : ArgS Mem.sum w B5 y5.length d5 y5) (hlx : szRuleU (z0, x1, x2, x3, (z4, x5, z6)) ≤ 100000000) (hly : szRuleU (u0, y1, y2, y3, (u4, y5, u6)) ≤ 100000000) :
    Calls Try.prog 19 #[.agg #[.string z0, .slice A1 x1.length c1, .slice A2 x2.length c2, .slice A3 x3.length c3, .bool z4, .slice A5 x5.length c5, .string z6], .agg #[.string u0, .slice B1 y1.length d1, .slice B2 y2.length d2, .slice B3 y3.length d3, .bool u4, .slice B5 y5.length d5, .string u6]] w fun e w' => e = .returned (.bool (decide (((z0, x1, x2, x3, (z4, x5, z6)) : RuleT) = (u0, y1, y2, y3, (u4, y5, u6))))) ∧ Below w.heap.size w w' := by
  simp only [szRuleU, szArgU] at hlx hly
  have BB0 := Lib.hid (((Below.refl w.heap.size w).alloc (Nat.le_refl _) (Obj.cells #[Value.string z0, Value.slice A1 x1.length c1, Value.slice A2 x2.length c2, Value.slice A3 x3.length c3, Value.bool z4, Value.slice A5 x5.length c5, Value.string z6] 49)).alloc (by simp) (Obj.cells #[Value.string u0, Value.slice B1 y1.length d1, Value.slice B2 y2.length d2, Value.slice B3 y3.length d3, Value.bool u4, Value.slice B5 y5.length d5, Value.string u6] 49))
  have V0 := Lib.hid ((Lvar.new w #[Value.string z0, Value.slice A1 x1.length c1, Value.slice A2 x2.length c2, Value.slice A3 x3.length c3, Value.bool z4, Value.slice A5 x5.length c5, Value.string z6] 49).alloc (Obj.cells #[Value.string u0, Value.slice B1 y1.length d1, Value.slice B2 y2.length d2, Value.slice B3 y3.length d3, Value.bool u4, Value.slice B5 y5.length d5, Value.string u6] 49))
  have U0 := Lib.hid (Lvar.new (w.alloc (Obj.cells #[Value.string z0, Value.slice A1 x1.length c1, Value.slice A2 x2.length c2, Value.slice A3 x3.length c3, Value.bool z4, Value.slice A5 x5.length c5, Value.string z6] 49)) #[Value.string u0, Value.slice B1 y1.length d1, Value.slice B2 y2.length d2, Value.slice B3 y3.length d3, Value.bool u4, Value.slice B5 y5.length d5, Value.string u6] 49)
  simp only [World.size_alloc] at U0
  have EQ0 := fun W (h : Below w.heap.size w W) => eqPats A1 B1 c1 d1 x1 y1 W (h1.below h) (k1.below h) (by omega) (by omega)
  obtain ⟨t0, ht0⟩ : ∃ t : Bool, t = decide (x1 = y1) := ⟨_, rfl⟩
  simp only [← ht0] at EQ0
  have EQ0 := Lib.hid EQ0
  have HT0 := Lib.hid ht0
  clear ht0
  have EQ1 := fun W (h : Below w.heap.size w W) => ArgI.eqSums A2 B2 c2 d2 x2 y2 W (h2.below h) (k2.below h) (ssl_small (by omega)) (ssl_small (by omega))
  obtain ⟨t1, ht1⟩ : ∃ t : Bool, t = decide (x2 = y2) := ⟨_, rfl⟩
  simp only [← ht1] at EQ1
  have EQ1 := Lib.hid EQ1
  have HT1 := Lib.hid ht1
  clear ht1
  have EQ2 := fun W (h : Below w.heap.size w W) => eqCalls A3 B3 c3 d3 x3 y3 W (h3.below h) (k3.below h) (by omega) (by omega)
  obtain ⟨t2, ht2⟩ : ∃ t : Bool, t = decide (x3 = y3) := ⟨_, rfl⟩
  simp only [← ht2] at EQ2
  have EQ2 := Lib.hid EQ2
  have HT2 := Lib.hid ht2
  clear ht2
  have EQ3 := fun W (h : Below w.heap.size w W) => eqArg10 z4 A5 c5 x5 z6 u4 B5 d5 y5 u6 W (h5.below h) (k5.below h) (by simp only [szArgU]; omega) (by simp only [szArgU]; omega)
  obtain ⟨t3, ht3⟩ : ∃ t : Bool, t = decide (((z4, x5, z6) : ArgT) = (u4, y5, u6)) := ⟨_, rfl⟩
  simp only [← ht3] at EQ3
  have EQ3 := Lib.hid EQ3
  have HT3 := Lib.hid ht3
  clear ht3
  obtain ⟨R, hR⟩ : ∃ R : Bool, R = decide (((z0, x1, x2, x3, (z4, x5, z6)) : RuleT) = (u0, y1, y2, y3, (u4, y5, u6))) := ⟨_, rfl⟩
  rw [← hR]
  have HO := Lib.hid hR
  clear hR hlx hly h1 k1 h2 k2 h3 k3 h5 k5
  by_cases g0 : z0 = u0
  · subst g0
    cases t0 with
    | true =>
      cases t1 with
      | true =>
        cases t2 with
        | true =>
          cases t3 with
          | true =>
            have HF := Lib.hid (show R = true by rw [HO.out]; exact decide_eq_true (by have e0 := of_decide_eq_true HT0.out.symm; have e1 := of_decide_eq_true HT1.out.symm; have e2 := of_decide_eq_true HT2.out.symm; have e3 := of_decide_eq_true HT3.out.symm; simp_all))
            go_enter Try.func19, Try.ntmps19
            go_wp2_with fail
            refine (Calls.mono (EQ0.out _ ?_)) ?_
            · first | exact BB0.out | exact BB0.out.drew | exact below_drewN BB0.out _
            rintro e w1 ⟨rfl, b1⟩
            have BB1 := Lib.hid (show Below w.heap.size w w1 from by first | exact BB0.out.trans (b1.mono BB0.out.size) | exact BB0.out.drew.trans (b1.mono BB0.out.size))
            have V1 := Lib.hid (show Lvar w1 _ _ from by first | exact V0.out.below b1 | exact (V0.out.below (Below.refl _ _).drew).below b1)
            have v1_0 := V1.out.cell 0 _ rfl
            have v1_1 := V1.out.cell 1 _ rfl
            have v1_2 := V1.out.cell 2 _ rfl
            have v1_3 := V1.out.cell 3 _ rfl
            have v1_4 := V1.out.cell 4 _ rfl
            have v1_5 := V1.out.cell 5 _ rfl
            have v1_6 := V1.out.cell 6 _ rfl
            have U1 := Lib.hid (show Lvar w1 _ _ from by first | exact U0.out.below b1 | exact (U0.out.below (Below.refl _ _).drew).below b1)
            have u1_0 := U1.out.cell 0 _ rfl
            have u1_1 := U1.out.cell 1 _ rfl
            have u1_2 := U1.out.cell 2 _ rfl
            have u1_3 := U1.out.cell 3 _ rfl
            have u1_4 := U1.out.cell 4 _ rfl
            have u1_5 := U1.out.cell 5 _ rfl
            have u1_6 := U1.out.cell 6 _ rfl
            clear b1
            go_wp2_with fail
            refine (Calls.mono (EQ1.out _ ?_)) ?_
            · first | exact BB1.out | exact BB1.out.drew | exact below_drewN BB1.out _
            rintro e w2 ⟨rfl, b2⟩
            have BB2 := Lib.hid (show Below w.heap.size w w2 from by first | exact BB1.out.trans (b2.mono BB1.out.size) | exact BB1.out.drew.trans (b2.mono BB1.out.size))
            have V2 := Lib.hid (show Lvar w2 _ _ from by first | exact V1.out.below b2 | exact (V1.out.below (Below.refl _ _).drew).below b2)
            have v2_0 := V2.out.cell 0 _ rfl
            have v2_1 := V2.out.cell 1 _ rfl
            have v2_2 := V2.out.cell 2 _ rfl
            have v2_3 := V2.out.cell 3 _ rfl
            have v2_4 := V2.out.cell 4 _ rfl
            have v2_5 := V2.out.cell 5 _ rfl
            have v2_6 := V2.out.cell 6 _ rfl
            clear v1_0 v1_1 v1_2 v1_3 v1_4 v1_5 v1_6
            have U2 := Lib.hid (show Lvar w2 _ _ from by first | exact U1.out.below b2 | exact (U1.out.below (Below.refl _ _).drew).below b2)
            have u2_0 := U2.out.cell 0 _ rfl
            have u2_1 := U2.out.cell 1 _ rfl
            have u2_2 := U2.out.cell 2 _ rfl
            have u2_3 := U2.out.cell 3 _ rfl
            have u2_4 := U2.out.cell 4 _ rfl
            have u2_5 := U2.out.cell 5 _ rfl
            have u2_6 := U2.out.cell 6 _ rfl
            clear u1_0 u1_1 u1_2 u1_3 u1_4 u1_5 u1_6
            clear b2
            go_wp2_with fail
            refine (Calls.mono (EQ2.out _ ?_)) ?_
            · first | exact BB2.out | exact BB2.out.drew | exact below_drewN BB2.out _
            rintro e w3 ⟨rfl, b3⟩
            have BB3 := Lib.hid (show Below w.heap.size w w3 from by first | exact BB2.out.trans (b3.mono BB2.out.size) | exact BB2.out.drew.trans (b3.mono BB2.out.size))
            have V3 := Lib.hid (show Lvar w3 _ _ from by first | exact V2.out.below b3 | exact (V2.out.below (Below.refl _ _).drew).below b3)
            have v3_0 := V3.out.cell 0 _ rfl
            have v3_1 := V3.out.cell 1 _ rfl
            have v3_2 := V3.out.cell 2 _ rfl
            have v3_3 := V3.out.cell 3 _ rfl
            have v3_4 := V3.out.cell 4 _ rfl
            have v3_5 := V3.out.cell 5 _ rfl
            have v3_6 := V3.out.cell 6 _ rfl
            clear v2_0 v2_1 v2_2 v2_3 v2_4 v2_5 v2_6
            have U3 := Lib.hid (show Lvar w3 _ _ from by first | exact U2.out.below b3 | exact (U2.out.below (Below.refl _ _).drew).below b3)
            have u3_0 := U3.out.cell 0 _ rfl
            have u3_1 := U3.out.cell 1 _ rfl
            have u3_2 := U3.out.cell 2 _ rfl
            have u3_3 := U3.out.cell 3 _ rfl
            have u3_4 := U3.out.cell 4 _ rfl
            have u3_5 := U3.out.cell 5 _ rfl
            have u3_6 := U3.out.cell 6 _ rfl
            clear u2_0 u2_1 u2_2 u2_3 u2_4 u2_5 u2_6
            clear b3
            go_wp2_with fail
            refine (Calls.mono (EQ3.out _ ?_)) ?_
            · first | exact BB3.out | exact BB3.out.drew | exact below_drewN BB3.out _
            rintro e w4 ⟨rfl, b4⟩
            have BB4 := Lib.hid (show Below w.heap.size w w4 from by first | exact BB3.out.trans (b4.mono BB3.out.size) | exact BB3.out.drew.trans (b4.mono BB3.out.size))
            have V4 := Lib.hid (show Lvar w4 _ _ from by first | exact V3.out.below b4 | exact (V3.out.below (Below.refl _ _).drew).below b4)
            have v4_0 := V4.out.cell 0 _ rfl
            have v4_1 := V4.out.cell 1 _ rfl
            have v4_2 := V4.out.cell 2 _ rfl
            have v4_3 := V4.out.cell 3 _ rfl
            have v4_4 := V4.out.cell 4 _ rfl
            have v4_5 := V4.out.cell 5 _ rfl
            have v4_6 := V4.out.cell 6 _ rfl
            clear v3_0 v3_1 v3_2 v3_3 v3_4 v3_5 v3_6
            have U4 := Lib.hid (show Lvar w4 _ _ from by first | exact U3.out.below b4 | exact (U3.out.below (Below.refl _ _).drew).below b4)
            have u4_0 := U4.out.cell 0 _ rfl
            have u4_1 := U4.out.cell 1 _ rfl
            have u4_2 := U4.out.cell 2 _ rfl
            have u4_3 := U4.out.cell 3 _ rfl
            have u4_4 := U4.out.cell 4 _ rfl
            have u4_5 := U4.out.cell 5 _ rfl
            have u4_6 := U4.out.cell 6 _ rfl
            clear u3_0 u3_1 u3_2 u3_3 u3_4 u3_5 u3_6
            clear b4
            go_wp2
            go_ret
            exact ⟨ArgI.ret_b HF.out.symm, BB4.out⟩
          | false =>
            have HF := Lib.hid (show R = false by rw [HO.out]; exact decide_eq_false (fun e => by have e2 := of_decide_eq_false HT3.out.symm; exact e2 (congrArg (fun p : RuleT => p.2.2.2.2) e)))
            go_enter Try.func19, Try.ntmps19
            go_wp2_with fail
            refine (Calls.mono (EQ0.out _ ?_)) ?_
            · first | exact BB0.out | exact BB0.out.drew | exact below_drewN BB0.out _
            rintro e w1 ⟨rfl, b1⟩
            have BB1 := Lib.hid (show Below w.heap.size w w1 from by first | exact BB0.out.trans (b1.mono BB0.out.size) | exact BB0.out.drew.trans (b1.mono BB0.out.size))
            have V1 := Lib.hid (show Lvar w1 _ _ from by first | exact V0.out.below b1 | exact (V0.out.below (Below.refl _ _).drew).below b1)
            have v1_0 := V1.out.cell 0 _ rfl
            have v1_1 := V1.out.cell 1 _ rfl
            have v1_2 := V1.out.cell 2 _ rfl
            have v1_3 := V1.out.cell 3 _ rfl
            have v1_4 := V1.out.cell 4 _ rfl
            have v1_5 := V1.out.cell 5 _ rfl
            have v1_6 := V1.out.cell 6 _ rfl
            have U1 := Lib.hid (show Lvar w1 _ _ from by first | exact U0.out.below b1 | exact (U0.out.below (Below.refl _ _).drew).below b1)
            have u1_0 := U1.out.cell 0 _ rfl
            have u1_1 := U1.out.cell 1 _ rfl
            have u1_2 := U1.out.cell 2 _ rfl
            have u1_3 := U1.out.cell 3 _ rfl
            have u1_4 := U1.out.cell 4 _ rfl
            have u1_5 := U1.out.cell 5 _ rfl
            have u1_6 := U1.out.cell 6 _ rfl
            clear b1
            go_wp2_with fail
            refine (Calls.mono (EQ1.out _ ?_)) ?_
            · first | exact BB1.out | exact BB1.out.drew | exact below_drewN BB1.out _
            rintro e w2 ⟨rfl, b2⟩
            have BB2 := Lib.hid (show Below w.heap.size w w2 from by first | exact BB1.out.trans (b2.mono BB1.out.size) | exact BB1.out.drew.trans (b2.mono BB1.out.size))
            have V2 := Lib.hid (show Lvar w2 _ _ from by first | exact V1.out.below b2 | exact (V1.out.below (Below.refl _ _).drew).below b2)
            have v2_0 := V2.out.cell 0 _ rfl
            have v2_1 := V2.out.cell 1 _ rfl
            have v2_2 := V2.out.cell 2 _ rfl
            have v2_3 := V2.out.cell 3 _ rfl
            have v2_4 := V2.out.cell 4 _ rfl
            have v2_5 := V2.out.cell 5 _ rfl
            have v2_6 := V2.out.cell 6 _ rfl
            clear v1_0 v1_1 v1_2 v1_3 v1_4 v1_5 v1_6
            have U2 := Lib.hid (show Lvar w2 _ _ from by first | exact U1.out.below b2 | exact (U1.out.below (Below.refl _ _).drew).below b2)
            have u2_0 := U2.out.cell 0 _ rfl
            have u2_1 := U2.out.cell 1 _ rfl
            have u2_2 := U2.out.cell 2 _ rfl
            have u2_3 := U2.out.cell 3 _ rfl
            have u2_4 := U2.out.cell 4 _ rfl
            have u2_5 := U2.out.cell 5 _ rfl
            have u2_6 := U2.out.cell 6 _ rfl
            clear u1_0 u1_1 u1_2 u1_3 u1_4 u1_5 u1_6
            clear b2
            go_wp2_with fail
            refine (Calls.mono (EQ2.out _ ?_)) ?_
            · first | exact BB2.out | exact BB2.out.drew | exact below_drewN BB2.out _
            rintro e w3 ⟨rfl, b3⟩
            have BB3 := Lib.hid (show Below w.heap.size w w3 from by first | exact BB2.out.trans (b3.mono BB2.out.size) | exact BB2.out.drew.trans (b3.mono BB2.out.size))
            have V3 := Lib.hid (show Lvar w3 _ _ from by first | exact V2.out.below b3 | exact (V2.out.below (Below.refl _ _).drew).below b3)
            have v3_0 := V3.out.cell 0 _ rfl
            have v3_1 := V3.out.cell 1 _ rfl
            have v3_2 := V3.out.cell 2 _ rfl
            have v3_3 := V3.out.cell 3 _ rfl
            have v3_4 := V3.out.cell 4 _ rfl
            have v3_5 := V3.out.cell 5 _ rfl
            have v3_6 := V3.out.cell 6 _ rfl
            clear v2_0 v2_1 v2_2 v2_3 v2_4 v2_5 v2_6
            have U3 := Lib.hid (show Lvar w3 _ _ from by first | exact U2.out.below b3 | exact (U2.out.below (Below.refl _ _).drew).below b3)
            have u3_0 := U3.out.cell 0 _ rfl
            have u3_1 := U3.out.cell 1 _ rfl
            have u3_2 := U3.out.cell 2 _ rfl
            have u3_3 := U3.out.cell 3 _ rfl
            have u3_4 := U3.out.cell 4 _ rfl
            have u3_5 := U3.out.cell 5 _ rfl
            have u3_6 := U3.out.cell 6 _ rfl
            clear u2_0 u2_1 u2_2 u2_3 u2_4 u2_5 u2_6
            clear b3
            go_wp2_with fail
            refine (Calls.mono (EQ3.out _ ?_)) ?_
            · first | exact BB3.out | exact BB3.out.drew | exact below_drewN BB3.out _
            rintro e w4 ⟨rfl, b4⟩
            have BB4 := Lib.hid (show Below w.heap.size w w4 from by first | exact BB3.out.trans (b4.mono BB3.out.size) | exact BB3.out.drew.trans (b4.mono BB3.out.size))
            have V4 := Lib.hid (show Lvar w4 _ _ from by first | exact V3.out.below b4 | exact (V3.out.below (Below.refl _ _).drew).below b4)
            have v4_0 := V4.out.cell 0 _ rfl
            have v4_1 := V4.out.cell 1 _ rfl
            have v4_2 := V4.out.cell 2 _ rfl
            have v4_3 := V4.out.cell 3 _ rfl
            have v4_4 := V4.out.cell 4 _ rfl
            have v4_5 := V4.out.cell 5 _ rfl
            have v4_6 := V4.out.cell 6 _ rfl
            clear v3_0 v3_1 v3_2 v3_3 v3_4 v3_5 v3_6
            have U4 := Lib.hid (show Lvar w4 _ _ from by first | exact U3.out.below b4 | exact (U3.out.below (Below.refl _ _).drew).below b4)
            have u4_0 := U4.out.cell 0 _ rfl
            have u4_1 := U4.out.cell 1 _ rfl
            have u4_2 := U4.out.cell 2 _ rfl
            have u4_3 := U4.out.cell 3 _ rfl
            have u4_4 := U4.out.cell 4 _ rfl
            have u4_5 := U4.out.cell 5 _ rfl
            have u4_6 := U4.out.cell 6 _ rfl
            clear u3_0 u3_1 u3_2 u3_3 u3_4 u3_5 u3_6
            clear b4
            go_wp2
            go_ret
            exact ⟨ArgI.ret_b HF.out.symm, BB4.out⟩
        | false =>
          have HF := Lib.hid (show R = false by rw [HO.out]; exact decide_eq_false (fun e => by have e2 := of_decide_eq_false HT2.out.symm; exact e2 (congrArg (fun p : RuleT => p.2.2.2.1) e)))
          go_enter Try.func19, Try.ntmps19
          go_wp2_with fail
          refine (Calls.mono (EQ0.out _ ?_)) ?_
          · first | exact BB0.out | exact BB0.out.drew | exact below_drewN BB0.out _
          rintro e w1 ⟨rfl, b1⟩
          have BB1 := Lib.hid (show Below w.heap.size w w1 from by first | exact BB0.out.trans (b1.mono BB0.out.size) | exact BB0.out.drew.trans (b1.mono BB0.out.size))
          have V1 := Lib.hid (show Lvar w1 _ _ from by first | exact V0.out.below b1 | exact (V0.out.below (Below.refl _ _).drew).below b1)
          have v1_0 := V1.out.cell 0 _ rfl
          have v1_1 := V1.out.cell 1 _ rfl
          have v1_2 := V1.out.cell 2 _ rfl
          have v1_3 := V1.out.cell 3 _ rfl
          have v1_4 := V1.out.cell 4 _ rfl
          have v1_5 := V1.out.cell 5 _ rfl
          have v1_6 := V1.out.cell 6 _ rfl
          have U1 := Lib.hid (show Lvar w1 _ _ from by first | exact U0.out.below b1 | exact (U0.out.below (Below.refl _ _).drew).below b1)
          have u1_0 := U1.out.cell 0 _ rfl
          have u1_1 := U1.out.cell 1 _ rfl
          have u1_2 := U1.out.cell 2 _ rfl
          have u1_3 := U1.out.cell 3 _ rfl
          have u1_4 := U1.out.cell 4 _ rfl
          have u1_5 := U1.out.cell 5 _ rfl
          have u1_6 := U1.out.cell 6 _ rfl
          clear b1
          go_wp2_with fail
          refine (Calls.mono (EQ1.out _ ?_)) ?_
          · first | exact BB1.out | exact BB1.out.drew | exact below_drewN BB1.out _
          rintro e w2 ⟨rfl, b2⟩
          have BB2 := Lib.hid (show Below w.heap.size w w2 from by first | exact BB1.out.trans (b2.mono BB1.out.size) | exact BB1.out.drew.trans (b2.mono BB1.out.size))
          have V2 := Lib.hid (show Lvar w2 _ _ from by first | exact V1.out.below b2 | exact (V1.out.below (Below.refl _ _).drew).below b2)
          have v2_0 := V2.out.cell 0 _ rfl
          have v2_1 := V2.out.cell 1 _ rfl
          have v2_2 := V2.out.cell 2 _ rfl
          have v2_3 := V2.out.cell 3 _ rfl
          have v2_4 := V2.out.cell 4 _ rfl
          have v2_5 := V2.out.cell 5 _ rfl
          have v2_6 := V2.out.cell 6 _ rfl
          clear v1_0 v1_1 v1_2 v1_3 v1_4 v1_5 v1_6
          have U2 := Lib.hid (show Lvar w2 _ _ from by first | exact U1.out.below b2 | exact (U1.out.below (Below.refl _ _).drew).below b2)
          have u2_0 := U2.out.cell 0 _ rfl
          have u2_1 := U2.out.cell 1 _ rfl
          have u2_2 := U2.out.cell 2 _ rfl
          have u2_3 := U2.out.cell 3 _ rfl
          have u2_4 := U2.out.cell 4 _ rfl
          have u2_5 := U2.out.cell 5 _ rfl
          have u2_6 := U2.out.cell 6 _ rfl
          clear u1_0 u1_1 u1_2 u1_3 u1_4 u1_5 u1_6
          clear b2
          go_wp2_with fail
          refine (Calls.mono (EQ2.out _ ?_)) ?_
          · first | exact BB2.out | exact BB2.out.drew | exact below_drewN BB2.out _
          rintro e w3 ⟨rfl, b3⟩
          have BB3 := Lib.hid (show Below w.heap.size w w3 from by first | exact BB2.out.trans (b3.mono BB2.out.size) | exact BB2.out.drew.trans (b3.mono BB2.out.size))
          have V3 := Lib.hid (show Lvar w3 _ _ from by first | exact V2.out.below b3 | exact (V2.out.below (Below.refl _ _).drew).below b3)
          have v3_0 := V3.out.cell 0 _ rfl
          have v3_1 := V3.out.cell 1 _ rfl
          have v3_2 := V3.out.cell 2 _ rfl
          have v3_3 := V3.out.cell 3 _ rfl
          have v3_4 := V3.out.cell 4 _ rfl
          have v3_5 := V3.out.cell 5 _ rfl
          have v3_6 := V3.out.cell 6 _ rfl
          clear v2_0 v2_1 v2_2 v2_3 v2_4 v2_5 v2_6
          have U3 := Lib.hid (show Lvar w3 _ _ from by first | exact U2.out.below b3 | exact (U2.out.below (Below.refl _ _).drew).below b3)
          have u3_0 := U3.out.cell 0 _ rfl
          have u3_1 := U3.out.cell 1 _ rfl
          have u3_2 := U3.out.cell 2 _ rfl
          have u3_3 := U3.out.cell 3 _ rfl
          have u3_4 := U3.out.cell 4 _ rfl
          have u3_5 := U3.out.cell 5 _ rfl
          have u3_6 := U3.out.cell 6 _ rfl
          clear u2_0 u2_1 u2_2 u2_3 u2_4 u2_5 u2_6
          clear b3
          go_wp2
          go_ret
          exact ⟨ArgI.ret_b HF.out.symm, BB3.out⟩
      | false =>
        have HF := Lib.hid (show R = false by rw [HO.out]; exact decide_eq_false (fun e => by have e2 := of_decide_eq_false HT1.out.symm; exact e2 (congrArg (fun p : RuleT => p.2.2.1) e)))
        go_enter Try.func19, Try.ntmps19
        go_wp2_with fail
        refine (Calls.mono (EQ0.out _ ?_)) ?_
        · first | exact BB0.out | exact BB0.out.drew | exact below_drewN BB0.out _
        rintro e w1 ⟨rfl, b1⟩
        have BB1 := Lib.hid (show Below w.heap.size w w1 from by first | exact BB0.out.trans (b1.mono BB0.out.size) | exact BB0.out.drew.trans (b1.mono BB0.out.size))
        have V1 := Lib.hid (show Lvar w1 _ _ from by first | exact V0.out.below b1 | exact (V0.out.below (Below.refl _ _).drew).below b1)
        have v1_0 := V1.out.cell 0 _ rfl
        have v1_1 := V1.out.cell 1 _ rfl
        have v1_2 := V1.out.cell 2 _ rfl
        have v1_3 := V1.out.cell 3 _ rfl
        have v1_4 := V1.out.cell 4 _ rfl
        have v1_5 := V1.out.cell 5 _ rfl
        have v1_6 := V1.out.cell 6 _ rfl
        have U1 := Lib.hid (show Lvar w1 _ _ from by first | exact U0.out.below b1 | exact (U0.out.below (Below.refl _ _).drew).below b1)
        have u1_0 := U1.out.cell 0 _ rfl
        have u1_1 := U1.out.cell 1 _ rfl
        have u1_2 := U1.out.cell 2 _ rfl
        have u1_3 := U1.out.cell 3 _ rfl
        have u1_4 := U1.out.cell 4 _ rfl
        have u1_5 := U1.out.cell 5 _ rfl
        have u1_6 := U1.out.cell 6 _ rfl
        clear b1
        go_wp2_with fail
        refine (Calls.mono (EQ1.out _ ?_)) ?_
        · first | exact BB1.out | exact BB1.out.drew | exact below_drewN BB1.out _
        rintro e w2 ⟨rfl, b2⟩
        have BB2 := Lib.hid (show Below w.heap.size w w2 from by first | exact BB1.out.trans (b2.mono BB1.out.size) | exact BB1.out.drew.trans (b2.mono BB1.out.size))
        have V2 := Lib.hid (show Lvar w2 _ _ from by first | exact V1.out.below b2 | exact (V1.out.below (Below.refl _ _).drew).below b2)
        have v2_0 := V2.out.cell 0 _ rfl
        have v2_1 := V2.out.cell 1 _ rfl
        have v2_2 := V2.out.cell 2 _ rfl
        have v2_3 := V2.out.cell 3 _ rfl
        have v2_4 := V2.out.cell 4 _ rfl
        have v2_5 := V2.out.cell 5 _ rfl
        have v2_6 := V2.out.cell 6 _ rfl
        clear v1_0 v1_1 v1_2 v1_3 v1_4 v1_5 v1_6
        have U2 := Lib.hid (show Lvar w2 _ _ from by first | exact U1.out.below b2 | exact (U1.out.below (Below.refl _ _).drew).below b2)
        have u2_0 := U2.out.cell 0 _ rfl
        have u2_1 := U2.out.cell 1 _ rfl
        have u2_2 := U2.out.cell 2 _ rfl
        have u2_3 := U2.out.cell 3 _ rfl
        have u2_4 := U2.out.cell 4 _ rfl
        have u2_5 := U2.out.cell 5 _ rfl
        have u2_6 := U2.out.cell 6 _ rfl
        clear u1_0 u1_1 u1_2 u1_3 u1_4 u1_5 u1_6
        clear b2
        go_wp2
        go_ret
        exact ⟨ArgI.ret_b HF.out.symm, BB2.out⟩
    | false =>
      have HF := Lib.hid (show R = false by rw [HO.out]; exact decide_eq_false (fun e => by have e2 := of_decide_eq_false HT0.out.symm; exact e2 (congrArg (fun p : RuleT => p.2.1) e)))
      go_enter Try.func19, Try.ntmps19
      go_wp2_with fail
      refine (Calls.mono (EQ0.out _ ?_)) ?_
      · first | exact BB0.out | exact BB0.out.drew | exact below_drewN BB0.out _
      rintro e w1 ⟨rfl, b1⟩
      have BB1 := Lib.hid (show Below w.heap.size w w1 from by first | exact BB0.out.trans (b1.mono BB0.out.size) | exact BB0.out.drew.trans (b1.mono BB0.out.size))
      have V1 := Lib.hid (show Lvar w1 _ _ from by first | exact V0.out.below b1 | exact (V0.out.below (Below.refl _ _).drew).below b1)
      have v1_0 := V1.out.cell 0 _ rfl
      have v1_1 := V1.out.cell 1 _ rfl
      have v1_2 := V1.out.cell 2 _ rfl
      have v1_3 := V1.out.cell 3 _ rfl
      have v1_4 := V1.out.cell 4 _ rfl
      have v1_5 := V1.out.cell 5 _ rfl
      have v1_6 := V1.out.cell 6 _ rfl
      have U1 := Lib.hid (show Lvar w1 _ _ from by first | exact U0.out.below b1 | exact (U0.out.below (Below.refl _ _).drew).below b1)
      have u1_0 := U1.out.cell 0 _ rfl
      have u1_1 := U1.out.cell 1 _ rfl
      have u1_2 := U1.out.cell 2 _ rfl
      have u1_3 := U1.out.cell 3 _ rfl
      have u1_4 := U1.out.cell 4 _ rfl
      have u1_5 := U1.out.cell 5 _ rfl
      have u1_6 := U1.out.cell 6 _ rfl
      clear b1
      go_wp2
      go_ret
      exact ⟨ArgI.ret_b HF.out.symm, BB1.out⟩
  · have HF := Lib.hid (show R = false by rw [HO.out]; exact decide_eq_false (fun e => g0 (congrArg (fun p : RuleT => p.1) e)))
    have hs0 := ArgI.str_ne g0
    clear g0
    go_enter Try.func19, Try.ntmps19
    go_wp2
    go_ret
    exact ⟨ArgI.ret_b HF.out.symm, BB0.out⟩
set_option maxHeartbeats 4000000 in
set_option maxRecDepth 100000 in
theorem eqRules (A B : Option Addr) (c d : Nat) (xs ys : List RuleT) (w : World) (hA : ArgS Mem.rule w A xs.length c xs) (hB : ArgS Mem.rule w B ys.length d ys) (hl : xs.length + szs szRuleU xs ≤ 100000000) (hl2 : ys.length + szs szRuleU ys ≤ 100000000) :
    Calls Try.prog 18 #[.slice A xs.length c, .slice B ys.length d, .func (.func 19) #[] #[]] w fun e w' => e = .returned (.bool (decide (xs = ys))) ∧ Below w.heap.size w w' := by
  have hxl : xs.length ≤ 1000000000 := by omega
  have hyl : ys.length ≤ 1000000000 := by omega
  by_cases hlen : xs.length = ys.length
  · have HL := Lib.hid hl
    have HL2 := Lib.hid hl2
    have HEN := Lib.hid hlen
    have HA := Lib.hid hA
    have HB := Lib.hid hB
    rw [← hlen]
    clear hA hB hl hl2 hlen hyl
    go_enter Try.func18, Try.ntmps18
    go_wp2
    go_loopw [17] (fun i wr => ∃ k : Nat, k ≤ xs.length ∧ i = .int .i64 k ∧ xs.take k = ys.take k ∧ Below w.heap.size w wr) (fun i _ => xs.length - (intOf i).toNat)
    case atStart => exact ⟨0, Nat.zero_le _, rfl, rfl, Below.refl _ _⟩
    case round =>
      obtain ⟨k, hk, rfl, hall, hb⟩ := hrel
      have HAL := Lib.hid hall
      have HBB := Lib.hid hb
      clear hall hb
      by_cases hlt : k < xs.length
      · have hlt2 : k < ys.length := by have := HEN.out; omega
        obtain ⟨b1, o1, A1, c1, A2, c2, A3, c3, A5, c5, rfl, hbb1, g0, g1, g2, g3, g4, g5, g6, r1, r2, r3, r5⟩ := (HA.out.below HBB.out).rule_at hlt
        obtain ⟨b2, o2, B1, d1, B2, d2, B3, d3, B5, d5, rfl, hbb2, e0, e1, e2, e3, e4, e5, e6, q1, q2, q3, q5⟩ := (HB.out.below HBB.out).rule_at hlt2
        have hs9 : szRuleU xs[k] ≤ 100000000 := by
          have := HL.out
          have := szs_mem (sz := szRuleU) (List.getElem_mem hlt)
          omega
        have hs8 : szRuleU ys[k] ≤ 100000000 := by
          have := HL2.out
          have := szs_mem (sz := szRuleU) (List.getElem_mem hlt2)
          omega
        have HN := Lib.hid (show xs[k] ≠ ys[k] → decide (xs = ys) = false from fun h => decide_eq_false (fun e => h (by subst e; rfl)))
        have HY := Lib.hid (fun h => ArgI.take_same hlt hlt2 HAL.out h)
        generalize xs[k] = x at *
        generalize ys[k] = y at *
        obtain ⟨z0, x1, x2, x3, ⟨z4, x5, z6⟩⟩ := x
        obtain ⟨u0, y1, y2, y3, ⟨u4, y5, u6⟩⟩ := y
        simp only at g0 e0 g1 e1 g2 e2 g3 e3 g4 e4 g5 e5 g6 e6 r1 q1 r2 q2 r3 q3 r5 q5 hs9 hs8
        have hd : Below wr.heap.size wr ((wr.alloc (Obj.cells #[Value.string z0, Value.slice A1 x1.length c1, Value.slice A2 x2.length c2, Value.slice A3 x3.length c3, Value.bool z4, Value.slice A5 x5.length c5, Value.string z6] 49)).alloc (Obj.cells #[Value.string u0, Value.slice B1 y1.length d1, Value.slice B2 y2.length d2, Value.slice B3 y3.length d3, Value.bool u4, Value.slice B5 y5.length d5, Value.string u6] 49)) := ((Below.refl _ _).alloc (Nat.le_refl _) _).alloc (by simp) _
        have EQ := eqRule10 z0 A1 c1 x1 A2 c2 x2 A3 c3 x3 z4 A5 c5 x5 z6 u0 B1 d1 y1 B2 d2 y2 B3 d3 y3 u4 B5 d5 y5 u6 _ (r1.below hd) (r2.below hd) (r3.below hd) (r5.below hd) (q1.below hd) (q2.below hd) (q3.below hd) (q5.below hd) hs9 hs8
        have EQ := Lib.hid EQ
        have BA := Lib.hid (HBB.out.trans (hd.mono HBB.out.size))
        have hi0 : (0 : Int) ≤ (k : Int) := by omega
        have hi1 : (k : Int) < (xs.length : Int) := by omega
        have hi2 : (k : Int) < (ys.length : Int) := by omega
        have e0' := ((Below.refl wr.heap.size wr).alloc (Nat.le_refl _) (Obj.cells #[Value.string z0, Value.slice A1 x1.length c1, Value.slice A2 x2.length c2, Value.slice A3 x3.length c3, Value.bool z4, Value.slice A5 x5.length c5, Value.string z6] 49)).cell (p := ⟨b2, o2 + k * 7, none⟩) hbb2
        rw [e0] at e0'
        have e1' := ((Below.refl wr.heap.size wr).alloc (Nat.le_refl _) (Obj.cells #[Value.string z0, Value.slice A1 x1.length c1, Value.slice A2 x2.length c2, Value.slice A3 x3.length c3, Value.bool z4, Value.slice A5 x5.length c5, Value.string z6] 49)).cell (p := ⟨b2, o2 + k * 7 + 1, none⟩) hbb2
        rw [e1] at e1'
        have e2' := ((Below.refl wr.heap.size wr).alloc (Nat.le_refl _) (Obj.cells #[Value.string z0, Value.slice A1 x1.length c1, Value.slice A2 x2.length c2, Value.slice A3 x3.length c3, Value.bool z4, Value.slice A5 x5.length c5, Value.string z6] 49)).cell (p := ⟨b2, o2 + k * 7 + 2, none⟩) hbb2
        rw [e2] at e2'
        have e3' := ((Below.refl wr.heap.size wr).alloc (Nat.le_refl _) (Obj.cells #[Value.string z0, Value.slice A1 x1.length c1, Value.slice A2 x2.length c2, Value.slice A3 x3.length c3, Value.bool z4, Value.slice A5 x5.length c5, Value.string z6] 49)).cell (p := ⟨b2, o2 + k * 7 + 3, none⟩) hbb2
        rw [e3] at e3'
        have e4' := ((Below.refl wr.heap.size wr).alloc (Nat.le_refl _) (Obj.cells #[Value.string z0, Value.slice A1 x1.length c1, Value.slice A2 x2.length c2, Value.slice A3 x3.length c3, Value.bool z4, Value.slice A5 x5.length c5, Value.string z6] 49)).cell (p := ⟨b2, o2 + k * 7 + 4, none⟩) hbb2
        rw [e4] at e4'
        have e5' := ((Below.refl wr.heap.size wr).alloc (Nat.le_refl _) (Obj.cells #[Value.string z0, Value.slice A1 x1.length c1, Value.slice A2 x2.length c2, Value.slice A3 x3.length c3, Value.bool z4, Value.slice A5 x5.length c5, Value.string z6] 49)).cell (p := ⟨b2, o2 + k * 7 + 5, none⟩) hbb2
        rw [e5] at e5'
        have e6' := ((Below.refl wr.heap.size wr).alloc (Nat.le_refl _) (Obj.cells #[Value.string z0, Value.slice A1 x1.length c1, Value.slice A2 x2.length c2, Value.slice A3 x3.length c3, Value.bool z4, Value.slice A5 x5.length c5, Value.string z6] 49)).cell (p := ⟨b2, o2 + k * 7 + 6, none⟩) hbb2
        rw [e6] at e6'
        by_cases hv : ((z0, x1, x2, x3, (z4, x5, z6)) : RuleT) = (u0, y1, y2, y3, (u4, y5, u6))
        · have HT := Lib.hid (HY.out hv)
          rw [decide_eq_true hv] at EQ
          clear r1 q1 r2 q2 r3 q3 r5 q5 hd HN HY hv
          go_wp2_with fail
          refine (Calls.mono EQ.out) ?_
          rintro e w1 ⟨rfl, bq⟩
          have B9 := Lib.hid (BA.out.trans (bq.mono BA.out.size))
          clear bq
          go_wp2
          go_roundw
          case rel => exact ⟨k + 1, by omega, by go_num, HT.out, B9.out⟩
          case measure => simp [intOf]; omega
        · have HR := Lib.hid (HN.out hv)
          rw [decide_eq_false hv] at EQ
          clear r1 q1 r2 q2 r3 q3 r5 q5 hd HN HY hv
          go_wp2_with fail
          refine (Calls.mono EQ.out) ?_
          rintro e w1 ⟨rfl, bq⟩
          have B9 := Lib.hid (BA.out.trans (bq.mono BA.out.size))
          clear bq
          go_wp2
          go_ret
          exact ⟨by rw [HR.out]; try rfl, B9.out⟩
      · obtain rfl : k = xs.length := by omega
        have HR := Lib.hid (show decide (xs = ys) = true by
          refine decide_eq_true ?_
          have := HAL.out
          rwa [List.take_length, HEN.out, List.take_length] at this)
        clear HAL
        go_wp2
        go_ret
        exact ⟨by rw [HR.out]; try rfl, HBB.out⟩
  · have HR := Lib.hid (show decide (xs = ys) = false from decide_eq_false (fun e => hlen (by rw [e])))
    have hne : ((xs.length : Int) != (ys.length : Int)) = true := by simp; omega
    have hne2 : (xs.length == ys.length) = false := beq_eq_false_iff_ne.2 hlen
    clear hA hB hl hl2 hlen
    go_enter Try.func18, Try.ntmps18
    go_wp2
    go_ret
    exact ⟨by rw [HR.out]; try rfl, Below.refl _ _⟩
set_option maxHeartbeats 4000000 in
set_option maxRecDepth 100000 in
theorem equalProgram0 (A0 : Option Addr) (c0 : Nat) (x0 : List FunctionT) (A1 : Option Addr) (c1 : Nat) (x1 : List RuleT) (B0 : Option Addr) (d0 : Nat) (y0 : List FunctionT) (B1 : Option Addr) (d1 : Nat) (y1 : List RuleT) (w : World) (h0 : ArgS Mem.fn w A0 x0.length c0 x0) (h1 : ArgS Mem.rule w A1 x1.length c1 x1) (k0 : ArgS Mem.fn w B0 y0.length d0 y0) (k1 : ArgS Mem.rule w B1 y1.length d1 y1) (hlx : szProgramU (x0, x1) ≤ 100000000) (hly : szProgramU (y0, y1) ≤ 100000000) :
    Calls Try.prog 7 #[.agg #[.slice A0 x0.length c0, .slice A1 x1.length c1], .agg #[.slice B0 y0.length d0, .slice B1 y1.length d1]] w fun e w' => e = .returned (.bool (decide (((x0, x1) : ProgramT) = (y0, y1)))) ∧ Below w.heap.size w w' := by
  simp only [szProgramU] at hlx hly
  have BB0 := Lib.hid (((Below.refl w.heap.size w).alloc (Nat.le_refl _) (Obj.cells #[Value.slice A0 x0.length c0, Value.slice A1 x1.length c1] 31)).alloc (by simp) (Obj.cells #[Value.slice B0 y0.length d0, Value.slice B1 y1.length d1] 31))
  have V0 := Lib.hid ((Lvar.new w #[Value.slice A0 x0.length c0, Value.slice A1 x1.length c1] 31).alloc (Obj.cells #[Value.slice B0 y0.length d0, Value.slice B1 y1.length d1] 31))
  have U0 := Lib.hid (Lvar.new (w.alloc (Obj.cells #[Value.slice A0 x0.length c0, Value.slice A1 x1.length c1] 31)) #[Value.slice B0 y0.length d0, Value.slice B1 y1.length d1] 31)
  simp only [World.size_alloc] at U0
  have EQ0 := fun W (h : Below w.heap.size w W) => eqFns A0 B0 c0 d0 x0 y0 W (h0.below h) (k0.below h) (by omega) (by omega)
  obtain ⟨t0, ht0⟩ : ∃ t : Bool, t = decide (x0 = y0) := ⟨_, rfl⟩
  simp only [← ht0] at EQ0
  have EQ0 := Lib.hid EQ0
  have HT0 := Lib.hid ht0
  clear ht0
  have EQ1 := fun W (h : Below w.heap.size w W) => eqRules A1 B1 c1 d1 x1 y1 W (h1.below h) (k1.below h) (by omega) (by omega)
  obtain ⟨t1, ht1⟩ : ∃ t : Bool, t = decide (x1 = y1) := ⟨_, rfl⟩
  simp only [← ht1] at EQ1
  have EQ1 := Lib.hid EQ1
  have HT1 := Lib.hid ht1
  clear ht1
  obtain ⟨R, hR⟩ : ∃ R : Bool, R = decide (((x0, x1) : ProgramT) = (y0, y1)) := ⟨_, rfl⟩
  rw [← hR]
  have HO := Lib.hid hR
  clear hR hlx hly h0 k0 h1 k1
  cases t0 with
  | true =>
    cases t1 with
    | true =>
      have HF := Lib.hid (show R = true by rw [HO.out]; exact decide_eq_true (by have e0 := of_decide_eq_true HT0.out.symm; have e1 := of_decide_eq_true HT1.out.symm; simp_all))
      go_enter Try.func7, Try.ntmps7
      go_wp2_with fail
      refine (Calls.mono (EQ0.out _ ?_)) ?_
      · first | exact BB0.out | exact BB0.out.drew | exact below_drewN BB0.out _
      rintro e w1 ⟨rfl, b1⟩
      have BB1 := Lib.hid (show Below w.heap.size w w1 from by first | exact BB0.out.trans (b1.mono BB0.out.size) | exact BB0.out.drew.trans (b1.mono BB0.out.size))
      have V1 := Lib.hid (show Lvar w1 _ _ from by first | exact V0.out.below b1 | exact (V0.out.below (Below.refl _ _).drew).below b1)
      have v1_0 := V1.out.cell 0 _ rfl
      have v1_1 := V1.out.cell 1 _ rfl
      have U1 := Lib.hid (show Lvar w1 _ _ from by first | exact U0.out.below b1 | exact (U0.out.below (Below.refl _ _).drew).below b1)
      have u1_0 := U1.out.cell 0 _ rfl
      have u1_1 := U1.out.cell 1 _ rfl
      clear b1
      go_wp2_with fail
      refine (Calls.mono (EQ1.out _ ?_)) ?_
      · first | exact BB1.out | exact BB1.out.drew | exact below_drewN BB1.out _
      rintro e w2 ⟨rfl, b2⟩
      have BB2 := Lib.hid (show Below w.heap.size w w2 from by first | exact BB1.out.trans (b2.mono BB1.out.size) | exact BB1.out.drew.trans (b2.mono BB1.out.size))
      have V2 := Lib.hid (show Lvar w2 _ _ from by first | exact V1.out.below b2 | exact (V1.out.below (Below.refl _ _).drew).below b2)
      have v2_0 := V2.out.cell 0 _ rfl
      have v2_1 := V2.out.cell 1 _ rfl
      clear v1_0 v1_1
      have U2 := Lib.hid (show Lvar w2 _ _ from by first | exact U1.out.below b2 | exact (U1.out.below (Below.refl _ _).drew).below b2)
      have u2_0 := U2.out.cell 0 _ rfl
      have u2_1 := U2.out.cell 1 _ rfl
      clear u1_0 u1_1
      clear b2
      go_wp2
      go_ret
      exact ⟨ArgI.ret_b HF.out.symm, BB2.out⟩
    | false =>
      have HF := Lib.hid (show R = false by rw [HO.out]; exact decide_eq_false (fun e => by have e2 := of_decide_eq_false HT1.out.symm; exact e2 (congrArg (fun p : ProgramT => p.2) e)))
      go_enter Try.func7, Try.ntmps7
      go_wp2_with fail
      refine (Calls.mono (EQ0.out _ ?_)) ?_
      · first | exact BB0.out | exact BB0.out.drew | exact below_drewN BB0.out _
      rintro e w1 ⟨rfl, b1⟩
      have BB1 := Lib.hid (show Below w.heap.size w w1 from by first | exact BB0.out.trans (b1.mono BB0.out.size) | exact BB0.out.drew.trans (b1.mono BB0.out.size))
      have V1 := Lib.hid (show Lvar w1 _ _ from by first | exact V0.out.below b1 | exact (V0.out.below (Below.refl _ _).drew).below b1)
      have v1_0 := V1.out.cell 0 _ rfl
      have v1_1 := V1.out.cell 1 _ rfl
      have U1 := Lib.hid (show Lvar w1 _ _ from by first | exact U0.out.below b1 | exact (U0.out.below (Below.refl _ _).drew).below b1)
      have u1_0 := U1.out.cell 0 _ rfl
      have u1_1 := U1.out.cell 1 _ rfl
      clear b1
      go_wp2_with fail
      refine (Calls.mono (EQ1.out _ ?_)) ?_
      · first | exact BB1.out | exact BB1.out.drew | exact below_drewN BB1.out _
      rintro e w2 ⟨rfl, b2⟩
      have BB2 := Lib.hid (show Below w.heap.size w w2 from by first | exact BB1.out.trans (b2.mono BB1.out.size) | exact BB1.out.drew.trans (b2.mono BB1.out.size))
      have V2 := Lib.hid (show Lvar w2 _ _ from by first | exact V1.out.below b2 | exact (V1.out.below (Below.refl _ _).drew).below b2)
      have v2_0 := V2.out.cell 0 _ rfl
      have v2_1 := V2.out.cell 1 _ rfl
      clear v1_0 v1_1
      have U2 := Lib.hid (show Lvar w2 _ _ from by first | exact U1.out.below b2 | exact (U1.out.below (Below.refl _ _).drew).below b2)
      have u2_0 := U2.out.cell 0 _ rfl
      have u2_1 := U2.out.cell 1 _ rfl
      clear u1_0 u1_1
      clear b2
      go_wp2
      go_ret
      exact ⟨ArgI.ret_b HF.out.symm, BB2.out⟩
  | false =>
    have HF := Lib.hid (show R = false by rw [HO.out]; exact decide_eq_false (fun e => by have e2 := of_decide_eq_false HT0.out.symm; exact e2 (congrArg (fun p : ProgramT => p.1) e)))
    go_enter Try.func7, Try.ntmps7
    go_wp2_with fail
    refine (Calls.mono (EQ0.out _ ?_)) ?_
    · first | exact BB0.out | exact BB0.out.drew | exact below_drewN BB0.out _
    rintro e w1 ⟨rfl, b1⟩
    have BB1 := Lib.hid (show Below w.heap.size w w1 from by first | exact BB0.out.trans (b1.mono BB0.out.size) | exact BB0.out.drew.trans (b1.mono BB0.out.size))
    have V1 := Lib.hid (show Lvar w1 _ _ from by first | exact V0.out.below b1 | exact (V0.out.below (Below.refl _ _).drew).below b1)
    have v1_0 := V1.out.cell 0 _ rfl
    have v1_1 := V1.out.cell 1 _ rfl
    have U1 := Lib.hid (show Lvar w1 _ _ from by first | exact U0.out.below b1 | exact (U0.out.below (Below.refl _ _).drew).below b1)
    have u1_0 := U1.out.cell 0 _ rfl
    have u1_1 := U1.out.cell 1 _ rfl
    clear b1
    go_wp2
    go_ret
    exact ⟨ArgI.ret_b HF.out.symm, BB1.out⟩
theorem equalProgram {A0 : Option Addr} {c0 : Nat} {x0 : List FunctionT} {A1 : Option Addr} {c1 : Nat} {x1 : List RuleT} {B0 : Option Addr} {d0 : Nat} {y0 : List FunctionT} {B1 : Option Addr} {d1 : Nat} {y1 : List RuleT} {w : World} (h : ArgR prg w [.slice A0 x0.length c0, .slice A1 x1.length c1] (x0, x1)) (k : ArgR prg w [.slice B0 y0.length d0, .slice B1 y1.length d1] (y0, y1)) (hlx : szProgramU (x0, x1) ≤ 100000000) (hly : szProgramU (y0, y1) ≤ 100000000) :
    Calls Try.prog 7 #[.agg #[.slice A0 x0.length c0, .slice A1 x1.length c1], .agg #[.slice B0 y0.length d0, .slice B1 y1.length d1]] w fun e w' => e = .returned (.bool (decide (((x0, x1) : ProgramT) = (y0, y1)))) ∧ Below w.heap.size w w' :=
  equalProgram0 A0 c0 x0 A1 c1 x1 B0 d0 y0 B1 d1 y1 w (arg_prg h).1 (arg_prg h).2 (arg_prg k).1 (arg_prg k).2 hlx hly
end ProgI
end Go.Proofs.Ytbdpohcababccaa
