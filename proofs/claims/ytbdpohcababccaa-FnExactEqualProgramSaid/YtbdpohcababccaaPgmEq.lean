import Derived.Test.YtbdpohcababccaaPgmDec
import Derived.Test.YtbdpohcababccaaArgEq
import Derived.Test.YtbdpohcababccaaSysImpl3
import Derived.Test.YtbdpohcababccaaPgmArg0
/-
  Programs: comparison, of the program (made by tools/ueq.py).
-/
namespace Go.Proofs.Ytbdpohcababccaa
open Go.RowKit
namespace ProgI
open RowK Mem
theorem argE_dec (p q : Bool) (xs ys : List SumT) (s t : ByteArray) : ArgI.argE p q xs ys s t = decide (((p, xs, s) : ArgT) = (q, ys, t)) := by
  by_cases h : ((p, xs, s) : ArgT) = (q, ys, t)
  · rw [decide_eq_true h]; exact ArgI.argE_iff.2 h
  · rw [decide_eq_false h]; exact Bool.eq_false_iff.2 (fun e => h (ArgI.argE_iff.1 e))
theorem ssl_small {xs : List SumT} {n : Nat} (h : xs.length + szs szSum xs ≤ n) : xs.length + szs ssl xs ≤ n := by
  have : szs ssl xs ≤ szs szSum xs := ssl_le xs
  omega
set_option maxHeartbeats 4000000 in
set_option maxRecDepth 100000 in
theorem eqArg10 (z0 : Bool) (A1 : Option Addr) (c1 : Nat) (x1 : List SumT) (z2 : ByteArray) (u0 : Bool) (B1 : Option Addr) (d1 : Nat) (y1 : List SumT) (u2 : ByteArray) (w : World) (h1 : ArgS Mem.sum w A1 x1.length c1 x1) (k1 : ArgS Mem.sum w B1 y1.length d1 y1) (hlx : szArgU (z0, x1, z2) ≤ 100000000) (hly : szArgU (u0, y1, u2) ≤ 100000000) :
    Calls Try.prog 37 #[.agg #[.bool z0, .slice A1 x1.length c1, .string z2], .agg #[.bool u0, .slice B1 y1.length d1, .string u2]] w fun e w' => e = .returned (.bool (decide (((z0, x1, z2) : ArgT) = (u0, y1, u2)))) ∧ Below w.heap.size w w' := by
  rw [← argE_dec]
  simp only [szArgU] at hlx hly
  exact ArgI.equalArg z0 u0 z2 u2 A1 B1 c1 d1 x1 y1 w h1 k1 (ssl_small (by omega)) (ssl_small (by omega))
set_option maxHeartbeats 4000000 in
set_option maxRecDepth 100000 in
theorem eqArgs (A B : Option Addr) (c d : Nat) (xs ys : List ArgT) (w : World) (hA : ArgS Mem.arg w A xs.length c xs) (hB : ArgS Mem.arg w B ys.length d ys) (hl : xs.length + szs szArgU xs ≤ 100000000) (hl2 : ys.length + szs szArgU ys ≤ 100000000) :
    Calls Try.prog 55 #[.slice A xs.length c, .slice B ys.length d, .func (.func 37) #[] #[]] w fun e w' => e = .returned (.bool (decide (xs = ys))) ∧ Below w.heap.size w w' := by
  have hxl : xs.length ≤ 1000000000 := by omega
  have hyl : ys.length ≤ 1000000000 := by omega
  by_cases hlen : xs.length = ys.length
  · have HL := Lib.hid hl
    have HL2 := Lib.hid hl2
    have HEN := Lib.hid hlen
    have HA := Lib.hid hA
    have HB := Lib.hid hB
    rw [← hlen]
    clear hA hB hl hl2 hlen hyl
    go_enter Try.func55, Try.ntmps55
    go_wp2
    go_loopw [17] (fun i wr => ∃ k : Nat, k ≤ xs.length ∧ i = .int .i64 k ∧ xs.take k = ys.take k ∧ Below w.heap.size w wr) (fun i _ => xs.length - (intOf i).toNat)
    case atStart => exact ⟨0, Nat.zero_le _, rfl, rfl, Below.refl _ _⟩
    case round =>
      obtain ⟨k, hk, rfl, hall, hb⟩ := hrel
      have HAL := Lib.hid hall
      have HBB := Lib.hid hb
      clear hall hb
      by_cases hlt : k < xs.length
      · have hlt2 : k < ys.length := by have := HEN.out; omega
        obtain ⟨b1, o1, A1, c1, rfl, hbb1, g0, g1, g2, r1⟩ := (HA.out.below HBB.out).arg_at hlt
        obtain ⟨b2, o2, B1, d1, rfl, hbb2, e0, e1, e2, q1⟩ := (HB.out.below HBB.out).arg_at hlt2
        have hs9 : szArgU xs[k] ≤ 100000000 := by
          have := HL.out
          have := szs_mem (sz := szArgU) (List.getElem_mem hlt)
          omega
        have hs8 : szArgU ys[k] ≤ 100000000 := by
          have := HL2.out
          have := szs_mem (sz := szArgU) (List.getElem_mem hlt2)
          omega
        have HN := Lib.hid (show xs[k] ≠ ys[k] → decide (xs = ys) = false from fun h => decide_eq_false (fun e => h (by subst e; rfl)))
        have HY := Lib.hid (fun h => ArgI.take_same hlt hlt2 HAL.out h)
        generalize xs[k] = x at *
        generalize ys[k] = y at *
        obtain ⟨z0, x1, z2⟩ := x
        obtain ⟨u0, y1, u2⟩ := y
        simp only at g0 e0 g1 e1 g2 e2 r1 q1 hs9 hs8
        have hd : Below wr.heap.size wr ((wr.alloc (Obj.cells #[Value.bool z0, Value.slice A1 x1.length c1, Value.string z2] 47)).alloc (Obj.cells #[Value.bool u0, Value.slice B1 y1.length d1, Value.string u2] 47)) := ((Below.refl _ _).alloc (Nat.le_refl _) _).alloc (by simp) _
        have EQ := eqArg10 z0 A1 c1 x1 z2 u0 B1 d1 y1 u2 _ (r1.below hd) (q1.below hd) hs9 hs8
        have EQ := Lib.hid EQ
        have BA := Lib.hid (HBB.out.trans (hd.mono HBB.out.size))
        have hi0 : (0 : Int) ≤ (k : Int) := by omega
        have hi1 : (k : Int) < (xs.length : Int) := by omega
        have hi2 : (k : Int) < (ys.length : Int) := by omega
        have e0' := ((Below.refl wr.heap.size wr).alloc (Nat.le_refl _) (Obj.cells #[Value.bool z0, Value.slice A1 x1.length c1, Value.string z2] 47)).cell (p := ⟨b2, o2 + k * 3, none⟩) hbb2
        rw [e0] at e0'
        have e1' := ((Below.refl wr.heap.size wr).alloc (Nat.le_refl _) (Obj.cells #[Value.bool z0, Value.slice A1 x1.length c1, Value.string z2] 47)).cell (p := ⟨b2, o2 + k * 3 + 1, none⟩) hbb2
        rw [e1] at e1'
        have e2' := ((Below.refl wr.heap.size wr).alloc (Nat.le_refl _) (Obj.cells #[Value.bool z0, Value.slice A1 x1.length c1, Value.string z2] 47)).cell (p := ⟨b2, o2 + k * 3 + 2, none⟩) hbb2
        rw [e2] at e2'
        by_cases hv : ((z0, x1, z2) : ArgT) = (u0, y1, u2)
        · have HT := Lib.hid (HY.out hv)
          rw [decide_eq_true hv] at EQ
          clear r1 q1 hd HN HY hv
          go_wp2_with fail
          refine (Calls.mono EQ.out) ?_
          rintro e w1 ⟨rfl, bq⟩
          have B9 := Lib.hid (BA.out.trans (bq.mono BA.out.size))
          clear bq
          go_wp2
          go_roundw
          case rel => exact ⟨k + 1, by omega, by go_num, HT.out, B9.out⟩
          case measure => simp [intOf]; omega
        · have HR := Lib.hid (HN.out hv)
          rw [decide_eq_false hv] at EQ
          clear r1 q1 hd HN HY hv
          go_wp2_with fail
          refine (Calls.mono EQ.out) ?_
          rintro e w1 ⟨rfl, bq⟩
          have B9 := Lib.hid (BA.out.trans (bq.mono BA.out.size))
          clear bq
          go_wp2
          go_ret
          exact ⟨by rw [HR.out]; try rfl, B9.out⟩
      · obtain rfl : k = xs.length := by omega
        have HR := Lib.hid (show decide (xs = ys) = true by
          refine decide_eq_true ?_
          have := HAL.out
          rwa [List.take_length, HEN.out, List.take_length] at this)
        clear HAL
        go_wp2
        go_ret
        exact ⟨by rw [HR.out]; try rfl, HBB.out⟩
  · have HR := Lib.hid (show decide (xs = ys) = false from decide_eq_false (fun e => hlen (by rw [e])))
    have hne : ((xs.length : Int) != (ys.length : Int)) = true := by simp; omega
    have hne2 : (xs.length == ys.length) = false := beq_eq_false_iff_ne.2 hlen
    clear hA hB hl hl2 hlen
    go_enter Try.func55, Try.ntmps55
    go_wp2
    go_ret
    exact ⟨by rw [HR.out]; try rfl, Below.refl _ _⟩
set_option maxHeartbeats 4000000 in
set_option maxRecDepth 100000 in
theorem eqCall10 (z0 : ByteArray) (z1 : ByteArray) (A2 : Option Addr) (c2 : Nat) (x2 : List ArgT) (u0 : ByteArray) (u1 : ByteArray) (B2 : Option Addr) (d2 : Nat) (y2 : List ArgT) (w : World) (h2 : ArgS Mem.arg w A2 x2.length c2 x2) (k2 : ArgS Mem.arg w B2 y2.length d2 y2) (hlx : szCallU (z0, z1, x2) ≤ 100000000) (hly : szCallU (u0, u1, y2) ≤ 100000000) :
    Calls Try.prog 36 #[.agg #[.string z0, .string z1, .slice A2 x2.length c2], .agg #[.string u0, .string u1, .slice B2 y2.length d2]] w fun e w' => e = .returned (.bool (decide (((z0, z1, x2) : CallT) = (u0, u1, y2)))) ∧ Below w.heap.size w w' := by
  simp only [szCallU] at hlx hly
  have BB0 := Lib.hid (((Below.refl w.heap.size w).alloc (Nat.le_refl _) (Obj.cells #[Value.string z0, Value.string z1, Value.slice A2 x2.length c2] 81)).alloc (by simp) (Obj.cells #[Value.string u0, Value.string u1, Value.slice B2 y2.length d2] 81))
  have V0 := Lib.hid ((Lvar.new w #[Value.string z0, Value.string z1, Value.slice A2 x2.length c2] 81).alloc (Obj.cells #[Value.string u0, Value.string u1, Value.slice B2 y2.length d2] 81))
  have U0 := Lib.hid (Lvar.new (w.alloc (Obj.cells #[Value.string z0, Value.string z1, Value.slice A2 x2.length c2] 81)) #[Value.string u0, Value.string u1, Value.slice B2 y2.length d2] 81)
  simp only [World.size_alloc] at U0
  have EQ0 := fun W (h : Below w.heap.size w W) => eqArgs A2 B2 c2 d2 x2 y2 W (h2.below h) (k2.below h) (by omega) (by omega)
  obtain ⟨t0, ht0⟩ : ∃ t : Bool, t = decide (x2 = y2) := ⟨_, rfl⟩
  simp only [← ht0] at EQ0
  have EQ0 := Lib.hid EQ0
  have HT0 := Lib.hid ht0
  clear ht0
  obtain ⟨R, hR⟩ : ∃ R : Bool, R = decide (((z0, z1, x2) : CallT) = (u0, u1, y2)) := ⟨_, rfl⟩
  rw [← hR]
  have HO := Lib.hid hR
  clear hR hlx hly h2 k2
  by_cases g0 : z0 = u0
  · subst g0
    by_cases g1 : z1 = u1
    · subst g1
      cases t0 with
      | true =>
        have HF := Lib.hid (show R = true by rw [HO.out]; exact decide_eq_true (by have e0 := of_decide_eq_true HT0.out.symm; simp_all))
        go_enter Try.func36, Try.ntmps36
        go_wp2_with fail
        refine (Calls.mono (EQ0.out _ ?_)) ?_
        · first | exact BB0.out | exact BB0.out.drew | exact below_drewN BB0.out _
        rintro e w1 ⟨rfl, b1⟩
        have BB1 := Lib.hid (show Below w.heap.size w w1 from by first | exact BB0.out.trans (b1.mono BB0.out.size) | exact BB0.out.drew.trans (b1.mono BB0.out.size))
        have V1 := Lib.hid (show Lvar w1 _ _ from by first | exact V0.out.below b1 | exact (V0.out.below (Below.refl _ _).drew).below b1)
        have v1_0 := V1.out.cell 0 _ rfl
        have v1_1 := V1.out.cell 1 _ rfl
        have v1_2 := V1.out.cell 2 _ rfl
        have U1 := Lib.hid (show Lvar w1 _ _ from by first | exact U0.out.below b1 | exact (U0.out.below (Below.refl _ _).drew).below b1)
        have u1_0 := U1.out.cell 0 _ rfl
        have u1_1 := U1.out.cell 1 _ rfl
        have u1_2 := U1.out.cell 2 _ rfl
        clear b1
        go_wp2
        go_ret
        exact ⟨ArgI.ret_b HF.out.symm, BB1.out⟩
      | false =>
        have HF := Lib.hid (show R = false by rw [HO.out]; exact decide_eq_false (fun e => by have e2 := of_decide_eq_false HT0.out.symm; exact e2 (congrArg (fun p : CallT => p.2.2) e)))
        go_enter Try.func36, Try.ntmps36
        go_wp2_with fail
        refine (Calls.mono (EQ0.out _ ?_)) ?_
        · first | exact BB0.out | exact BB0.out.drew | exact below_drewN BB0.out _
        rintro e w1 ⟨rfl, b1⟩
        have BB1 := Lib.hid (show Below w.heap.size w w1 from by first | exact BB0.out.trans (b1.mono BB0.out.size) | exact BB0.out.drew.trans (b1.mono BB0.out.size))
        have V1 := Lib.hid (show Lvar w1 _ _ from by first | exact V0.out.below b1 | exact (V0.out.below (Below.refl _ _).drew).below b1)
        have v1_0 := V1.out.cell 0 _ rfl
        have v1_1 := V1.out.cell 1 _ rfl
        have v1_2 := V1.out.cell 2 _ rfl
        have U1 := Lib.hid (show Lvar w1 _ _ from by first | exact U0.out.below b1 | exact (U0.out.below (Below.refl _ _).drew).below b1)
        have u1_0 := U1.out.cell 0 _ rfl
        have u1_1 := U1.out.cell 1 _ rfl
        have u1_2 := U1.out.cell 2 _ rfl
        clear b1
        go_wp2
        go_ret
        exact ⟨ArgI.ret_b HF.out.symm, BB1.out⟩
    · have HF := Lib.hid (show R = false by rw [HO.out]; exact decide_eq_false (fun e => g1 (congrArg (fun p : CallT => p.2.1) e)))
      have hs1 := ArgI.str_ne g1
      clear g1
      go_enter Try.func36, Try.ntmps36
      go_wp2
      go_ret
      exact ⟨ArgI.ret_b HF.out.symm, BB0.out⟩
  · have HF := Lib.hid (show R = false by rw [HO.out]; exact decide_eq_false (fun e => g0 (congrArg (fun p : CallT => p.1) e)))
    have hs0 := ArgI.str_ne g0
    clear g0
    go_enter Try.func36, Try.ntmps36
    go_wp2
    go_ret
    exact ⟨ArgI.ret_b HF.out.symm, BB0.out⟩
set_option maxHeartbeats 4000000 in
set_option maxRecDepth 100000 in
theorem eqCalls (A B : Option Addr) (c d : Nat) (xs ys : List CallT) (w : World) (hA : ArgS Mem.call w A xs.length c xs) (hB : ArgS Mem.call w B ys.length d ys) (hl : xs.length + szs szCallU xs ≤ 100000000) (hl2 : ys.length + szs szCallU ys ≤ 100000000) :
    Calls Try.prog 35 #[.slice A xs.length c, .slice B ys.length d, .func (.func 36) #[] #[]] w fun e w' => e = .returned (.bool (decide (xs = ys))) ∧ Below w.heap.size w w' := by
  have hxl : xs.length ≤ 1000000000 := by omega
  have hyl : ys.length ≤ 1000000000 := by omega
  by_cases hlen : xs.length = ys.length
  · have HL := Lib.hid hl
    have HL2 := Lib.hid hl2
    have HEN := Lib.hid hlen
    have HA := Lib.hid hA
    have HB := Lib.hid hB
    rw [← hlen]
    clear hA hB hl hl2 hlen hyl
    go_enter Try.func35, Try.ntmps35
    go_wp2
    go_loopw [17] (fun i wr => ∃ k : Nat, k ≤ xs.length ∧ i = .int .i64 k ∧ xs.take k = ys.take k ∧ Below w.heap.size w wr) (fun i _ => xs.length - (intOf i).toNat)
    case atStart => exact ⟨0, Nat.zero_le _, rfl, rfl, Below.refl _ _⟩
    case round =>
      obtain ⟨k, hk, rfl, hall, hb⟩ := hrel
      have HAL := Lib.hid hall
      have HBB := Lib.hid hb
      clear hall hb
      by_cases hlt : k < xs.length
      · have hlt2 : k < ys.length := by have := HEN.out; omega
        obtain ⟨b1, o1, A2, c2, rfl, hbb1, g0, g1, g2, r2⟩ := (HA.out.below HBB.out).call_at hlt
        obtain ⟨b2, o2, B2, d2, rfl, hbb2, e0, e1, e2, q2⟩ := (HB.out.below HBB.out).call_at hlt2
        have hs9 : szCallU xs[k] ≤ 100000000 := by
          have := HL.out
          have := szs_mem (sz := szCallU) (List.getElem_mem hlt)
          omega
        have hs8 : szCallU ys[k] ≤ 100000000 := by
          have := HL2.out
          have := szs_mem (sz := szCallU) (List.getElem_mem hlt2)
          omega
        have HN := Lib.hid (show xs[k] ≠ ys[k] → decide (xs = ys) = false from fun h => decide_eq_false (fun e => h (by subst e; rfl)))
        have HY := Lib.hid (fun h => ArgI.take_same hlt hlt2 HAL.out h)
        generalize xs[k] = x at *
        generalize ys[k] = y at *
        obtain ⟨z0, z1, x2⟩ := x
        obtain ⟨u0, u1, y2⟩ := y
        simp only at g0 e0 g1 e1 g2 e2 r2 q2 hs9 hs8
        have hd : Below wr.heap.size wr ((wr.alloc (Obj.cells #[Value.string z0, Value.string z1, Value.slice A2 x2.length c2] 81)).alloc (Obj.cells #[Value.string u0, Value.string u1, Value.slice B2 y2.length d2] 81)) := ((Below.refl _ _).alloc (Nat.le_refl _) _).alloc (by simp) _
        have EQ := eqCall10 z0 z1 A2 c2 x2 u0 u1 B2 d2 y2 _ (r2.below hd) (q2.below hd) hs9 hs8
        have EQ := Lib.hid EQ
        have BA := Lib.hid (HBB.out.trans (hd.mono HBB.out.size))
        have hi0 : (0 : Int) ≤ (k : Int) := by omega
        have hi1 : (k : Int) < (xs.length : Int) := by omega
        have hi2 : (k : Int) < (ys.length : Int) := by omega
        have e0' := ((Below.refl wr.heap.size wr).alloc (Nat.le_refl _) (Obj.cells #[Value.string z0, Value.string z1, Value.slice A2 x2.length c2] 81)).cell (p := ⟨b2, o2 + k * 3, none⟩) hbb2
        rw [e0] at e0'
        have e1' := ((Below.refl wr.heap.size wr).alloc (Nat.le_refl _) (Obj.cells #[Value.string z0, Value.string z1, Value.slice A2 x2.length c2] 81)).cell (p := ⟨b2, o2 + k * 3 + 1, none⟩) hbb2
        rw [e1] at e1'
        have e2' := ((Below.refl wr.heap.size wr).alloc (Nat.le_refl _) (Obj.cells #[Value.string z0, Value.string z1, Value.slice A2 x2.length c2] 81)).cell (p := ⟨b2, o2 + k * 3 + 2, none⟩) hbb2
        rw [e2] at e2'
        by_cases hv : ((z0, z1, x2) : CallT) = (u0, u1, y2)
        · have HT := Lib.hid (HY.out hv)
          rw [decide_eq_true hv] at EQ
          clear r2 q2 hd HN HY hv
          go_wp2_with fail
          refine (Calls.mono EQ.out) ?_
          rintro e w1 ⟨rfl, bq⟩
          have B9 := Lib.hid (BA.out.trans (bq.mono BA.out.size))
          clear bq
          go_wp2
          go_roundw
          case rel => exact ⟨k + 1, by omega, by go_num, HT.out, B9.out⟩
          case measure => simp [intOf]; omega
        · have HR := Lib.hid (HN.out hv)
          rw [decide_eq_false hv] at EQ
          clear r2 q2 hd HN HY hv
          go_wp2_with fail
          refine (Calls.mono EQ.out) ?_
          rintro e w1 ⟨rfl, bq⟩
          have B9 := Lib.hid (BA.out.trans (bq.mono BA.out.size))
          clear bq
          go_wp2
          go_ret
          exact ⟨by rw [HR.out]; try rfl, B9.out⟩
      · obtain rfl : k = xs.length := by omega
        have HR := Lib.hid (show decide (xs = ys) = true by
          refine decide_eq_true ?_
          have := HAL.out
          rwa [List.take_length, HEN.out, List.take_length] at this)
        clear HAL
        go_wp2
        go_ret
        exact ⟨by rw [HR.out]; try rfl, HBB.out⟩
  · have HR := Lib.hid (show decide (xs = ys) = false from decide_eq_false (fun e => hlen (by rw [e])))
    have hne : ((xs.length : Int) != (ys.length : Int)) = true := by simp; omega
    have hne2 : (xs.length == ys.length) = false := beq_eq_false_iff_ne.2 hlen
    clear hA hB hl hl2 hlen
    go_enter Try.func35, Try.ntmps35
    go_wp2
    go_ret
    exact ⟨by rw [HR.out]; try rfl, Below.refl _ _⟩
end ProgI
end Go.Proofs.Ytbdpohcababccaa
