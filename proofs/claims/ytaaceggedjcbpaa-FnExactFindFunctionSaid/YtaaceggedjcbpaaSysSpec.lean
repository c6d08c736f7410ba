import Derived.Test.YtaaceggedjcbpaaRepSys
import Derived.Test.YtaaceggedjcbpaaLinSpec
/-
  The model's functions on systems: validity, satisfaction, comparison.
-/
namespace Go.Proofs.Ytaaceggedjcbpaa
open Go.RowKit
namespace SysS
open RowK Mem LinM

/-- The system is valid. -/
def sysV (n : Int) (xs : List (Int × List Int)) : Bool := xs.all (fun x => vldB x.1 x.2 n) && (cntB n && decide (xs.length ≤ 20))
theorem all_no {p : Int × List Int → Bool} {xs : List (Int × List Int)} {k : Nat} (hk : k < xs.length) (h : p xs[k] = false) : xs.all p = false := by
  rw [List.all_eq_false]
  exact ⟨xs[k], List.getElem_mem _, by simp [h]⟩
theorem all_take {α : Type} {p : α → Bool} {xs : List α} {k : Nat} (hk : k < xs.length) (h : (xs.take k).all p = true) (h2 : p xs[k] = true) : (xs.take (k + 1)).all p = true := by
  rw [List.take_add_one, List.getElem?_eq_getElem hk, List.all_append, h]
  simp [h2]

def sysE (n m : Int) (xs ys : List (Int × List Int)) : Bool := decide (n = m) && decide (xs = ys)
theorem take_eq {xs ys : List (Int × List Int)} {k : Nat} (h1 : k < xs.length) (h2 : k < ys.length) (h : xs.take k = ys.take k) (he : xs[k] = ys[k]) : xs.take (k + 1) = ys.take (k + 1) := by
  rw [take_succ h1, take_succ h2, h, he]
theorem eqB_pair (x y : Int × List Int) : eqB x.1 y.1 x.2 y.2 = decide (x = y) := by
  obtain ⟨a, b⟩ := x
  obtain ⟨c, d⟩ := y
  simp [eqB]

set_option maxHeartbeats 2000000 in
set_option maxRecDepth 100000 in
theorem equal (q q2 : Bool) (fp gp : List Nat) (n m : Int) (A B : Option Addr) (c d : Nat) (xs ys : List (Int × List Int)) (w : World) (hA : lins.rep q w fp [.slice A xs.length c] xs) (hB : lins.rep q2 w gp [.slice B ys.length d] ys) (hl : linsSize xs ≤ 1000000000) (hl2 : linsSize ys ≤ 1000000000) :
    Calls Try.prog 89 #[.agg #[.int .i64 n, .slice A xs.length c], .agg #[.int .i64 m, .slice B ys.length d]] w fun e w' => e = .returned (.bool (sysE n m xs ys)) ∧ Below w.heap.size w w' := by
  have hxl : xs.length ≤ 1000000000 := by unfold linsSize at hl; omega
  have hyl : ys.length ≤ 1000000000 := by unfold linsSize at hl2; omega
  have b0 : Below w.heap.size w ((w.alloc (Obj.cells #[Value.int IntKind.i64 n, Value.slice A xs.length c] 145)).alloc (Obj.cells #[Value.int IntKind.i64 m, Value.slice B ys.length d] 145)) := ((Below.refl _ _).alloc (Nat.le_refl _) _).alloc (by simp) _
  have V0 := (Lvar.new w #[Value.int IntKind.i64 n, Value.slice A xs.length c] 145).alloc (Obj.cells #[Value.int IntKind.i64 m, Value.slice B ys.length d] 145)
  have U0 := Lvar.new (w.alloc (Obj.cells #[Value.int IntKind.i64 n, Value.slice A xs.length c] 145)) #[Value.int IntKind.i64 m, Value.slice B ys.length d] 145
  simp only [World.size_alloc] at U0
  have S0 := Lib.hid (And.intro b0 (And.intro V0 U0))
  clear b0 V0 U0
  by_cases hnm : n = m
  · subst hnm
    by_cases hlen : xs.length = ys.length
    · have HSZ := Lib.hid (fun x (h : x ∈ xs) => linsSize_mem h)
      have HSZ2 := Lib.hid (fun x (h : x ∈ ys) => linsSize_mem h)
      have HL := Lib.hid hl
      have HL2 := Lib.hid hl2
      have HEN := Lib.hid hlen
      have hne : ((xs.length : Int) != (ys.length : Int)) = false := by simp [hlen]
      rw [← hlen] at hB
      have HA := Lib.hid hA
      have HB := Lib.hid hB
      have HSE := Lib.hid (show sysE n n xs ys = decide (xs = ys) by simp [sysE])
      rw [← hlen] at S0 ⊢
      clear hA hB hl hl2 hlen hne hyl
      go_enter Try.func89, Try.ntmps89
      go_wp2
      go_loopw [5] (fun i wr => ∃ k : Nat, k ≤ xs.length ∧ i = .int .i64 k ∧ xs.take k = ys.take k ∧ Below w.heap.size w wr ∧ Lvar wr w.heap.size #[Value.int IntKind.i64 n, Value.slice A xs.length c] ∧ Lvar wr (w.heap.size + 1) #[Value.int IntKind.i64 n, Value.slice B xs.length d]) (fun i _ => xs.length - (intOf i).toNat)
      case atStart => exact ⟨0, Nat.zero_le _, rfl, rfl, S0.out.1, S0.out.2.1, S0.out.2.2⟩
      case round =>
        obtain ⟨k, hk, rfl, hall, hb, hV, hU⟩ := hrel
        have v0 := hV.cell 0 (.int .i64 n) rfl
        have v1 := hV.cell 1 (.slice A xs.length c) rfl
        have y0 := hU.cell 0 (.int .i64 n) rfl
        have y1 := hU.cell 1 (.slice B xs.length d) rfl
        have HAL := Lib.hid hall
        have HV := Lib.hid hV
        have HU := Lib.hid hU
        have HBB := Lib.hid hb
        clear hall hV hU hb
        by_cases hlt : k < xs.length
        · have hlt2 : k < ys.length := by have := HEN.out; omega
          have hB2 := HB.out
          rw [HEN.out] at hB2
          obtain ⟨b1, o1, B1, d1, lo1, hi1, rfl, hbb1, c0, c1, _, r1⟩ := lins_at (Rep.below HA.out HBB.out) hlt
          obtain ⟨b2, o2, B2, d2, lo2, hi2, rfl, hbb2, e0, e1, _, r2⟩ := lins_at (Rep.below hB2 HBB.out) hlt2
          have hx := HSZ.out _ (List.getElem_mem hlt)
          have hy := HSZ2.out _ (List.getElem_mem hlt2)
          have hs9 : xs[k].2.length ≤ 1000000000 := by have := HL.out; omega
          have hs8 : ys[k].2.length ≤ 1000000000 := by have := HL2.out; omega
          have HEQ := Lib.hid (eqB_pair xs[k] ys[k])
          have HN := Lib.hid (show xs[k] ≠ ys[k] → sysE n n xs ys = false from fun h => by rw [HSE.out]; exact decide_eq_false (fun e => h (by subst e; rfl)))
          have HY := Lib.hid (fun h => take_eq hlt hlt2 HAL.out h)
          clear hx hy hB2
          generalize xs[k] = x at *
          generalize ys[k] = y at *
          obtain ⟨z, zs⟩ := x
          obtain ⟨u, us⟩ := y
          simp only at c0 c1 e0 e1 r1 r2 hs9 hs8
          have hd : Below wr.heap.size wr wr.drew := (Below.refl _ _).drew
          have EQ := Lib.hid (LinS.equal lo1 hi1 lo2 hi2 z u B1 B2 d1 d2 zs us wr.drew (r1.below hd) (r2.below hd) hs9 hs8)
          have hi0 : (0 : Int) ≤ (k : Int) := by omega
          have hi1 : (k : Int) < (xs.length : Int) := by omega
          by_cases hv : ((z, zs) : Int × List Int) = (u, us)
          · have HT := Lib.hid (HY.out hv)
            rw [show eqB z u zs us = true from (HEQ.out).trans (decide_eq_true hv)] at EQ
            clear r1 r2 hd HN HY HEQ hv
            go_wp2_with fail
            go_region_law (first
              | (go_simp; go_at_call 113; refine (Calls.mono EQ.out) ?_; rintro e w1 ⟨rfl, b1⟩))
            all_goals
              have dd := (Below.refl wr.heap.size wr).drew.trans b1
              have B1' := Lib.hid (HBB.out.trans (dd.mono HBB.out.size))
              have V1' := Lib.hid (HV.out.below dd)
              have U1' := Lib.hid (HU.out.below dd)
              clear b1 dd
              go_wp2
              go_roundw
              case rel => exact ⟨k + 1, by omega, by go_num, HT.out, B1'.out, V1'.out, U1'.out⟩
              case measure => simp [intOf]; omega
          · have HR := Lib.hid (HN.out hv)
            rw [show eqB z u zs us = false from (HEQ.out).trans (decide_eq_false hv)] at EQ
            clear r1 r2 hd HN HY HEQ hv
            go_wp2_with fail
            go_region_law (first
              | (go_simp; go_at_call 113; refine (Calls.mono EQ.out) ?_; rintro e w1 ⟨rfl, b1⟩))
            all_goals
              have B1' := Lib.hid (HBB.out.trans (((Below.refl wr.heap.size wr).drew.trans b1).mono HBB.out.size))
              clear b1
              go_wp2
              go_ret
              exact ⟨by rw [HR.out]; rfl, B1'.out⟩
        · obtain rfl : k = xs.length := by omega
          have HR := Lib.hid (show sysE n n xs ys = true by
            rw [HSE.out]
            refine decide_eq_true ?_
            have := HAL.out
            rwa [List.take_length, HEN.out, List.take_length] at this)
          clear HAL
          go_wp2
          go_ret
          exact ⟨by rw [HR.out]; rfl, HBB.out⟩
    · have HR := Lib.hid (show sysE n n xs ys = false by
        unfold sysE
        rw [show decide (xs = ys) = false from decide_eq_false (fun e => hlen (by rw [e]))]
        simp)
      have hne : ((xs.length : Int) != (ys.length : Int)) = true := by simp; omega
      have hne2 : (xs.length == ys.length) = false := beq_eq_false_iff_ne.2 hlen
      clear hA hB hl hl2 hlen
      go_enter Try.func89, Try.ntmps89
      go_wp2
      go_ret
      exact ⟨by rw [HR.out]; rfl, S0.out.1⟩
  · have HR := Lib.hid (show sysE n m xs ys = false by
      unfold sysE
      rw [decide_eq_false hnm]
      rfl)
    have hne : (n != m) = true := by simpa using hnm
    have hne2 : (n == m) = false := beq_eq_false_iff_ne.2 hnm
    clear hA hB hl hl2 hnm
    go_enter Try.func89, Try.ntmps89
    go_wp2
    go_ret
    exact ⟨by rw [HR.out]; rfl, S0.out.1⟩

/-- The values satisfy the system. -/
def satB (n : Int) (xs : List (Int × List Int)) (us : List Int) : Bool := us.all ArithM.inF && ((sysV n xs && decide ((us.length : Int) = n)) && xs.all (fun x => decide (0 ≤ (evalL x.1 x.2 us).getD 0)))
def SatRel (w : World) (n : Int) (A : Option Addr) (c : Nat) (xs : List (Int × List Int)) (us : List Int) (i : Value) (wr : World) : Prop :=
  ∃ k : Nat, k ≤ us.length ∧ i = .int .i64 k ∧ (us.take k).all ArithM.inF = true ∧ Lvar wr w.heap.size #[Value.int IntKind.i64 n, Value.slice A xs.length c] ∧ Below w.heap.size w wr
def SatRel2 (w : World) (n : Int) (A : Option Addr) (c : Nat) (xs : List (Int × List Int)) (us : List Int) (i : Value) (wr : World) : Prop :=
  ∃ k : Nat, k ≤ xs.length ∧ i = .int .i64 k ∧ (xs.take k).all (fun x => decide (0 ≤ (evalL x.1 x.2 us).getD 0)) = true ∧ Lvar wr w.heap.size #[Value.int IntKind.i64 n, Value.slice A xs.length c] ∧ Below w.heap.size w wr
theorem all_no1 {p : Int → Bool} {xs : List Int} {k : Nat} (hk : k < xs.length) (h : p xs[k] = false) : xs.all p = false := by
  rw [List.all_eq_false]
  exact ⟨xs[k], List.getElem_mem _, by simp [h]⟩

end SysS
end Go.Proofs.Ytaaceggedjcbpaa
